import PyProof.Rows.All
import Wide.All
import OpenK.AllK
import Wide.FinOn
import Lean
import PyProof.EqAt
import PyProof.EqKinds
import PyProof.TupleCall
import PySem.Str
import PyProof.NeKinds
import PyProof.Draws
import PyProof.EnumMake
import PyProof.ZipIter
import KE.KSortTup
import KE.KLam
import PyProof.Rows.SortStr
import PyProof.Rows.FactsT3
import PyProof.StrOps2
import KE.KDictList
import KE.KRevIter
import PyProof.CollectIter
import PyProof.TupleOfGen
import PyProof.Rows.StrNews2
import PyProof.Rows.StrFacts2
import PyProof.StrLawsRepr
import PyProof.Rows.StrCase
import PyProof.Rows.StrSplit
import PySem.Challenge.RW_arrowfind_k13_open_roads_walked
open List renaming length_map->aX,getElem?_eq_some_iff->b9,mem_singleton->cr,getElem?_eq_getElem->dR,length_append->cF,mem_cons->bL,mem_append_right->dS,size_toArray->cS,getElem?_map->cX,mem_cons_self->dA,length_cons->c6,getElem?_set_ne->eE,getD_eq_getElem?_getD->fS,mem_map->ca,map_cons->cG,replicate->c7,mem_filter->dH,mem_append->dI,mem_cons_of_mem->ff,length_singleton->gc,range->cj,mem_append_left->gf,mem_of_getElem?->gG,map_map->dJ,getElem?_append_right->jS,map_append->fg,getElem?_cons_succ->jn,getElem?_set_self->jo,getElem?_cons_zero->jT,getElem?_append_left->kM,mem_range->fT,length_set->gH,length_take->iC,drop_eq_getElem_cons->oh,nodup_append->kN,find?_cons->jU,any_cons->iV,getElem?_of_mem->mK,length_drop->kO,take_of_length_le->oj,nodup_cons->kP,length_filter_le->om,reverse_cons->mL,append_assoc->mM,pairwise_map->mO,length_nil->lQ,mem_map_of_mem->oo,drop_of_length_le->qc,getElem_inj->mP,lookup_cons->mQ,filter_eq_self->qd,drop_zero->mR,flatMap_cons->qe,cons_append->qf,length_reverse->tq,append_nil->qg,pairwise_lt_range->vN,length_range->tu,getElem?_set->tw,eq_nil_of_length_eq_zero->zH,all_eq_true->tz,getElem_mem->tD,mem_of_mem_take->vO,nil_append->tE,mem_filterMap->vP,pairwise_cons->vQ,getElem?_take_of_lt->zI,eraseIdx_cons_succ->zJ,range_succ_eq_map->zK,length_pos_of_mem->zL,of_mem_zip->vR,length_replicate->zM,map_nil->tF,getElem?_eq_none->zN,filterMap_cons->zP,getElem_range->zQ,map_drop->vS,filter_append->zR,eraseIdxIfInBounds_toArray->Gm,any_map->vT,map_reverse->zS,forIn_cons->zT,take_succ->zU,mem_of_mem_eraseIdx->Gn,getElem?_replicate->Go,pairwise_flatMap->Gp,eraseIdx_sublist->Gq,mem_of_mem_drop->Gr,reverse_reverse->Gs,length_eraseIdx->Gu,length->zV,lookup->zW,map_congr_left->Gv,replicate_zero->Gw,set_cons_succ->Gx,set_cons_zero->Gy,getElem?_drop->Gz,any_eq_false->GA
open PySem.W renaming Frag->aP,mg_none_of->gh,nsIn->fG,CodeHd->iW,kia_one->jV,keepIn->kQ,fnOf->jW,kla_obj->qh,codeIn->qi,cellsFrom_some->zX,tabObj->vU,kla_fn->vV,methodObj->zY,instObj->zZ,OpenLaw->z6,lookIn->z7,kitOne->z8,callWith_K->GB,codeRec_of->GC,kitx_list->GD,kitx_dict->GF,plainGet->GG,findIn->GH
open PySem renaming wpAny_bind->aH,Value->ah,Shared->aw,Addr->ag,wpAny_pure->bB,FuncData->bG,Program->br,boot_len->fH,sizeLine_eq->eh,World->bd,Around->bN,mem_of_lookup->lR,Heap->aR,wpAny_callSpecial?_slot->qj,Expr->aY,wpAny_call_entry->mS,wpAny_holding->kR,wpAny_mono->iX,wpAny_truthy_bool->oq,wpAny_typeNameOfWhole_keyiter->vW,wpAny_passesOwn->ot,wpAny_typeNameOf_keyiter->vX,Stmt->bw,wpAny_specialOf->qk,wpAny_Call_Name_kw->tG,wpAny_field->mT,wpAny_newObj_type->tH,wpAny_seqItems->qm,typeIs_bool->vY,Scope->en,tupleKind_room_in1->vZ,wpAny_setField_rec->v0,wpAny_pyIter_list->v4,wpAny_execs_nil->v5,wpAny_updateSeq->v6,NameKind->mU,Paired->mW,wpAny_setField->v7,BindsTo->lS,wpAny_standAt->v8,Arguments->qo,TriplesOk->qp,wpAny_attempt->v9,call_meets->tI,wpAny_dictEntries->z9,codeAny_mono->wa,seqIndex_neg->wb,wpAny_isInstance->Aa,wpAny_pyIter_zip->Ab,seqIndex_of->wc,wpAny_dictEpoch->Ac,wpAny_newFunctionEnv_cells->GI,call->Ad,wpAny_pyNext_list_item->GJ
open PySem.Heap renaming get?_push_of_some->bX,get?_push_size->cL,lt_size->bZ,get?_update_other->ou,get?_update_self->ox,size_push->kS,SameBut->mX,ExtBut->we
open Nat renaming le_refl->bv,lt_of_lt_of_le->fU,le_trans->eK,zero_add->eM,ne_of_lt->fV,zero_le->fI,lt_irrefl->jp,le_of_ble_eq_true->tJ,not_lt_zero->qq,ne_of_gt->oy,sub_self->oz,le_of_lt->wf,lt_succ_self->Ae,min_eq_right->Af,min_eq_left->Ag,lt_or_ge->Ah,le_total->Ai
open Bool renaming false_ne_true->c8,and_eq_true->lU,false_eq_true->qr,eq_iff_iff->wg,false_or->wj,false_and->Aj,and_false->Ak,true_and->Al,not_true->Am,not_eq_true'->GK
open PySem.F renaming plainAttrs_list->fJ,slot_list_append->kT,type_list_append->kU,slot_dict_keyiterator_next->tK,slot_tuple_iterator_next->wm,slot_list_pop->tL,type_list_pop->tM,slot_list_clear->An,type_list_clear->Ao,slot_bool_hash->wp,args_tuple_iterator_next_1->GL,entry_tuple_iterator_next->GN,slot_zip_next->wq,plain_extend_loop->GO,args_dict_keyiterator_next_1->GP,entry_dict_keyiterator_next->GQ,plainAttrs_str->GR,slot_str_join->GS,type_str_join->GU
open Int renaming emod_lt_of_pos->gi,emod_nonneg->fW,toNat_natCast->jX
open Option.some renaming inj->fh
open PySem.PassesOwn renaming never->fi
open Option renaming map_eq_some_iff->iY,isSome_map->wr,getD_none->GV,map_some->GW
open PySem.Value renaming ref->dL,none->iZ,bool->jq,str->oA
open PySem.Builtin.SmallTypes renaming nextOf->oB,ownedTupleHandOut->GX,ownedTupleIsFree->GY
open PyProof.Rows renaming callWith_type1->qt,boot_isinstance->qu,boot_list->oC,AllBare->mY,boot_tuple->tP,subscriptTail_builtinR->GZ
open Ne renaming symm->cY
open False renaming elim->hV
open ForInStep renaming yield->mZ
open PySem.NameKind renaming free->lV,cell->Aq
open PySem.Obj renaming mapSeq->i4,data_mapFields->wt,isFreed_of_fields->G0
open Or renaming inl->dM,inr->gj
open Array renaming getElem?_toList->tQ,getElem?_eq_getElem->wu,length_toList->tR,toList_append->ww,toList_inj->G1
open PySem.Heap.SameBut renaming update->tT
open True renaming intro->jY
open Classical renaming propDecidable->wx,byContradiction->G2,em->G3
open Sum renaming inr->gm,inl->oD
open PySem.Builtin.List renaming listExtendWith->As,listLengthHint->G4,listSameRef->G5,listItems->G6
open PySem.Str renaming ofString->oE,join->jZ,empty->m3,length->oF
open PySem.Calls renaming spliced_cons->wy,spliced_nil->At,Name_function_global->G7,callWith_builtin->G8
open PySem.Paired renaming length->tU
open PySem.Value.type renaming inj->wz
open PySem.Builtin.Dict_items renaming ownsTuple->G9
open PySem.Shared renaming heap->tV
open PySem.Builtin.Str renaming strSliceIndices->Hb
open PySem.Builtin.Dict renaming showsAll->He
open List.Pairwise renaming filter->Hf,nil->Hg
open Prod renaming ext->qv,fst->wA
open PySem.SeqAt.EqAt renaming bool_bool->Hj,bool_str->Hk,str_bool->Hl
open Sum.inr renaming inj->Au
open PySem.Around renaming frames_deeper->Hm
open Option renaming some->ab,none->ac
abbrev bW:=@decide_eq_true
abbrev cE:=@decide_eq_false
abbrev a9:=@if_pos
abbrev ba:=@if_neg
abbrev jF:=@decide_eq_true_iff
abbrev j3:=@of_decide_eq_true
abbrev qD:=@decide_eq_true_eq
abbrev jk:=@if_false
abbrev rj:=@beq_self_eq_true
abbrev kr:=@if_true
abbrev zw:=@beq_eq_false_iff_ne
set_option maxRecDepth 100000
set_option maxHeartbeats 4000000
set_option Elab.async false
set_option linter.all false
namespace L2
open PySem PySem.Spec PyProof.Rows
abbrev Key:=Sum Bool Str
def Ga(k:Bool):ah->Bool
 |.bool b=>b==k
 |_=>false
def rX:Key->ah->Bool
 |.inl k,v=>Ga k v
 |.inr x,v=>Value.isStrOf x v
def Mt(w:bd):Key->Int
 |.inl k=>hashInt (if k then 1 else 0)
 |.inr x=>hashStr w x
theorem NU{k:Bool}:∀{v:ah},Ga k v=true->v=.bool k
 |.bool b,h=>by rw[show b=k from eq_of_beq h]
theorem k8:∀{k:Key} {v:ah},rX k v=true->(∃i,k=oD i/\v=jq i)\/(∃x t,k=gm x/\v=oA x t)
 |.inl i,v,h=>.inl ⟨i,rfl,NU h⟩
 |.inr x,v,h=>by
  obtain⟨t,e⟩:=Value.isStrOf_shape (x:=x) (v:=v) h;exact .inr ⟨x,t,rfl,e⟩
theorem IH(i:Bool):rX (.inl i) (.bool i)=true:=rj i
theorem Na{prog:br}{w:bd}{A:bN}{E:ah->aw->Prop}{s:aw}{b:Bool}{Q:Int->aw->Prop}(h:Q (hashInt (if b then 1 else 0)) { s with toks:=s.toks+1 }) :
 wpAny (model prog w) A (pyHash (.bool b)) Q E s:=by
 have hr:=rawHash_range (if b then 1 else 0);unfold pyHash;have hv:[jq b].any Value.onHeap=false:=rfl;refine aH ?_;rw[cRoomFor,ba (by rw[hv];exact c8)];refine bB ?_;refine aH (qk (vY s b) wp.lookup ?_);show wpAny _ _ (if(ab (Value.builtin "int.__hash__")==ab iZ)=true then _ else _) Q E s;rw[ba (by rw[beq_builtin_none];exact c8)];refine aH (qk (vY s b) wp.lookup ?_);show wpAny _ _ (callSpecialIfBoundUnlessNone? (.bool b) "__hash__" _ >>= _) Q E s;refine aH (wpAny_callSpecialIfBoundUnlessNone?_slot (vY s b) wp
  (mS wp (vY s b) F.entry_int_hash
   (show wpAny _ _ (do ret (<- mkInt (rawHash (if b then 1 else 0)))) _ _ s from wpAny_ret_mkInt ?_) (F.args_int_hash_1 _)))
 show wpAny _ _ (if(decide (-(2:Int) ^ 63<=rawHash (if b then 1 else 0))&&decide (rawHash (if b then 1 else 0)<2 ^ 63))=true then _ else _) Q E _;rw[a9 (by rw[bW hr.1,bW hr.2];rfl)];exact bB h
theorem Pd(x:Str)(t:Tok):rX (.inr x) (.str x t)=true:=by simp[rX,Value.isStrOf]
theorem Oi(a b:Bool):decide ((oD a:Key)=oD b)=(a==b):=by
 by_cases e:a=b
 ·subst e;simp
 ·have h:¬ (oD a:Key)=oD b:=λq=>e (Sum.inl.inj q);rw[cE h];exact(zw.mpr e).symm
theorem Oe(a b:Str):decide ((gm a:Key)=gm b)=decide (a=b):=by
 by_cases e:a=b
 ·subst e;simp
 ·have h:¬ (gm a:Key)=gm b:=λq=>e (Au q);rw[cE h,cE e]
theorem J1(a:Bool)(b:Str):decide ((oD a:Key)=gm b)=false:=cE (λq=>nomatch q)
theorem Mz(a:Str)(b:Bool):decide ((gm a:Key)=oD b)=false:=cE (λq=>nomatch q)
def gz(prog:br)(w:bd):PySem.KeyKind prog w Key where
 is:=rX
 hash:=Mt w
 inj:=λv a b ha hb=>by
  rcases k8 ha with ⟨i,rfl,rfl⟩|⟨x,t,rfl,rfl⟩
  ·rcases k8 hb with ⟨j,rfl,e⟩|⟨y,u,rfl,e⟩
   ·injection e with e1;rw[e1]
   ·exact nomatch e
  ·rcases k8 hb with ⟨j,rfl,e⟩|⟨y,u,rfl,e⟩
   ·exact nomatch e
   ·injection e with e1 _;rw[e1]
 byValue:=λk v h=>by
  rcases k8 h with ⟨i,rfl,rfl⟩|⟨x,t,rfl,rfl⟩<;>rfl
 pyHash:=λhv h=>by
  rcases k8 hv with ⟨i,rfl,rfl⟩|⟨x,t,rfl,rfl⟩
  ·exact Na h
  ·exact wpAny_pyHash_str h
 eqBool:=λhu hv h=>by
  rcases k8 hu with ⟨i,rfl,rfl⟩|⟨x,t,rfl,rfl⟩
  ·rcases k8 hv with ⟨j,rfl,rfl⟩|⟨y,u,rfl,rfl⟩
   ·rw[Oi]at h;exact Hj i j _ _ _ _ h
   ·rw[J1]at h;exact Hk i y u _ _ _ _ h
  ·rcases k8 hv with ⟨j,rfl,rfl⟩|⟨y,u,rfl,rfl⟩
   ·rw[Mz]at h;exact Hl x t j _ _ _ _ h
   ·rw[Oe]at h;exact wpAny_eqBool_str h
 «strs»:=λk x t v h=>by
  rcases k8 h with ⟨i,rfl,e⟩|⟨y,u,rfl,e⟩
  ·exact nomatch e
  ·injection e with e1 _;subst e1;cases v<;>rfl
theorem J7(prog:br)(w:bd)(i:Bool):(gz prog w).is (.inl i) (.bool i)=true:=IH i
theorem J3(prog:br)(w:bd)(x:Str)(t:Tok):(gz prog w).is (.inr x) (.str x t)=true:=Pd x t
inductive V where
 |non|bl (b:Bool)|int (i:Int)|str (x:Str)|byt (b:Array UInt8)|flt (b:UInt64)|ref (a:ag)|ty (n:String)
 deriving DecidableEq
def RelV:V->ah->Prop
 |.non,u=>u=iZ
 |.bl b,u=>u=jq b
 |.int i,u=>∃t,u=Value.int i t
 |.str x,u=>∃t,u=oA x t
 |.byt b,u=>∃t,u=Value.bytes b t
 |.flt b,u=>∃t,u=Value.float b t
 |.ref a,u=>u=dL a
 |.ty n,u=>u=Value.type n
abbrev Vals:List V->List ah->Prop:=mW RelV
theorem Vals.length{xs:List V}{us:List ah}(r:Vals xs us):xs.length=us.length:=tU r
theorem Vals.get:∀{xs:List V} {us:List ah} {i:Nat} {x:V},Vals xs us->xs[i]? = ab x->∃u,us[i]? = ab u/\RelV x u
 |_,_,_,_,.nil,e=>by simp at e
 |_,_,0,_,.cons r _,e=>by simp at e;subst e;exact⟨_,rfl,r⟩
 |_,_,i+1,x,.cons _ t,e=>by
  obtain⟨u,h1,h2⟩:=Vals.get (i:=i) (x:=x) t (by simpa using e);exact⟨u,by simpa using h1,h2⟩
theorem Vals.set{x:V}{u:ah}(r:RelV x u):∀{xs:List V} {us:List ah} (i:Nat),Vals xs us->Vals (xs.set i x) (us.set i u)
 |_,_,_,.nil=>.nil
 |_,_,0,.cons _ t=>.cons r t
 |_,_,i+1,.cons q t=>.cons q (Vals.set r i t)
theorem Vals.append:∀{xs ys:List V} {us ws:List ah},Vals xs us->Vals ys ws->Vals (xs++ys) (us++ws)
 |_,_,_,_,.nil,s=>s
 |_,_,_,_,.cons r t,s=>.cons r (Vals.append t s)
theorem Vals.take:∀{xs:List V} {us:List ah} (n:Nat),Vals xs us->Vals (xs.take n) (us.take n)
 |_,_,0,_=>.nil
 |_,_,_+1,.nil=>.nil
 |_,_,n+1,.cons r t=>.cons r (Vals.take n t)
theorem Vals.drop:∀{xs:List V} {us:List ah} (n:Nat),Vals xs us->Vals (xs.drop n) (us.drop n)
 |_,_,0,r=>r
 |_,_,_+1,.nil=>.nil
 |_,_,n+1,.cons _ t=>Vals.drop n t
def ju:Option V->Option ah->Prop
 |some v,ab u=>RelV v u
 |none,ac=>True
 |_,_=>False
def KV{κ:Type}:List (κ×V)->List (κ×ah)->Prop:=mW λ(p:κ×V) (q:κ×ah)=>p.1=q.1/\RelV p.2 q.2
def kV:Key->V
 |.inl i=>.bl i
 |.inr x=>.str x
def pE(h:aR)(a:ag)(aq:Array ah):Prop:=∃o,h.get? a=ab o/\o.cls=.type "tuple" /\ o.dict=ac/\∃n,o.data=.seq aq n
theorem pE.tup{h:aR}{a:ag}{aq:Array ah}(x:pE h a aq):IsTup h a aq:=let ⟨o,e,c,_,d⟩:=x;⟨o,e,c,d⟩
theorem pE.new(h:aR)(aq:Array ah):pE (h.push { cls:=.type "tuple", data:=.seq aq }) h.objs.size aq:=⟨_,cL _ rfl,rfl,rfl,_,rfl⟩
inductive HO where
 /-- a list -/
 |lst (xs:List V)
 /-- a tuple (never changes) -/
 |tup (xs:List V)
 /-- a dict whose keys are ints and texts;one whose keys are tuples of ints and texts (the empty one is both) -/
 |dK (ao:List (Key×V))|dT (ao:List (List Key×V))
 /-- a set of ints: aq members,aq size -/
 |set (S:Int->Bool) (n:Nat)
 /-- an instance of the class at C,aq dict at dx,aq attributes -/
 |ins (C dx:ag) (fs:List (Str×V))
 /-- the dict of the instance at x -/
 |own (x:ag)
 /-- the dict of an exception -/
 |xd (fs:List (Str×V))
 /-- a bound method,f of x -/
 |met (f x:ag)
 /-- a range object lo,lo+1,.. below hi -/
 |rng (lo hi:Int)
 /-- a thing that is known to the object (the script;a dict while a loop walks it): read,never written while it is so -/
 |frz (o:Obj) (u:HO)
 /-- a code object's table -/
 |tbl (w:Str) (ps:Array ah)
 /-- any other thing,by what is true of aq one object (a def of one's own: Qw a S n:=HO.ext λh=>..) -/
 |ext (φ : aR->Prop)
abbrev Hp:=ag->Option HO
def upd(H:Hp)(a:ag)(o:HO):Hp:=λb=>if b=a then ab o else H b
theorem bt{H:Hp}{a:ag}{o:HO}:upd H a o a=ab o:=by unfold upd;rw[a9 rfl]
theorem aL{H:Hp}{a b:ag}{o:HO}(h:b≠a):upd H a o b=H b:=by unfold upd;rw[ba h]
theorem Ma{H:Hp}{a b:ag}{o u:HO}(h:H a=ab o)(h':H b=ab u)(d:o≠u):a≠b:=by intro e;subst e;rw[h]at h';exact d (fh h')
theorem cz{H:Hp}{a b:ag}{o:HO}(h:H a=ab o)(h':H b=ac):a≠b:=by intro e;subst e;rw[h]at h';cases h'
section
variable(P:br)(w:bd)
def cH(H:Hp)(h:aR)(a:ag):HO->Prop
 |.lst xs=>xs.length<=sizeLine/\∃(aq:List ah) (n:Nat),Vals xs aq/\h.get? a=ab { cls:=.type "list", data:=.seq aq.toArray n }
 |.tup xs=>xs.length<=sizeLine/\∃aq:List ah,Vals xs aq/\pE h a aq.toArray
 |.dK ao=>ao.length<=sizeLine/\(a==sysModules)=false/\∃vs,KV ao vs/\h.DictOf (gz P w) a vs
 | .dT ao=>ao.length<=sizeLine/\(a==sysModules)=false/\∃xs:List (List Key×ag×ah),
  mW (λ(p:List Key×V) (q:List Key×ag×ah)=>p.1=q.1/\H q.2.1=ab (.tup (p.1.map kV))/\RelV p.2 q.2.2) ao xs /\
  ∃o es ep,h.get? a=ab o/\o.ExactDict/\o.data=.dict es ep/\es.toList=xs.map (entryOfKey (tupleKind (gz P w)))/\(xs.map (·.1)).Nodup
 |.set S n=>h.SetOf (intKind P w) a S n
 | .ins C dx fs=>H dx=ab (.own a)/\fs.length<=1000/\dx≠a/\h.get? a=ab (zZ C dx) /\
  ∃mA,h.Ns1 dx mA/\(∀f,ju (fs.lookup f) (mA f))/\PySem.Within mA (fs.map (·.1))
 |.own _=>∃o,h.get? a=ab o
 |.xd fs=>∃mA,h.Ns1 a mA/\∀f,ju (fs.lookup f) (mA f)
 |.rng lo hi=>∃t u v,h.get? a=ab { cls:=.type "range", data:=.fields #[.int lo t,.int hi u,.int 1 v] }
 |.frz o u=>h.get? a=ab o/\cH H h a u
 |.tbl _ ps=>h.get? a=ab { cls:=.none,data:=.fields ps }
 |.met f x=>h.get? a=ab (zY (.ref f) (.ref x))
 |.ext φ=>φ h/\(∃o,h.get? a=ab o)/\∀h1 h2:aR,φ h1->(∀o,h1.get? a=ab o->h2.get? a=ab o)->φ h2
def cQ(H:Hp)(h:aR):Prop:=∀a o,H a=ab o->cH P w H h a o
end
section
variable{P:br}{w:bd}{H H':Hp}{h h':aR}{a:ag}{o:HO}
theorem cH.lt(x:cH P w H h a o):a<h.objs.size:=by
 cases o with
 |lst xs=>obtain⟨_,_,_,_,e⟩:=x;exact bZ e
 |tup xs=>obtain⟨_,_,_,p⟩:=x;exact p.tup.lt
 |dK ao=>obtain⟨_,_,_,_,o,_,_,e,_⟩:=x;exact bZ e
 |dT ao=>obtain⟨_,_,_,_,o,_,_,e,_⟩:=x;exact bZ e
 |set S n=>obtain⟨o,_,_,_,e,_⟩:=x;exact bZ e
 |ins C dx fs=>obtain⟨_,_,_,e,_⟩:=x;exact bZ e
 |own y=>obtain⟨_,e⟩:=x;exact bZ e
 |xd fs=>obtain⟨_,⟨_,_,_,e,_⟩,_⟩:=x;exact bZ e
 |rng lo hi=>obtain⟨_,_,_,e⟩:=x;exact bZ e
 |frz ob u=>obtain⟨e,_⟩:=x;exact bZ e
 |tbl w ps=>exact bZ (show h.get? a=ab _ from x)
 |met f y=>exact bZ (show h.get? a=ab _ from x)
 |ext φ=>obtain⟨_,⟨_,e⟩,_⟩:=x;exact bZ e
theorem Paired.yS{α β:Type}{F G:α->β->Prop}:∀{l₁:List α} {l₂:List β},mW F l₁ l₂->(∀a b,F a b->G a b)->mW G l₁ l₂
 |_,_,.nil,_=>.nil
 |_,_,.cons r t,f=>.cons (f _ _ r) (Paired.yS t f)
theorem cH.stay(x:cH P w H h a o)(k:∀b u,(b=a\/H b=ab (.own a))->h.get? b=ab u->h'.get? b=ab u)
 (ho:∀b,H b=ab (.own a)->H' b=ab (.own a)) (ht:∀b xs,H b=ab (.tup xs)->H' b=ab (.tup xs)):cH P w H' h' a o:=by
 induction o with
 |lst xs=>obtain⟨z,aq,n,r,e⟩:=x;exact⟨z,aq,n,r,k _ _ (.inl rfl) e⟩
 |tup xs=>obtain⟨z,aq,r,ob,e,c⟩:=x;exact⟨z,aq,r,ob,k _ _ (.inl rfl) e,c⟩
 |dK ao=>obtain⟨z,y,vs,r,ob,es,ep,e,c⟩:=x;exact⟨z,y,vs,r,ob,es,ep,k _ _ (.inl rfl) e,c⟩
 |dT ao=>
  obtain⟨z,y,xs,r,ob,es,ep,e,c⟩:=x;exact⟨z,y,xs,Paired.yS r λp q z=>⟨z.1,ht _ _ z.2.1,z.2.2⟩,ob,es,ep,k _ _ (.inl rfl) e,c⟩
 |set S n=>obtain⟨ob,es,ep,t,e,c⟩:=x;exact⟨ob,es,ep,t,k _ _ (.inl rfl) e,c⟩
 |ins C dx fs=>
  obtain⟨d,z,ne,e,mA,⟨od,es,ep,e2,c⟩,r⟩:=x;exact⟨ho _ d,z,ne,k _ _ (.inl rfl) e,mA,⟨od,es,ep,k _ _ (.inr d) e2,c⟩,r⟩
 |own y=>obtain⟨ob,e⟩:=x;exact⟨ob,k _ _ (.inl rfl) e⟩
 |xd fs=>obtain⟨mA,⟨od,es,ep,e,c⟩,r⟩:=x;exact⟨mA,⟨od,es,ep,k _ _ (.inl rfl) e,c⟩,r⟩
 |rng lo hi=>obtain⟨t,u,v,e⟩:=x;exact⟨t,u,v,k _ _ (.inl rfl) e⟩
 |frz ob u ih=>obtain⟨e,q⟩:=x;exact⟨k _ _ (.inl rfl) e,ih q⟩
 |tbl w ps=>
  have e:h.get? a=ab { cls:=.none,data:=.fields ps }:=x;show h'.get? a=ab { cls:=.none,data:=.fields ps };exact k a _ (.inl rfl) e
 |met f y=>
  have e:h.get? a=ab (zY (.ref f) (.ref y)):=x;show h'.get? a=ab (zY (.ref f) (.ref y));exact k a _ (.inl rfl) e
 |ext φ=>obtain⟨p,⟨o,e⟩,st⟩:=x;exact⟨st _ _ p λo q=>k _ _ (.inl rfl) q,⟨o,k _ _ (.inl rfl) e⟩,st⟩
theorem cQ.lt(x:cQ P w H h)(e:H a=ab o):a<h.objs.size:=(x a o e).lt
theorem cQ.fresh(x:cQ P w H h)(e:h.objs.size<=a):H a=ac:=by
 cases q:H a with
 |none=>rfl
 |some u=>exact absurd (fU (x.lt q) e) (jp _)
theorem cQ.kept(x:cQ P w H h)(k:∀b u,h.get? b=ab u->h'.get? b=ab u):cQ P w H h':=λa o e=>
 (x a o e).stay (λb u _ q=>k b u q) (λ_ q=>q) λ_ _ q=>q
theorem cQ.laid(x:cQ P w H h)(k:∀b u,h.get? b=ab u->h'.get? b=ab u)(hp:h.objs.size<=a)(new:cH P w (upd H a o) h' a o):cQ P w (upd H a o) h':=λb u e=>by
 have hn:=x.fresh hp;by_cases hb:b=a
 ·subst hb;rw[bt]at e;cases e;exact new
 ·rw[aL hb]at e;exact(x b u e).stay (λc v _ q=>k c v q) (λc q=>by rw[aL (cz q hn)];exact q) λc xs q=>by rw[aL (cz q hn)];exact q
end
def Rd(H:Hp)(a:ag)(u:HO):Prop:=H a=ab u\/∃o,H a=ab (.frz o u)
theorem Rd.ok{P:br}{w:bd}{H:Hp}{h:aR}{a:ag}{u:HO}(r:Rd H a u)(x:cQ P w H h):cH P w H h a u:=by
 rcases r with r|⟨o,r⟩
 ·exact x a u r
 ·obtain⟨_,q⟩:=x a _ r;exact q
def qR:Option HO->Prop
 |some (.lst _)=>True
 |some (.dK _)=>True
 |some (.dT _)=>True
 |some (.set _ _)=>True
 |some (.ins _ _ _)=>True
 |some (.ext _)=>True
 |_=>False
section
variable{P:br}{w:bd}{H:Hp}{h h':aR}{x e:ag}{o':HO}
theorem cQ.write(ok:cQ P w H h)(mu:qR (H x))(he:e=x\/H e=ab (.own x))(k:∀b u,b≠e->h.get? b=ab u->h'.get? b=ab u)(heo:∃u,h'.get? e=ab u)
 (new:cH P w (upd H x o') h' x o'):cQ P w (upd H x o') h':=λb u q=>by
 have Ho:∀c y,H c=ab (.own y)->c≠x:=λc y r z=>by subst z;rw[r]at mu;exact mu
 have P5:∀c xs,H c=ab (.tup xs)->c≠x:=λc xs r z=>by subst z;rw[r]at mu;exact mu
 by_cases hb:b=x
 ·subst hb;rw[bt]at q;cases q;exact new
 ·rw[aL hb]at q;by_cases hbe:b=e
  ·have q':H b=ab (.own x):=by
    rcases he with z|z
    ·exact absurd (hbe.trans z) hb
    ·rw[hbe];exact z
   rw[q]at q';cases q';obtain⟨v,hv⟩:=heo;exact⟨v,by rw[hbe];exact hv⟩
  ·refine(ok b u q).stay (λc v hc r=>k c v ?_ r) (λc r=>by rw[aL (Ho c b r)];exact r) λc xs r=>by rw[aL (P5 c xs r)];exact r
   rcases hc with rfl|hc
   ·exact hbe
   ·rintro rfl;rcases he with z|z
    ·exact Ho c b hc z
    ·rw[hc]at z;cases z;exact hb rfl
end
structure Un(fs ex:List ag)(H H':Hp)(h h':aR):Prop where
 keep:∀b o,h.get? b=ab o->H b=ac->b∉fs->b∉ex->h'.get? b=ab o
 slot:∀b o,h.get? b=ab o->H b=ac->b∈fs->b∉ex->∃sl,h'.get? b=ab { o with slots:=sl }
 free:∀b o,h.get? b=ab o->H b=ac->b∉ex->H' b=ac
 there:∀b o,h.get? b=ab o->b∉ex->∃o',h'.get? b=ab o'
 tups:∀b xs,H b=ab (.tup xs)->H' b=ab (.tup xs)
 kW:∀b o u,H b=ab (.frz o u)->H' b=ab (.frz o u)
 kY:∀b w ps,H b=ab (.tbl w ps)->∃more,H' b=ab (.tbl w (ps++more))
section
variable{fs fs' ex ex':List ag}{H H1 H2:Hp}{h h1 h2 h':aR}{a x e:ag}{o:HO}
theorem Un.any(u:Un fs ex H H1 h h1){b:ag}{ob:Obj}(q:h.get? b=ab ob)(n:H b=ac)(hx:b∉ex):∃sl,h1.get? b=ab { ob with slots:=sl }:=by
 by_cases hb:b∈fs
 ·exact u.slot b ob q n hb hx
 ·exact⟨ob.slots,u.keep b ob q n hb hx⟩
theorem Un.kept(k:∀b u,h.get? b=ab u->h'.get? b=ab u):Un fs ex H H h h':=⟨λb ob q _ _ _=>k b ob q,λb ob q _ _ _=>⟨ob.slots,k b ob q⟩,λ_ _ _ n _=>n,λb ob q _=>⟨ob,k b ob q⟩,λ_ _ q=>q,λ_ _ _ q=>q,λ_ w ps q=>⟨#[],by rw[q];simp⟩⟩
theorem Un.refl:Un fs ex H H h h:=Un.kept λ_ _ q=>q
theorem Un.laid(k:∀b u,h.get? b=ab u->h'.get? b=ab u)(hp:h.objs.size<=a)(hn:H a=ac):Un fs ex H (upd H a o) h h' where
 keep:=λb u q _ _ _=>k b u q
 slot:=λb u q _ _ _=>⟨u.slots,k b u q⟩
 free:=λb u q n _=>by rw[aL (fV (fU (bZ q) hp))];exact n
 there:=λb u q _=>⟨u,k b u q⟩
 tups:=λb xs q=>by rw[aL (cz q hn)];exact q
 kW:=λb u xs q=>by rw[aL (cz q hn)];exact q
 kY:=λb w ps q=>⟨#[],by rw[aL (cz q hn),q];simp⟩
theorem Un.write(mu:qR (H x))(he:e=x\/H e=ab (.own x))(k:∀b u,b≠e->h.get? b=ab u->h'.get? b=ab u)(heo:∃u,h'.get? e=ab u):Un fs ex H (upd H x o) h h':=by
 have hx:∀b,H b=ac->b≠x:=λb n z=>by subst z;rw[n]at mu;exact mu
 have hb:∀b,H b=ac->b≠e:=λb n z=>by
  subst z;rcases he with r|r
  ·exact hx b n r
  ·rw[n]at r;cases r
 have hm:∀b u,H b=ab u->¬ qR (ab u)->b≠x:=λb u q nm z=>by subst z;rw[q]at mu;exact nm mu
 refine⟨λb u q n _ _=>k b u (hb b n) q,λb u q n _ _=>⟨u.slots,k b u (hb b n) q⟩,λb u q n _=>by rw[aL (hx b n)];exact n,λb u q _=>?_,
  λb xs q=>by rw[aL (hm b _ q λz=>z)];exact q,λb u xs q=>by rw[aL (hm b _ q λz=>z)];exact q,λb w ps q=>⟨#[],by rw[aL (hm b _ q λz=>z),q];simp⟩⟩
 by_cases hbe:b=e
 ·subst hbe;exact heo
 ·exact⟨u,k b u hbe q⟩
end
def uP(h:aR)(H:Hp):List ag:=(cj h.objs.size).filter λa=>(H a).isSome
def jy(h:aR)(H:Hp):aR:=PySem.W.hideAll h (uP h H)
theorem Io(h:aR)(H:Hp):(jy h H).objs.size=h.objs.size:=PySem.W.hideAll_size _ _
theorem L9{h:aR}{H:Hp}{b:ag}{o:Obj}(e:h.get? b=ab o)(n:H b=ac):(jy h H).get? b=ab o:=
 PySem.W.hideAll_get _ e λhm=>by
  have q:(H b).isSome=true:=(dH.mp hm).2;rw[n]at q;simp at q
theorem Lz{h:aR}{H:Hp}{b:ag}{o:Obj}(e:(jy h H).get? b=ab o):h.get? b=ab o/\H b=ac:=by
 have e':h.get? b=ab o:=PySem.W.of_hideAll (uP h H) e;refine⟨e',?_⟩;cases q:H b with
 |none=>rfl
 |some x=>
  have hm:b∈uP h H:=dH.mpr ⟨fT.mpr (bZ e'),by simp[q]⟩;have z:(jy h H).get? b=ac:=PySem.W.hideAll_none (uP h H) hm;rw[z]at e;cases e
structure Mod(K:aP)(mg:Str->Option ah)(base:aR):Prop where
 kin:K.In base
 glob:base.Ns mainGlobals mg
 blt:∃mb,base.Ns builtinsNs mb/\∀x:Str,x ≠ "__name__" -> mb x=bootBuiltins x
 nolimit:base.NoLimit
structure Cx where
 prog:br
 w:bd
 K:aP
 mg:Str->Option ah
 base:aR
 A:bN
 N:List Str
 s₀:aw
 H₀:Hp
 env:Env
 outer:List Env
 stack:List Env
 ex:List ag
 fn:Str->Bool
 calm:Bool
 pn:List (ag×Obj)
 xe:ah->aw->Prop
def frs(l:List Env):List ag:=l.filterMap (·.frame)
abbrev Cx.fs(X:Cx):List ag:=frs X.outer
def rQ(sc:en)(x:Str):Prop:=sc.names.lookup x=ab .local\/sc.names.lookup x=ab .cell\/sc.names.lookup x=ab .free
def Loc(sc:en)(x:Str):Prop:=sc.names.lookup x=ab .local\/sc.names.lookup x=ab .cell
def Look(env:Env)(h:aR)(m:Str->Option ah)(x:Str)(u:ah):Prop:=(env.kindOf x=ab .local/\m x=ab u)\/((env.kindOf x=ab .cell\/env.kindOf x=ab .free)/\∃c,env.cells.lookup x=ab c/\h.IsCell c (ab u))
structure Cx.Ok(X:Cx):Prop where
 mod:Mod X.K X.mg X.base
 kind:X.env.scope.kind=.function
 glob:X.env.globals=mainGlobals
 blt:X.env.builtins=builtinsNs
 above:X.s₀.heap.objs.size<=X.env.locals
 inj:∀x y c,X.env.cells.lookup x=ab c->X.env.cells.lookup y=ab c->x=y
 has:∀x,(X.env.kindOf x=ab .cell\/X.env.kindOf x=ab .free)->∃c,X.env.cells.lookup x=ab c
 cab:∀x c,X.fn x=true->X.env.cells.lookup x=ab c->X.s₀.heap.objs.size<=c
 hd:X.calm=true->X.A.handled=ac
 frames:X.A.frames=ab X.stack
 stk:X.stack=X.outer\/(X.stack=X.env::X.outer/\X.env.frame=ab X.env.locals)
 exf:∀b∈X.ex,b≠X.env.locals/\∀x c,X.env.cells.lookup x=ab c->c≠b
 bs:∀b o,X.base.get? b=ab o->X.s₀.heap.get? b=ab o/\X.H₀ b=ac
 bsz:X.base.objs.size<=X.s₀.heap.objs.size
 tW:∀b o,X.base.get? b=ab o->b∉X.ex
 wB:∀b∈X.ex,b∉X.fs
 iS:X.s₀.heap.FunFrames X.base X.outer
 frf:∀b∈X.fs,X.H₀ b=ac
structure Inv(X:Cx)(af:List (ag×Obj))(σ:List (Option V))(H:Hp)(s:aw):Prop where
 ok:X.Ok
 os:s.os=X.s₀.os
 bare:mY s.gens
 base:Un X.fs X.ex X.H₀ H X.s₀.heap s.heap
 loc:∃m,s.heap.Ns X.env.locals m/\∀(i:Nat) (x:Str) (v:V),X.N[i]? = ab x->σ[i]? = ab (ab v)->rQ X.env.scope x->∃u,RelV v u/\Look X.env s.heap m x u
 cell:∀x c,X.env.cells.lookup x=ab c->∃v,s.heap.IsCell c v
 free:H X.env.locals=ac
 i5:∀x c,X.env.cells.lookup x=ab c->H c=ac
 pin:∀p∈X.pn++af,s.heap.get? p.1=ab p.2/\H p.1=ac/\p.1≠X.env.locals/\p.1∉X.fs/\∀v,p.2.data≠.cell v
 hok:cQ X.prog X.w H s.heap
 len:σ.length=X.N.length
section
variable{X:Cx}{af:List (ag×Obj)}{σ:List (Option V)}{H H':Hp}{s:aw}{h':aR}
theorem Cx.Ok.Km(ok:X.Ok){b:ag}{o:Obj}(e:X.base.get? b=ab o):b∉X.fs:=λhb=>by
 have:=(ok.iS.mem hb).1;rw[e]at this;cases this
theorem Inv.bs(I:Inv X af σ H s):∀b o,X.base.get? b=ab o->s.heap.get? b=ab o/\H b=ac:=λb o e=>
 ⟨I.base.keep b o (I.ok.bs b o e).1 (I.ok.bs b o e).2 (I.ok.Km e) (I.ok.tW b o e),I.base.free b o (I.ok.bs b o e).1 (I.ok.bs b o e).2 (I.ok.tW b o e)⟩
theorem Inv.bk(I:Inv X af σ H s):∀b o,X.base.get? b=ab o->s.heap.get? b=ab o:=λb o e=>(I.bs b o e).1
theorem Inv.mod(I:Inv X af σ H s):Mod X.K X.mg X.base:=I.ok.mod
theorem Inv.fj(I:Inv X af σ H s):X.K.In s.heap:=I.ok.mod.kin.keeps I.bk
theorem Inv.lt(I:Inv X af σ H s):X.env.locals<s.heap.objs.size:=let ⟨_,hn,_⟩:=I.loc;hn.lt
theorem Inv.sz(I:Inv X af σ H s):X.s₀.heap.objs.size<=s.heap.objs.size:=eK I.ok.above (wf I.lt)
theorem Inv.Pp(I:Inv X af σ H s){a:ag}(h:s.heap.objs.size<=a):a∉X.fs:=λhb=>by
 obtain⟨_,o,ho,_⟩:=I.ok.iS.mem hb;exact absurd (fU (bZ ho) (eK I.sz h)) (jp _)
theorem Inv.l9(I:Inv X af σ H s):∀x c,X.env.cells.lookup x=ab c->c≠X.env.locals:=λx c e z=>by
 obtain⟨v,o,ho,hd⟩:=I.cell x c e;obtain⟨m,⟨o',es,ep,ho',hd',_⟩,_⟩:=I.loc;rw[z,ho']at ho;cases ho;rw[hd']at hd;cases hd
theorem Inv.iS(I:Inv X af σ H s):s.heap.FunFrames X.base X.outer:=by
 have all:∀(l:List Env),(∀b∈frs l,b∈X.fs)->X.s₀.heap.FunFrames X.base l->s.heap.FunFrames X.base l:=by
  intro l
  induction l with
  |nil=>intro _ _;trivial
  |cons env r ih=>
   intro hs hl;obtain⟨hk,⟨L,o,hf,hn,ho,hd⟩,hr⟩:=hl;have hL:L∈X.fs:=hs L (by unfold frs;rw[zP,hf];exact dA);obtain⟨sl,e⟩:=I.base.slot L o ho (I.ok.frf L hL) hL λz=>I.ok.wB L z hL;exact⟨hk,⟨L,_,hf,hn,e,hd⟩,ih (λb hb=>hs b (by unfold frs;rw[zP,hf];exact ff _ hb)) hr⟩
 exact all X.outer (λ_ hb=>hb) I.ok.iS
theorem Inv.stack(I:Inv X af σ H s):s.heap.FunFrames X.base X.stack:=by
 rcases I.ok.stk with e|⟨e,hf⟩
 ·rw[e];exact I.iS
 ·rw[e];obtain⟨m,hn,_⟩:=I.loc;refine .cons (by rw[I.ok.kind];decide) hf hn ?_ I.iS;exact Heap.get?_none_of_le (eK I.ok.bsz I.ok.above)
theorem Inv.sX(I:Inv X af σ H s):∀b∈frs X.stack,b∈X.env.locals::X.fs:=λb hb=>by
 rcases I.ok.stk with e|⟨e,hf⟩
 ·rw[e]at hb;exact ff _ hb
 ·rw[e]at hb;unfold frs at hb;rw[zP,hf]at hb;exact hb
theorem Inv.Fp(I:Inv X af σ H s):∀b∈frs X.stack,H b=ac:=λb hb=>by
 rcases bL.mp (I.sX b hb)with e|hb
 ·rw[e];exact I.free
 ·obtain⟨_,o,ho,_⟩:=I.ok.iS.mem hb;exact I.base.free b o ho (I.ok.frf b hb) λz=>I.ok.wB b z hb
theorem Inv.step{g':Array GenState}{t':Nat}{d':Drawn}{ch:List ag}(I:Inv X af σ H s)
 (hch:∀b∈ch,(b∈X.ex\/X.s₀.heap.objs.size<=b)/\b≠X.env.locals/\(∀x c,X.env.cells.lookup x=ab c->c≠b)/\∀p∈X.pn++af,p.1≠b)
 (keep:∀b o,b≠X.env.locals->b∉X.fs->b∉ch->s.heap.get? b=ab o->H b=ac->h'.get? b=ab o)
 (slot:∀b o,b≠X.env.locals->b∈X.fs->b∉ch->s.heap.get? b=ab o->H b=ac->∃sl,h'.get? b=ab { o with slots:=sl }) (free:∀b o,b∉ch->s.heap.get? b=ab o->H b=ac->H' b=ac)
 (there:∀b o,b∉ch->s.heap.get? b=ab o->∃o',h'.get? b=ab o')
 (tups:∀b xs,H b=ab (.tup xs)->H' b=ab (.tup xs)) (kW:∀b o u,H b=ab (.frz o u)->H' b=ab (.frz o u)) (kY:∀b w ps,H b=ab (.tbl w ps)->∃more,H' b=ab (.tbl w (ps++more)))
 (ns:∀m,s.heap.Ns X.env.locals m->h'.Ns X.env.locals m) (hok:cQ X.prog X.w H' h') (hg:mY g') :
 Inv X af σ H' { s with heap:=h',gens:=g',drawn:=d',toks:=t' }:=by
 have neL:∀b o,X.s₀.heap.get? b=ab o->b≠X.env.locals:=λb o e=>fV (fU (bZ e) I.ok.above);have neC:∀b o,X.s₀.heap.get? b=ab o->b∉X.ex->b∉ch:=λb o e hx hb=>by
  rcases(hch b hb).1 with z|z
  ·exact hx z
  ·exact absurd (fU (bZ e) z) (jp _)
 have cellK:∀x c,X.env.cells.lookup x=ab c->∀v,s.heap.IsCell c v->h'.IsCell c v:=λx c e v ⟨o,ho,hd⟩=>by
  have nch:c∉ch:=λz=>(hch c z).2.2.1 x c e rfl;by_cases hc:c∈X.fs
  ·obtain⟨sl,q⟩:=slot c o (I.l9 x c e) hc nch ho (I.i5 x c e);exact⟨_,q,hd⟩
  ·exact⟨o,keep c o (I.l9 x c e) hc nch ho (I.i5 x c e),hd⟩
 refine⟨I.ok,I.os,hg,⟨λb o e n hb hx=>?_,λb o e n hb hx=>?_,λb o e n hx=>?_,λb o e hx=>?_,λb xs e=>tups b xs (I.base.tups b xs e),λb o xs e=>kW b o xs (I.base.kW b o xs e),λb w ps e=>?_⟩,?_,λx c e=>?_,?_,λx c e=>?_,λp hp=>?_,hok,I.len⟩
 ·exact keep b o (neL b o e) hb (neC b o e hx) (I.base.keep b o e n hb hx) (I.base.free b o e n hx)
 ·obtain⟨sl,e1⟩:=I.base.slot b o e n hb hx;obtain⟨sl',e2⟩:=slot b _ (neL b o e) hb (neC b o e hx) e1 (I.base.free b o e n hx);exact⟨sl',e2⟩
 ·obtain⟨o',e1⟩:=I.base.there b o e hx;exact free b o' (neC b o e hx) e1 (I.base.free b o e n hx)
 ·obtain⟨o',e1⟩:=I.base.there b o e hx;exact there b o' (neC b o e hx) e1
 ·obtain⟨m1,e1⟩:=I.base.kY b w ps e;obtain⟨m2,e2⟩:=kY b w _ e1;exact⟨m1++m2,by rw[e2,Array.append_assoc]⟩
 ·obtain⟨m,hn,hl⟩:=I.loc;refine⟨m,ns m hn,λi x v e1 e2 e3=>?_⟩;obtain⟨u,r,l⟩:=hl i x v e1 e2 e3;refine⟨u,r,?_⟩;rcases l with l|⟨k,c,e,z⟩
  ·exact .inl l
  ·exact .inr ⟨k,c,e,cellK x c e _ z⟩
 ·obtain⟨v,z⟩:=I.cell x c e;exact⟨v,cellK x c e v z⟩
 ·obtain⟨m,⟨o,_,_,ho,_⟩,_⟩:=I.loc;exact free _ o (λz=>(hch _ z).2.1 rfl) ho I.free
 ·obtain⟨v,o,ho,hd⟩:=I.cell x c e;exact free c o (λz=>(hch c z).2.2.1 x c e rfl) ho (I.i5 x c e)
 ·obtain⟨e,n,ne,nf,d⟩:=I.pin p hp;have nch:p.1∉ch:=λz=>(hch p.1 z).2.2.2 p hp rfl;exact⟨keep p.1 p.2 ne nf nch e n,free p.1 p.2 nch e n,ne,nf,d⟩
theorem Inv.un{t':Nat}(I:Inv X af σ H s)(u:Un X.fs [] H H' s.heap h')(hok:cQ X.prog X.w H' h'):Inv X af σ H' { s with heap:=h',toks:=t' }:=by
 obtain⟨m,⟨o,es,ep,ho,r⟩,_⟩:=id I.loc;obtain⟨sl,hL⟩:=u.any ho I.free (by simp);exact I.step (g':=s.gens) (d':=s.drawn) (ch:=[]) (λ_ z=>nomatch z) (λb o _ hb _ e n=>u.keep b o e n hb (by simp)) (λb o _ hb _ e n=>u.slot b o e n hb (by simp)) (λb o _ e n=>u.free b o e n (by simp)) (λb o _ e=>u.there b o e (by simp)) u.tups u.kW u.kY (λm' hm=>by
  obtain⟨o',es',ep',ho',r'⟩:=hm;rw[ho]at ho';cases ho';exact⟨_,es',ep',hL,r'⟩) hok I.bare
theorem Inv.call{g':Array GenState}{t':Nat}{d':Drawn}{ch:List ag}(I:Inv X af σ H s)(u:Un (frs X.stack) ch H H' s.heap h')(hok:cQ X.prog X.w H' h')(hg:mY g')
 (hch:∀b∈ch,(b∈X.ex\/X.s₀.heap.objs.size<=b)/\b≠X.env.locals/\(∀x c,X.env.cells.lookup x=ab c->c≠b)/\∀p∈X.pn++af,p.1≠b) :
 Inv X af σ H' { s with heap:=h',gens:=g',drawn:=d',toks:=t' }:=by
 obtain⟨m,⟨o,es,ep,ho,r⟩,_⟩:=id I.loc;obtain⟨sl,hL⟩:=u.any ho I.free λz=>(hch _ z).2.1 rfl;exact I.step (ch:=ch) hch (λb o hL hb hc e n=>u.keep b o e n (λz=>(bL.mp (I.sX b z)).elim hL hb) hc) (λb o _ _ hc e n=>u.any e n hc) (λb o hc e n=>u.free b o e n hc) (λb o hc e=>u.there b o e hc) u.tups u.kW u.kY (λm' hm=>by
  obtain⟨o',es',ep',ho',r'⟩:=hm;rw[ho]at ho';cases ho';exact⟨_,es',ep',hL,r'⟩) hok hg
theorem Inv.turned{t':Nat}{it:ag}(I:Inv X af σ H s)(k:∀b o,b≠it->s.heap.get? b=ab o->h'.get? b=ab o)(hn:H it=ac)(hL:it≠X.env.locals)
 (h1:it∈X.ex\/X.s₀.heap.objs.size<=it) (h2:∀x c,X.env.cells.lookup x=ab c->c≠it) (h3:∀p∈X.pn++af,p.1≠it):Inv X af σ H { s with heap:=h',toks:=t' }:=by
 have nit:∀b u,H b=ab u->b≠it:=λb u e z=>by rw[z,hn]at e;cases e
 refine I.step (g':=s.gens) (d':=s.drawn) (ch:=[it]) (λb hb=>?_) (λb o _ _ hc e _=>k b o (λz=>hc (by simp[z])) e) (λb o _ _ hc e _=>⟨o.slots,k b o (λz=>hc (by simp[z])) e⟩) (λ_ _ _ _ n=>n)
  (λb o hc e=>⟨o,k b o (λz=>hc (by simp[z])) e⟩) (λ_ _ e=>e) (λ_ _ _ e=>e) (λb w ps e=>⟨#[],by rw[e];simp⟩) (λm hm=>?_) (λb u e=>?_) I.bare
 ·have e:b=it:=by simpa using hb
  subst e;exact⟨h1,hL,h2,h3⟩
 ·obtain⟨o,es,ep,ho,r⟩:=hm;exact⟨o,es,ep,k _ o (cY hL) ho,r⟩
 ·refine(I.hok b u e).stay (λc v hc q=>k c v ?_ q) (λ_ q=>q) λ_ _ q=>q;rcases hc with z|z
  ·rw[z];exact nit b u e
  ·exact nit c _ z
theorem Inv.tok(I:Inv X af σ H s)(t:Nat):Inv X af σ H { s with toks:=t }:=I.un (h':=s.heap) (t':=t) Un.refl I.hok
theorem Inv.kept{t':Nat}(I:Inv X af σ H s)(k:∀b u,s.heap.get? b=ab u->h'.get? b=ab u):Inv X af σ H { s with heap:=h',toks:=t' }:=I.un (Un.kept k) (I.hok.kept k)
theorem Inv.laid{a:ag}{o:HO}{t':Nat}(I:Inv X af σ H s)(k:∀b u,s.heap.get? b=ab u->h'.get? b=ab u)(hp:s.heap.objs.size<=a)(new:cH X.prog X.w (upd H a o) h' a o) :
 Inv X af σ (upd H a o) { s with heap:=h',toks:=t' }:=I.un (Un.laid k hp (I.hok.fresh hp)) (I.hok.laid k hp new)
theorem Inv.write{x e:ag}{o:HO}{t':Nat}(I:Inv X af σ H s)(mu:qR (H x))(he:e=x\/H e=ab (.own x))(k:∀b u,b≠e->s.heap.get? b=ab u->h'.get? b=ab u)(heo:∃u,h'.get? e=ab u)
 (new:cH X.prog X.w (upd H x o) h' x o):Inv X af σ (upd H x o) { s with heap:=h',toks:=t' }:=I.un (Un.write mu he k heo) (I.hok.write mu he k heo new)
theorem Inv.weak{σ':List (Option V)}(I:Inv X af σ H s)(hl:σ'.length = σ.length)(w:∀(i:Nat) v,σ'[i]? = ab (ab v)->σ[i]? = ab (ab v)):Inv X af σ' H s:=⟨I.ok,I.os,I.bare,I.base,let ⟨m,hn,hl'⟩:=I.loc;⟨m,hn,λi x v e1 e2 e3=>hl' i x v e1 (w i v e2) e3⟩,I.cell,I.free,I.i5,I.pin,I.hok,hl.trans I.len⟩
theorem Inv.wX{qw:List (ag×Obj)}(I:Inv X af σ H s)(h:∀p∈qw,s.heap.get? p.1=ab p.2/\H p.1=ac/\p.1≠X.env.locals/\p.1∉X.fs/\∀v,p.2.data≠.cell v):Inv X qw σ H s:=⟨I.ok,I.os,I.bare,I.base,I.loc,I.cell,I.free,I.i5,λp hp=>(dI.mp hp).elim (λz=>I.pin p (gf _ z)) (h p),I.hok,I.len⟩
theorem EA{N:List Str}(hN:N.Nodup){i j:Nat}{x:Str}(a:N[i]? = ab x)(b:N[j]? = ab x):i=j:=by obtain⟨h1,e1⟩:=b9.mp a;obtain⟨h2,e2⟩:=b9.mp b;exact(mP hN).mp (e1.trans e2.symm)
theorem EY{M:Model}{A:bN}{E:ah->aw->Prop}{i:Nat}{x:Str}{v:V}{u:ah}{Q:Unit->aw->Prop}(I:Inv X af σ H s)(hN:X.N.Nodup)(hi:X.N[i]? = ab x)(hx:Loc X.env.scope x)(r:RelV v u)
 (h:∀s',Inv X af (σ.set i (ab v)) H s'->(∃a,mX a s.heap s'.heap/\(a=X.env.locals\/X.env.cells.lookup x=ab a))->Q () s') (hf:X.fn x=true\/X.env.scope.names.lookup x=ab .local:=by first|exact .inl rfl|exact .inr rfl|assumption):wpAny M A (storeName X.env x u) Q E s:=by
 obtain⟨m,hn,hl⟩:=id I.loc;have hcls:(X.env.scope.kind==.class||(X.env.scope.kind==.module&&X.env.locals != X.env.globals))=false:=by rw[I.ok.kind];rfl
 have hiσ:i < σ.length:=by rw[I.len];exact(b9.mp hi).1
 have l9:=I.l9;have tracked:∀{a:ag} {h':aR},(∃o,s.heap.get? a=ab o/\H a=ac)->mX a s.heap h'->cQ X.prog X.w H h':=λ{a h'} ha hs b ob e=>by
  obtain⟨_,_,hfree⟩:=ha;refine(I.hok b ob e).stay (λc w' hc q=>(hs.2 c ?_).trans q) (λ_ q=>q) λ_ _ q=>q;rintro rfl;rcases hc with rfl|hc
  ·rw[hfree]at e;cases e
  ·rw[hfree]at hc;cases hc
 rcases hx with hk|hk
 ·refine wpAny_storeName_local hk hn (λh' hn' hs=>?_) hcls;obtain⟨oL,_,_,hoL,_⟩:=id hn;refine h _ ⟨I.ok,I.os,I.bare,⟨λb o e n hb hx=>?_,λb o e n hb hx=>?_,I.base.free,λb o e hx=>?_,I.base.tups,I.base.kW,I.base.kY⟩,⟨_,hn',λj y v' e1 e2 e3=>?_⟩,λy c e=>?_,I.free,I.i5,λp hp=>?_,tracked ⟨oL,hoL,I.free⟩ hs,by simpa using I.len⟩ ⟨_,hs,.inl rfl⟩
  ·exact(hs.2 b (fV (fU (bZ e) I.ok.above))).trans (I.base.keep b o e n hb hx)
  ·obtain⟨sl,e1⟩:=I.base.slot b o e n hb hx;exact⟨sl,(hs.2 b (fV (fU (bZ e) I.ok.above))).trans e1⟩
  ·obtain⟨o',e1⟩:=I.base.there b o e hx;exact⟨o',(hs.2 b (fV (fU (bZ e) I.ok.above))).trans e1⟩
  ·by_cases hj:j=i
   ·subst hj;rw[hi]at e1;cases e1;rw[jo hiσ]at e2;cases e2;exact⟨u,r,.inl ⟨hk,by simp⟩⟩
   ·rw[eE (cY hj)]at e2;obtain⟨u',r',q⟩:=hl j y v' e1 e2 e3;refine⟨u',r',?_⟩;rcases q with ⟨k,e⟩|⟨k,c,e,z⟩
    ·refine .inl ⟨k,?_⟩;have:y≠x:=λe=>hj (EA hN e1 (e ▸ hi));simp[this,e]
    ·exact .inr ⟨k,c,e,z.sameBut hs (l9 y c e)⟩
  ·obtain⟨w',z⟩:=I.cell y c e;exact⟨w',z.sameBut hs (l9 y c e)⟩
  ·obtain⟨e,n,ne,nf,d⟩:=I.pin p hp;exact⟨(hs.2 p.1 ne).trans e,n,ne,nf,d⟩
 ·have hfn:X.fn x=true:=by
   rcases hf with z|z
   ·exact z
   ·rw[z]at hk;cases hk
  obtain⟨c,hc⟩:=I.ok.has x (.inl hk);obtain⟨w',z⟩:=I.cell x c hc;refine wpAny_storeName_cell I.ok.kind hk hc z (λh' hc' hs=>?_);obtain⟨oc,hoc,P6⟩:=id z;refine h { s with heap:=h' } ⟨I.ok,I.os,I.bare,⟨λb o e n hb hx=>?_,λb o e n hb hx=>?_,I.base.free,λb o e hx=>?_,I.base.tups,I.base.kW,I.base.kY⟩,⟨m,hn.sameBut hs (cY (l9 x c hc)),λj y v' e1 e2 e3=>?_⟩,λy c' e=>?_,I.free,I.i5,λp hp=>?_,tracked ⟨oc,hoc,I.i5 x c hc⟩ hs,by simpa using I.len⟩ ⟨c,hs,.inr hc⟩
  ·exact(hs.2 b (fV (fU (bZ e) (I.ok.cab x c hfn hc)))).trans (I.base.keep b o e n hb hx)
  ·obtain⟨sl,e1⟩:=I.base.slot b o e n hb hx;exact⟨sl,(hs.2 b (fV (fU (bZ e) (I.ok.cab x c hfn hc)))).trans e1⟩
  ·obtain⟨o',e1⟩:=I.base.there b o e hx;exact⟨o',(hs.2 b (fV (fU (bZ e) (I.ok.cab x c hfn hc)))).trans e1⟩
  ·by_cases hj:j=i
   ·subst hj;rw[hi]at e1;cases e1;rw[jo hiσ]at e2;cases e2;exact⟨u,r,.inr ⟨.inl hk,c,hc,hc'⟩⟩
   ·rw[eE (cY hj)]at e2;obtain⟨u',r',q⟩:=hl j y v' e1 e2 e3;refine⟨u',r',?_⟩;rcases q with q|⟨k,c',e,z'⟩
    ·exact .inl q
    ·refine .inr ⟨k,c',e,z'.sameBut hs ?_⟩;rintro rfl;exact hj (EA hN e1 (I.ok.inj _ _ _ e hc ▸ hi))
  ·by_cases hcc:c'=c
   ·subst hcc;exact⟨_,hc'⟩
   ·obtain⟨w2,z2⟩:=I.cell y c' e;exact⟨w2,z2.sameBut hs hcc⟩
  ·obtain⟨e,n,ne,nf,d⟩:=I.pin p hp;refine⟨(hs.2 p.1 ?_).trans e,n,ne,nf,d⟩;intro q;rw[q,hoc]at e;have q':oc=p.2:=fh e;exact d w' (by rw[<- q'];exact P6)
theorem Fl{M:Model}{A:bN}{E:ah->aw->Prop}{i:Nat}{x:Str}{v:V}{u:ah}{Q:Unit->aw->Prop}(I:Inv X af σ H s)(hN:X.N.Nodup)(hi:X.N[i]? = ab x)(hx:Loc X.env.scope x)(r:RelV v u)
 (h:∀s',Inv X af (σ.set i (ab v)) H s'->Q () s') (hf:X.fn x=true\/X.env.scope.names.lookup x=ab .local:=by first|exact .inl rfl|exact .inr rfl|assumption):wpAny M A (storeName X.env x u) Q E s:=
 EY I hN hi hx r (λs' I' _=>h s' I') hf
theorem Inv.call'{s':aw}{ch:List ag}(I:Inv X af σ H s)(ho:s'.os=s.os)(u:Un (frs X.stack) ch H H' s.heap s'.heap)(hok:cQ X.prog X.w H' s'.heap)(hg:mY s'.gens)
 (hch:∀b∈ch,(b∈X.ex\/X.s₀.heap.objs.size<=b)/\b≠X.env.locals/\(∀x c,X.env.cells.lookup x=ab c->c≠b)/\∀p∈X.pn++af,p.1≠b):Inv X af σ H' s':=by
 obtain⟨h',g',d',t',o'⟩:=s';have e:o'=s.os:=ho;subst e;exact I.call (g':=g') (t':=t') (d':=d') u hok hg hch
end
abbrev XK:=ah->Option ag->Hp->Prop
abbrev St:=List (Option V)
abbrev VK:=V->Hp->Prop
abbrev TE:=St->Hp->VK->Prop
abbrev TT:=St->Hp->(Bool->Hp->Prop)->Prop
abbrev TA:=St->Hp->(List V->Hp->Prop)->Prop
structure Ends where
 nx:St->Hp->Prop
 rt:VK
 bk:St->Hp->Prop:=λ_ _=>False
 ct:St->Hp->Prop:=λ_ _=>False
abbrev TS:=Ends->St->Hp->Prop
def EP(X:Cx)(af:List (ag×Obj))(σ:St)(Q:VK)(u:ah)(s':aw):Prop:=∃v H',Inv X af σ H' s'/\RelV v u/\Q v H'
def TP(X:Cx)(af:List (ag×Obj))(σ:St)(Q:Bool->Hp->Prop)(b:Bool)(s':aw):Prop:=∃H',Inv X af σ H' s'/\Q b H'
def AP(X:Cx)(af:List (ag×Obj))(σ:St)(Q:List V->Hp->Prop)(us:List ah)(s':aw):Prop:=∃vs H',Inv X af σ H' s'/\Vals vs us/\Q vs H'
def SP(X:Cx)(af:List (ag×Obj))(D:Ends)(f:Flow)(s':aw):Prop:=
 match f with
 |.next=>∃σ' H',Inv X af σ' H' s'/\D.nx σ' H'
 |.brk=>∃σ' H',Inv X af σ' H' s'/\D.bk σ' H'
 |.cont=>∃σ' H',Inv X af σ' H' s'/\D.ct σ' H'
 |.ret u=>∃v σ' H',Inv X af σ' H' s'/\RelV v u/\D.rt v H'
def PE(X:Cx)(e:aY)(t:TE):Prop:=∀(af:List (ag×Obj)) (s:aw) (σ:St) (H:Hp) (Q:VK),Inv X af σ H s->t σ H Q->wpAny (model X.prog X.w) X.A (eval e X.env) (EP X af σ Q) X.xe s
def PT(X:Cx)(e:aY)(t:TT):Prop:=∀(af:List (ag×Obj)) (s:aw) (σ:St) (H:Hp) (Q:Bool->Hp->Prop),Inv X af σ H s->t σ H Q->wpAny (model X.prog X.w) X.A (isTrue e X.env (eval e X.env)) (TP X af σ Q) X.xe s
def PW(X:Cx)(e:aY)(t:TT):Prop:=∀(whole:Sem ah) (af:List (ag×Obj)) (s:aw) (σ:St) (H:Hp) (Q:Bool->Hp->Prop),Inv X af σ H s->t σ H Q->wpAny (model X.prog X.w) X.A (isTrue e X.env whole) (TP X af σ Q) X.xe s
theorem PW.pt{X:Cx}{e:aY}{t:TT}(h:PW X e t):PT X e t:=h _
def PA(X:Cx)(es:List aY)(t:TA):Prop:=∀(pos:Pos) (af:List (ag×Obj)) (s:aw) (σ:St) (H:Hp) (Q:List V->Hp->Prop),Inv X af σ H s->t σ H Q->wpAny (model X.prog X.w) X.A (spliced (backTo pos (starEach es X.env))) (AP X af σ Q) X.xe s
def PS(X:Cx)(st:bw)(t:TS):Prop:=∀(af:List (ag×Obj)) (s:aw) (σ:St) (H:Hp) (D:Ends),Inv X af σ H s->t D σ H->wpAny (model X.prog X.w) X.A (exec st X.env) (SP X af D) X.xe s
def fX(X:Cx)(st:List bw)(t:TS):Prop:=∀(af:List (ag×Obj)) (s:aw) (σ:St) (H:Hp) (D:Ends),Inv X af σ H s->t D σ H->wpAny (model X.prog X.w) X.A (execs st X.env) (SP X af D) X.xe s
theorem aZ{α:Type}{t:Sem α}{Q Q':α->aw->Prop}{M:Model}{A:bN}{E:ah->aw->Prop}{s:aw}(h:wpAny M A t Q E s)(hQ:∀a s,Q a s->Q' a s):wpAny M A t Q' E s:=iX h hQ λ_ _ x=>x
section
variable{X:Cx}
def dB(i:Nat):TE:=λσ H Q=>∃v,σ[i]? = ab (ab v)/\Q v H
def tC(v:V):TE:=λ_ H Q=>Q v H
theorem Oo{i:Nat}{x:Str}{pos:Pos}(hN:X.N[i]? = ab x)(hv:rQ X.env.scope x)(hd:(x==("__debug__" : Str))=false:=by decide)(hcd:(x==("__classdict__" : Str))=false:=by decide):PE X (.Name x pos) (dB i):=by
 intro af s σ H Q I h;obtain⟨v,e,h⟩:=h;obtain⟨m,hn,hl⟩:=I.loc;obtain⟨u,r,l⟩:=hl i x v hN e hv;have fin:EP X af σ Q u s:=⟨v,H,I,r,h⟩;rcases l with ⟨hk,hm⟩|⟨hk,c,hc,hcell⟩
 ·exact wpAny_Name (wpAny_loadName_local I.ok.kind hk hn hm fin) hd
 ·rcases hk with hk|hk
  ·exact wpAny_Name (wpAny_loadName_cell I.ok.kind hk hc hcell fin) hd
  ·exact wpAny_Name (wpAny_loadName_free I.ok.kind hk hc hcell fin hcd) hd
theorem aF{i j pos}:PE X (.Constant (.int i) j pos) (tC (.int i)):=λ_ _ _ H _ I h=>wpAny_Constant_int ⟨.int i,H,I.tok _,⟨_,rfl⟩,h⟩
theorem eP{b j pos}:PE X (.Constant (.bool b) j pos) (tC (.bl b)):=λ_ _ _ H _ I h=>Constant_bool ⟨.bl b,H,I,rfl,h⟩
theorem sZ{j pos}:PE X (.Constant .none j pos) (tC .non):=λ_ _ _ H _ I h=>Constant_none ⟨.non,H,I,rfl,h⟩
theorem xI{x j pos}:PE X (.Constant (.str x) j pos) (tC (.str x)):=λ_ _ _ H _ I h=>Calls.Constant_str ⟨.str x,H,I.tok _,⟨_,rfl⟩,h⟩
def Gl(X:Cx)(x:Str):Prop:=X.env.kindOf x=ab .globalImplicit
theorem EJ{E:ah->aw->Prop}{af:List (ag×Obj)}{s:aw}{σ:St}{H:Hp}{x:Str}{u:ah}{pos:Pos}{Q:ah->aw->Prop}(I:Inv X af σ H s)(hg:Gl X x)(hm:X.mg x=ab u)(h:Q u s)
 (hd:(x==("__debug__" : Str))=false:=by decide):wpAny (model X.prog X.w) X.A (eval (.Name x pos) X.env) Q E s:=
 G7 I.ok.kind hg (Calls.loadGlobal_global (by rw[I.ok.glob];exact I.mod.glob.keeps I.bk) hm h) hd
theorem lY{E:ah->aw->Prop}{af:List (ag×Obj)}{s:aw}{σ:St}{H:Hp}{x:Str}{u:ah}{pos:Pos}{Q:ah->aw->Prop}(I:Inv X af σ H s)(hg:Gl X x)(hm:X.mg x=ac)(hv:bootBuiltins x=ab u)(h:Q u s)
 (hn:x ≠ "__name__" := by decide) (hd:(x==("__debug__" : Str))=false:=by decide):wpAny (model X.prog X.w) X.A (eval (.Name x pos) X.env) Q E s:=by
 obtain⟨mb,h1,h2⟩:=I.mod.blt;exact G7 I.ok.kind hg (Calls.loadGlobal_builtin (by rw[I.ok.glob];exact I.mod.glob.keeps I.bk) hm (by rw[I.ok.blt];exact h1.keeps I.bk) ((h2 x hn).trans hv) h) hd
theorem PH{x:Str}{v:V}{u:ah}{pos:Pos}(hg:Gl X x)(hm:X.mg x=ac)(hv:bootBuiltins x=ab u)(r:RelV v u)(hn:x ≠ "__name__" := by decide)(hd:(x==("__debug__" : Str))=false:=by decide):PE X (.Name x pos) (tC v):=λ_ _ _ H _ I h=>lY I hg hm hv ⟨v,H,I,r,h⟩ hn hd
variable{a b:aY}{ta tb:TE}{pos:Pos}
def PC(X:Cx)(op:CmpOp)(a b:aY)(t:TE):Prop:=
 ∀(af:List (ag×Obj)) (s:aw) (σ:St) (H:Hp) (Q:VK),Inv X af σ H s->t σ H Q ->
  wpAny (model X.prog X.w) X.A (eval a X.env) (λv s₁=>wpAny (model X.prog X.w) X.A (eval b X.env) (λu s₂=>wpAny (model X.prog X.w) X.A (compareOp op v u) (EP X af σ Q) X.xe s₂) X.xe s₁) X.xe s
def tB(t:TE):TT:=λσ H Q=>t σ H λx H1=>∃c,x=.bl c/\Q c H1
theorem vp{op:CmpOp}{t:TE}(h:PC X op a b t)(h1:behindInMarks op b=false:=by first|exact Qx _ (by decide) (by decide)|rfl):PT X (.Compare a [op] [b] pos) (tB t):=by intro af s σ H Q I hw;refine wpAny_isTrue_Compare1 (aZ (h af s σ H _ I hw) λv s1 h1=>aZ h1 λu s2 h2=>aZ h2 λc s3 ⟨x,H1,I1,r1,q1⟩=>?_) h1;obtain⟨d,rfl,q⟩:=q1;cases r1;exact oq ⟨H1,I1,q⟩
theorem iw{e:aY}{t:TE}(h:PE X e t)(he:∀whole,isTrue e X.env whole=(do let v <- whole;standAt e.pos;holding [v] (truthy v)):=by intro _;rfl):PT X e (tB t):=by intro af s σ H Q I hw;refine isTrue_plain (aZ (h af s σ H _ I hw) λv s1 ⟨x,H1,I1,r1,q1⟩=>?_) (he _);obtain⟨d,rfl,q⟩:=q1;cases r1;exact oq ⟨H1,I1,q⟩
variable{tA tB':TT}{rest:List aY}
def CM(t u:TT):TT:=λσ H Q=>t σ H λc H1=>if c=true then u σ H1 Q else Q false H1
def Cb(t u:TT):TT:=λσ H Q=>t σ H λc H1=>if c=true then Q true H1 else u σ H1 Q
def Bo(t:TT):TT:=λσ H Q=>t σ H λc H1=>Q (!c) H1
theorem pw_and1(ha:PT X a tA):PW X (.BoolOp .And [a] pos) tA:=by
 intro wh af s σ H Q I h;refine isTrue_and (aZ (ha af s σ H Q I h) λc s1 e=>?_);cases c with
 |true=>exact isTrue_and_nil e
 |false=>exact e
theorem pw_or1(ha:PT X a tA):PW X (.BoolOp .Or [a] pos) tA:=by
 intro wh af s σ H Q I h;refine isTrue_or (aZ (ha af s σ H Q I h) λc s1 e=>?_);cases c with
 |false=>exact isTrue_or_nil e
 |true=>exact e
theorem pw_and(ha:PT X a tA)(hb:PW X (.BoolOp .And (b::rest) pos) tB'):PW X (.BoolOp .And (a::b::rest) pos) (CM tA tB'):=by
 intro wh af s σ H Q I h;refine isTrue_and (aZ (ha af s σ H _ I h) λc s1 ⟨H1,I1,q1⟩=>?_);cases c with
 |true=>exact hb wh af s1 σ H1 Q I1 q1
 |false=>exact⟨H1,I1,q1⟩
theorem pw_or(ha:PT X a tA)(hb:PW X (.BoolOp .Or (b::rest) pos) tB'):PW X (.BoolOp .Or (a::b::rest) pos) (Cb tA tB'):=by
 intro wh af s σ H Q I h;refine isTrue_or (aZ (ha af s σ H _ I h) λc s1 ⟨H1,I1,q1⟩=>?_);cases c with
 |true=>exact⟨H1,I1,q1⟩
 |false=>exact hb wh af s1 σ H1 Q I1 q1
theorem iQ(ha:PT X a tA):PT X (.UnaryOp .Not a pos) (Bo tA):=by intro af s σ H Q I h;exact isTrue_not (ha af s σ H (λc H1=>Q (!c) H1) I h)
def Fq(ta tb:TE):TE:=λσ H Q=>ta σ H λx H1=>∃c,x=.bl c/\if c=true then tb σ H1 Q else Q (.bl false) H1
def Dy(ta tb:TE):TE:=λσ H Q=>ta σ H λx H1=>∃c,x=.bl c/\if c=true then Q (.bl true) H1 else tb σ H1 Q
theorem DZ{op}{t:TE}(h:PE X a t):PE X (.BoolOp op [a] pos) t:=λaf s σ H Q I hw=>BoolOp_one (h af s σ H Q I hw)
theorem Ko(ha:PE X a ta)(hb:PE X (.BoolOp .And (b::rest) pos) tb):PE X (.BoolOp .And (a::b::rest) pos) (Fq ta tb):=by
 intro af s σ H Q I h;refine BoolOp_and (aZ (ha af s σ H _ I h) λv s1 ⟨x,H1,I1,r1,q1⟩=>?_);obtain⟨c,rfl,q1⟩:=q1;cases r1;refine oq ?_;cases c with
 |true=>exact hb af s1 σ H1 Q I1 q1
 |false=>exact⟨.bl false,H1,I1,rfl,q1⟩
theorem MR(ha:PE X a ta)(hb:PE X (.BoolOp .Or (b::rest) pos) tb):PE X (.BoolOp .Or (a::b::rest) pos) (Dy ta tb):=by
 intro af s σ H Q I h;refine BoolOp_or (aZ (ha af s σ H _ I h) λv s1 ⟨x,H1,I1,r1,q1⟩=>?_);obtain⟨c,rfl,q1⟩:=q1;cases r1;refine oq ?_;cases c with
 |false=>exact hb af s1 σ H1 Q I1 q1
 |true=>exact⟨.bl true,H1,I1,rfl,q1⟩
def DQ(t:TT)(ta tb:TE):TE:=λσ H Q=>t σ H λc H1=>if c=true then ta σ H1 Q else tb σ H1 Q
theorem y4{c:aY}(hc:PT X c tA)(ha:PE X a ta)(hb:PE X b tb):PE X (.IfExp c a b pos) (DQ tA ta tb):=by
 intro af s σ H Q I h;refine wpAny_IfExp (aZ (hc af s σ H _ I h) λd s1 ⟨H1,I1,q1⟩=>?_);cases d with
 |true=>exact ha af s1 σ H1 Q I1 q1
 |false=>exact hb af s1 σ H1 Q I1 q1
end
def da(K:aP)(H:Hp)(a:ag)(xs:List V):Prop:=
 Rd H a (.lst xs) \/
  ∃(o:Obj) (aq:Array ah) (n:Nat),K.lookup a=ab o/\o.cls=.type "list" /\ o.dict=ac/\o.data=.seq aq n/\aq.size<=sizeLine/\Vals xs aq.toList
def eU(K:aP)(H:Hp)(a:ag)(xs:List V):Prop:=
 Rd H a (.tup xs) \/
  ∃(o:Obj) (aq:Array ah) (n:Nat),K.lookup a=ab o/\o.cls=.type "tuple" /\ o.data=.seq aq n/\aq.size<=sizeLine/\Vals xs aq.toList
def Jq:ah->Option V
 |.none=>ab .non
 |.bool b=>ab (.bl b)
 |.int i _=>ab (.int i)
 |.str x _=>ab (.str x)
 |.bytes b _=>ab (.byt b)
 |.float b _=>ab (.flt b)
 |.ref a=>ab (.ref a)
 |.type n=>ab (.ty n)
 |_=>ac
theorem RelV.abs{x:V}{u:ah}(r:RelV x u):Jq u=ab x:=by
 cases x with
 |non=>cases r;rfl
 |bl _=>cases r;rfl
 |int _=>obtain⟨t,rfl⟩:=r;rfl
 |str _=>obtain⟨t,rfl⟩:=r;rfl
 |byt _=>obtain⟨t,rfl⟩:=r;rfl
 |flt _=>obtain⟨t,rfl⟩:=r;rfl
 |ref _=>cases r;rfl
 |ty _=>cases r;rfl
theorem RelV.inj{x y:V}{u:ah}(r:RelV x u)(q:RelV y u):x=y:=fh (r.abs.symm.trans q.abs)
theorem Vals.inj:∀{xs ys:List V} {us:List ah},Vals xs us->Vals ys us->xs=ys
 |_,_,_,.nil,.nil=>rfl
 |_,_,_,.cons r t,.cons r' t'=>by rw[r.inj r',Vals.inj t t']
section
variable{X:Cx}{af:List (ag×Obj)}{σ:St}{H:Hp}{s:aw}{a:ag}{xs ys:List V}
theorem Inv.list(I:Inv X af σ H s)(h:da X.K H a xs):∃aq:List ah,Vals xs aq/\PlainL s.heap a aq.toArray/\xs.length<=sizeLine:=by
 rcases h with h|⟨o,aq,n,hk,hc,hd,hs,hz,r⟩
 ·obtain⟨z,aq,n,r,e⟩:=h.ok I.hok;exact⟨aq,r,⟨_,n,e,rfl,rfl,rfl⟩,z⟩
 ·refine⟨aq.toList,r,⟨o,n,I.fj a o hk,hc,hd,by simpa using hs⟩,?_⟩;have e:=r.length;simp only[tR]at e;omega
theorem Inv.tuple(I:Inv X af σ H s)(h:eU X.K H a xs):∃aq:List ah,Vals xs aq/\IsTup s.heap a aq.toArray/\xs.length<=sizeLine:=by
 rcases h with h|⟨o,aq,n,hk,hc,hs,hz,r⟩
 ·obtain⟨z,aq,r,p⟩:=h.ok I.hok;exact⟨aq,r,p.tup,z⟩
 ·refine⟨aq.toList,r,⟨o,I.fj a o hk,hc,n,by simpa using hs⟩,?_⟩;have e:=r.length;simp only[tR]at e;omega
theorem Inv.uR(I:Inv X af σ H s)(h:da X.K H a xs)(h':da X.K H a ys):xs=ys:=by
 obtain⟨aq,r,⟨o,n,e,_,_,d⟩,_⟩:=I.list h;obtain⟨its',r',⟨o',n',e',_,_,d'⟩,_⟩:=I.list h';rw[e]at e';cases e';rw[d]at d';injection d' with d1 _;have:aq=its':=by simpa using congrArg Array.toList d1
 subst this;exact r.inj r'
theorem Inv.wJ(I:Inv X af σ H s)(h:eU X.K H a xs)(h':eU X.K H a ys):xs=ys:=by
 obtain⟨aq,r,⟨o,e,_,n,d⟩,_⟩:=I.tuple h;obtain⟨its',r',⟨o',e',_,n',d'⟩,_⟩:=I.tuple h';rw[e]at e';cases e';rw[d]at d';injection d' with d1 _;have:aq=its':=by simpa using congrArg Array.toList d1
 subst this;exact r.inj r'
end
abbrev Cx.wish(X:Cx)(E:ah->aw->Prop):Cx:={ X with xe:=E }
abbrev Cx.km(X:Cx):Cx:=X.wish λ_ _=>False
theorem Cx.Ok.wish{X:Cx}(ok:X.Ok)(E:ah->aw->Prop):(X.wish E).Ok:=⟨ok.mod,ok.kind,ok.glob,ok.blt,ok.above,ok.inj,ok.has,ok.cab,ok.hd,ok.frames,ok.stk,ok.exf,ok.bs,ok.bsz,ok.tW,ok.wB,ok.iS,ok.frf⟩
theorem Cx.Ok.mz{X:Cx}{E:ah->aw->Prop}(ok:(X.wish E).Ok):X.Ok:=⟨ok.mod,ok.kind,ok.glob,ok.blt,ok.above,ok.inj,ok.has,ok.cab,ok.hd,ok.frames,ok.stk,ok.exf,ok.bs,ok.bsz,ok.tW,ok.wB,ok.iS,ok.frf⟩
section
variable{X:Cx}{af:List (ag×Obj)}{σ:St}{H:Hp}{s:aw}{E:ah->aw->Prop}
theorem Inv.wish(I:Inv X af σ H s)(E:ah->aw->Prop):Inv (X.wish E) af σ H s:=⟨I.ok.wish E,I.os,I.bare,I.base,I.loc,I.cell,I.free,I.i5,I.pin,I.hok,I.len⟩
theorem Inv.mz(I:Inv (X.wish E) af σ H s):Inv X af σ H s:=⟨I.ok.mz,I.os,I.bare,I.base,I.loc,I.cell,I.free,I.i5,I.pin,I.hok,I.len⟩
theorem SP.mz{D:Ends}{f:Flow}{s':aw}(h:SP (X.wish E) af D f s'):SP X af D f s':=by
 cases f with
 |next=>obtain⟨σ',H',I,q⟩:=h;exact⟨σ',H',I.mz,q⟩
 |brk=>obtain⟨σ',H',I,q⟩:=h;exact⟨σ',H',I.mz,q⟩
 |cont=>obtain⟨σ',H',I,q⟩:=h;exact⟨σ',H',I.mz,q⟩
 |ret u=>obtain⟨v,σ',H',I,r,q⟩:=h;exact⟨v,σ',H',I.mz,r,q⟩
theorem fX.km{st:List bw}{t:TS}(h:fX X.km st t):fX X st t:=λaf s σ H D I hw=>
 iX (h af s σ H D (I.wish _) hw) (λ_ _ q=>q.mz) λ_ _ z=>hV z
end
section
variable{X:Cx}{st:bw}{rest:List bw}{t u:TS}{e:aY}{te:TE}{pos:Pos}
def tp:TS:=λD σ H=>D.nx σ H
def ku(t u:TS):TS:=λD σ H=>t { D with nx:=u D } σ H
theorem dD:fX X [] tp:=λ_ _ σ H _ I h=>v5 ⟨σ,H,I,h⟩
theorem aV(h1:PS X st t)(h2:fX X rest u):fX X (st::rest) (ku t u):=by
 intro af s σ H D I h;refine wpAny_execs_cons (aZ (h1 af s σ H { D with nx:=u D } I h) λf s1 q=>?_);cases f with
 |next=>
  obtain⟨σ',H',I',q⟩:=q;exact h2 af s1 σ' H' D I' q
 |ret v=>exact q
 |brk=>exact q
 |cont=>exact q
theorem bc(h1:PS X st t):fX X [st] t:=by
 intro af s σ H D I h;refine wpAny_execs_cons (aZ (h1 af s σ H D I h) λf s1 q=>?_);cases f with
 |next=>exact v5 q
 |ret v=>exact q
 |brk=>exact q
 |cont=>exact q
theorem Inv.quiet{af:List (ag×Obj)}{σ:St}{H:Hp}{s:aw}(I:Inv X af σ H s):interactive X.env=false:=by simp[interactive,I.ok.kind]
def lw(te:TE):TS:=λD σ H=>te σ H λ_ H1=>D.nx σ H1
theorem eR(he:PE X e te)(hs:swapsWith e ac pos.line X.env=pure false:=by rfl):PS X (.Expr e pos) (lw te):=by intro af s σ H D I h;exact wpAny_Expr_any (aZ (he af s σ H _ I h) λv s1 ⟨x,H1,I1,r1,q1⟩=>⟨σ,H1,I1,q1⟩) I.quiet hs
def pJ(te:TE):TS:=λD σ H=>te σ H D.rt
theorem bT(he:PE X e te):PS X (.Return (ab e) pos) (pJ te):=by intro af s σ H D I h;exact wpAny_Return_some (aZ (he af s σ H _ I h) λv s1 ⟨x,H1,I1,r1,q1⟩=>⟨x,σ,H1,I1,r1,q1⟩)
def qX(c:TT)(t u:TS):TS:=λD σ H=>c σ H λb H1=>if b=true then t D σ H1 else u D σ H1
theorem dy{c:aY}{a b:List bw}{tc:TT}(hc:PT X c tc)(ha:fX X a t)(hb:fX X b u):PS X (.If c a b pos) (qX tc t u):=by
 intro af s σ H D I h;refine wpAny_If (aZ (hc af s σ H _ I h) λd s1 ⟨H1,I1,q1⟩=>?_);cases d with
 |true=>exact ha af s1 σ H1 D I1 q1
 |false=>exact hb af s1 σ H1 D I1 q1
def E1:TS:=λ_ _ _=>False
theorem Ge:PS X st E1:=λ_ _ _ _ _ _ h=>h.elim
end
abbrev TG:=V->St->Hp->(St->Hp->Prop)->Prop
abbrev ii:=List V->St->Hp->(St->Hp->Prop)->Prop
def PG(X:Cx)(target:aY)(t:TG):Prop:=
 ∀(af:List (ag×Obj)) (s:aw) (σ:St) (H:Hp) (v:V) (u:ah) (Q:St->Hp->Prop),Inv X af σ H s->RelV v u->t v σ H Q ->
  wpAny (model X.prog X.w) X.A (assign target X.env u) (λ_ s'=>∃σ' H',Inv X af σ' H' s'/\Q σ' H') X.xe s
def rn(X:Cx)(ts:List aY)(t:ii):Prop:=
 ∀(af:List (ag×Obj)) (s:aw) (σ:St) (H:Hp) (vs:List V) (us:List ah) (Q:St->Hp->Prop),Inv X af σ H s->Vals vs us->t vs σ H Q ->
  wpAny (model X.prog X.w) X.A (assignInOrder ((assignEach ts X.env).map (·.2)) us) (λ_ s'=>∃σ' H',Inv X af σ' H' s'/\Q σ' H') X.xe s
abbrev yu:=V->V->V->Hp->(Hp->Prop)->Prop
def DX(X:Cx)(t:yu):Prop:=
 ∀(af:List (ag×Obj)) (s:aw) (σ:St) (H:Hp) (o i v:V) (ov iv u:ah) (Q:Hp->Prop),Inv X af σ H s->RelV o ov->RelV i iv->RelV v u->t o i v H Q ->
  wpAny (model X.prog X.w) X.A (setItem ov iv u) (λ_ s'=>∃H',Inv X af σ H' s'/\Q H') X.xe s
section
variable{X:Cx}{pos:Pos}
def eS(i:Nat):TG:=λv σ H Q=>Q (σ.set i (ab v)) H
theorem d5{i:Nat}{x:Str}(hN:X.N.Nodup)(hi:X.N[i]? = ab x)(hx:Loc X.env.scope x)(hf:X.fn x=true\/X.env.scope.names.lookup x=ab .local:=by first|exact .inl rfl|exact .inr rfl|assumption):PG X (.Name x pos) (eS i):=by intro af s σ H v u Q I r h;exact wpAny_assign_Name (Fl I hN hi hx r (λs' I'=>⟨_,H,I',h⟩) hf)
def sK:ii:=λvs σ H Q=>vs=[]/\Q σ H
def rW(t:TG)(u:ii):ii:=λvs σ H Q=>∃v r,vs=v::r/\t v σ H λσ' H'=>u r σ' H' Q
theorem jx:rn X [] sK:=by intro af s σ H vs us Q I r h;obtain⟨e,h⟩:=h;subst e;cases r;exact assignInOrder_nil ⟨σ,H,I,h⟩
theorem eo{e:aY}{es:List aY}{t:TG}{u:ii}(h1:PG X e t)(h2:rn X es u)
 (hs:(assignEach (e::es) X.env).map (·.2)=assign e X.env::(assignEach es X.env).map (·.2):=by rfl):rn X (e::es) (rW t u):=by
 intro af s σ H vs us Q I r h;obtain⟨v,vr,e1,h⟩:=h;subst e1;cases r with
 |cons r rr=>
  rw[hs];refine assignInOrder_cons (aZ (h1 af s σ H _ _ _ I r h) λ_ s1 ⟨σ1,H1,I1,q1⟩=>?_);exact h2 af s1 σ1 H1 _ _ Q I1 rr q1
def yQ(K:aP)(n:Nat)(t:ii):TG:=λv σ H Q=>∃a xs,v=.ref a/\eU K H a xs/\xs.length=n/\t xs σ H Q
theorem kD{es:List aY}{k:Nat}{t:ii}{n:Nat}(hc:X.calm=true)(h:rn X es t)
 (hn:(assignEach es X.env).length=n:=by rfl) (hst:(assignEach es X.env).findIdx? (·.1)=ac:=by rfl):PG X (.Tuple es k pos) (yQ X.K n t):=by
 intro af s σ H v u Q I r hw;obtain⟨a,xs,e1,hq,hl,hw⟩:=hw;subst e1;cases r;obtain⟨aq,rv,ht,hz⟩:=I.tuple hq;refine assign_Tuple_tuple (I.ok.hd hc) ht (by simp[hn,<- hl,rv.length]) hst λh' hx=>?_;have I1:Inv X af σ H { s with heap:=h' }:=I.kept (t':=s.toks) λb o e=>hx b o (fV (bZ e)) e;exact h af _ σ H xs _ Q I1 (by simpa using rv) hw
def BF(to ti:TE)(t:yu):TG:=λv σ H Q=>to σ H λo H1=>ti σ H1 λi H2=>t o i v H2 λH3=>Q σ H3
theorem Iq{o i:aY}{to ti:TE}{t:yu}(ho:PE X o to)(hi:PE X i ti)(hs:DX X t)
 (ha:∀v,assign (.Subscript o i pos) X.env v=(do
  let ov <- holding [v] (eval o X.env);let iv <- holding [v,ov] (eval i X.env)
  standAt pos
  holding [v,ov,iv] (setItem ov iv v)
  release [v,ov,iv] []):=by intro _;rfl):PG X (.Subscript o i pos) (BF to ti t):=by
 intro af s σ H v u Q I r h;rw[ha];refine aH (kR (aZ (ho af s σ H _ I h) λov s1 ⟨x,H1,I1,r1,q1⟩=>?_));refine aH (kR (aZ (hi af s1 σ H1 _ I1 q1) λiv s2 ⟨y,H2,I2,r2,q2⟩=>?_));refine aH (v8 (aH (kR (aZ (hs af s2 σ H2 x y v ov iv u _ I2 r1 r2 r q2) λ_ s3 ⟨H3,I3,q3⟩=>?_))));exact wpAny_release ⟨σ,H3,I3,q3⟩
def gI(te:TE)(g:TG):TS:=λD σ H=>te σ H λx H1=>g x σ H1 D.nx
theorem oJ{tg e:aY}{te:TE}{g:TG}(he:PE X e te)(hg:PG X tg g)(hs:swapsWithSole [tg] e pos.line X.env=pure false:=by rfl)(hw:swappedStores [tg] e X.env=pure ac:=by rfl)
 (h1:(assignEach [tg] X.env).map (·.2)=[assign tg X.env]:=by rfl):PS X (.Assign [tg] e pos) (gI te g):=by
 intro af s σ H D I h;refine wpAny_Assign_stores (aZ (he af s σ H _ I h) λv s1 ⟨x,H1,I1,r1,q1⟩=>?_) hs hw;rw[h1];exact aZ (hg af s1 σ H1 x v _ I1 r1 q1) λ_ s2 q=>q
theorem nQ{i:Nat}{x:Str}{e:aY}{te:TE}{pos':Pos}(hN:X.N.Nodup)(hi:X.N[i]? = ab x)(hx:Loc X.env.scope x)(he:PE X e te)(hs:swapsWith e (ab (.Name x pos')) pos.line X.env=pure false:=by rfl)(hf:X.fn x=true\/X.env.scope.names.lookup x=ab .local:=by first|exact .inl rfl|exact .inr rfl|assumption) :
 PS X (.Assign [.Name x pos'] e pos) (gI te (eS i)):=by
 intro af s σ H D I h;refine wpAny_Assign_Name (aZ (he af s σ H _ I h) λv s1 ⟨y,H1,I1,r1,q1⟩=>?_) hs;exact Fl I1 hN hi hx r1 (λs2 I2=>⟨_,H1,I2,q1⟩) hf
end
section
variable{X:Cx}{pos:Pos}
def Fh(c:TT)(tb:TS):TS:=λD σ H=>∃W:Nat->St->Hp->Prop,(∃m,W m σ H)/\∀m σ H,W m σ H ->
 c σ H λb H1=>if b=true then∃N:St->Hp->Prop,(∀σ' H',N σ' H'->∃m',m'<m/\W m' σ' H')/\tb { D with nx:=N,ct:=N,bk:=D.nx } σ H1 else D.nx σ H1
theorem uC{c:aY}{body:List bw}{tc:TT}{tb:TS}(hp:PassesOwn (model X.prog X.w) X.A X.env X.xe)(hc:PT X c tc)(hb:fX X body tb):PS X (.While c body [] pos) (Fh tc tb):=by
 intro af s σ H D I h;obtain⟨W,⟨m0,w0⟩,turn⟩:=h;refine wpAny_While (codeAny_whileLoop (λn s'=>∃σ' H',Inv X af σ' H' s'/\W n σ' H') ?_ m0 ⟨σ,H,I,w0⟩);rintro n s1 ⟨σ1,H1,I1,w1⟩;refine ot hp (aZ (hc af s1 σ1 H1 _ I1 (turn n σ1 H1 w1)) λb s2 ⟨H2,I2,q2⟩=>?_);cases b with
 |true=>
  obtain⟨N,hN,q2⟩:=q2;rw[a9 rfl];refine ot hp (aZ (hb af s2 σ1 H2 _ I2 q2) λf s3 q3=>?_);cases f with
  |next=>
   obtain⟨σ3,H3,I3,n3⟩:=q3;obtain⟨m',hm,w3⟩:=hN σ3 H3 n3;exact⟨m',hm,σ3,H3,I3,w3⟩
  |cont=>
   obtain⟨σ3,H3,I3,n3⟩:=q3;obtain⟨m',hm,w3⟩:=hN σ3 H3 n3;exact⟨m',hm,σ3,H3,I3,w3⟩
  |brk=>exact q3
  |ret v=>exact q3
 |false=>
  rw[ba c8];exact v5 ⟨σ1,H2,I2,q2⟩
end
structure It where
 go:Nat->Hp->Prop
 yld:Nat->Hp->V->Hp->Prop
 stop:Nat->Hp->Prop
def gA(X:Cx)(af:List (ag×Obj))(H:Hp)(b:ag):Prop:=H b=ac/\b≠X.env.locals/\b∉X.fs/\(b∈X.ex\/X.s₀.heap.objs.size<=b)/\(∀x c,X.env.cells.lookup x=ab c->c≠b)/\∀p∈X.pn++af,p.1≠b
theorem Inv.gy{X:Cx}{af:List (ag×Obj)}{σ:St}{H H':Hp}{s:aw}{b:ag}(I:Inv X af σ H s)(hb:s.heap.objs.size<=b)(hn:H' b=ac):gA X af H' b:=by
 refine⟨hn,oy (fU I.lt hb),I.Pp hb,.inr (eK I.sz hb),λx c e z=>?_,λp hp z=>?_⟩
 ·obtain⟨v,q⟩:=I.cell x c e;exact absurd (fU q.lt (by rw[z];exact hb)) (jp _)
 ·exact absurd (fU (bZ (I.pin p hp).1) (by rw[z];exact hb)) (jp _)
structure Turn(P:br)(w:bd)(K:aP)(tg:aY)(J:It)(fp:List ag)(it:ag)(tn:Nat->aR->Prop):Prop where
 mem:it∈fp
 obj:∀i h,tn i h->∀b∈fp,∃o,h.get? b=ab o/\∀v,o.data≠.cell v
 keep:∀i h h',tn i h->(∀b∈fp,∀o,h.get? b=ab o->h'.get? b=ab o)->tn i h'
 item:∀(X:Cx),X.prog=P->X.w=w->X.K=K->X.calm=true->∀(i:Nat) (af:List (ag×Obj)) (s:aw) (σ:St) (H:Hp) (E:ah->aw->Prop),Inv X af σ H s->(∀b∈fp,gA X af H b)->tn i s.heap->J.go i H ->
  wpAny (model P w) X.A (pyNext (.ref it)) (λr s1=>∃u,r=ab u /\
   wpAny (model P w) X.A (letOwnedTupleGo tg (.ref it) u) (λ_ s2=>∃x H',Inv X af σ H' s2/\RelV x u/\J.yld i H x H'/\tn (i+1) s2.heap/\∀b∈fp,H' b=ac) E s1) E s
 done:∀(X:Cx),X.prog=P->X.w=w->X.K=K->X.calm=true->∀(i:Nat) (af:List (ag×Obj)) (s:aw) (σ:St) (H:Hp) (E:ah->aw->Prop),Inv X af σ H s->(∀b∈fp,gA X af H b)->tn i s.heap->J.stop i H ->
  wpAny (model P w) X.A (pyNext (.ref it)) (λr s1=>r=ac/\Inv X af σ H s1) E s
 self:∀(A:bN) (i:Nat) (s:aw) (Q:ah->aw->Prop) (E:ah->aw->Prop),tn i s.heap->Q (.ref it) s->wpAny (model P w) A (pyIter (.ref it)) Q E s
abbrev TI:=St->Hp->(It->Hp->Prop)->Prop
def PIE(X:Cx)(af:List (ag×Obj))(σ:St)(tg:aY)(R:It->Hp->Prop)(itv:ah)(s2:aw):Prop:=∃(it:ag) (fp:List ag) (tn:Nat->aR->Prop) (J:It) (H':Hp),itv=.ref it/\Inv X af σ H' s2/\Turn X.prog X.w X.K tg J fp it tn/\tn 0 s2.heap/\(∀b∈fp,gA X af H' b)/\R J H'
def PI(X:Cx)(tg iter:aY)(wi:TI):Prop:=
 ∀(af:List (ag×Obj)) (s:aw) (σ:St) (H:Hp) (R:It->Hp->Prop),Inv X af σ H s->wi σ H R ->
  wpAny (model X.prog X.w) X.A (eval iter X.env) (λv s1=>wpAny (model X.prog X.w) X.A (pyIter v) (PIE X af σ tg R) X.xe s1) X.xe s
theorem qS{M:Model}{A:bN}{E:ah->aw->Prop}{s:aw}{tg:aY}{it:ag}{u:ah}{o:Obj}{n:String}{vs:Array ah}{Q:Unit->aw->Prop}(ho:s.heap.get? it=ab o)(hc:o.cls=.type n)(hd:o.data=.fields vs)
 (hn:["enumerate","zip","dict_itemiterator","dict_reverseitemiterator","odict_iterator","itertools.zip_longest","itertools.pairwise"].contains n=false) (hQ:Q () s):wpAny M A (letOwnedTupleGo tg (.ref it) u) Q E s:=by
 unfold letOwnedTupleGo;cases tg<;>first
  |exact bB hQ
  | (cases u<;>first
   |exact bB hQ
   | (refine aH (wpAny_load ho ?_)
      rw[hc,hd];show wpAny M A (if(["enumerate","zip","dict_itemiterator","dict_reverseitemiterator","odict_iterator","itertools.zip_longest","itertools.pairwise"].contains n&&vs[0]? == ab (rawInt _))=true then _ else _) Q E s;rw[ba (by intro h;rw[hn,Aj]at h;cases h)];exact bB hQ))
def qQ(K:aP)(a:ag):It:=⟨λi H=>∃xs x,da K H a xs/\xs[i]? = ab x,λi H x H'=>H'=H/\∀xs,da K H a xs->xs[i]? = ab x,λi H=>∃xs,da K H a xs/\xs.length<=i⟩
def rK(K:aP)(a:ag):It:=⟨λi H=>∃xs x,eU K H a xs/\xs[i]? = ab x,λi H x H'=>H'=H/\∀xs,eU K H a xs->xs[i]? = ab x,λi H=>∃xs,eU K H a xs/\xs.length<=i⟩
def l7(lo:Int)(n:Nat):It:=⟨λi _=>i<n,λi H x H'=>H'=H/\x=.int (lo+i),λi _=>n<=i⟩
theorem I0{P:br}{w:bd}{K:aP}{tg:aY}(a it:ag):Turn P w K tg (qQ K a) [it] it (λi h=>h.IsListIter it a i) where
 mem:=by simp
 obj:=λi h st b hb=>by
  have e:b=it:=by simpa using hb
  subst e;obtain⟨o,e,c,d⟩:=st;exact⟨o,e,λv z=>by rw[d]at z;cases z⟩
 keep:=λi h h' st k=>st.at λo e=>k it (by simp) o e
 item:=by intro X hP hw hK hc i af s σ H E I hf st hg;subst hP hw hK;obtain⟨xs,x,hq,hx⟩:=hg;obtain⟨aq,rv,p,hz⟩:=I.list hq;obtain⟨u,hu,ru⟩:=rv.get hx;obtain⟨f0,f1,f2,f3,f4,f5⟩:=hf it (by simp);refine GJ st p.isList (x:=u) (by simpa using hu) λh' st' sb=>?_;have I1:Inv X af σ H { s with heap:=h' }:=I.turned (t':=s.toks) (λb o hb e=>(sb.2 b hb).trans e) f0 f1 f3 f4 f5;obtain⟨o,e,c,d⟩:=id st';exact⟨u,rfl,qS (s:={ s with heap:=h' }) e c d (by decide) ⟨x,H,I1,ru,⟨rfl,λys hy=>by rw[I.uR hy hq];exact hx⟩,st',λb hb=>(hf b hb).1⟩⟩
 done:=by intro X hP hw hK hc i af s σ H E I hf st hg;subst hP hw hK;obtain⟨xs,hq,hx⟩:=hg;obtain⟨aq,rv,p,hz⟩:=I.list hq;obtain⟨f0,f1,f2,f3,f4,f5⟩:=hf it (by simp);have hl:=rv.length;exact wpAny_pyNext_list_end (I.ok.hd hc) st p.isList (by simp;omega) λh' eb=>⟨rfl,I.turned (t':=s.toks) (λb o hb e=>eb b o hb e) f0 f1 f3 f4 f5⟩
 self:=λ_ _ _ _ _ st h=>wpAny_pyIter_listiter st h
theorem LB{P:br}{w:bd}{K:aP}{tg:aY}(a it:ag):Turn P w K tg (rK K a) [it] it (λi h=>h.IsTupleIter it a i) where
 mem:=by simp
 obj:=λi h st b hb=>by
  have e:b=it:=by simpa using hb
  subst e;obtain⟨o,e,c,d⟩:=st;exact⟨o,e,λv z=>by rw[d]at z;cases z⟩
 keep:=λi h h' st k=>st.at λo e=>k it (by simp) o e
 item:=by intro X hP hw hK hc i af s σ H E I hf st hg;subst hP hw hK;obtain⟨xs,x,hq,hx⟩:=hg;obtain⟨aq,rv,p,hz⟩:=I.tuple hq;obtain⟨u,hu,ru⟩:=rv.get hx;obtain⟨f0,f1,f2,f3,f4,f5⟩:=hf it (by simp);refine wpAny_pyNext_tuple_item st (show s.heap.IsTuple a aq.toArray from p) (x:=u) (by simpa using hu) λh' st' sb=>?_;have I1:Inv X af σ H { s with heap:=h' }:=I.turned (t':=s.toks) (λb o hb e=>(sb.2 b hb).trans e) f0 f1 f3 f4 f5;obtain⟨o,e,c,d⟩:=id st';exact⟨u,rfl,qS (s:={ s with heap:=h' }) e c d (by decide) ⟨x,H,I1,ru,⟨rfl,λys hy=>by rw[I.wJ hy hq];exact hx⟩,st',λb hb=>(hf b hb).1⟩⟩
 done:=by intro X hP hw hK hc i af s σ H E I hf st hg;subst hP hw hK;obtain⟨xs,hq,hx⟩:=hg;obtain⟨aq,rv,p,hz⟩:=I.tuple hq;obtain⟨f0,f1,f2,f3,f4,f5⟩:=hf it (by simp);have hl:=rv.length;exact wpAny_pyNext_tuple_end (I.ok.hd hc) st (show s.heap.IsTuple a aq.toArray from p) (by simp;omega) λh' eb=>⟨rfl,I.turned (t':=s.toks) (λb o hb e=>eb b o hb e) f0 f1 f3 f4 f5⟩
 self:=λ_ _ _ _ _ st h=>wpAny_pyIter_tupleiter st h
theorem Mw{P:br}{w:bd}{K:aP}{tg:aY}(it:ag)(lo:Int)(n:Nat):Turn P w K tg (l7 lo n) [it] it (λi h=>IsRangeIter h it (lo+(i:Nat)*1) ((n:Int)-(i:Nat)) 1) where
 mem:=by simp
 obj:=λi h st b hb=>by
  have e:b=it:=by simpa using hb
  subst e;exact⟨_,st,λv z=>by
   have z':Data.fields _=Data.cell v:=z;cases z'⟩
 keep:=λi h h' st k=>k it (by simp) _ st
 item:=by intro X hP hw hK hc i af s σ H E I hf st hg;subst hP hw hK;obtain⟨f0,f1,f2,f3,f4,f5⟩:=hf it (by simp);have W:=Walks.range (prog:=X.prog) (w:=X.w) (I.ok.hd hc) it lo 1 n;refine W.item i s _ _ hg st λv h' tk hv st' kk=>?_;obtain⟨t,rfl⟩:=hv;have I1:Inv X af σ H { s with heap:=h',toks:=tk }:=I.turned (λb o hb e=>kk b o (by simpa using hb) e) f0 f1 f3 f4 f5;refine⟨_,rfl,qS (s:={ s with heap:=h',toks:=tk }) (n := "range_iterator") st' rfl rfl (by decide) ⟨.int (lo+i),H,I1,⟨t,?_⟩,⟨rfl,rfl⟩,st',λb hb=>(hf b hb).1⟩⟩;rw[Int.mul_one]
 done:=by intro X hP hw hK hc i af s σ H E I hf st hg;subst hP hw hK;obtain⟨f0,f1,f2,f3,f4,f5⟩:=hf it (by simp);exact wpAny_pyNext_range_end (I.ok.hd hc) st (by have:n<=i:=hg;omega) λh' eb=>⟨rfl,I.turned (t':=s.toks) (λb o hb e=>eb b o hb e) f0 f1 f3 f4 f5⟩
 self:=λ_ _ _ _ _ st h=>wpAny_pyIter_rangeiter st h
section
variable{X:Cx}{tg:aY}
def Gh(K:aP)(tl:TE):TI:=λσ H R=>tl σ H λx H1=>∃a,x=.ref a/\(∃xs,da K H1 a xs)/\R (qQ K a) H1
def FL(K:aP)(tl:TE):TI:=λσ H R=>tl σ H λx H1=>∃a,x=.ref a/\(∃xs,eU K H1 a xs)/\R (rK K a) H1
theorem K1{l:aY}{tl:TE}(hl:PE X l tl):PI X tg l (Gh X.K tl):=by
 intro af s σ H R I h;refine aZ (hl af s σ H _ I h) λv s1 ⟨x,H1,I1,r1,q1⟩=>?_;obtain⟨a,e,⟨xs,hq⟩,q⟩:=q1;subst e;cases r1;obtain⟨aq,rv,p,hz⟩:=I1.list hq;refine v4 p.isList ?_;refine⟨s1.heap.objs.size,[s1.heap.objs.size],_,_,H1,rfl,I1.kept (t':=s1.toks) λb o e=>bX _ e,I0 a _,⟨_,cL _ rfl,rfl,rfl⟩,λb hb=>?_,q⟩;have e:b=s1.heap.objs.size:=by simpa using hb
 subst e;exact I1.gy (bv _) (I1.hok.fresh (bv _))
theorem MD{l:aY}{tl:TE}(hl:PE X l tl):PI X tg l (FL X.K tl):=by
 intro af s σ H R I h;refine aZ (hl af s σ H _ I h) λv s1 ⟨x,H1,I1,r1,q1⟩=>?_;obtain⟨a,e,⟨xs,hq⟩,q⟩:=q1;subst e;cases r1;obtain⟨aq,rv,p,hz⟩:=I1.tuple hq;refine wpAny_pyIter_tuple (show s1.heap.IsTuple a aq.toArray from p) ?_;refine⟨s1.heap.objs.size,[s1.heap.objs.size],_,_,H1,rfl,I1.kept (t':=s1.toks) λb o e=>bX _ e,LB a _,⟨_,cL _ rfl,rfl,rfl⟩,λb hb=>?_,q⟩;have e:b=s1.heap.objs.size:=by simpa using hb
 subst e;exact I1.gy (bv _) (I1.hok.fresh (bv _))
theorem De{af:List (ag×Obj)}{σ:St}{H:Hp}{s:aw}{R:It->Hp->Prop}{E:ah->aw->Prop}{lo hi:Int}{t u v:Tok}{tk:Nat}(I:Inv X af σ H s)(h1:-(2 ^ 62)<=lo)(h2:lo<2 ^ 62)(h3:-(2 ^ 62)<=hi)(h4:hi<2 ^ 62)
 (q:R (l7 lo (hi-lo).toNat) H):wpAny (model X.prog X.w) X.A (pyIter (.ref s.heap.objs.size)) (PIE X af σ tg R) E { s with heap:=s.heap.push { cls:=.type "range", data:=.fields #[.int lo t,.int hi u,.int 1 v] },toks:=tk }:=by
 refine wpAny_pyIter_range (IsRange.new ..) (small_one h1 h2 h3 h4) ?_;have I1:Inv X af σ H { s with heap:=s.heap.push { cls:=.type "range",data:=.fields #[.int lo t,.int hi u,.int 1 v] },toks:=tk }:=I.kept λb o e=>bX _ e;refine⟨(s.heap.push { cls:=.type "range",data:=.fields #[.int lo t,.int hi u,.int 1 v] }).objs.size,[(s.heap.push { cls:=.type "range", data:=.fields #[.int lo t,.int hi u,.int 1 v] }).objs.size],_,_,H,rfl,
  I1.kept (t':=tk) λb o e=>bX _ e,Mw _ lo (hi-lo).toNat,?_,λb hb=>?_,q⟩
 ·have e1:lo+((0:Nat):Int)*1=lo:=by simp
  have e2:(((hi-lo).toNat:Nat):Int)-((0:Nat):Int)=Builtin.Range.rangeSize lo hi 1:=by rw[rangeSize_one];split<;>omega
  show IsRangeIter _ _ (lo+((0:Nat):Int)*1) ((((hi-lo).toNat:Nat):Int)-((0:Nat):Int)) 1;rw[e1,e2];exact cL _ rfl
 ·have e:b=(s.heap.push { cls:=.type "range", data:=.fields #[.int lo t,.int hi u,.int 1 v] }).objs.size:=by simpa using hb
  subst e;exact I1.gy (bv _) (I1.hok.fresh (bv _))
def EB(ta:TA):TI:=λσ H R=>ta σ H λvs H1=>∃j:Int,vs=[.int j]/\-(2 ^ 62)<=j/\j<2 ^ 62/\R (l7 0 j.toNat) H1
def Ev(ta:TA):TI:=λσ H R=>ta σ H λvs H1=>∃i j:Int,vs=[.int i,.int j]/\(-(2 ^ 62)<=i/\i<2 ^ 62/\-(2 ^ 62)<=j/\j<2 ^ 62)/\R (l7 i (j-i).toNat) H1
theorem j6{a:aY}{ta:TA}{p pos:Pos}(hg:Gl X "range")(hm:X.mg "range" = ac)(ha:PA X [a] ta)(hs:starEach [a] X.env=[(false,eval a X.env)]:=by rfl):PI X tg (.Call (.Name "range" p) [a] [] pos) (EB ta):=by
 intro af s σ H R I h;refine Call_ (lY I hg hm boot_range (qt (aZ (ha pos af s σ H _ I h) λus s1 ⟨vs,H1,I1,r1,q1⟩=>?_) hs rfl));obtain⟨j,e,q1,q2,q⟩:=q1;subst e;cases r1 with
 |cons r rr=>
  cases rr;obtain⟨t,rfl⟩:=r;exact call_range_1 (De I1 (by omega) (by omega) q1 q2 (by simpa using q))
theorem uk{a b:aY}{ta:TA}{p pos:Pos}(hg:Gl X "range")(hm:X.mg "range" = ac)(ha:PA X [a,b] ta)(hs:starEach [a,b] X.env=[(false,eval a X.env),(false,eval b X.env)]:=by rfl)(hs2:starEach [b] X.env=[(false,eval b X.env)]:=by rfl) :
 PI X tg (.Call (.Name "range" p) [a,b] [] pos) (Ev ta):=by
 intro af s σ H R I h;refine Call_ (lY I hg hm boot_range (qt (aZ (ha pos af s σ H _ I h) λus s1 ⟨vs,H1,I1,r1,q1⟩=>?_) (by rw[hs,hs2]) (by rw[hs2];rfl)));obtain⟨i,j,e,⟨q1,q2,q3,q4⟩,q⟩:=q1;subst e;cases r1 with
 |cons r rr=>
  cases rr with
  |cons r' rr=>
   cases rr;obtain⟨t,rfl⟩:=r;obtain⟨t',rfl⟩:=r';exact call_range_2 (De I1 q1 q2 q3 q4 q)
def uT(wi:TI)(g:TG)(tb:TS):TS:=λD σ H=>wi σ H λJ H1=>∃W:Nat->Nat->St->Hp->Prop,(∃m,W 0 m σ H1)/\∀i m σ H,W i m σ H ->
 (J.stop i H/\D.nx σ H)\/(J.go i H/\∃N:St->Hp->Prop,(∀σ' H',N σ' H'->∃m',m'<m/\W (i+1) m' σ' H')/\∀x H',J.yld i H x H'->g x σ H' λσ2 H2=>tb { D with nx:=N,ct:=N,bk:=D.nx } σ2 H2)
def vC(fp:List ag)(h:aR):List (ag×Obj):=fp.filterMap λb=>(h.get? b).map λo=>(b,o)
theorem oU{fp:List ag}{h:aR}{b:ag}{o:Obj}(hb:b∈fp)(e:h.get? b=ab o):(b,o)∈vC fp h:=vP.mpr ⟨b,hb,by rw[e];rfl⟩
theorem K5{fp:List ag}{h:aR}{p:ag×Obj}(hp:p∈vC fp h):p.1∈fp/\h.get? p.1=ab p.2:=by
 obtain⟨b,hb,e⟩:=vP.mp hp;cases q:h.get? b with
 |none=>rw[q]at e;cases e
 |some o=>
  rw[q]at e;have e':(b,o)=p:=fh e;subst e';exact⟨hb,q⟩
theorem Inv.pinned{af:List (ag×Obj)}{σ:St}{H:Hp}{s:aw}{fp:List ag}(I:Inv X af σ H s)(hf:∀b∈fp,gA X af H b)(ho:∀b∈fp,∃o,s.heap.get? b=ab o/\∀v,o.data≠.cell v):Inv X (af++vC fp s.heap) σ H s:=
 I.wX λp hp=>(dI.mp hp).elim (λz=>I.pin p (dS _ z)) λz=>by
  obtain⟨hb,e⟩:=K5 z;obtain⟨f0,f1,f2,_⟩:=hf p.1 hb;obtain⟨o,e',d⟩:=ho p.1 hb;rw[e]at e';cases e';exact⟨e,f0,f1,f2,d⟩
theorem Inv.oM{af pl:List (ag×Obj)}{σ:St}{H:Hp}{s:aw}(I:Inv X (af++pl) σ H s):Inv X af σ H s:=I.wX λp hp=>I.pin p (dS _ (gf _ hp))
theorem gB{iter:aY}{body:List bw}{wi:TI}{g:TG}{tb:TS}{pos:Pos}(hp:PassesOwn (model X.prog X.w) X.A X.env X.xe)(hc:X.calm=true)(hi:PI X tg iter wi)(hg:PG X tg g)(hb:fX X body tb)
 (hs:∀x,foldedSetIterable iter X.env x=pure x:=by intro _;rfl):PS X (.For tg iter body [] pos) (uT wi g tb):=by
 intro af s σ H D I h;refine wpAny_For (aZ (hi af s σ H _ I h) λv s1 h1=>aZ h1 λitv s2 h2=>?_) hs;obtain⟨it,fp,tn,J,H2,e,I2,T,st2,f2,W,⟨m0,w0⟩,turn⟩:=h2;subst e;have stat:∀{H':Hp},(∀b∈fp,H' b=ac)->∀b∈fp,gA X af H' b:=λhn b hb=>⟨hn b hb,(f2 b hb).2⟩;refine codeAny_forLoop_any (λn s'=>∃i σ' H',Inv X af σ' H' s'/\tn i s'.heap/\(∀b∈fp,H' b=ac)/\W i n σ' H') ?_ m0 ⟨0,σ,H2,I2,st2,λb hb=>(f2 b hb).1,w0⟩;rintro n s3 ⟨i,σ3,H3,I3,st3,fr3,w3⟩;rcases turn i n σ3 H3 w3 with ⟨stop,qn⟩|⟨go,N,hN,step⟩
 ·refine ot hp (aZ (T.done X rfl rfl rfl hc i af s3 σ3 H3 X.xe I3 (stat fr3) st3 stop) λr s4 ⟨hr,I4⟩=>?_);subst hr;exact v5 ⟨σ3,H3,I4,qn⟩
 ·refine ot hp (aZ (T.item X rfl rfl rfl hc i af s3 σ3 H3 X.xe I3 (stat fr3) st3 go) λr s4 ⟨u,hr,h4⟩=>?_);subst hr;refine ot hp (aZ h4 λ_ s5 ⟨x,H5,I5,r5,y5,st5,fr5⟩=>?_);have I5':=I5.pinned (stat fr5) (T.obj _ _ st5);refine ot hp (aZ (hg _ s5 σ3 H5 x u _ I5' r5 (step x H5 y5)) λ_ s6 ⟨σ6,H6,I6,q6⟩=>?_);refine ot hp (aZ (hb _ s6 σ6 H6 _ I6 q6) λf s7 q7=>?_);have again:∀{σ7:St} {H7:Hp},Inv X (af++vC fp s5.heap) σ7 H7 s7->N σ7 H7->∃m,m<n/\∃i σ' H',Inv X af σ' H' s7/\tn i s7.heap/\(∀b∈fp,H' b=ac)/\W i m σ' H':=λ{σ7 H7} I7 n7=>by
   obtain⟨m',hm,w7⟩:=hN σ7 H7 n7;refine⟨m',hm,i+1,σ7,H7,I7.oM,T.keep _ _ _ st5 λb hb o e=>(I7.pin (b,o) (dS _ (dS _ (oU hb e)))).1,λb hb=>?_,w7⟩;obtain⟨o,e,d⟩:=T.obj _ _ st5 b hb;exact(I7.pin (b,o) (dS _ (dS _ (oU hb e)))).2.1
  cases f with
  |next=>obtain⟨σ7,H7,I7,n7⟩:=q7;exact again I7 n7
  |cont=>obtain⟨σ7,H7,I7,n7⟩:=q7;exact again I7 n7
  |brk=>obtain⟨σ7,H7,I7,q7⟩:=q7;exact⟨σ7,H7,I7.oM,q7⟩
  |ret v=>obtain⟨x7,σ7,H7,I7,r7,q7⟩:=q7;exact⟨x7,σ7,H7,I7.oM,r7,q7⟩
end
abbrev R2:=V->V->Hp->VK->Prop
def ce(X:Cx)(f:ah->ah->Sem ah)(r:R2):Prop:=
 ∀(af:List (ag×Obj)) (s:aw) (σ:St) (H:Hp) (x y:V) (v u:ah) (Q:VK),Inv X af σ H s->RelV x v->RelV y u->r x y H Q ->
  wpAny (model X.prog X.w) X.A (f v u) (EP X af σ Q) X.xe s
def xg(X:Cx)(f:ah->Sem ah)(r:V->Hp->VK->Prop):Prop:=
 ∀(af:List (ag×Obj)) (s:aw) (σ:St) (H:Hp) (x:V) (v:ah) (Q:VK),Inv X af σ H s->RelV x v->r x H Q ->
  wpAny (model X.prog X.w) X.A (f v) (EP X af σ Q) X.xe s
def fP(X:Cx)(f:ah)(r:List V->Hp->VK->Prop):Prop:=
 ∀(af:List (ag×Obj)) (s:aw) (σ:St) (H:Hp) (xs:List V) (us:List ah) (Q:VK),Inv X af σ H s->Vals xs us->r xs H Q ->
  wpAny (model X.prog X.w) X.A (call f us) (EP X af σ Q) X.xe s
def PF(X:Cx)(r:V->Hp->(Bool->Hp->Prop)->Prop):Prop:=
 ∀(af:List (ag×Obj)) (s:aw) (σ:St) (H:Hp) (x:V) (v:ah) (Q:Bool->Hp->Prop),Inv X af σ H s->RelV x v->r x H Q ->
  wpAny (model X.prog X.w) X.A (truthy v) (TP X af σ Q) X.xe s
def kj(r:R2)(ta tb:TE):TE:=λσ H Q=>ta σ H λx H1=>tb σ H1 λy H2=>r x y H2 Q
def EO(r:V->Hp->VK->Prop)(ta:TE):TE:=λσ H Q=>ta σ H λx H1=>r x H1 Q
def rI(C:Int->Int->Prop)(g:Int->Int->V):R2:=λx y H Q=>∃i j,x=.int i/\y=.int j/\C i j/\Q (g i j) H
def kz(g:Int->Int->V):R2:=λx y H Q=>∃i j,x=.int i/\y=.int j/\Q (g i j) H
def rU(g:Int->V):V->Hp->VK->Prop:=λx H Q=>∃i,x=.int i/\Q (g i) H
section
variable{X:Cx}{a b c:aY}{ta tb tc:TE}{pos:Pos}
theorem yl(ha:PE X a ta)(hb:PE X b tb){af:List (ag×Obj)}{s:aw}{σ:St}{H:Hp}{R:V->V->Hp->Prop}(I:Inv X af σ H s)
 (h:ta σ H λx H1=>tb σ H1 λy H2=>R x y H2) {Q:ah->aw->Prop} {f:ah->ah->Sem ah}
 (hf:∀v u s2 x y H2,Inv X af σ H2 s2->RelV x v->RelV y u->R x y H2->wpAny (model X.prog X.w) X.A (f v u) Q X.xe s2) :
 wpAny (model X.prog X.w) X.A (eval a X.env) (λv s₁=>wpAny (model X.prog X.w) X.A (eval b X.env) (λu s₂=>wpAny (model X.prog X.w) X.A (f v u) Q X.xe s₂) X.xe s₁) X.xe s:=by
 refine aZ (ha af s σ H _ I h) λv s1 ⟨x,H1,I1,r1,q1⟩=>?_;refine aZ (hb af s1 σ H1 _ I1 q1) λu s2 ⟨y,H2,I2,r2,q2⟩=>?_;exact hf v u s2 x y H2 I2 r1 r2 q2
theorem aS{op:Operator}{r:R2}(ho:ce X (binaryOp op) r)(ha:PE X a ta)(hb:PE X b tb):PE X (.BinOp a op b pos) (kj r ta tb):=by intro af s σ H Q I h;exact wpAny_BinOp (yl ha hb I h λv u s2 x y H2 I2 rx ry q=>ho af s2 σ H2 x y v u Q I2 rx ry q)
theorem uQ{op:UnaryOp}{r:V->Hp->VK->Prop}(ho:xg X (unaryOp op) r)(ha:PE X a ta):PE X (.UnaryOp op a pos) (EO r ta):=by intro af s σ H Q I h;exact UnaryOp_ (aZ (ha af s σ H _ I h) λv s1 ⟨x,H1,I1,r1,q1⟩=>ho af s1 σ H1 x v Q I1 r1 q1)
theorem u8{f:ah->ah->Sem ah}{C:Int->Int->Prop}{g:Int->Int->Int}
 (rule:∀(i j:Int) (t u:Tok) (s:aw) (Q:ah->aw->Prop) (E:ah->aw->Prop),C i j->Q (.int (g i j) s.toks) { s with toks:=s.toks+1 }->wpAny (model X.prog X.w) X.A (f (.int i t) (.int j u)) Q E s) :
 ce X f (rI C λi j=>.int (g i j)):=by
 intro af s σ H x y v u Q I rx ry h;obtain⟨i,j,rfl,rfl,hc,q⟩:=h;obtain⟨t,rfl⟩:=rx;obtain⟨t',rfl⟩:=ry;exact rule i j t t' s _ _ hc ⟨.int (g i j),H,I.tok _,⟨_,rfl⟩,q⟩
theorem BX{f:ah->ah->Sem ah}{g:Int->Int->Int}
 (rule:∀(i j:Int) (t u:Tok) (s:aw) (Q:ah->aw->Prop) (E:ah->aw->Prop),Q (.int (g i j) s.toks) { s with toks:=s.toks+1 }->wpAny (model X.prog X.w) X.A (f (.int i t) (.int j u)) Q E s) :
 ce X f (kz λi j=>.int (g i j)):=by
 intro af s σ H x y v u Q I rx ry h;obtain⟨i,j,rfl,rfl,q⟩:=h;obtain⟨t,rfl⟩:=rx;obtain⟨t',rfl⟩:=ry;exact rule i j t t' s _ _ ⟨.int (g i j),H,I.tok _,⟨_,rfl⟩,q⟩
theorem B4{f:ah->ah->Sem ah}{g:Int->Int->Bool}
 (rule:∀(i j:Int) (t u:Tok) (s:aw) (Q:ah->aw->Prop) (E:ah->aw->Prop),Q (.bool (g i j)) s->wpAny (model X.prog X.w) X.A (f (.int i t) (.int j u)) Q E s) :
 ce X f (kz λi j=>.bl (g i j)):=by
 intro af s σ H x y v u Q I rx ry h;obtain⟨i,j,rfl,rfl,q⟩:=h;obtain⟨t,rfl⟩:=rx;obtain⟨t',rfl⟩:=ry;exact rule i j t t' s _ _ ⟨.bl (g i j),H,I,rfl,q⟩
def Dk(i j:Int):Prop:=0<=j/\j<=1000000/\i.natAbs<2 ^ 64
def vx(i j:Int):Prop:=(-(2 ^ 64)<i/\i<2 ^ 64)\/(-(2 ^ 64)<j/\j<2 ^ 64)
theorem vx.ok{i j:Int}(h:vx i j):IntMulOk i j:=by
 rcases h with ⟨h1,h2⟩|⟨h1,h2⟩
 ·exact .of_left (intBits_le_64 h1 h2)
 ·exact .of_right (intBits_le_64 h1 h2)
theorem Nq:ce X (binaryOp .Add) (kz λi j=>.int (i+j)):=BX λ_ _ _ _ _ _ _ q=>add_int q
theorem lv:ce X (binaryOp .Sub) (kz λi j=>.int (i-j)):=BX λ_ _ _ _ _ _ _ q=>sub_int q
theorem fQ:ce X (binaryOp .Mult) (rI vx λi j=>.int (i*j)):=u8 λ_ _ _ _ _ _ _ hc q=>mul_int q hc.ok
theorem dw:ce X (binaryOp .Mod) (rI (λ_ j=>0<j) λi j=>.int (i%j)):=u8 λi j _ _ _ _ _ hc q=>by
 have h1:(0:Int)<j:=hc;exact mod_int' (by omega) (by rw[Int.fmod_eq_emod_of_nonneg i (by omega)];exact q)
theorem Lj:ce X (binaryOp .Pow) (rI Dk λi j=>.int (i ^ j.toNat)):=u8 λ_ _ _ _ _ _ _ hc q=>pow_int_small hc.1 hc.2.1 hc.2.2 q
theorem Kw{f:ah->Sem ah}{g:Int->Int}
 (rule:∀(i:Int) (t:Tok) (s:aw) (Q:ah->aw->Prop) (E:ah->aw->Prop),Q (.int (g i) s.toks) { s with toks:=s.toks+1 }->wpAny (model X.prog X.w) X.A (f (.int i t)) Q E s) :
 xg X f (rU λi=>.int (g i)):=by
 intro af s σ H x v Q I rx h;obtain⟨i,rfl,q⟩:=h;obtain⟨t,rfl⟩:=rx;exact rule i t s _ _ ⟨.int (g i),H,I.tok _,⟨_,rfl⟩,q⟩
theorem vM:xg X (unaryOp .USub) (rU λi=>.int (-i)):=Kw λ_ _ _ _ _ q=>neg_int q
end
section
variable{X:Cx}{a b c:aY}{ta tb tc:TE}{pos:Pos}
theorem sS{af:List (ag×Obj)}{σ:St}{H:Hp}{s:aw}{Q:VK}{k k':Bool}(I:Inv X af σ H s)(q:Q (.bl k) H)(e:k=k'):EP X af σ Q (.bool k') s:=by subst e;exact⟨.bl k,H,I,rfl,q⟩
theorem JE:ce X (compareOp .Lt) (kz λi j=>.bl (decide (i<j))):=B4 λ_ _ _ _ _ _ _ q=>lt_int q
theorem M8:ce X (compareOp .Gt) (kz λi j=>.bl (decide (j<i))):=B4 λ_ _ _ _ _ _ _ q=>gt_int q
theorem KR:ce X (compareOp .Lt) (λx y H Q=>∃i j,x=.str i/\y=.str j/\Q (.bl (decide (i.cps.toList<j.cps.toList))) H):=by intro af s σ H x y v u Q I rx ry h;obtain⟨i,j,rfl,rfl,q⟩:=h;obtain⟨t,rfl⟩:=rx;obtain⟨t',rfl⟩:=ry;exact lt_str (sS I q rfl)
theorem LM:ce X (compareOp .In) (λx y H Q=>∃i j,x=.str i/\y=.str j/\Q (.bl (!(Builtin.Str.occurrences j i 0 j.length 1).isEmpty)) H):=by intro af s σ H x y v u Q I rx ry h;obtain⟨i,j,rfl,rfl,q⟩:=h;obtain⟨t,rfl⟩:=rx;obtain⟨t',rfl⟩:=ry;exact in_str (sS I q rfl)
theorem IQ:ce X (compareOp .Is) (λx y H Q=>y=.non/\Q (.bl (decide (x=.non))) H):=by
 intro af s σ H x y v u Q I rx ry h;obtain⟨rfl,q⟩:=h;cases ry;refine is_none_gen (sS I q ?_);cases x<;>first
  |(cases rx;rfl)
  |(obtain⟨t,rfl⟩:=rx;rfl)
theorem IB:ce X (compareOp .IsNot) (λx y H Q=>y=.non/\Q (.bl (!decide (x=.non))) H):=by
 intro af s σ H x y v u Q I rx ry h;obtain⟨rfl,q⟩:=h;cases ry;refine isnot_none_gen (sS I q ?_);cases x<;>first
  |(cases rx;rfl)
  |(obtain⟨t,rfl⟩:=rx;rfl)
theorem ce.or{f:ah->ah->Sem ah}{r r':R2}(h:ce X f r)(h':ce X f r'):ce X f (λx y H Q=>r x y H Q\/r' x y H Q):=by
 intro af s σ H x y v u Q I rx ry q;rcases q with q|q
 ·exact h af s σ H x y v u Q I rx ry q
 ·exact h' af s σ H x y v u Q I rx ry q
theorem du(b:aY){op:CmpOp}(h:op≠.In:=by decide)(h2:op≠.NotIn:=by decide):behindInMarks op b=false:=by
 have e1:(op==CmpOp.In)=false:=by cases op<;>first|rfl|exact absurd rfl h
 have e2:(op==CmpOp.NotIn)=false:=by cases op<;>first|rfl|exact absurd rfl h2
 cases b<;>simp[behindInMarks,e1,e2]
theorem lf{op:CmpOp}{r:R2}(ho:ce X (compareOp op) r)(ha:PE X a ta)(hb:PE X b tb)(hm:behindInMarks op b=false):PE X (.Compare a [op] [b] pos) (kj r ta tb):=by intro af s σ H Q I h;exact wpAny_Compare1 (yl ha hb I h λv u s2 x y H2 I2 rx ry q=>ho af s2 σ H2 x y v u Q I2 rx ry q) hm
def Bu(t:TE):TT:=λσ H Q=>t σ H λx H'=>∃k,x=.bl k/\Q k H'
theorem cA{op:CmpOp}{r:R2}(ho:ce X (compareOp op) r)(ha:PE X a ta)(hb:PE X b tb)(hm:behindInMarks op b=false):PT X (.Compare a [op] [b] pos) (Bu (kj r ta tb)):=by
 intro af s σ H Q I h;refine wpAny_isTrue_Compare1 (aZ (ha af s σ H _ I h) λv s1 ⟨x,H1,I1,r1,q1⟩=>aZ (hb af s1 σ H1 _ I1 q1) λu s2 ⟨y,H2,I2,r2,q2⟩=>
  aZ (ho af s2 σ H2 x y v u _ I2 r1 r2 q2) λc s3 ⟨z,H3,I3,r3,k,e,q3⟩=>?_) hm
 subst e;cases r3;exact oq ⟨H3,I3,q3⟩
def yk(K:aP)(x:V)(H:Hp)(k:Bool):Prop:=
 match x with
 |.non=>k=false
 |.bl b=>k=b
 |.int i=>k=(i != 0)
 |.str y=>y.length<=sizeLine/\k=((y.length:Int) != 0)
 |.byt y=>y.size<=sizeLine/\k=((y.size:Int) != 0)
 |.ref p=>(∃xs,da K H p xs/\k = !xs.isEmpty)\/(∃xs,eU K H p xs/\k = !xs.isEmpty)\/∃ao,H p=ab (.dK ao)/\k = !ao.isEmpty
 |_=>False
theorem O8{κ:Type}{ao:List (κ×V)}{vs:List (κ×ah)}(r:KV ao vs):(!vs.isEmpty) = !ao.isEmpty:=by cases r<;>rfl
theorem DS{xs:List V}{aq:List ah}(r:Vals xs aq):(!aq.toArray.isEmpty) = !xs.isEmpty:=by cases r<;>simp
theorem pL:(sizeLine:Nat)<2 ^ 63:=by rw[eh];decide
theorem Ng:PF X (λx H Q=>∃k,yk X.K x H k/\Q k H):=by
 intro af s σ H x v Q I rx h;obtain⟨k,e,q⟩:=h;have hl:=pL;have hs:sizeLine=16777216:=eh;cases x with
 |non=>
  cases rx;have e':k=false:=e;subst e';exact truthy_none ⟨H,I,q⟩
 |bl b=>
  cases rx;have e':k=b:=e;subst e';exact oq ⟨H,I,q⟩
 |int i=>
  obtain⟨t,rfl⟩:=rx;have e':k=(i != 0):=e;subst e';exact PySem.P.truthy_int ⟨H,I,q⟩
 |str y=>
  obtain⟨t,rfl⟩:=rx;obtain⟨hy,e'⟩ : y.length<=sizeLine/\k=((y.length:Int) != 0):=e;subst e';exact PySem.P.truthy_str (by omega) ⟨H,I.tok _,q⟩
 |byt y=>
  obtain⟨t,rfl⟩:=rx;obtain⟨hy,e'⟩ : y.size<=sizeLine/\k=((y.size:Int) != 0):=e;subst e';exact PySem.W.truthy_bytes (by omega) ⟨H,I.tok _,q⟩
 |ref p=>
  cases rx;have e':(∃xs,da X.K H p xs/\k = !xs.isEmpty)\/(∃xs,eU X.K H p xs/\k = !xs.isEmpty)\/∃ao,H p=ab (.dK ao)/\k = !ao.isEmpty:=e;rcases e' with ⟨xs,hx,e'⟩|⟨xs,hx,e'⟩|⟨ao,hx,e'⟩
  ·subst e';obtain⟨aq,r,pl,hz⟩:=I.list hx;have hlen:=r.length;exact wpAny_truthy_list pl.isList (by simp only[cS];omega) ⟨H,I.tok _,by rw[DS r];exact q⟩
  ·subst e';obtain⟨aq,r,pl,hz⟩:=I.tuple hx;have hlen:=r.length;exact truthy_tuple pl (by simp only[cS];omega) ⟨H,I.tok _,by rw[DS r];exact q⟩
  ·subst e';obtain⟨hz,hS,vs,r,m⟩ : ao.length<=sizeLine/\(p==sysModules)=false/\∃vs,KV ao vs/\s.heap.DictOf (gz X.prog X.w) p vs:=I.hok p _ hx;have hlen:ao.length=vs.length:=tU r;exact wpAny_truthy_dict hS m (by omega) ⟨H,I.tok _,by rw[O8 r];exact q⟩
 |_=>exact(show False from e).elim
theorem pP(ha:PE X a ta)(he:∀whole,isTrue a X.env whole=(do let v <- whole;standAt a.pos;holding [v] (truthy v))) :
 PT X a (λσ H Q=>ta σ H λx H'=>∃k,yk X.K x H' k/\Q k H'):=by
 intro af s σ H Q I h;exact isTrue_plain (aZ (ha af s σ H _ I h) λv s1 ⟨x,H1,I1,r1,q1⟩=>Ng af s1 σ H1 x v Q I1 r1 q1) (he _)
theorem Lc:ce X (binaryOp .Add) (λx y H Q=>∃i j,x=.str i/\y=.str j/\i.length+j.length<=sizeLine/\Q (.str (i++j)) H):=by intro af s σ H x y v u Q I rx ry h;obtain⟨i,j,rfl,rfl,hz,q⟩:=h;obtain⟨t,rfl⟩:=rx;obtain⟨t',rfl⟩:=ry;exact add_str (λt' tk=>⟨.str (i++j),H,I.tok _,⟨_,rfl⟩,q⟩) hz
theorem vals1{x:V}{us:List ah}(r:Vals [x] us):∃u,us=[u]/\RelV x u:=by
 cases r with
 |cons r1 r2=>cases r2;exact⟨_,rfl,r1⟩
theorem vals2{x y:V}{us:List ah}(r:Vals [x,y] us):∃u w',us=[u,w']/\RelV x u/\RelV y w':=by
 cases r with
 |cons r1 r2=>
  cases r2 with
  |cons r3 r4=>cases r4;exact⟨_,_,rfl,r1,r3⟩
theorem Mg(hc:X.calm=true):fP X (.builtin "max") (λxs H Q=>∃i j,xs=[.int i,.int j]/\Q (.int (if j>i then j else i)) H):=by
 intro af s σ H xs us Q I r h;obtain⟨i,j,rfl,q⟩:=h;obtain⟨u,w',rfl,⟨t,rfl⟩,⟨t',rfl⟩⟩:=vals2 r;refine max_two_ints (I.ok.hd hc) λh' tk k=>⟨_,H,I.kept k,?_,q⟩;by_cases hj:j>i
 ·rw[a9 hj,a9 hj];exact⟨_,rfl⟩
 ·rw[ba hj,ba hj];exact⟨_,rfl⟩
theorem Ks(hc:X.calm=true):fP X (.builtin "min") (λxs H Q=>∃i j,xs=[.int i,.int j]/\Q (.int (if j<i then j else i)) H):=by
 intro af s σ H xs us Q I r h;obtain⟨i,j,rfl,q⟩:=h;obtain⟨u,w',rfl,⟨t,rfl⟩,⟨t',rfl⟩⟩:=vals2 r;refine min_two_ints (I.ok.hd hc) λh' tk k=>⟨_,H,I.kept k,?_,q⟩;by_cases hj:j<i
 ·rw[a9 hj,a9 hj];exact⟨_,rfl⟩
 ·rw[ba hj,ba hj];exact⟨_,rfl⟩
def BQ(K:aP)(x:V)(H:Hp)(n:Nat):Prop:=
 match x with
 |.str y=>y.length<=sizeLine/\n=y.length
 |.byt y=>y.size<=sizeLine/\n=y.size
 |.ref p=>(∃xs,da K H p xs/\n=xs.length)\/∃xs,eU K H p xs/\n=xs.length
 |_=>False
theorem Pf:fP X (.builtin "len") (λxs H Q=>∃x n,xs=[x]/\BQ X.K x H n/\Q (.int n) H):=by
 intro af s σ H xs us Q I r h;obtain⟨x,n,rfl,e,q⟩:=h;obtain⟨u,rfl,rx⟩:=vals1 r;have hl:=pL;have hs:sizeLine=16777216:=eh;cases x with
 |str y=>
  obtain⟨t,rfl⟩:=rx;obtain⟨hy,e'⟩ : y.length<=sizeLine/\n=y.length:=e;subst e';exact len_str (by omega) ⟨.int _,H,I.tok _,⟨_,rfl⟩,q⟩
 |byt y=>
  obtain⟨t,rfl⟩:=rx;obtain⟨hy,e'⟩ : y.size<=sizeLine/\n=y.size:=e;subst e';exact PySem.W.len_bytes (by omega) ⟨.int _,H,I.tok _,⟨_,rfl⟩,q⟩
 |ref p=>
  cases rx;have e':(∃xs,da X.K H p xs/\n=xs.length)\/∃xs,eU X.K H p xs/\n=xs.length:=e;rcases e' with ⟨xs,hx,e'⟩|⟨xs,hx,e'⟩
  ·subst e';obtain⟨aq,r',pl,hz⟩:=I.list hx;have hlen:=r'.length;exact Calls.call_len_list pl.isList (by simp only[cS];omega) ⟨.int xs.length,H,I.tok _,⟨_,by simp only[cS];rw[hlen]⟩,q⟩
  ·subst e';obtain⟨aq,r',pl,hz⟩:=I.tuple hx;have hlen:=r'.length;exact len_tuple pl (by simp only[cS];omega) ⟨.int xs.length,H,I.tok _,⟨_,by simp only[cS];rw[hlen]⟩,q⟩
 |_=>exact(show False from e).elim
end
structure yF(h:aR)(x dx C:ag)(mA:Str->Option ah):Prop where
 obj:h.get? x=ab (zZ C dx)
 ns:h.Ns1 dx mA
 ne:dx≠x
theorem MG{h:aR}{dx:ag}{mA:Str->Option ah}(n:h.Ns1 dx mA):∃od,h.get? dx=ab od/\∀name,z7 name od=ab (mA name):=by
 obtain⟨o,es,ep,ho,hd,hk,_,hm⟩:=n;refine⟨o,ho,λname=>?_⟩;have e:=hm name;unfold nsFind findBy at e;rw[<- Array.find?_toList]at e;unfold z7;rw[hd];dsimp only;split
 ·rename_i y q;rw[q]at e;exact congrArg ab e
 ·rename_i q;rw[q]at e;have a:es.toList.any (·.refKey)=false:=by
   rw[GA];intro y hy;obtain⟨z,t,hkey⟩:=hk y (Array.mem_toList_iff.mp hy);simp[DictEntry.refKey,hkey]
  have a':¬ es.toList.any (·.refKey)=true:=by rw[a];exact c8
  rw[ba a'];exact congrArg ab e
theorem yF.look{h:aR}{x dx C:ag}{mA:Str->Option ah}(I:yF h x dx C mA):∃od,PySem.W.InstAt h x (zZ C dx) C (ab od)/\∀name,z7 name od=ab (mA name):=
 let ⟨od,ho,hl⟩:=MG I.ns
 ⟨od,⟨I.obj,rfl,rfl,ho⟩,hl⟩
theorem ju.some_of{v:V}{o:Option ah}(r:ju (ab v) o):∃u,o=ab u/\RelV v u:=by
 cases o with
 |none=>exact(show False from r).elim
 |some u=>exact⟨u,rfl,r⟩
section
variable{P:br}{w:bd}{H H':Hp}{h h':aR}{a C dx:ag}{fs fs':List (Str×V)}
theorem Nc(hok:cQ P w H h)(e:H a=ab (.ins C dx fs)):∃mA,yF h a dx C mA/\(∀f,ju (fs.lookup f) (mA f))/\PySem.Within mA (fs.map (·.1))/\fs.length<=1000/\H dx=ab (.own a):=by obtain⟨d,z,ne,ob,mA,n,r,q⟩:=(show cH P w H h a (.ins C dx fs)from hok a _ e);exact⟨mA,⟨ob,n,ne⟩,r,q,z,d⟩
end
structure yN(K:aP)(C:ag):Prop where
 pg:GG K C m3=true
 hd:PySem.W.hasDictIn K C=true
 po:PySem.W.plainOver K C=true
 sa:GH K (.ref C) "__setattr__" = ab (ab (.builtin "object.__setattr__"))
theorem yN.get{K:aP}{C:ag}(c:yN K C)(f:Str):GG K C f=true:=c.pg
section
variable{X:Cx}{af:List (ag×Obj)}{σ:St}{H:Hp}{s:aw}{A:bN}{E:ah->aw->Prop}{Q:ah->aw->Prop}{c:ah}{b:Bool}
inductive iq(K:aP)(H:Hp):V->ah->Prop where
 |non:iq K H .non (.type "NoneType")
 |bl (x:Bool):iq K H (.bl x) (.type "bool")
 |int (i:Int):iq K H (.int i) (.type "int")
 |str (x:Str):iq K H (.str x) (.type "str")
 |flt (x:UInt64):iq K H (.flt x) (.type "float")
 |lst {a:ag} {xs:List V} (e:H a=ab (.lst xs)):iq K H (.ref a) (.type "list")
 |frz {a:ag} {o:Obj} {xs:List V} (e:H a=ab (.frz o (.lst xs))):iq K H (.ref a) (.type "list")
 |tup {a:ag} {xs:List V} (e:H a=ab (.tup xs)):iq K H (.ref a) (.type "tuple")
 |dK {a:ag} {ao:List (Key×V)} (e:H a=ab (.dK ao)):iq K H (.ref a) (.type "dict")
 |dT {a:ag} {ao:List (List Key×V)} (e:H a=ab (.dT ao)):iq K H (.ref a) (.type "dict")
 | ins {a C dx:ag} {fs:List (Str×V)} (e:H a=ab (.ins C dx fs)) (cl:yN K C) (ha:GH K (.ref C) "__class__" = ab (ab (.builtin "object.__class__")))
  (hn:PySem.W.specialIn K (.builtin "object.__class__") "__get__" = ab (ab (.builtin "getset_descriptor.__get__"))) (htk:PySem.W.takesIn K (.builtin "object.__class__")=ab true)
  (hm:PySem.W.mroIn K C (.type "object")=ab true):iq K H (.ref a) (.ref C)
theorem Op{x:V}{u t:ah}(I:Inv X af σ H s)(rx:RelV x u)(ty:iq X.K H x t)(e:z8 X.K t c=ab b)(h:∀tk,Q (.bool b) { s with toks:=tk }) :
 wpAny (model X.prog X.w) A (call (.builtin "isinstance") [u,c]) Q E s:=by
 cases ty with
 |non=>cases(show u=iZ from rx);exact jV PySem.W.kitx_none I.fj jY e (λz=>nomatch z) h
 |bl y=>cases(show u=jq y from rx);exact jV PySem.W.kitx_bool I.fj jY e (λz=>nomatch z) h
 |int i=>obtain⟨t,q⟩:=(show∃t,u=Value.int i t from rx);cases q;exact jV PySem.W.kitx_int I.fj jY e (λz=>nomatch z) h
 |str y=>obtain⟨t,q⟩:=(show∃t,u=oA y t from rx);cases q;exact jV PySem.W.kitx_str I.fj jY e (λz=>nomatch z) h
 |flt y=>obtain⟨t,q⟩:=(show∃t,u=Value.float y t from rx);cases q;exact jV PySem.W.kitx_float I.fj jY e (λz=>nomatch z) h
 | @lst a xs ea=>
  cases(show u=dL a from rx);obtain⟨_,_,n,_,h1⟩:=(show cH X.prog X.w H s.heap a (.lst xs)from I.hok a _ ea);exact jV GD I.fj ⟨_,h1,rfl⟩ e (λz=>nomatch z) h
 | @frz a ob xs ea=>
  cases(show u=dL a from rx);obtain⟨_,_,_,n,_,h1⟩:=(show cH X.prog X.w H s.heap a (.frz ob (.lst xs))from I.hok a _ ea);exact jV GD I.fj ⟨_,h1,rfl⟩ e (λz=>nomatch z) h
 | @tup a xs ea=>
  cases(show u=dL a from rx);obtain⟨_,_,_,p⟩:=(show cH X.prog X.w H s.heap a (.tup xs)from I.hok a _ ea);obtain⟨o,h1,h2,_⟩:=p;exact jV PySem.W.kitx_tuple I.fj ⟨o,h1,h2⟩ e (λz=>nomatch z) h
 | @dK a ao ea=>
  cases(show u=dL a from rx);obtain⟨_,_,vs,_,p⟩:=(show cH X.prog X.w H s.heap a (.dK ao)from I.hok a _ ea);obtain⟨o,es,ep,h1,h2,_⟩:=p;exact jV GF I.fj ⟨o,h1,h2.1⟩ e (λz=>nomatch z) h
 | @dT a ao ea=>
  cases(show u=dL a from rx);obtain⟨_,_,xs,_,o,es,ep,h1,h2,_⟩:=(show cH X.prog X.w H s.heap a (.dT ao)from I.hok a _ ea);exact jV GF I.fj ⟨o,h1,h2.1⟩ e (λz=>nomatch z) h
 | @ins a C dx fs ea cl ha hn htk hm=>
  cases(show u=dL a from rx);obtain⟨mA,O,_⟩:=Nc I.hok ea;obtain⟨od,J,_⟩:=O.look;exact jV (PySem.W.kitx_own (cl.get _) cl.hd ha hn htk hm) I.fj J e (λz=>nomatch z) h
end
structure cO(k:Nat)(A:bN):Prop where
 hd:A.handled=ac
 dp:A.depth+3*k+5<recursionLimit
 un:A.units+16*k+200<cLine
theorem cO.mono{j k:Nat}{A:bN}(r:cO k A)(h:j<=k):cO j A:=⟨r.hd,by have:=r.dp;omega,by have:=r.un;omega⟩
theorem cO.deeper{k:Nat}{A:bN}(r:cO (k+1) A)(env:Env):cO k (A.deeper env):=⟨r.hd,by have:=r.dp;show A.depth+1+3*k+5<_;omega,by have:=r.un;show A.units+3+16*k+200<_;omega⟩
theorem cO.depth{k:Nat}{A:bN}(r:cO k A):A.depth<recursionLimit:=by have:=r.dp;omega
theorem cO.units{k:Nat}{A:bN}(r:cO k A):A.units+64<cLine:=by have:=r.un;omega
def gU:TA:=λ_ H Q=>Q [] H
def fR(ta:TE)(tr:TA):TA:=λσ H Q=>ta σ H λx H1=>tr σ H1 λxs H2=>Q (x::xs) H2
section
variable{X:Cx}{e:aY}{es:List aY}{te:TE}{t:TA}{pos:Pos}
theorem bj:PA X [] gU:=λ_ _ _ _ H Q I h=>At ⟨[],H,I,.nil,h⟩
theorem aD(ha:PE X e te)(hr:PA X es t)(hs:starEach (e::es) X.env=(false,eval e X.env)::starEach es X.env:=by rfl):PA X (e::es) (fR te t):=by intro pos af s σ H Q I h;rw[hs];show wpAny _ _ (spliced ((false,eval e X.env)::backTo pos (starEach es X.env))) _ _ s;refine wy (aZ (ha af s σ H _ I h) λu s1 ⟨x,H1,I1,r1,q1⟩=>?_);exact aZ (hr pos af s1 σ H1 _ I1 q1) λus s2 ⟨xs,H2,I2,r2,q2⟩=>⟨x::xs,H2,I2,.cons r1 r2,q2⟩
def yK(t:TA):TE:=λσ H Q=>t σ H λxs H1=>xs.length<=sizeLine/\∀p,H1 p=ac->Q (.ref p) (upd H1 p (.tup xs))
def DA(t:TA):TE:=λσ H Q=>t σ H λxs H1=>xs.length<=sizeLine/\∀p,H1 p=ac->Q (.ref p) (upd H1 p (.lst xs))
theorem iG{x1}(h:PA X es t):PE X (.Tuple es x1 pos) (yK t):=by intro af s σ H Q I hq;refine wpAny_Tuple_spliced (aZ (h pos af s σ H _ I hq) λus s1 ⟨xs,H1,I1,r,z,q⟩=>⟨by rw[<- r.length];exact z,?_⟩);have hf:H1 s1.heap.objs.size=ac:=I1.hok.fresh (bv _);refine⟨.ref s1.heap.objs.size,upd H1 s1.heap.objs.size (.tup xs),I1.laid (t':=s1.toks) (λb u e=>bX _ e) (bv _) ?_,rfl,q _ hf⟩;exact⟨z,us,r,⟨_,cL _ rfl,rfl,rfl,_,rfl⟩⟩
theorem fF(h:PA X es t):PE X (.List es pos) (DA t):=by intro af s σ H Q I hq;refine wpAny_List_spliced (aZ (h pos af s σ H _ I hq) λus s1 ⟨xs,H1,I1,r,z,q⟩=>⟨by rw[<- r.length];exact z,?_⟩);have hf:H1 s1.heap.objs.size=ac:=I1.hok.fresh (bv _);refine⟨.ref s1.heap.objs.size,upd H1 s1.heap.objs.size (.lst xs),I1.laid (t':=s1.toks) (λb u e=>bX _ e) (bv _) ?_,rfl,q _ hf⟩;exact⟨z,us,0,r,cL _ rfl⟩
end
abbrev Sp:=List V->Hp->VK->XK->Prop
abbrev gF:=List Env->Hp->aw->XK->ah->aw->Prop
structure mv(P:br)(w:bd)(K:aP)(mg:Str->Option ah)(base:aR)(A:bN)(outer:List Env)(s:aw)(H:Hp):Prop where
 frames:A.frames=ab outer
 mod:Mod K mg base
 bs:∀b o,base.get? b=ab o->s.heap.get? b=ab o/\H b=ac
 bsz:base.objs.size<=s.heap.objs.size
 iS:s.heap.FunFrames base outer
 frf:∀b∈frs outer,H b=ac
 hok:cQ P w H s.heap
 bare:mY s.gens
def CE(outer:List Env)(P:br)(w:bd)(H:Hp)(s:aw)(Q:VK)(u:ah)(s':aw):Prop:=∃v H',s'.os=s.os/\mY s'.gens/\Un (frs outer) [] H H' s.heap s'.heap/\cQ P w H' s'.heap/\RelV v u/\Q v H'
def CR(CX:gF)(outer:List Env)(P:br)(w:bd)(H:Hp)(s:aw)(Q:VK)(E:XK)(r:Result)(s':aw):Prop:=
 match r with
 |.ok (.ret u)=>CE outer P w H s Q u s'
 |.ok _=>False
 |.error e=>CX outer H s E e s'
structure bJ(P:br)(w:bd)(K:aP)(mg:Str->Option ah)(base:aR)(CX:gF)(k:Nat)(f:ag)(fd:bG)(ps:List Str)(sp:Sp):Prop where
 len:∀vs H Q E,sp vs H Q E->vs.length=ps.length
 run:∀(A:bN) (outer:List Env) (s:aw) (H:Hp) (args:Args) (us:List ah) (vs:List V) (Q:VK) (E:XK),cO k A->mv P w K mg base A outer s H->lS s fd args (ps.zip us)->Vals vs us->sp vs H Q E ->
  codeAny (model P w) A (.call (.ref f) args) (CR CX outer P w H s Q E) s
theorem bJ.imp{P:br}{w:bd}{K:aP}{mg:Str->Option ah}{base:aR}{CX:gF}{k:Nat}{f:ag}{fd:bG}{ps:List Str}{sp sp':Sp}(F:bJ P w K mg base CX k f fd ps sp)
 (h:∀vs H Q E,sp' vs H Q E->sp vs H Q E):bJ P w K mg base CX k f fd ps sp':=
 ⟨λvs H Q E q=>F.len vs H Q E (h _ _ _ _ q),λA outer s H args us vs Q E hr he hb hv hs=>F.run A outer s H args us vs Q E hr he hb hv (h _ _ _ _ hs)⟩
section
variable{X:Cx}{af:List (ag×Obj)}{σ:St}{H:Hp}{s s':aw}
theorem Inv.env0(I:Inv X af σ H s):mv X.prog X.w X.K X.mg X.base X.A X.stack s H:=⟨I.ok.frames,I.ok.mod,I.bs,eK I.ok.bsz I.sz,I.stack,I.Fp,I.hok,I.bare⟩
theorem Inv.after{Q:VK}{u:ah}(I:Inv X af σ H s)(h:CE X.stack X.prog X.w H s Q u s'):EP X af σ Q u s':=by obtain⟨v,H',os,bare,un,hok,r,q⟩:=h;obtain⟨hh,g,d,t,os'⟩:=s';obtain rfl:os'=s.os:=os;exact⟨v,H',I.call (h':=hh) (g':=g) (d':=d) (t':=t) (ch:=[]) un hok bare (λb z=>absurd z (by simp)),r,q⟩
end
def mJ(sp:Sp)(dvs:List V)(E:XK)(t:TA):TE:=λσ H Q=>t σ H λvs H1=>sp (vs++dvs) H1 Q E
def Binds(K:aP)(fd:bG)(ps:List Str)(ds:List ah):Prop:=∀(s:aw) (us:List ah),K.In s.heap->(us++ds).length=ps.length->lS s fd ⟨us,[]⟩ (ps.zip (us++ds))
theorem Binds.all{K:aP}{fd:bG}{ps:List Str}(h:∀us:List ah,us.length=ps.length->bindArgs fd ⟨us,[]⟩=pure (ps.zip us)):Binds K fd ps []:=λs us _ hl=>by
 rw[qg]at hl ⊢;exact .of_eq (h us hl)
def vg(CX:gF)(X:Cx)(E:XK):Prop:=∀(af:List (ag×Obj)) (σ:St) (H:Hp) (s:aw) (e:ah) (s':aw),Inv X af σ H s->CX X.stack H s E e s'->X.xe e s'
section
variable{X:Cx}{CX:gF}{k:Nat}{f C:ag}{fd:bG}{ps:List Str}{sp:Sp}{dvs:List V}{ds:List ah}{E:XK}{x m:Str}{p pos apos:Pos}{e o:aY}{es:List aY}{ta:TE}{t:TA}
theorem Ku{af:List (ag×Obj)}{σ:St}{H:Hp}{s:aw}{Q:VK}{us:List ah}{vs:List V}(F:bJ X.prog X.w X.K X.mg X.base CX k f fd ps sp)(hr:cO k X.A)(hb:Binds X.K fd ps ds)(hd:Vals dvs ds)(hx:vg CX X E)
 (I:Inv X af σ H s) (r:Vals vs us) (h:sp (vs++dvs) H Q E):wpAny (model X.prog X.w) X.A (call (.ref f) us) (EP X af σ Q) X.xe s:=by
 have r2:Vals (vs++dvs) (us++ds):=r.append hd;have hl:(us++ds).length=ps.length:=by rw[<- r2.length];exact F.len _ _ _ _ h
 refine wpAny_call (wa (F.run X.A X.stack s H ⟨us,[]⟩ (us++ds) (vs++dvs) Q E hr I.env0 (hb s us I.fj hl) r2 h) λr s' hq=>?_);cases r with
 |error e=>exact hx af σ H s e s' I hq
 |ok fl=>
  cases fl with
  |ret u=>exact I.after hq
  |next=>exact hV hq
  |brk=>exact hV hq
  |cont=>exact hV hq
theorem NV(F:bJ X.prog X.w X.K X.mg X.base CX k f fd ps sp)(hr:cO k X.A)(hg:Gl X x)(hm:X.mg x=ab (.ref f))(hk:kQ X.K (.ref f)=true)(hb:Binds X.K fd ps ds)(hd:Vals dvs ds)(hx:vg CX X E)
 (ha:PA X (e::es) t) (hdb:(x==("__debug__" : Str))=false:=by decide) (he:starEach (e::es) X.env=(false,eval e X.env)::starEach es X.env:=by rfl) (hpl:(backTo pos (starEach es X.env)).any (·.1)=false:=by rfl) :
 PE X (.Call (.Name x p) (e::es) [] pos) (mJ sp dvs E t):=by
 intro af s σ H Q I h;refine tG (EJ I hg hm ?_ hdb);refine GB (h₀:=X.base) I.ok.mod.kin hk (aZ (ha pos af s σ H _ I h) λus s1 ⟨vs,H1,I1,r,q⟩=>⟨I1.fj,?_⟩) he hpl;exact Ku F hr hb hd hx I1 r q
end
structure cg(N P:List Str)(sc:en):Prop where
 kind:sc.kind=.function
 co:sc.isCoroutine=false
 gen:sc.isGenerator=false
 nd:N.Nodup
 pre:N.take P.length=P
 par:∀x∈P,sc.names.lookup x=ab .local\/sc.names.lookup x=ab .cell
 P7:∀y∈sc.names,y.2≠.free
theorem FQ{kindOf:Str->Option mU}{x:Str}:∀{binds:List (Str×ah)} {m:Str->Option ah},(∀v,(x,v)∉binds)->bindL kindOf binds m x=m x
 |[],_,_=>rfl
 |(n,v)::r,m,h=>by
  unfold bindL;rw[FQ λw hw=>h w (ff _ hw)];split
  ·have:x≠n:=by rintro rfl;exact h v dA
   simp[this]
  ·rfl
theorem Cr{kindOf:Str->Option mU}{x:Str}:∀{binds:List (Str×ah)} {m:Str->Option ah},(∀v,(x,v)∉binds)->bindC kindOf binds m x=m x
 |[],_,_=>rfl
 |(n,v)::r,m,h=>by
  unfold bindC;rw[Cr λw hw=>h w (ff _ hw)];split
  ·rfl
  ·have:x≠n:=by rintro rfl;exact h v dA
   simp[this]
theorem Gc{kindOf:Str->Option mU}{x:Str}{v:ah}:∀{P:List Str} {vs:List ah} {i:Nat} {m:Str->Option ah},P.Nodup->P[i]? = ab x->vs[i]? = ab v->kindOf x=ab .local ->
 bindL kindOf (P.zip vs) m x=ab v
 |[],_,_,_,_,h,_,_=>by simp at h
 |_::_,[],_,_,_,_,h,_=>by simp at h
 |p::P,w::vs,0,m,nd,h1,h2,hk=>by
  simp at h1 h2;subst h1;subst h2;show bindL kindOf ((p,w)::P.zip vs) m p=_;unfold bindL;rw[FQ λv hv=>(kP.mp nd).1 (vR hv).1,a9 hk];simp
 |p::P,w::vs,i+1,m,nd,h1,h2,hk=>by
  show bindL kindOf ((p,w)::P.zip vs) m x=_;unfold bindL;exact Gc (i:=i) (kP.mp nd).2 (by simpa using h1) (by simpa using h2) hk
theorem FA{kindOf:Str->Option mU}{x:Str}{v:ah}:∀{P:List Str} {vs:List ah} {i:Nat} {m:Str->Option ah},P.Nodup->P[i]? = ab x->vs[i]? = ab v->kindOf x≠ab .local ->
 bindC kindOf (P.zip vs) m x=ab v
 |[],_,_,_,_,h,_,_=>by simp at h
 |_::_,[],_,_,_,_,h,_=>by simp at h
 |p::P,w::vs,0,m,nd,h1,h2,hk=>by
  simp at h1 h2;subst h1;subst h2;show bindC kindOf ((p,w)::P.zip vs) m p=_;unfold bindC;rw[Cr λv hv=>(kP.mp nd).1 (vR hv).1,ba hk];simp
 |p::P,w::vs,i+1,m,nd,h1,h2,hk=>by
  show bindC kindOf ((p,w)::P.zip vs) m x=_;unfold bindC;exact FA (i:=i) (kP.mp nd).2 (by simpa using h1) (by simpa using h2) hk
def start(N:List Str)(vs:List V):St:=vs.map ab++c7 (N.length-vs.length) ac
def j7(CX:gF)(P:br)(w:bd)(K:aP)(mg:Str->Option ah)(base:aR)(N:List Str)(qual:Str)(scope:en)(f:ag)(cd:ah)(A:bN)(outer:List Env)(s:aw)(H:Hp)(E:XK):Cx where
 prog:=P
 w:=w
 K:=K
 mg:=mg
 base:=base
 A:=A.deeper (envOfC qual scope s.heap.objs.size f cd)
 N:=N
 s₀:=s
 H₀:=H
 env:=envOfC qual scope s.heap.objs.size f cd
 outer:=outer
 stack:=envOfC qual scope s.heap.objs.size f cd::outer
 ex:=[]
 calm:=true
 fn:=λ_=>true
 pn:=[]
 xe:=λe s'=>wpAny (model P w) (A.deeper (envOfC qual scope s.heap.objs.size f cd)) (leaving (envOfC qual scope s.heap.objs.size f cd) e) (λ_ s''=>CX outer H s E e s'') (λe' s''=>CX outer H s E e' s'') s'
theorem Ed{sc:en}{n:Nat}{x:Str}(h:sc.names.lookup x=ab .cell):∃c,(cellsFrom n sc.names []).lookup x=ab c:=by have q:=zX sc.names n [] (.inl h);exact Option.isSome_iff_exists.mp q
theorem Ep{CX:gF}{P:br}{w:bd}{K:aP}{mg:Str->Option ah}{base:aR}{N ps:List Str}{qual:Str}{scope:en}{f:ag}{cd:ah}{A:bN}{outer:List Env}{s s1:aw}{H:Hp}{E:XK}{us:List ah}{vs:List V}
 (S:cg N ps scope) (hd:A.handled=ac) (e0:mv P w K mg base A outer s H) (hl:vs.length=ps.length) (r:Vals vs us)
 (x:InCallC s s.heap.objs.size (bindL (envOfC qual scope s.heap.objs.size f cd).kindOf (ps.zip us) λ_=>ac) (cellsFrom (s.heap.objs.size+1) scope.names []) (bindC (envOfC qual scope s.heap.objs.size f cd).kindOf (ps.zip us) λ_=>ac) s1) :
 Inv (j7 CX P w K mg base N qual scope f cd A outer s H E) [] (start N vs) H s1:=by
 have hpl:ps.length<=N.length:=by have:=congrArg zV S.pre;rw[iC]at this;omega
 obtain⟨h1,tk,rfl,hk⟩:=x.done;have noA:∀b:ag,b∉(j7 CX P w K mg base N qual scope f cd A outer s H E).ex:=λb z=>absurd (show b∈([]:List ag)from z) (by simp);refine⟨⟨e0.mod,S.kind,rfl,rfl,bv _,λy z c h1 h2=>?_,λy hy=>?_,λy c _ h=>?_,λ_=>hd,Hm e0.frames,.inr ⟨rfl,rfl⟩,λb z=>absurd z (noA b),e0.bs,e0.bsz,λb _ _=>noA b,λb z=>absurd z (noA b),e0.iS,e0.frf⟩,
  rfl,e0.bare,Un.kept hk,⟨_,x.toInCall.ns,λi y v h1 h2 h3=>?_⟩,λy c h=>⟨_,x.cell y c h⟩,e0.hok.fresh (bv _),λy c h=>?_,λp hp=>absurd (show p∈([]:List (ag×Obj))from hp) (by simp),e0.hok.kept hk,?_⟩
 ·exact name_of_addr x.apart (lR h1) (lR h2)
 ·have hy:scope.names.lookup y=ab .cell\/scope.names.lookup y=ab .free:=hy;rcases hy with hy|hy
  ·exact Ed hy
  ·exact absurd rfl (S.P7 _ (lR hy))
 ·exact wf (x.above y c (lR h))
 ·have hi:i<vs.length:=by
   unfold start at h2;by_cases hi:i<vs.length
   ·exact hi
   ·rw[jS (by simpa using hi)]at h2;rw[Go]at h2;split at h2<;>cases h2
  have ha:vs[i]? = ab v:=by
   unfold start at h2;rw[kM (by simpa using hi),cX]at h2;cases e:vs[i]? with
   |none=>rw[e]at h2;cases h2
   |some a=>rw[e]at h2;cases h2;rfl
  obtain⟨u,hu,rv⟩:=r.get ha;have hp:ps[i]? = ab y:=by rw[<- S.pre,zI (by omega)];exact h1
  have ndP:ps.Nodup:=by rw[<- S.pre];exact S.nd.sublist (List.take_sublist _ _)
  refine⟨u,rv,?_⟩;rcases S.par y (gG hp)with k|k
  ·exact .inl ⟨k,Gc ndP hp hu k⟩
  ·obtain⟨c,e⟩:=Ed (n:=s.heap.objs.size+1) k;refine .inr ⟨.inl k,c,e,?_⟩;have q:=x.cell y c e;rw[FA ndP hp hu (by show scope.names.lookup y≠_;rw[k];decide)]at q;exact q
 ·exact e0.hok.fresh (wf (x.above y c (lR h)))
 ·unfold start;show _=N.length;rw[cF,aX,zM];omega
theorem B5{CX:gF}{P:br}{w:bd}{K:aP}{mg:Str->Option ah}{base:aR}{k:Nat}{f:ag}{name qual:Str}{params:qo}{body:List bw}{scope:en}{dV kV doc pm cdv ct oc:ah}{an od:Option ag}
 {osl:Array (Option ah)} {N ps:List Str} {sp:Sp} (lk:K.lookup f=ab ⟨oc,od,.func (jW name qual params body scope dV kV doc pm an cdv ct),osl⟩) (hcd:qi K cdv qual=true) (S:cg N ps scope)
 (len:∀vs H Q E,sp vs H Q E->vs.length=ps.length)
 (hbody:∀(A:bN) (outer:List Env) (s:aw) (H:Hp) (vs:List V) (Q:VK) (E:XK),cO k (A.deeper (envOfC qual scope s.heap.objs.size f cdv))->sp vs H Q E ->
  ∃t,fX (j7 CX P w K mg base N qual scope f cdv A outer s H E) body t/\t { nx:=λ_ H'=>Q .non H',rt:=Q } (start N vs) H) :
 bJ P w K mg base CX (k+1) f (jW name qual params body scope dV kV doc pm an cdv ct) ps sp:=by
 refine⟨len,λA outer s H args us vs Q E hr e0 hb r hsp=>?_⟩;have hl:=len _ _ _ _ hsp;have KX:K.In s.heap:=e0.mod.kin.keeps λb o e=>(e0.bs b o e).1;have lim:s.heap.NoLimit:=e0.mod.nolimit.keeps λb o e=>(e0.bs b o e).1;have hkind:∀y∈ps.zip us,scope.names.lookup y.1=ab .local\/(scope.names.lookup y.1=ab .cell/\((cellsFrom (s.heap.objs.size+1) scope.names []).lookup y.1).isSome=true):=λ⟨n,v⟩ hy=>by
  rcases S.par n (vR hy).1 with q|q
  ·exact .inl q
  ·exact .inr ⟨q,zX _ _ _ (.inl q)⟩
 refine codeAny_call_function hr.depth (KX _ _ lk) rfl S.co S.gen rfl (GC KX hcd) (hb _ _ _ _ ?_);refine GI S.kind hkind λenv he s1 x=>?_;subst he;refine⟨lim.keeps x.toInCall.keep,codeAny_func ?_⟩;obtain⟨t,ht,hq⟩:=hbody A outer s H vs Q E (hr.deeper _) hsp;have I:Inv (j7 CX P w K mg base N qual scope f cdv A outer s H E) [] (start N vs) H s1:=Ep S hr.hd e0 hl r x;refine iX (ht [] s1 (start N vs) H _ I hq) (λfl s' hs=>?_) λe s' hs=>hs;have fin:∀{σ':St} {H':Hp} {v:V} {u:ah},Inv (j7 CX P w K mg base N qual scope f cdv A outer s H E) [] σ' H' s'->RelV v u->Q v H'->CE outer P w H s Q u s':=
  λ{σ' H' v u} J rv q=>⟨v,H',J.os,J.bare,J.base,J.hok,rv,q⟩
 cases fl with
 |ret u=>
  obtain⟨v,σ',H',J,rv,q⟩:=hs;exact fin J rv q
 |next=>
  obtain⟨σ',H',J,q⟩:=hs;exact fin (v:=V.non) (u:=iZ) J rfl q
 |brk=>
  obtain⟨_,_,_,q⟩:=hs;exact hV q
 |cont=>
  obtain⟨_,_,_,q⟩:=hs;exact hV q
section
variable{X:Cx}{x:Str}{p pos:Pos}{e:aY}{es:List aY}{t:TA}{id T:String}{r:List V->Hp->VK->Prop}
def pM(r:List V->Hp->VK->Prop)(t:TA):TE:=λσ H Q=>t σ H λvs H1=>r vs H1 Q
theorem dF(hc:fP X (.builtin id) r)(hg:Gl X x)(hm:X.mg x=ac)(hv:bootBuiltins x=ab (.builtin id))(ha:PA X (e::es) t)(hn:x ≠ "__name__" := by decide)(hdb:(x==("__debug__" : Str))=false:=by decide)
 (he:starEach (e::es) X.env=(false,eval e X.env)::starEach es X.env:=by rfl) (hpl:(backTo pos (starEach es X.env)).any (·.1)=false:=by rfl):PE X (.Call (.Name x p) (e::es) [] pos) (pM r t):=by
 intro af s σ H Q I h;refine tG (lY I hg hm hv ?_ hn hdb);exact PyProof.Rows.callWith_builtin1 (aZ (ha pos af s σ H _ I h) λus s1 ⟨vs,H1,I1,r1,q1⟩=>hc af s1 σ H1 vs us Q I1 r1 q1) he hpl
theorem lA(hc:fP X (.type T) r)(hg:Gl X x)(hm:X.mg x=ac)(hv:bootBuiltins x=ab (.type T))(ha:PA X (e::es) t)(hn:x ≠ "__name__" := by decide)(hdb:(x==("__debug__" : Str))=false:=by decide)
 (he:starEach (e::es) X.env=(false,eval e X.env)::starEach es X.env:=by rfl) (hpl:(backTo pos (starEach es X.env)).any (·.1)=false:=by rfl):PE X (.Call (.Name x p) (e::es) [] pos) (pM r t):=by
 intro af s σ H Q I h;refine tG (lY I hg hm hv ?_ hn hdb);exact qt (aZ (ha pos af s σ H _ I h) λus s1 ⟨vs,H1,I1,r1,q1⟩=>hc af s1 σ H1 vs us Q I1 r1 q1) he hpl
end
end L2
namespace HT
open PySem PyProof.Rows
section
variable{prog:br}{w:bd}{A:bN}{E:ah->aw->Prop}{s:aw}
def dg(n d:Nat):Option Int->Nat
 |none=>d
 |some v=>if v<0 then(v+(n:Int)).toNat else min v.toNat n
theorem DE(n d:Nat)(hd:d<=n)(o:Option Int):dg n d o<=n:=by
 cases o with
 |none=>exact hd
 |some v=>
  show(if v<0 then(v+(n:Int)).toNat else min v.toNat n)<=n;by_cases hv:v<0
  ·rw[a9 hv];omega
  ·rw[ba hv];exact Nat.min_le_right _ _
end
end HT
namespace L2
open PySem PySem.Spec PyProof.Rows
abbrev TO:=St->Hp->(Option Int->Hp->Prop)->Prop
def PO(X:Cx)(e:Option aY)(t:TO):Prop:=
 ∀(af:List (ag×Obj)) (s:aw) (σ:St) (H:Hp) (Q:Option Int->Hp->Prop),Inv X af σ H s->t σ H Q ->
  wpAny (model X.prog X.w) X.A (evalPart e X.env) (λu s'=>∃o H',Inv X af σ H' s'/\IsPart u o/\Q o H') X.xe s
def Eg:TO:=λ_ H Q=>Q ac H
def Cp(t:TE):TO:=λσ H Q=>t σ H λx H1=>∃i,x=.int i/\Q (ab i) H1
section
variable{X:Cx}{e:aY}{te:TE}{lo hi:Option aY}{tl th:TO}{pos p2:Pos}
theorem mo:PO X ac Eg:=by intro af s σ H Q I h;rw[evalPart_none];exact bB ⟨ac,H,I,.none,h⟩
theorem kI(h:PE X e te):PO X (ab e) (Cp te):=by intro af s σ H Q I hw;rw[evalPart_some];refine aZ (h af s σ H _ I hw) λu s1 ⟨x,H1,I1,r1,q1⟩=>?_;obtain⟨i,rfl,q⟩:=q1;obtain⟨t,rfl⟩:=r1;exact⟨ab i,H1,I1,.int i t,q⟩
def mE(X:Cx)(r:V->Option Int->Option Int->Hp->VK->Prop):Prop:=
 ∀(af:List (ag×Obj)) (s:aw) (σ:St) (H:Hp) (x:V) (v vl vu:ah) (lo hi:Option Int) (sl:ag) (Q:VK),Inv X af σ H s->RelV x v->s.heap.IsSliceOf sl vl vu .none->IsPart vl lo->IsPart vu hi->r x lo hi H Q ->
  ∃T id,typeLookup (.type T) "__getitem__" = pure (ab (.builtin id))/\s.TypeIs v T/\wpAny (model X.prog X.w) X.A (getItem v (.ref sl)) (EP X af σ Q) X.xe s
theorem mE.or{r r':V->Option Int->Option Int->Hp->VK->Prop}(h:mE X r)(h':mE X r'):mE X (λx lo hi H Q=>r x lo hi H Q\/r' x lo hi H Q):=by
 intro af s σ H x v vl vu lo hi sl Q I rx hs pl pu q;rcases q with q|q
 ·exact h af s σ H x v vl vu lo hi sl Q I rx hs pl pu q
 ·exact h' af s σ H x v vl vu lo hi sl Q I rx hs pl pu q
def C6(r:V->Option Int->Option Int->Hp->VK->Prop)(te:TE)(tl th:TO):TE:=λσ H Q=>te σ H λx H1=>tl σ H1 λl H2=>th σ H2 λu H3=>r x l u H3 Q
theorem lc{r:V->Option Int->Option Int->Hp->VK->Prop}(hr:mE X r)(he:PE X e te)(hl:PO X lo tl)(hu:PO X hi th):PE X (.Subscript e (.Slice lo hi ac p2) pos) (C6 r te tl th):=by intro af s σ H Q I h;refine Subscript_ (aZ (he af s σ H _ I h) λv s1 ⟨x,H1,I1,r1,q1⟩=>?_);refine wpAny_Slice (aZ (hl af s1 σ H1 _ I1 q1) λvl s2 ⟨l,H2,I2,pl,q2⟩=>aZ (hu af s2 σ H2 _ I2 q2) λvu s3 ⟨u,H3,I3,pu,q3⟩=>?_);rw[evalPart_none];refine bB ?_;have I4:Inv X af σ H3 { s3 with heap:=s3.heap.push { cls:=.type "slice",data:=.fields #[vl,vu,.none] } }:=I3.kept (t':=s3.toks) λb ob q=>bX _ q;obtain⟨T,id,hT,ht,hg⟩:=hr af { s3 with heap:=s3.heap.push { cls:=.type "slice",data:=.fields #[vl,vu,.none] } } σ H3 x v vl vu l u s3.heap.objs.size Q I4 r1 (Heap.IsSliceOf.new ..) pl pu q3;show wpAny (model X.prog X.w) X.A (subscriptTail e (.Slice lo hi ac p2) v (.ref s3.heap.objs.size)) (EP X af σ Q) X.xe { s3 with heap:=s3.heap.push { cls:=.type "slice", data:=.fields #[vl,vu,.none] } };exact tail_any (ops:=[.ref s3.heap.objs.size,v]) ht hT hg (by with_unfolding_all rfl)
def pQ(xs:List V)(lo hi:Option Int):List V:=(xs.drop (HT.dg xs.length 0 lo)).take (HT.dg xs.length xs.length hi-HT.dg xs.length 0 lo)
theorem Lh(xs:List V)(lo hi:Option Int):(pQ xs lo hi).length<=xs.length:=by unfold pQ;rw[iC,kO];omega
end
def eg(n:Nat)(i:Int):Option Nat:=if 0<=i then(if i<n then ab i.toNat else ac)else if -(n:Int)<=i then ab (i+n).toNat else ac
def cK{α:Type}(xs:List α)(i:Int):Option α:=(eg xs.length i).bind λj=>xs[j]?
theorem EE{n:Nat}{i:Int}{j:Nat}(h:eg n i=ab j):seqIndex? i n=ab j/\j<n/\-(n:Int)<=i/\i<n:=by
 unfold eg at h;by_cases h0:0<=i
 ·rw[a9 h0]at h;by_cases h1:i<n
  ·rw[a9 h1]at h;have e:i.toNat=j:=fh h;exact⟨by rw[wc h0 h1,e],by omega,by omega,h1⟩
  ·rw[ba h1]at h;cases h
 ·rw[ba h0]at h;by_cases h1:-(n:Int)<=i
  ·rw[a9 h1]at h;have e:(i+n).toNat=j:=fh h;exact⟨by rw[wb (by omega) h1,e],by omega,h1,by omega⟩
  ·rw[ba h1]at h;cases h
theorem xM{α:Type}{xs:List α}{i:Int}{v:α}(h:cK xs i=ab v):∃j,seqIndex? i xs.length=ab j/\xs[j]? = ab v/\j<xs.length/\-(xs.length:Int)<=i/\i<xs.length:=by
 unfold cK at h;cases e:eg xs.length i with
 |none=>rw[e]at h;cases h
 |some j=>
  rw[e]at h;obtain⟨h1,h2,h3,h4⟩:=EE e;exact⟨j,h1,h,h2,h3,h4⟩
def Eb(b:aY):Prop:=∀o i,subscripted b false o i=operate [o,i] (getItem o i)
def lK(X:Cx)(r:R2):Prop:=
 ∀(value slice:aY) (af:List (ag×Obj)) (s:aw) (σ:St) (H:Hp) (x y:V) (v u:ah) (Q:VK),Inv X af σ H s->RelV x v->RelV y u->r x y H Q ->
  subscripted slice false v u=operate [v,u] (getItem v u)->wpAny (model X.prog X.w) X.A (subscriptTail value slice v u) (EP X af σ Q) X.xe s
def xl(X:Cx)(id:String)(r:V->List V->Hp->VK->Prop):Prop:=
 ∀(af:List (ag×Obj)) (s:aw) (σ:St) (H:Hp) (x:V) (xs:List V) (v:ah) (us:List ah) (Q:VK),Inv X af σ H s->RelV x v->Vals xs us->r x xs H Q ->
  wpAny (model X.prog X.w) X.A (call (.builtin id) (v::us)) (EP X af σ Q) X.xe s
section
variable{X:Cx}{a b:aY}{ta tb:TE}{pos:Pos}
theorem lK.or{r r':R2}(h:lK X r)(h':lK X r'):lK X (λx y H Q=>r x y H Q\/r' x y H Q):=by
 intro value slice af s σ H x y v u Q I rx ry q hs;rcases q with q|q
 ·exact h value slice af s σ H x y v u Q I rx ry q hs
 ·exact h' value slice af s σ H x y v u Q I rx ry q hs
theorem wZ{r:R2}(hr:lK X r)(ha:PE X a ta)(hb:PE X b tb)(hs:Eb b):PE X (.Subscript a b pos) (kj r ta tb):=by intro af s σ H Q I h;exact Subscript_ (yl ha hb I h λv u s2 x y H2 I2 rx ry q=>hr a b af s2 σ H2 x y v u Q I2 rx ry q (hs _ _))
def Ck(K:aP):R2:=λx y H Q=>∃p xs i v,x=.ref p/\y=.int i/\da K H p xs/\cK xs i=ab v/\Q v H
def FY(K:aP):R2:=λx y H Q=>∃p xs i v,x=.ref p/\y=.int i/\eU K H p xs/\cK xs i=ab v/\Q v H
def Dj:R2:=λx y H Q=>∃z i c,x=.str z/\y=.int i/\z.length<=sizeLine/\cK z.cps.toList i=ab c/\Q (.str ⟨#[c]⟩) H
theorem KQ:lK X (Ck X.K):=by
 intro value slice af s σ H x y v u Q I rx ry h hs;obtain⟨p,xs,i,z,rfl,rfl,hq,he,q⟩:=h;cases rx;obtain⟨t,rfl⟩:=ry;obtain⟨aq,r,pl,hz⟩:=I.list hq;obtain⟨j,h1,h2,h3,h4,h5⟩:=xM he;obtain⟨w,ew,rw'⟩:=r.get h2;have hl:=r.length;have hn:=pL;have fin:EP X af σ Q w s:=⟨z,H,I,rw',q⟩;by_cases h0:0<=i
 ·have hj:i.toNat=j:=by
   rw[wc h0 h5]at h1;exact fh h1
  exact item_listR pl.isList h0 (by omega) (by rw[hj];simpa using ew) fin hs
 ·have hj:(i+(aq.toArray.size:Int)).toNat=j:=by
   rw[wb (by omega) h4]at h1;rw[cS,<- hl];exact fh h1
  exact GZ (x:=w) pl.isList.typeIs slot_list_getitem.lookup
   (wpAny_getItem_list_neg (Q:=λr s'=>r=w/\EP X af σ Q r s') pl.isList (by omega) (by rw[cS]<;>omega) (by omega) (by rw[hj];simpa using ew) ⟨rfl,fin⟩) hs
theorem L6:lK X (FY X.K):=by
 intro value slice af s σ H x y v u Q I rx ry h hs;obtain⟨p,xs,i,z,rfl,rfl,hq,he,q⟩:=h;cases rx;obtain⟨t,rfl⟩:=ry;obtain⟨aq,r,pl,hz⟩:=I.tuple hq;obtain⟨j,h1,h2,h3,h4,h5⟩:=xM he;obtain⟨w,ew,rw'⟩:=r.get h2;have hl:=r.length;have hn:=pL;have fin:EP X af σ Q w s:=⟨z,H,I,rw',q⟩;exact GZ (x:=w) pl.typeIs slot_tuple_getitem.lookup
  (getItem_tuple (j:=j) (Q:=λr s'=>r=w/\EP X af σ Q r s') pl (by omega) (by omega) (by rw[cS,<- hl];exact h1) (by simpa using ew) ⟨rfl,fin⟩) hs
theorem Kn:lK X Dj:=by
 intro value slice af s σ H x y v u Q I rx ry h hs;obtain⟨z,i,c,rfl,rfl,hz,he,q⟩:=h;obtain⟨t,rfl⟩:=rx;obtain⟨t',rfl⟩:=ry;obtain⟨j,h1,h2,h3,h4,h5⟩:=xM he;have hl:z.cps.toList.length=z.length:=by simp[oF]
 rw[hl]at h1 h4 h5;have hn:=pL;exact tail_any (typeIs_str s z t) slot_str_getitem.lookup (getItem_str (c:=c) (by
  have e1:decide (i < -(2 ^ 63:Int))=false:=cE (by omega);have e2:decide (i >= 2 ^ 63)=false:=cE (by omega);rw[e1,e2,Bool.or_false]) (by rw[h1];simpa using h2) ⟨.str ⟨#[c]⟩,H,I.tok _,⟨_,rfl⟩,q⟩) hs
def nS(K:aP):R2:=λx y H Q=>Ck K x y H Q\/FY K x y H Q\/Dj x y H Q
theorem zv:lK X (nS X.K):=KQ.or (L6.or Kn)
theorem Mp(aq:List ah)(n j:Nat)(u:ah):i4 (·.setIfInBounds j u) { cls:=.type "list",data:=.seq aq.toArray n }={ cls:=.type "list", data:=.seq (aq.set j u).toArray n }:=by simp[i4]
theorem Inv.lst{af:List (ag×Obj)}{σ:St}{H:Hp}{s:aw}{p:ag}{xs:List V}(I:Inv X af σ H s)(h:H p=ab (.lst xs)) :
 ∃(aq:List ah) (n:Nat),Vals xs aq/\s.heap.get? p=ab { cls:=.type "list", data:=.seq aq.toArray n }/\xs.length<=sizeLine:=by
 obtain⟨z,aq,n,r,e⟩:=I.hok p _ h;exact⟨aq,n,r,e,z⟩
theorem Inv.OH{af:List (ag×Obj)}{σ:St}{H:Hp}{s:aw}{p:ag}{xs ys:List V}{aq its':List ah}{n n':Nat}{f:Obj->Obj}(I:Inv X af σ H s)(h:H p=ab (.lst xs))
 (ho:s.heap.get? p=ab { cls:=.type "list",data:=.seq aq.toArray n }) (hf:f { cls:=.type "list",data:=.seq aq.toArray n }={ cls:=.type "list", data:=.seq its'.toArray n' }) (r:Vals ys its') (hz:ys.length<=sizeLine) (t:Nat) :
 Inv X af σ (upd H p (.lst ys)) { s with heap:=s.heap.update p f,toks:=t }:=by
 have e:(s.heap.update p f).get? p=ab { cls:=.type "list", data:=.seq its'.toArray n' }:=by rw[ox f ho (by rw[hf]<;>rfl),hf]
 refine I.write (x:=p) (e:=p) (by rw[h];trivial) (.inl rfl) (λb u hb q=>(ou _ _ (cY hb)).trans q) ⟨_,e⟩ ?_;exact⟨hz,its',n',r,e⟩
def ED:V->V->V->Hp->(Hp->Prop)->Prop:=λo i v H Q=>∃p xs k j,o=.ref p/\i=.int k/\H p=ab (.lst xs)/\eg xs.length k=ab j/\Q (upd H p (.lst (xs.set j v)))
theorem set_list:DX X ED:=by
 intro af s σ H o i v ov iv u Q I ro ri rv h;obtain⟨p,xs,k,j,rfl,rfl,hp,hj,q⟩:=h;cases ro;obtain⟨t,rfl⟩:=ri;obtain⟨aq,n,r,ho,hz⟩:=I.lst hp;obtain⟨h1,h2,h3,h4⟩:=EE hj;have hl:=r.length;have hn:=pL;have I':Inv X af σ (upd H p (.lst (xs.set j v))) { s with heap:=s.heap.update p (i4 (·.setIfInBounds j u)) }:=
  I.OH hp ho (Mp aq n j u) (r.set rv j) (by rw[gH];exact hz) s.toks
 by_cases h0:0<=k
 ·have hk:k.toNat=j:=by
   rw[wc h0 h4]at h1;exact fh h1
  exact PySem.W.ki_setAt ho h0 (by omega) (by rw[cS,<- hl];exact h4) (by rw[hk];exact⟨_,I',q⟩)
 ·have hk:(k+(aq.toArray.size:Int)).toNat=j:=by
   rw[wb (by omega) h3]at h1;rw[cS,<- hl];exact fh h1
  exact PySem.W.ki_setBack ho (by omega) (by rw[cS,<- hl];exact h3) (by omega) (by rw[hk];exact⟨_,I',q⟩)
theorem IG(lo hi:Option Int)(n:Nat):(sliceBounds lo hi ac n).1=((HT.dg n 0 lo:Nat):Int)/\(sliceBounds lo hi ac n).2.1=((HT.dg n n hi:Nat):Int)/\(sliceBounds lo hi ac n).2.2=1:=by
 refine⟨?_,?_,rfl⟩
 ·cases lo with
  |none=>simp[sliceBounds,HT.dg]
  |some i=>
   simp only[sliceBounds,HT.dg,GV,show(1:Int)>0 by decide,kr];by_cases h:i<0
   ·simp only[h,kr]<;>omega
   ·simp only[h,jk]<;>omega
 ·cases hi with
  |none=>simp[sliceBounds,HT.dg]
  |some i=>
   simp only[sliceBounds,HT.dg,GV,show(1:Int)>0 by decide,kr];by_cases h:i<0
   ·simp only[h,kr]<;>omega
   ·simp only[h,jk]<;>omega
theorem ME(aq:List ah)(lo hi:Option Int):slicePick aq.toArray lo hi ac=((aq.drop (HT.dg aq.length 0 lo)).take (HT.dg aq.length aq.length hi-HT.dg aq.length 0 lo)).toArray:=by obtain⟨h1,h2,h3⟩:=IG lo hi aq.toArray.size;unfold slicePick;rw[h1,h2,h3];simp only[sliceRange_one,pick_run,cS]<;>rfl
def F5(K:aP):V->Option Int->Option Int->Hp->VK->Prop:=λx lo hi H Q=>∃a xs,x=.ref a/\da K H a xs/\∀p,H p=ac->Q (.ref p) (upd H p (.lst (pQ xs lo hi)))
theorem Od:mE X (F5 X.K):=by intro af s σ H x v vl vu lo hi sl Q I rx hs pl pu h;obtain⟨a,xs,rfl,hx,q⟩:=h;cases rx;obtain⟨aq,r,ht,hz⟩:=I.list hx;have hlen:=r.length;refine⟨"list", _,slot_list_getitem.lookup,ht.isList.typeIs,?_⟩;refine wpAny_getItem_list_slice ht.isList hs pl pu .none (by simp) ?_ (by rw[cS]<;>omega);rw[ME,<- hlen];refine⟨.ref s.heap.objs.size,_,I.laid (t':=s.toks) (o:=.lst (pQ xs lo hi)) (λb ob q=>bX _ q) (bv _) ?_,rfl,q _ (I.hok.fresh (bv _))⟩;exact⟨eK (Lh xs lo hi) hz,_,0,(r.drop (HT.dg xs.length 0 lo)).take (HT.dg xs.length xs.length hi-HT.dg xs.length 0 lo),cL _ rfl⟩
def yp:V->Bool
 |.non=>true
 |.bl _=>true
 |.int _=>true
 |.str _=>true
 |_=>false
def FU:V->V->Bool
 |.non,.non=>true
 |.bl a,.bl b=>a==b
 |.bl a,.int b=>(if a then 1 else 0)==b
 |.int a,.bl b=>a==(if b then 1 else 0)
 |.int a,.int b=>a==b
 |.str a,.str b=>a==b
 |_,_=>false
theorem Oj{A:bN}{s:aw}{y x:V}{u v:ah}(ry:RelV y u)(rx:RelV x v)(fy:yp y=true)(fx:yp x=true):SeqAt.EqAt A s u v (FU y x):=by
 cases y with
 |non=>
  cases ry;cases x with
  |non=>cases rx;exact SeqAt.EqAt.same _
  |bl b=>cases rx;exact SeqAt.EqAt.none_bool b
  |int b=>obtain⟨t,rfl⟩:=rx;exact SeqAt.EqAt.none_int b t
  |str b=>obtain⟨t,rfl⟩:=rx;exact SeqAt.EqAt.none_str b t
  |_=>exact absurd (show false=true from fx) c8
 |bl a=>
  cases ry;cases x with
  |non=>cases rx;exact SeqAt.EqAt.bool_none a
  |bl b=>cases rx;exact Hj a b
  |int b=>obtain⟨t,rfl⟩:=rx;exact SeqAt.EqAt.bool_int a b t
  |str b=>obtain⟨t,rfl⟩:=rx;exact Hk a b t
  |_=>exact absurd (show false=true from fx) c8
 |int a=>
  obtain⟨t',rfl⟩:=ry;cases x with
  |non=>cases rx;exact SeqAt.EqAt.int_none a t'
  |bl b=>cases rx;exact SeqAt.EqAt.int_bool a t' b
  |int b=>obtain⟨t,rfl⟩:=rx;exact SeqAt.EqAt.int_int a t' b t
  |str b=>obtain⟨t,rfl⟩:=rx;exact SeqAt.EqAt.int_str a t' b t
  |_=>exact absurd (show false=true from fx) c8
 |str a=>
  obtain⟨t',rfl⟩:=ry;cases x with
  |non=>cases rx;exact SeqAt.EqAt.str_none a t'
  |bl b=>cases rx;exact Hl a t' b
  |int b=>obtain⟨t,rfl⟩:=rx;exact SeqAt.EqAt.str_int a t' b t
  |str b=>obtain⟨t,rfl⟩:=rx;exact SeqAt.EqAt.str_str a t' b t
  |_=>exact absurd (show false=true from fx) c8
 |_=>exact absurd (show false=true from fy) c8
theorem IS:fP X (.type "list") (λxs H Q=>∃p ys,xs=[.ref p]/\(da X.K H p ys\/eU X.K H p ys)/\∀l,H l=ac->Q (.ref l) (upd H l (.lst ys))):=by
 intro af s σ H xs us Q I r h;obtain⟨p,ys,rfl,hq,q⟩:=h;obtain⟨u,rfl,rx⟩:=vals1 r;cases rx;have fin:∀(aq:List ah),Vals ys aq->ys.length<=sizeLine->∀(h':aR) (c':Nat),(∀b o',s.heap.get? b=ab o'->h'.get? b=ab o') ->
  h'.get? s.heap.objs.size=ab { cls:=.type "list", dict:=ac,data:=.seq aq.toArray c',slots:=#[] }->EP X af σ Q (.ref s.heap.objs.size) { s with heap:=h' }:=λaq r' hz h' c' kp e=>
  ⟨.ref s.heap.objs.size,_,I.laid (t':=s.toks) kp (bv _) (show cH X.prog X.w _ h' _ (.lst ys)from⟨hz,aq,c',r',e⟩),rfl,q _ (I.hok.fresh (bv _))⟩
 rcases hq with hq|hq
 ·obtain⟨aq,r',pl,hz⟩:=I.list hq;have hlen:=r'.length;obtain⟨o,ho,hc,n,hd⟩:=pl.isList;exact call_list_seq p (.inl rfl) ho hc hd (λh' c' kp e=>fin aq r' hz h' c' kp e) (by simp only[cS]<;>omega)
 ·obtain⟨aq,r',pl,hz⟩:=I.tuple hq;have hlen:=r'.length;obtain⟨o,ho,hc,n,hd⟩:=pl;exact call_list_seq p (.inr rfl) ho hc hd (λh' c' kp e=>fin aq r' hz h' c' kp e) (by simp only[cS]<;>omega)
theorem IE:fP X (.type "tuple") (λxs H Q=>∃p ys,xs=[.ref p]/\((da X.K H p ys/\∀l,H l=ac->Q (.ref l) (upd H l (.tup ys)))\/(eU X.K H p ys/\Q (.ref p) H))):=by
 intro af s σ H xs us Q I r h;obtain⟨p,ys,rfl,h⟩:=h;obtain⟨u,rfl,rx⟩:=vals1 r;cases rx;rcases h with ⟨hq,q⟩|⟨hq,q⟩
 ·obtain⟨aq,r',pl,hz⟩:=I.list hq;have hlen:=r'.length;refine call_tuple_list pl.isList (λh' kp=>?_) (by simp only[cS]<;>omega);have I1:Inv X af σ H { s with heap:=h' }:=I.kept (t':=s.toks) kp;have I2:Inv X af σ (upd H h'.objs.size (.tup ys)) { s with heap:=h'.push { cls:=.type "tuple", data:=.seq aq.toArray } }:=
   I1.laid (t':=s.toks) (λb o e=>bX _ e) (bv _) (show cH X.prog X.w _ _ _ (.tup ys)from⟨hz,aq,r',pE.new _ _⟩)
  exact⟨.ref h'.objs.size,_,I2,rfl,q _ (I1.hok.fresh (bv _))⟩
 ·obtain⟨aq,r',pl,hz⟩:=I.tuple hq;exact call_tuple_same pl ⟨.ref p,H,I,rfl,q⟩
def yg(K:aP)(T:String)(x:V)(H:Hp):Prop:=match x with
 |.str _=>T = "str"
 |.int _=>T = "int"
 | .ref p=>(T = "list" /\ ∃xs,da K H p xs)\/(T = "tuple" /\ ∃o,K.lookup p=ab o/\o.cls=.type "tuple" /\ o.dict=ac) \/
  (T = "dict" /\ ((∃ao,H p=ab (.dK ao))\/∃ao,H p=ab (.dT ao)))\/(T = "set" /\ ∃S n,H p=ab (.set S n))
 |_=>False
theorem Fs{af:List (ag×Obj)}{σ:St}{H:Hp}{s:aw}{T:String}{x:V}{v:ah}(I:Inv X af σ H s)(r:RelV x v)(ty:yg X.K T x H) :
 s.TypeIs v T/\∀a,v=.ref a->∃ob,s.heap.get? a=ab ob/\ob.dict=ac:=by
 cases x with
 |str z=>
  obtain⟨t,rfl⟩:=r;cases(show T = "str" from ty);exact⟨typeIs_str s z t,λ_ e=>nomatch e⟩
 |int i=>
  obtain⟨t,rfl⟩:=r;cases(show T = "int" from ty);exact⟨typeIs_int s i t,λ_ e=>nomatch e⟩
 |ref p=>
  cases r;rcases ty with ⟨rfl,xs,hq⟩|⟨rfl,o,hk,hc,hd⟩|⟨rfl,hk⟩|⟨rfl,S,n,hk⟩
  ·obtain⟨aq,_,pl,_⟩:=I.list hq;refine⟨pl.isList.typeIs,λa e=>?_⟩;cases e;obtain⟨o,n,e,c,hd,_⟩:=pl;exact⟨o,e,hd⟩
  ·refine⟨⟨o,I.fj p o hk,hc⟩,λa e=>?_⟩;cases e;exact⟨o,I.fj _ o hk,hd⟩
  ·have z:∃o,s.heap.get? p=ab o/\o.ExactDict:=by
    rcases hk with ⟨ao,hk⟩|⟨ao,hk⟩
    ·obtain⟨_,_,_,_,o,_,_,e,ex,_⟩:=I.hok p _ hk;exact⟨o,e,ex⟩
    ·obtain⟨_,_,_,_,o,_,_,e,ex,_⟩:=I.hok p _ hk;exact⟨o,e,ex⟩
   obtain⟨o,e,ex⟩:=z;refine⟨⟨o,e,ex.1⟩,λa e2=>?_⟩;cases e2;exact⟨o,e,ex.2.1⟩
  ·obtain⟨o,_,_,_,e,ex,_⟩:=I.hok p _ hk;refine⟨⟨o,e,ex.1⟩,λa e2=>?_⟩;cases e2;exact⟨o,e,ex.2.1⟩
 |_=>exact hV ty
def ny(K:aP)(T:String)(r:V->List V->Hp->VK->Prop)(to:TE):TE:=λσ H Q=>to σ H λx H1=>yg K T x H1/\r x [] H1 Q
def oK(K:aP)(T:String)(r:V->List V->Hp->VK->Prop)(to:TE)(t:TA):TE:=λσ H Q=>to σ H λx H1=>yg K T x H1/\t σ H1 λxs H2=>r x xs H2 Q
variable{o e:aY}{es:List aY}{to:TE}{t:TA}{name:Str}{apos cpos:Pos}{T id:String}{r:V->List V->Hp->VK->Prop}
theorem sG(pa:PlainAttrs T)(slot:Slot T name id)(hty:typeOf (.builtin id)=pure (.type "method_descriptor"))(hm:xl X id r)(ho:PE X o to)
 (hbase:attributeBase o name X.env (eval o X.env)=eval o X.env:=by rfl) (hline:(apos.endLine==cpos.line)=true:=by rfl):PE X (.Call (.Attribute o name apos) [] [] cpos) (ny X.K T r to):=by
 intro af s σ H Q I h;refine wpAny_Call_method0_late hbase hline (aZ (ho af s σ H _ I h) λv s1 ⟨x,H1,I1,r1,ty,q1⟩=>?_);obtain⟨h1,h2⟩:=Fs I1 r1 ty;exact⟨T,id,pa,slot,hty,h1,h2,G8 rfl (PySem.evalArgs_none (hm af s1 σ H1 x [] v [] Q I1 r1 .nil q1))⟩
theorem gD(pa:PlainAttrs T)(slot:Slot T name id)(hty:typeOf (.builtin id)=pure (.type "method_descriptor"))(hm:xl X id r)(ho:PE X o to)(ha:PA X (e::es) t)
 (hbase:attributeBase o name X.env (eval o X.env)=eval o X.env:=by rfl)
 (hfew:((backTo cpos (starEach (e::es) X.env)).all (λx=>!x.1)&&(backToKw cpos (keywordEach [] X.env)).all (λx=>x.1.isSome)
  && decide ((e::es).length+([]:List Keyword).length+(if([]:List Keyword).isEmpty then 0 else 1)<30))=true:=by rfl)
 (hline:(apos.endLine==cpos.line)=true:=by rfl) (hs:starEach (e::es) X.env=(false,eval e X.env)::starEach es X.env:=by rfl) (hplain:(backTo cpos (starEach es X.env)).any (·.1)=false:=by rfl) :
 PE X (.Call (.Attribute o name apos) (e::es) [] cpos) (oK X.K T r to t):=by
 intro af s σ H Q I h;refine wpAny_Call_method_late hbase hfew hline rfl (aZ (ho af s σ H _ I h) λv s1 ⟨x,H1,I1,r1,ty,q1⟩=>?_);obtain⟨h1,h2⟩:=Fs I1 r1 ty;refine⟨T,id,pa,slot,hty,h1,h2,?_⟩;have hA:=ha cpos af s1 σ H1 _ I1 q1;rw[hs]at hA ⊢;refine G8 (by show(false||(backTo cpos (starEach es X.env)).any (·.1))=false;rw[hplain]<;>rfl) (Calls.evalArgs_plain ?_);exact aZ hA λus s2 ⟨vs,H2,I2,r2,q2⟩=>hm af s2 σ H2 x vs v us Q I2 r1 r2 q2
end
def sP(X:Cx)(id:String)(r:V->List V->Hp->VK->Prop):Prop:=
 ∀(af:List (ag×Obj)) (s:aw) (σ:St) (H:Hp) (x:V) (xs:List V) (v:ah) (us:List ah) (Q:VK),Inv X af σ H s->RelV x v->Vals xs us->r x xs H Q ->
  wpAny (model X.prog X.w) X.A (call (.builtin id) (v::us)) (EP X af σ Q) X.xe s
theorem Vals.one:∀{x:V} {us:List ah},Vals [x] us->∃u,us=[u]/\RelV x u
 |_,_,.cons r .nil=>⟨_,rfl,r⟩
theorem Vals.zero:∀{us:List ah},Vals [] us->us=[]
 |_,.nil=>rfl
theorem Vals.dropLast{xs:List V}{us:List ah}(h:Vals xs us):Vals xs.dropLast us.dropLast:=by
 induction h with
 |nil=>exact .nil
 |cons r t ih=>
  cases t with
  |nil=>exact .nil
  |cons q t'=>exact .cons r ih
theorem Vals.eraseIdx:∀{xs:List V} {us:List ah} (i:Nat),Vals xs us->Vals (xs.eraseIdx i) (us.eraseIdx i)
 |_,_,_,.nil=>.nil
 |_,_,0,.cons _ t=>t
 |_,_,i+1,.cons r t=>.cons r (Vals.eraseIdx i t)
theorem Vals.reverse{xs:List V}{us:List ah}(h:Vals xs us):Vals xs.reverse us.reverse:=by
 induction h with
 |nil=>exact .nil
 |cons r t ih=>rw[mL,mL];exact Vals.append ih (.cons r .nil)
theorem MA{α:Type}(l:List α):l.eraseIdx (l.length-1)=l.dropLast:=by
 induction l with
 |nil=>rfl
 |cons a r ih=>
  cases r with
  |nil=>rfl
  |cons b r=>
   have e:(a::b::r).length-1=((b::r).length-1)+1:=by have h1:(a::b::r).length=r.length+2:=rfl;have h2:(b::r).length=r.length+1:=rfl;omega
   rw[e,zJ,ih]
   all_goals rfl
theorem Dv{α:Type}:∀(l:List α) (i:Nat),(l.eraseIdx i).length<=l.length
 |[],_=>bv _
 |_::_,0=>Nat.le_succ _
 |_::r,i+1=>Nat.succ_le_succ (Dv r i)
section
variable{X:Cx}{af:List (ag×Obj)}{σ:St}{H:Hp}{s:aw}{l b:ag}{xs ys zs:List V}
theorem Inv.ss{aq its':List ah}{n:Nat}{f:Array ah->Array ah}{t':Nat}(I:Inv X af σ H s)(hH:H l=ab (.lst xs))
 (e:s.heap.get? l=ab { cls:=.type "list", data:=.seq aq.toArray n }) (hf:f aq.toArray=its'.toArray) (hv:Vals ys its') (hz:ys.length<=sizeLine) :
 Inv X af σ (upd H l (.lst ys)) { s with heap:=s.heap.update l (i4 f),toks:=t' }:=by
 have q:=PySem.IsL.update e f;rw[hf]at q;refine I.write (x:=l) (e:=l) (by rw[hH];exact trivial) (.inl rfl) (λb' u hb hu=>(ou s.heap (i4 f) (cY hb)).trans hu) ⟨_,q⟩ ?_;exact⟨hz,its',_,hv,q⟩
theorem Inv.JL{aq:List ah}{t':Nat}(I:Inv X af σ H s)(hv:Vals ys aq)(hz:ys.length<=sizeLine) :
 Inv X af σ (upd H s.heap.objs.size (.lst ys)) { s with heap:=s.heap.push { cls:=.type "list", data:=.seq aq.toArray },toks:=t' }:=
 I.laid (λ_ _ q=>bX _ q) (bv _) ⟨hz,aq,0,hv,cL _ rfl⟩
theorem Inv.fresh(I:Inv X af σ H s):H s.heap.objs.size=ac:=I.hok.fresh (bv _)
theorem Inv.rm(I:Inv X af σ H s)(hH:H l=ab (.lst xs)):xs.length<=sizeLine/\∃(aq:List ah) (n:Nat),Vals xs aq/\xs.length=aq.length/\s.heap.get? l=ab { cls:=.type "list", data:=.seq aq.toArray n }:=by obtain⟨z,aq,n,r,e⟩:=I.hok l _ hH;exact⟨z,aq,n,r,r.length,e⟩
end
section
variable{X:Cx}
def wP:V->List V->Hp->VK->Prop:=λx vs H Q=>∃l xs y,x=.ref l/\vs=[y]/\H l=ab (.lst xs)/\xs.length<sizeLine/\Q .non (upd H l (.lst (xs++[y])))
theorem j9:sP X "list.append" wP:=by intro af s σ H x vs v us Q I rx rv h;obtain⟨l,xs,y,rfl,rfl,hH,hz,q⟩:=h;cases rx;obtain⟨u,rfl,ru⟩:=rv.one;obtain⟨z,aq,n,r,hl,e⟩:=I.rm hH;refine tI F.slot_list_append ⟨_,e,rfl⟩ F.entry_list_append (F.args_list_append_2 _ _) (PySem.list_append l aq.toArray n u (by rw[cS];omega)) ⟨e,?_⟩;refine⟨.non,_,I.ss (its':=aq++[u]) hH e (by simp) (r.append (.cons ru .nil)) ?_,rfl,q⟩;rw[cF,gc];omega
def Bs:V->List V->Hp->VK->Prop:=λx vs H Q=>∃l xs y,x=.ref l/\vs=[]/\H l=ab (.lst xs)/\xs[xs.length-1]? = ab y/\Q y (upd H l (.lst xs.dropLast))
theorem Ja:sP X "list.pop" Bs:=by
 intro af s σ H x vs v us Q I rx rv h;obtain⟨l,xs,y,rfl,rfl,hH,hy,q⟩:=h;cases rx;have hus:=rv.zero;subst hus;obtain⟨z,aq,n,r,hl,e⟩:=I.rm hH;obtain⟨u,hu,ru⟩:=r.get hy;have hy':aq.toArray[aq.toArray.size-1]? = ab u:=by show aq.toArray[aq.length-1]? = ab u;rw[<- tQ,<- hl];exact hu
 refine tI F.slot_list_pop ⟨_,e,rfl⟩ F.entry_list_pop (F.args_list_pop_1 _) (MeetsSeq.list_pop_last l aq.toArray n u hy' (by rw[cS];omega)) ⟨e,?_⟩;refine⟨y,_,I.ss (its':=aq.dropLast) hH e ?_ r.dropLast ?_,ru,q⟩
 ·show aq.toArray.eraseIdxIfInBounds (aq.toArray.size-1)=aq.dropLast.toArray;rw[cS,Gm,MA]
 ·rw[List.length_dropLast];omega
def wR:V->List V->Hp->VK->Prop:=λx vs H Q=>∃l xs i k y,x=.ref l/\vs=[.int i]/\H l=ab (.lst xs)/\-(2 ^ 63)<=i/\i<2 ^ 63/\seqIndex? i xs.length=ab k/\xs[k]? = ab y/\Q y (upd H l (.lst (xs.eraseIdx k)))
theorem ux:sP X "list.pop" wR:=by
 intro af s σ H x vs v us Q I rx rv h;obtain⟨l,xs,i,k,y,rfl,rfl,hH,h1,h2,hk,hy,q⟩:=h;cases rx;obtain⟨u,rfl,ru⟩:=rv.one;obtain⟨t,rfl⟩:=ru;obtain⟨z,aq,n,r,hl,e⟩:=I.rm hH;obtain⟨w,hw,rw'⟩:=r.get hy;refine tI F.slot_list_pop ⟨_,e,rfl⟩ F.entry_list_pop (F.args_list_pop_2 _ _)
  (MeetsSeq.list_pop_at l aq.toArray n i t k w (fitsIndex_both h1 h2) (by rw[cS,<- hl];exact hk) (by rw[<- tQ];exact hw) (by rw[cS];omega)) ⟨e,?_⟩
 refine⟨y,_,I.ss (its':=aq.eraseIdx k) hH e ?_ (r.eraseIdx k) ?_,rw',q⟩
 ·show aq.toArray.eraseIdxIfInBounds k=(aq.eraseIdx k).toArray;rw[Gm]
 ·have:=Dv xs k;omega
def FP:V->List V->Hp->VK->Prop:=λx vs H Q=>∃l xs,x=.ref l/\vs=[]/\H l=ab (.lst xs)/\Q .non (upd H l (.lst xs.reverse))
theorem PU:sP X "list.reverse" FP:=by intro af s σ H x vs v us Q I rx rv h;obtain⟨l,xs,rfl,rfl,hH,q⟩:=h;cases rx;have hus:=rv.zero;subst hus;obtain⟨z,aq,n,r,hl,e⟩:=I.rm hH;refine tI F.slot_list_reverse ⟨_,e,rfl⟩ F.entry_list_reverse (F.args_list_reverse_1 _) (AutoSeq1.list_reverse_list_0 l aq.toArray n (by rw[cS];omega)) ⟨e,?_⟩;refine⟨.non,_,I.ss (its':=aq.reverse) hH e (by simp) r.reverse ?_,rfl,q⟩;rw[tq];omega
def sg:V->List V->Hp->VK->Prop:=λx vs H Q=>∃l xs,x=.ref l/\vs=[]/\H l=ab (.lst xs)/\Q .non (upd H l (.lst []))
theorem yy:sP X "list.clear" sg:=by intro af s σ H x vs v us Q I rx rv h;obtain⟨l,xs,rfl,rfl,hH,q⟩:=h;cases rx;have hus:=rv.zero;subst hus;obtain⟨z,aq,n,r,hl,e⟩:=I.rm hH;refine tI F.slot_list_clear ⟨_,e,rfl⟩ F.entry_list_clear (F.args_list_clear_1 _) (AutoSeq1.list_clear_list_0 l aq.toArray n (by rw[cS];omega)) ⟨e,?_⟩;exact⟨.non,_,I.ss (its':=[]) (ys:=[]) hH e rfl .nil (fI _),rfl,q⟩
end
section
variable{κ:Type}[DecidableEq κ]
def gQ(ao:List (κ×V))(k:κ):Option V:=(ao.find? λkv=>decide (kv.1=k)).map (·.2)
def putK(ao:List (κ×V))(k:κ)(v:V):List (κ×V):=if(ao.any λkv=>decide (kv.1=k))=true then ao.map (λkv=>if kv.1=k then(kv.1,v)else kv)else ao++[(k,v)]
theorem yv{p:κ×V}{r:List (κ×V)}{k:κ}(e:p.1=k):gQ (p::r) k=ab p.2:=by simp[gQ,jU,e]
theorem xP{p:κ×V}{r:List (κ×V)}{k:κ}(e:¬ p.1=k):gQ (p::r) k=gQ r k:=by simp[gQ,jU,e]
theorem D7(k:κ):∀ao:List (κ×V),(ao.any λkv=>decide (kv.1=k))=(gQ ao k).isSome
 |[]=>rfl
 |p::r=>by
  rw[iV];by_cases e:p.1=k
  ·simp only[yv e,bW e,Bool.true_or,Option.isSome_some]
  ·rw[xP e,cE e,wj];exact D7 k r
theorem xB(ao:List (κ×V))(k:κ)(v:V):(putK ao k v).length<=ao.length+1:=by
 unfold putK;split
 ·rw[aX];omega
 ·rw[cF,c6,lQ];omega
theorem ju.qH{o:Option V}{u:Option ah}(r:ju o u):o.isSome=u.isSome:=by
 cases o with
 | none=>cases u with
  |none=>rfl
  |some _=>exact(show False from r).elim
 | some _=>cases u with
  |none=>exact(show False from r).elim
  |some _=>rfl
theorem KV.val{ao:List (κ×V)}{vs:List (κ×ah)}(r:KV ao vs)(k:κ):ju (gQ ao k) (valueAt vs k):=by
 unfold KV at r
 induction r with
 |nil=>exact jY
 | @cons p q ps qs h t ih=>
  obtain⟨h1,h2⟩:=h;by_cases e:p.1=k
  ·have e':q.1=k:=h1.symm.trans e;have b:valueAt (q::qs) k=ab q.2:=by simp[valueAt,jU,e']
   rw[yv e,b];exact h2
  ·have e':¬ q.1=k:=λz=>e (h1.trans z);have b:valueAt (q::qs) k=valueAt qs k:=by simp[valueAt,jU,e']
   rw[xP e,b];exact ih
theorem KV.any{ao:List (κ×V)}{vs:List (κ×ah)}(r:KV ao vs)(k:κ):(ao.any λkv=>decide (kv.1=k))=vs.any λkv=>decide (kv.1=k):=by
 unfold KV at r
 induction r with
 |nil=>rfl
 |cons h t ih=>rw[iV,iV,ih,h.1]
theorem KV.repl{ao:List (κ×V)}{vs:List (κ×ah)}(r:KV ao vs)(k:κ){y:V}{u:ah}(ry:RelV y u) :
 KV (ao.map λkv=>if kv.1=k then(kv.1,y)else kv) (vs.map λkv=>if kv.1=k then(kv.1,u)else kv):=by
 unfold KV at r ⊢
 induction r with
 |nil=>exact .nil
 | @cons p q ps qs h t ih=>
  rw[cG,cG];refine .cons ?_ ih;obtain⟨h1,h2⟩:=h;by_cases e:p.1=k
  ·rw[a9 e,a9 (h1.symm.trans e)];exact⟨h1,ry⟩
  ·rw[ba e,ba (λz=>e (h1.trans z))];exact⟨h1,h2⟩
theorem KV.put{ao:List (κ×V)}{vs:List (κ×ah)}(r:KV ao vs)(k:κ){y:V}{u:ah}(ry:RelV y u):KV (putK ao k y) (stored vs k u):=by
 unfold putK stored;rw[r.any k];by_cases e:(vs.any λkv=>decide (kv.1=k))=true
 ·rw[a9 e,a9 e];exact r.repl k ry
 ·rw[ba e,ba e];exact Paired.snoc r ⟨rfl,ry⟩
theorem KV.length{ao:List (κ×V)}{vs:List (κ×ah)}(r:KV ao vs):ao.length=vs.length:=tU r
end
theorem oV{P:br}{w:bd}{k:Key}{u:ah}(r:RelV (kV k) u):(gz P w).is k u=true:=by
 cases k with
 |inl i=>obtain e:=(show u=jq i from r);subst e;exact J7 P w i
 |inr x=>obtain⟨t,e⟩:=(show∃t,u=oA x t from r);subst e;exact J3 P w x t
theorem BB{P:br}{w:bd}:∀{ks:List Key} {us:List ah},Vals (ks.map kV) us->ItemsAre (gz P w) ks us
 |[],_,r=>by rw[tF]at r;cases r;exact .nil
 |k::ks,_,r=>by
  rw[cG]at r;cases r with
  |cons h t=>exact .cons (oV h) (BB t)
abbrev KT(H:Hp):List (List Key×V)->List (List Key×ag×ah)->Prop:=mW λp q=>p.1=q.1/\H q.2.1=ab (.tup (p.1.map kV))/\RelV p.2 q.2.2
theorem KT.val{H:Hp}{ao:List (List Key×V)}{xs:List (List Key×ag×ah)}(r:KT H ao xs)(k:List Key):ju (gQ ao k) ((atKey xs k).map (·.2)):=by
 induction r with
 |nil=>exact jY
 | @cons p q ps qs h t ih=>
  obtain⟨h1,_,h2⟩:=h;by_cases e:p.1=k
  ·have e':q.1=k:=h1.symm.trans e;have b:atKey (q::qs) k=ab q.2:=by simp[atKey,jU,e']
   rw[yv e,b];exact h2
  ·have e':¬ q.1=k:=λz=>e (h1.trans z);have b:atKey (q::qs) k=atKey qs k:=by simp[atKey,jU,e']
   rw[xP e,b];exact ih
theorem KT.repl{H:Hp}{ao:List (List Key×V)}{xs:List (List Key×ag×ah)}(r:KT H ao xs)(k:List Key){y:V}{u:ah}(ry:RelV y u) :
 KT H (ao.map λkv=>if kv.1=k then(kv.1,y)else kv) (xs.map (putAt k u)):=by
 induction r with
 |nil=>exact .nil
 | @cons p q ps qs h t ih=>
  rw[cG,cG];refine .cons ?_ ih;obtain⟨h1,h2,h3⟩:=h;unfold putAt;by_cases e:p.1=k
  ·rw[a9 e,a9 (h1.symm.trans e)];exact⟨h1,h2,ry⟩
  ·rw[ba e,ba (λz=>e (h1.trans z))];exact⟨h1,h2,h3⟩
theorem KT.put{H:Hp}{ao:List (List Key×V)}{xs:List (List Key×ag×ah)}(r:KT H ao xs)(k:List Key){b:ag}{y:V}{u:ah}(hb:H b=ab (.tup (k.map kV)))(ry:RelV y u) :
 KT H (putK ao k y) (storedH xs k b u):=by
 have e:(ao.any λkv=>decide (kv.1=k))=(atKey xs k).isSome:=by rw[D7,(r.val k).qH,wr]
 unfold putK storedH;rw[e];by_cases q:(atKey xs k).isSome=true
 ·rw[a9 q,a9 q];exact r.repl k ry
 ·rw[ba q,ba q];exact Paired.snoc r ⟨rfl,hb,ry⟩
theorem KT.keeps{H H':Hp}{ao:List (List Key×V)}{xs:List (List Key×ag×ah)}(r:KT H ao xs)(ht:∀b ys,H b=ab (.tup ys)->H' b=ab (.tup ys)):KT H' ao xs:=Paired.yS r λ_ _ z=>⟨z.1,ht _ _ z.2.1,z.2.2⟩
section
variable{P:br}{w:bd}{H:Hp}{h:aR}{a:ag}
theorem C0{u:HO}(ok:cQ P w H h)(e:Rd H a u):cH P w H h a u:=e.ok ok
theorem rB{ao:List (Key×V)}(ok:cQ P w H h)(e:Rd H a (.dK ao)):ao.length<=sizeLine/\(a==sysModules)=false/\∃vs,KV ao vs/\h.DictOf (gz P w) a vs:=show cH P w H h a (.dK ao)from C0 ok e
theorem E8{ao:List (Key×V)}(ok:cQ P w H h)(e:H a=ab (.dK ao)):ao.length<=sizeLine/\(a==sysModules)=false/\∃vs,KV ao vs/\h.DictOf (gz P w) a vs:=rB ok (.inl e)
theorem qI{ks:List Key}(ok:cQ P w H h)(e:H a=ab (.tup (ks.map kV))):(tupleKind (gz P w)).is h ks a:=by obtain⟨_,aq,r,o,h1,h2,_,n,h3⟩:=(show cH P w H h a (.tup (ks.map kV))from ok a _ e);exact⟨o,aq.toArray,n,h1,h2,h3,by simpa using BB r⟩
theorem rM{ao:List (List Key×V)}(ok:cQ P w H h)(e:Rd H a (.dT ao)):ao.length<=sizeLine/\(a==sysModules)=false /\
 ∃xs,KT H ao xs/\h.DictOfH (tupleKind (gz P w)) a xs:=by
 obtain⟨z,y,xs,r,o,es,ep,h1,h2,h3,h4,h5⟩:=(show cH P w H h a (.dT ao)from C0 ok e);refine⟨z,y,xs,r,o,es,ep,h1,h2,h3,h4,λx hx=>?_,h5⟩;have all:∀{l:List (List Key×V)} {m:List (List Key×ag×ah)},KT H l m->∀x∈m,(tupleKind (gz P w)).is h x.1 x.2.1:=by
  intro l m q
  induction q with
  |nil=>intro x hx;exact nomatch hx
  | @cons p q ps qs hq t ih=>
   intro x hx;rcases bL.mp hx with e|hx
   ·subst e;exact qI ok (by rw[<- hq.1];exact hq.2.1)
   ·exact ih x hx
 exact all r x hx
theorem OM{ao:List (List Key×V)}(ok:cQ P w H h)(e:H a=ab (.dT ao)):ao.length<=sizeLine/\(a==sysModules)=false /\
 ∃xs,KT H ao xs/\h.DictOfH (tupleKind (gz P w)) a xs:=rM ok (.inl e)
end
def ib(H:Hp)(a:ag)(y:V)(r:Option V):Prop:=(∃ao k,Rd H a (.dK ao)/\y=kV k/\r=gQ ao k)\/∃ao k b,Rd H a (.dT ao)/\y=.ref b/\H b=ab (.tup (k.map kV))/\r=gQ ao k
def mi(H:Hp)(a:ag)(y v:V)(H':Hp):Prop:=
 (∃ao k,H a=ab (.dK ao)/\y=kV k/\ao.length<sizeLine/\H'=upd H a (.dK (putK ao k v))) \/
 ∃ao k b,H a=ab (.dT ao)/\y=.ref b/\H b=ab (.tup (k.map kV))/\ao.length<sizeLine/\H'=upd H a (.dT (putK ao k v))
theorem ib.k{H:Hp}{a:ag}{ao:List (Key×V)}{k:Key}(e:H a=ab (.dK ao)):ib H a (kV k) (gQ ao k):=.inl ⟨ao,k,.inl e,rfl,rfl⟩
theorem ib.t{H:Hp}{a b:ag}{ao:List (List Key×V)}{k:List Key}(e:H a=ab (.dT ao))(eb:H b=ab (.tup (k.map kV))):ib H a (.ref b) (gQ ao k):=.inr ⟨ao,k,b,.inl e,rfl,eb,rfl⟩
theorem mi.k{H:Hp}{a:ag}{ao:List (Key×V)}{k:Key}{v:V}(e:H a=ab (.dK ao))(hl:ao.length<sizeLine):mi H a (kV k) v (upd H a (.dK (putK ao k v))):=.inl ⟨ao,k,e,rfl,hl,rfl⟩
theorem mi.t{H:Hp}{a b:ag}{ao:List (List Key×V)}{k:List Key}{v:V}(e:H a=ab (.dT ao))(eb:H b=ab (.tup (k.map kV)))(hl:ao.length<sizeLine) :
 mi H a (.ref b) v (upd H a (.dT (putK ao k v))):=.inr ⟨ao,k,b,e,rfl,eb,hl,rfl⟩
section
variable{X:Cx}{af:List (ag×Obj)}{σ:St}{H:Hp}{s:aw}{a:ag}{y v:V}{u r:ah}{o:Option V}{A:bN}{E:ah->aw->Prop}
theorem Inv.big(I:Inv X af σ H s):sysModules<s.heap.objs.size:=by have h:mainGlobals<s.heap.objs.size:=(I.mod.glob.keeps I.bk).lt;exact Nat.lt_trans (by decide) h
theorem M4{Q:ah->aw->Prop}(hu:A.units+1<cLine)(I:Inv X af σ H s)(g:ib H a y (ab v))(ry:RelV y u)(h:∀w' s',Inv X af σ H s'->RelV v w'->Q w' s') :
 wpAny (model X.prog X.w) A (getItem (.ref a) u) Q E s:=by
 rcases g with ⟨ao,k,e,ey,l⟩|⟨ao,k,b,e,ey,eb,l⟩
 ·subst ey;obtain⟨z,hd,vs,rel,dd⟩:=rB I.hok e;obtain⟨w',hw,rw'⟩:=ju.some_of (v:=v) (o:=valueAt vs k) (by rw[l];exact rel.val k);exact wpAny_getItem_of (oV ry) dd.mapOf hw (h w' _ (I.tok _) rw')
 ·subst ey;cases(show u=dL b from ry);obtain⟨z,hd,xs,rel,dd⟩:=rM I.hok e;obtain⟨w',hw,rw'⟩:=ju.some_of (v:=v) (o:=(atKey xs k).map (·.2)) (by rw[l];exact rel.val k);obtain⟨p,hp,hp2⟩:=iY.mp hw;refine wpAny_getItem_heap (vZ hu) (qI I.hok eb) dd hp ?_;rw[hp2];exact h w' _ (I.tok _) rw'
theorem Iz{Q:ah->aw->Prop}(hu:A.units+1<cLine)(I:Inv X af σ H s)(g:ib H a y o)(ry:RelV y u)(h:∀s',Inv X af σ H s'->Q (.bool o.isSome) s') :
 wpAny (model X.prog X.w) A (compareOp .In u (.ref a)) Q E s:=by
 rcases g with ⟨ao,k,e,ey,l⟩|⟨ao,k,b,e,ey,eb,l⟩
 ·subst ey;obtain⟨z,hd,vs,rel,dd⟩:=rB I.hok e;refine wpAny_in_of (oV ry) hd dd.mapOf ?_;rw[<- (rel.val k).qH,<- l];exact h _ (I.tok _)
 ·subst ey;cases(show u=dL b from ry);obtain⟨z,hd,xs,rel,dd⟩:=rM I.hok e;refine wpAny_in_heap (vZ hu) (qI I.hok eb) hd dd ?_;have q:=(rel.val k).qH;rw[wr]at q;rw[<- q,<- l];exact h _ (I.tok _)
theorem LC{Q:ah->aw->Prop}(hu:A.units+1<cLine)(I:Inv X af σ H s)(g:ib H a y o)(ry:RelV y u)(h:∀s',Inv X af σ H s'->Q (.bool (!o.isSome)) s') :
 wpAny (model X.prog X.w) A (compareOp .NotIn u (.ref a)) Q E s:=by
 rcases g with ⟨ao,k,e,ey,l⟩|⟨ao,k,b,e,ey,eb,l⟩
 ·subst ey;obtain⟨z,hd,vs,rel,dd⟩:=rB I.hok e;refine wpAny_notIn_of (oV ry) hd dd.mapOf ?_;rw[<- (rel.val k).qH,<- l];exact h _ (I.tok _)
 ·subst ey;cases(show u=dL b from ry);obtain⟨z,hd,xs,rel,dd⟩:=rM I.hok e;refine wpAny_notIn_heap (vZ hu) (qI I.hok eb) hd dd ?_;have q:=(rel.val k).qH;rw[wr]at q;rw[<- q,<- l];exact h _ (I.tok _)
theorem yU{h':aR}{t':Nat}{ob:HO}(I:Inv X af σ H s)(mu:qR (H a))(hs:mX a s.heap h')(he:∃q,h'.get? a=ab q)(new:cH X.prog X.w (upd H a ob) h' a ob) :
 Inv X af σ (upd H a ob) { s with heap:=h',toks:=t' }:=
 I.write (x:=a) (e:=a) mu (.inl rfl) (λb q hb z=>(hs.2 b hb).trans z) he new
theorem DL{P:br}{w:bd}{H':Hp}{h':aR}{ao:List (Key×V)}{vs:List (Key×ah)}(z:ao.length<=sizeLine)(hd:(a==sysModules)=false)(rel:KV ao vs)(dd:h'.DictOf (gz P w) a vs) :
 cH P w H' h' a (.dK ao):=⟨z,hd,vs,rel,dd⟩
theorem JK{H':Hp}{Q:Unit->aw->Prop}(hu:A.units+1<cLine)(I:Inv X af σ H s)(g:mi H a y v H')(ry:RelV y u)(rv:RelV v r)(h:∀s',Inv X af σ H' s'->Q () s') :
 wpAny (model X.prog X.w) A (setItem (.ref a) u r) Q E s:=by
 rcases g with ⟨ao,k,e,ey,l,eH⟩|⟨ao,k,b,e,ey,eb,l,eH⟩
 ·subst ey eH;obtain⟨z,hd,vs,rel,dd⟩:=E8 I.hok e;have hz:vs.length<=sizeLine:=by rw[<- rel.length];exact z
  have hl:(putK ao k v).length<=sizeLine:=by have:=xB ao k v;omega
  refine wpAny_setItem_pairs (hsz:=hz) (oV ry) dd λh' dd' hs=>h _ ?_;have he:∃q,h'.get? a=ab q:=let ⟨q,_,_,hq,_⟩:=dd';⟨q,hq⟩;exact yU I (by rw[e];exact jY) hs he (DL hl hd (rel.put k rv) dd')
 ·subst ey eH;cases(show u=dL b from ry);obtain⟨z,hd,xs,rel,dd⟩:=OM I.hok e;have hz:xs.length<=sizeLine:=by rw[<- tU rel];exact z
  have hl:(putK ao k v).length<=sizeLine:=by have:=xB ao k v;omega
  refine wpAny_setItem_heap (hsz:=hz) (vZ hu) (qI I.hok eb) dd λh' dd' hs=>h _ ?_;obtain⟨q,es,ep,hq,h2,h3,h4,_,h5⟩:=dd';refine yU I (by rw[e];exact jY) hs ⟨q,hq⟩ ⟨hl,hd,_,(rel.put k eb rv).keeps λc ys ec=>?_,q,es,ep,hq,h2,h3,h4,h5⟩;rw[aL (Ma ec e (λz=>nomatch z))];exact ec
end
def Eh(i:aY):Prop:=∀ov iv,subscripted i false ov iv=operate [ov,iv] (getItem ov iv)
theorem O7{prog:br}{w:bd}{A:bN}{E:ah->aw->Prop}{s:aw}{env:Env}{value slice:aY}{pos:Pos}{T id:String}{Q:ah->aw->Prop}
 (hl:typeLookup (.type T) "__getitem__" = pure (ab (.builtin id))) (hs:Eh slice)
 (h:wpAny (model prog w) A (eval value env) (λo s₁=>wpAny (model prog w) A (eval slice env) (λi s₂=>s₂.TypeIs o T/\wpAny (model prog w) A (getItem o i) Q E s₂) E s₁) E s) :
 wpAny (model prog w) A (eval (.Subscript value slice pos) env) Q E s:=by
 refine Subscript_ (iX h (λo s₁ h₁=>iX h₁ (λi s₂ h₂=>?_) λ_ _ x=>x) λ_ _ x=>x);obtain⟨hT,h₂⟩:=h₂;unfold subscriptTail;refine aH ?_;rw[getitemInPython_of_ne hT.not_modules];refine aH (qk hT hl ?_);have fin:wpAny (model prog w) A (subscripted slice false o i) (λr s₃=>wpAny (model prog w) A (letTemporaryGo value o r >>= λ_=>pure r) Q E s₃) E s₂:=by rw[hs o i];exact wpAny_operating (iX h₂ (λr s₃ h₃=>aH (wpAny_letTemporaryGo (bB h₃))) λ_ _ x=>x)
 first
  |exact bB (aH fin)
  |exact aH (bB (aH fin))
  |exact aH fin
theorem IV{X:Cx}{af:List (ag×Obj)}{σ:St}{H:Hp}{s:aw}{a:ag}{y:V}{o:Option V}(I:Inv X af σ H s)(g:ib H a y o):s.TypeIs (.ref a) "dict":= by
 rcases g with ⟨ao,k,e,_,_⟩|⟨ao,k,b,e,_,_,_⟩
 ·obtain⟨_,_,vs,_,dd⟩:=rB I.hok e;exact dd.typeIs
 ·obtain⟨_,_,xs,_,dd⟩:=rM I.hok e;exact dd.typeIs
def Cc(td ty:TE):TE:=λσ H Q=>td σ H λx H1=>ty σ H1 λy H2=>∃a v,x=.ref a/\ib H2 a y (ab v)/\Q v H2
def Fc(ty td:TE):TE:=λσ H Q=>ty σ H λy H1=>td σ H1 λx H2=>∃a o,x=.ref a/\ib H2 a y o/\Q (.bl o.isSome) H2
def DJ(ty td:TE):TE:=λσ H Q=>ty σ H λy H1=>td σ H1 λx H2=>∃a o,x=.ref a/\ib H2 a y o/\Q (.bl (!o.isSome)) H2
def eB(td ty tv:TE):TS:=λD σ H=>tv σ H λv H1=>td σ H1 λx H2=>ty σ H2 λy H3=>∃a H4,x=.ref a/\mi H3 a y v H4/\D.nx σ H4
section
variable{X:Cx}{o i e value:aY}{pos pos' tpos:Pos}{td ty tv:TE}
theorem L5(hu:X.A.units+1<cLine)(ho:PE X o td)(hi:PE X i ty)(hs:Eh i):PE X (.Subscript o i pos) (Cc td ty):=by intro af s σ H Q I h;refine O7 PySem.F.slot_dict_getitem.lookup hs (aZ (ho af s σ H _ I h) λu s1 ⟨x,H1,I1,rx,q1⟩=>aZ (hi af s1 σ H1 _ I1 q1) λiv s2 ⟨y,H2,I2,ry,a,v,ex,g,q2⟩=>?_);subst ex;obtain rfl:u=dL a:=rx;exact⟨IV I2 g,M4 hu I2 g ry λw' s3 I3 rw'=>⟨v,H2,I3,rw',q2⟩⟩
theorem D6(hu:X.A.units+1<cLine)(hi:PE X i ty)(ho:PE X o td):PC X .In i o (Fc ty td):=by intro af s σ H Q I h;refine aZ (hi af s σ H _ I h) λiv s1 ⟨y,H1,I1,ry,q1⟩=>aZ (ho af s1 σ H1 _ I1 q1) λu s2 ⟨x,H2,I2,rx,a,ov,ex,g,q2⟩=>?_;subst ex;obtain rfl:u=dL a:=rx;exact Iz hu I2 g ry λs3 I3=>⟨.bl ov.isSome,H2,I3,rfl,q2⟩
theorem E5(hu:X.A.units+1<cLine)(hi:PE X i ty)(ho:PE X o td):PC X .NotIn i o (DJ ty td):=by intro af s σ H Q I h;refine aZ (hi af s σ H _ I h) λiv s1 ⟨y,H1,I1,ry,q1⟩=>aZ (ho af s1 σ H1 _ I1 q1) λu s2 ⟨x,H2,I2,rx,a,ov,ex,g,q2⟩=>?_;subst ex;obtain rfl:u=dL a:=rx;exact LC hu I2 g ry λs3 I3=>⟨.bl (!ov.isSome),H2,I3,rfl,q2⟩
theorem ua(hu:X.A.units+1<cLine)(ho:PE X o td)(hi:PE X i ty)(hv:PE X value tv)(hs:swapsWith value (ab (.Subscript o i pos')) pos.line X.env=pure false) :
 PS X (.Assign [.Subscript o i pos'] value pos) (eB td ty tv):=by
 intro af s σ H D I h;refine wpAny_Assign_Subscript (aZ (hv af s σ H _ I h) λr s1 ⟨v,H1,I1,rv,q1⟩=>aZ (ho af s1 σ H1 _ I1 q1) λu s2 ⟨x,H2,I2,rx,q2⟩=>aZ (hi af s2 σ H2 _ I2 q2) λiv s3 ⟨y,H3,I3,ry,a,H4,ex,g,q3⟩=>?_) hs;subst ex;obtain rfl:u=dL a:=rx;exact JK hu I3 g ry rv λs4 I4=>⟨σ,H4,I4,q3⟩
end
theorem B8{P:br}{w:bd}{H:Hp}(h:aR)(hb:sysModules<h.objs.size):cH P w H (h.push { cls:=.type "dict", data:=.dict #[] }) h.objs.size (.dK []):=⟨fI _,zw.mpr (cY (fV hb)),[],.nil,Heap.DictOf.new h⟩
theorem LG{P:br}{w:bd}{H:Hp}(h:aR)(hb:sysModules<h.objs.size):cH P w H (h.push { cls:=.type "dict", data:=.dict #[] }) h.objs.size (.dT []):=⟨fI _,zw.mpr (cY (fV hb)),[],.nil,_,#[],0,cL _ rfl,⟨rfl,rfl,rfl⟩,rfl,rfl,List.nodup_nil⟩
def FC:TE:=λ_ H Q=>∀p,H p=ac->Q (.ref p) (upd H p (.dK []))
def DO:TE:=λ_ H Q=>∀p,H p=ac->Q (.ref p) (upd H p (.dT []))
section
variable{X:Cx}{pos:Pos}
theorem Nv:PE X (.Dict [] [] pos) FC:=λaf s σ H Q I h=>
 wpAny_Dict_empty ⟨.ref s.heap.objs.size,_,I.laid (a:=s.heap.objs.size) (o:=.dK []) (t':=s.toks) (λ_ _ q=>bX _ q) (bv _) (B8 s.heap I.big),rfl,h _ (I.hok.fresh (bv _))⟩
theorem OG:PE X (.Dict [] [] pos) DO:=λaf s σ H Q I h=>
 wpAny_Dict_empty ⟨.ref s.heap.objs.size,_,I.laid (a:=s.heap.objs.size) (o:=.dT []) (t':=s.toks) (λ_ _ q=>bX _ q) (bv _) (LG s.heap I.big),rfl,h _ (I.hok.fresh (bv _))⟩
end
def yC:List (TE×TE)->St->Hp->(List (V×V)->Hp->Prop)->Prop
 |[],_,H,Q=>Q [] H
 |(tk,tv)::r,σ,H,Q=>tk σ H λx H1=>tv σ H1 λy H2=>yC r σ H2 λps H3=>Q ((x,y)::ps) H3
abbrev VV:List (V×V)->List (ah×ah)->Prop:=mW λp q=>RelV p.1 q.1/\RelV p.2 q.2
def t8(X:Cx)(pos:Pos)(keys:List (Option aY))(values:List aY)(trs:List (TE×TE)):Prop:=
 ∀(af:List (ag×Obj)) (s:aw) (σ:St) (H:Hp) (Q:List (V×V)->Hp->Prop),Inv X af σ H s->yC trs σ H Q ->
  wpAny (model X.prog X.w) X.A (evalPairs (pairTrees keys values X.env pos)) (λvs s'=>∃ps H',Inv X af σ H' s'/\VV ps vs/\Q ps H') X.xe s
theorem K4{X:Cx}{pos:Pos}:t8 X pos [] [] []:=λaf s σ H Q I h=>pairTrees_nil_walk ⟨[],H,I,.nil,h⟩
theorem NL{X:Cx}{pos:Pos}{k v:aY}{ks:List (Option aY)}{vs:List aY}{tk tv:TE}{trs:List (TE×TE)}(hk:PE X k tk)(hv:PE X v tv)(hr:t8 X pos ks vs trs) :
 t8 X pos (ab k::ks) (v::vs) ((tk,tv)::trs):=λaf s σ H Q I h=>
 pairTrees_cons_walk (aZ (hk af s σ H _ I h) λu s1 ⟨x,H1,I1,rx,q1⟩=>aZ (hv af s1 σ H1 _ I1 q1) λw2 s2 ⟨y,H2,I2,ry,q2⟩=>
  aZ (hr af s2 σ H2 _ I2 q2) λws s3 ⟨ps,H3,I3,rel,q3⟩=>⟨(x,y)::ps,H3,I3,.cons ⟨rx,ry⟩ rel,q3⟩)
def sB(ao more:List (Key×V)):List (Key×V):=more.foldl (λacc kv=>putK acc kv.1 kv.2) ao
theorem KV.merge:∀{more:List (Key×V)} {rs:List (Key×ah)} {ao:List (Key×V)} {vs:List (Key×ah)},KV more rs->KV ao vs->KV (sB ao more) (merged vs rs):=by
 intro more rs ao vs r;unfold KV at r
 induction r generalizing ao vs with
 |nil=>intro q;exact q
 | @cons p q ps qs h t ih=>
  intro r0;have e:KV (putK ao p.1 p.2) (stored vs q.1 q.2):=by have:=r0.put p.1 h.2;rw[<- h.1];exact this
  exact ih e
theorem CV:∀(more ao:List (Key×V)),(sB ao more).length<=ao.length+more.length
 |[],ao=>by show ao.length<=ao.length+0;omega
 |p::r,ao=>by
  have h1:=CV r (putK ao p.1 p.2);have h2:=xB ao p.1 p.2;show(sB (putK ao p.1 p.2) r).length<=_;rw[c6];omega
theorem Cy{P:br}{w:bd}:∀{ao:List (Key×V)} {ws:List (ah×ah)},VV (ao.map λkv=>(kV kv.1,kv.2)) ws->∃rs,Carries (gz P w) ws rs/\KV ao rs
 |[],_,r=>by rw[tF]at r;cases r;exact⟨[],jY,.nil⟩
 |p::ao,_,r=>by
  rw[cG]at r;cases r with
  | @cons a b as bs h t=>
   obtain⟨rs,c,q⟩:=Cy (P:=P) (w:=w) t;obtain⟨b1,b2⟩:=b;exact⟨(p.1,b2)::rs,⟨oV h.1,rfl,c⟩,.cons ⟨rfl,h.2⟩ q⟩
def wG(trs:List (TE×TE)):TE:=λσ H Q=>∀p,H p=ac->yC trs σ (upd H p (.dK [])) λps H2=>H2 p=ab (.dK [])/\∃ao:List (Key×V),ps=ao.map (λkv=>(kV kv.1,kv.2))/\ao.length<=15/\Q (.ref p) (upd H2 p (.dK (sB [] ao)))
theorem LN{X:Cx}{pos:Pos}{keys:List (Option aY)}{values:List aY}{trs:List (TE×TE)}(h:t8 X pos keys values trs)(hall:keys.all (·.isSome)=true)(hl:keys.length=values.length)(h0:keys≠[])
 (h15:keys.length<=15):PE X (.Dict keys values pos) (wG trs):=by
 intro af s σ H Q I q;have hn:=I.hok.fresh (bv s.heap.objs.size);have I1:=I.laid (a:=s.heap.objs.size) (o:=.dK []) (h':=s.heap.push { cls:=.type "dict", data:=.dict #[] }) (t':=s.toks) (λ_ _ q=>bX _ q) (bv _) (B8 s.heap I.big);refine wpAny_Dict_walk (knd:=gz X.prog X.w) hall hl h0 h15 (aZ (h af _ σ _ _ I1 (q _ hn)) λws s2 ⟨ps,H2,I2,rel,e,ao,ep,lk,q2⟩=>?_);subst ep;obtain⟨rs,c,rk⟩:=Cy (P:=X.prog) (w:=X.w) rel;obtain⟨z,hd,vs0,r0,dd⟩:=E8 I2.hok e;cases r0;refine⟨rs,c,dd,λh' dd' hs=>⟨.ref s.heap.objs.size,_,?_,rfl,q2⟩⟩;have hz:(sB [] ao).length<=sizeLine:=by have h1:=CV ao [];rw[lQ]at h1;rw[eh];omega
 have he:∃q,h'.get? s.heap.objs.size=ab q:=let ⟨q,_,_,hq,_⟩:=dd';⟨q,hq⟩;exact yU I2 (by rw[e];exact jY) hs he (DL hz hd (rk.merge .nil) dd')
end L2
namespace Att
open PySem PySem.W PySem.Calls PyProof.Rows
theorem NP{P:Params}{h:aR}:∀(ns:List Int) (vs:List ah),WellAll P h vs (ns.map WData.int)->IntsAre vs ns:=by
 intro ns
 induction ns with
 |nil=>
  intro vs w;rw[tF]at w;cases w;exact .nil
 |cons n ns ih=>
  intro vs w;rw[cG]at w;cases w with
  |cons a b=>
   cases a;exact .cons _ _ (ih _ b)
theorem Pb{l:OpenLaw}{n:Nat}(hn:l.most=ab n){P:Params}{h:aR}{args:List WData}{vals:List ah}
 (hpre:l.row.toRowW.claim.pre args=true) (hwl:WellAll P h vals args) :
 ∃a vs ns,vals=[dL a]/\args=[WData.list (ns.map WData.int)]/\h.get? a=ab { cls:=.type "list", data:=.seq vs.toArray }/\IntsAre vs ns/\ns.length<=n:=by
 have hsh:WShape.hasAll [] args [.list .int]=true:=(pre_splitW hpre).1;have hc:l.pre.holds [] { args:=args }=true:=(pre_splitW hpre).2;obtain⟨d,r,rfl,h1,h2⟩:=hasAllW_cons hsh;obtain rfl:=hasAllW_nil h2;obtain⟨xs,rfl,h3⟩:=hasW_list h1;obtain⟨ns,rfl⟩:=items_int h3;have hlen:ns.length<=n:=by
  unfold OpenLaw.pre at hc;have h4:(WTm.not (.lt (.lit (.int (n:Int))) (.len (.arg 0)))).holds [] { args:=[.list (ns.map .int)] }=true:=by have h4:=(holds_andW hc).1;rw[hn]at h4;exact h4
  have h5:=condW_of h4 (w_not (w_lt w_lit (w_len_list (w_arg rfl))));rw[aX]at h5;refine Nat.le_of_not_lt λq=>?_;have q':(n:Int)<((ns.length:Nat):Int):=by omega
  first
   |(rw[bW q']at h5;exact absurd h5 (by decide))
   |(simp at h5;omega)
 cases hwl with
 |cons w1 w2=>
  cases w2;cases w1 with
  |list ho hall=>exact⟨_,_,ns,rfl,rfl,ho,NP ns _ hall,hlen⟩
theorem LV(l:OpenLaw)(args:List WData):l.row.toRowW.claim.post args (.bool true) args=true:=
 postW_of (r:=l.row.toRowW) (X:=(true==true))
  (show WShape.has [] (.bool true) .bool=true by first|rfl|decide|simp[WShape.has,WShape.arms,WShape.armsAll])
  (show(WTm.eq .res (.lit (.bool true))).value [] { args:=args,res:=ab (.bool true),after:=args }=ab (.bool (true==true))from w_eq_bool (w_res rfl) w_lit) rfl
theorem Nu{l:OpenLaw}{n:Nat}{q:br}{loose:List Str}{XP:(Str->Option ah)->aR->Prop}{YP:bd->aR->Prop}{d:DefRec}
 (hn:l.most=ab n) (hdf:d.params.defaults=[])
 (call:∀(w:bd) (s₀ s₁:aw) (mg mb:Str->Option ah) (fa:ag) (o:Obj) (pm cd doc:ah) (a:ag) (vs:List ah) (ns:List Int),
  Ground q loose [] XP w s₀ mg mb s₁.heap->YP w s₁.heap ->
  s₁.heap.get? fa=ab o->o.data=.func (docDef d.name d.params d.body d.scope pm cd doc)->s₁.heap.CodeRec cd d.name->mg d.name=ab (.ref fa) ->
  s₁.heap.get? a=ab { cls:=.type "list", data:=.seq vs.toArray }->IntsAre vs ns->ns.length<=n->s₁.gens = #[] ->
  codeAny (model l.prog w) callerA (.call (.ref fa) ⟨[.ref a],[]⟩) (λr s'=>r=.ok (.ret (.bool true))/\OldK s₁.heap s'.heap/\s'.os=s₁.os/\mY s'.gens) s₁) :
 WalkO q loose XP YP l.row.toRowW d [] (λf vs=>Ad f vs):=by
 intro w s₀ s₁ mg mb G Y fa o pm cd doc dV kV ho hd hcd hD hmg hg args vals as hpre hlay hrd hwl hlo;obtain rfl:dV=.none:=Dflts.none hD hdf;obtain rfl:kV=.none:=Dflts.noKw hD;obtain⟨a,vs,ns,rfl,rfl,hobj,hints,hlen⟩:=Pb hn hpre hwl;refine enter_call (wa (call w s₀ s₁ mg mb fa o pm cd doc a vs ns G Y ho (fd_plain hd) hcd hmg hobj hints hlen hg) λr s' hq=>?_);obtain⟨rfl,h2,h3,h4⟩:=hq;exact⟨.inl ⟨.bool true,.bool true,[],rfl,λ_=>rfl,.bool true,LV l _,λ_=>⟨Hg,λ_ hm=>(nomatch hm)⟩⟩,h2,h3,h4⟩
end Att
namespace L2
open PySem PySem.Spec PyProof.Rows
theorem Df:∀{vs:List ah} {ns:List Int},IntsAre vs ns->Vals (ns.map V.int) vs
 |_,_,.nil=>.nil
 |_,_,.cons n t h=>.cons ⟨t,rfl⟩ (Df h)
def lH(s:bw):qo:=match s with
 |.FunctionDef _ a _ _ _ _ _ _ _ _=>a
 |_=>{ posonlyargs:=[],args:=[],vararg:=ac,kwonlyargs:=[],kw_defaults:=[],kwarg:=ac,defaults:=[] }
def h9(s:bw):List bw:=match s with
 |.FunctionDef _ _ b _ _ _ _ _ _ _=>b
 |_=>[]
def bA(s:bw):en:=match s with
 |.FunctionDef _ _ _ _ _ _ sc _ _ _=>sc
 |_=>{ kind:=.function,names:=[],isGenerator:=false,isCoroutine:=false }
abbrev aO:gF:=λ_ _ _ _ _ _=>False
abbrev E0:XK:=λ_ _ _=>False
theorem sJ{X:Cx}:vg aO X E0:=λ_ _ _ _ _ _ _ h=>h.elim
structure b8(K:aP)(x qual:Str)(st:bw)(f:ag)(fd:bG):Prop where
 ex:∃(oc:ah) (od:Option ag) (kV doc pm:ah) (an:Option ag) (cdv ct:ah) (osl:Array (Option ah)),
  fd=jW x qual (lH st) (h9 st) (bA st) .none kV doc pm an cdv ct/\K.lookup f=ab ⟨oc,od,.func fd,osl⟩/\qi K cdv qual=true
 kp:kQ K (.ref f)=true
section
variable{P:br}{w:bd}{K:aP}{mg:Str->Option ah}{base:aR}
theorem b8.ok{x qual:Str}{st:bw}{f:ag}{fd:bG}{N ps:List Str}{k:Nat}{sp:Sp}(F:b8 K x qual st f fd)(S:cg N ps (bA st))(len:∀vs H Q E,sp vs H Q E->vs.length=ps.length)
 (hbody:∀(cdv:ah) (A:bN) (outer:List Env) (s:aw) (H:Hp) (vs:List V) (Q:VK) (E:XK),cO k (A.deeper (envOfC qual (bA st) s.heap.objs.size f cdv))->sp vs H Q E ->
  ∃t,fX (j7 aO P w K mg base N qual (bA st) f cdv A outer s H E).km (h9 st) t/\t { nx:=λ_ H'=>Q .non H',rt:=Q } (start N vs) H):bJ P w K mg base aO (k+1) f fd ps sp:=by
 obtain⟨oc,od,kV,doc,pm,an,cdv,ct,osl,rfl,lk,hcd⟩:=F.ex;refine B5 lk hcd S len λA outer s H vs Q E hr hsp=>?_;obtain⟨t,h,q⟩:=hbody cdv A outer s H vs Q E hr hsp;exact⟨t,h.km,q⟩
theorem b8.binds{x qual:Str}{st:bw}{f:ag}{fd:bG}{ps:List Str}(F:b8 K x qual st f fd)
 (h:∀(kV doc pm:ah) (an:Option ag) (cdv ct:ah) (us:List ah),us.length=ps.length->bindArgs (jW x qual (lH st) (h9 st) (bA st) .none kV doc pm an cdv ct) ⟨us,[]⟩=pure (ps.zip us)):Binds K fd ps []:=by
 obtain⟨oc,od,kV,doc,pm,an,cdv,ct,osl,rfl,lk,hcd⟩:=F.ex;exact .all (h kV doc pm an cdv ct)
theorem Cf{x qual:Str}{st:bw}{f:ag}{oc:ah}{od an:Option ag}{osl:Array (Option ah)}{kV doc pm cdv ct:ah}(l:K.lookup f=ab ⟨oc,od,.func (jW x qual (lH st) (h9 st) (bA st) .none kV doc pm an cdv ct),osl⟩)
 (c:qi K cdv qual=true) (k:kQ K (.ref f)=true):b8 K x qual st f (jW x qual (lH st) (h9 st) (bA st) .none kV doc pm an cdv ct):=⟨⟨oc,od,kV,doc,pm,an,cdv,ct,osl,rfl,l,c⟩,k⟩
end
theorem qJ{A:bN}{k:Nat}(hr:cO k A):A.units+1<cLine:=Nat.lt_of_le_of_lt (Nat.add_le_add_left (by decide:1<=64) _) hr.units
section
variable{X:Cx}
theorem pv(i:Nat){x:Str}{pos:Pos}(hN:X.N[i]? = ab x:=by rfl)(hv:rQ X.env.scope x:=by first|exact dM rfl|exact gj (dM rfl)|exact gj (gj rfl))(hd:(x==("__debug__" : Str))=false:=by decide)
 (hcd:(x==("__classdict__" : Str))=false:=by decide):PE X (.Name x pos) (dB i):=Oo hN hv hd hcd
end
theorem kn{A B:Prop}(h:B):if false=true then A else B:=by rw[ba c8];exact h
theorem kA{A B:Prop}(h:A):if true=true then A else B:=by rw[a9 rfl];exact h
def cy(H H':Hp):Prop:=∀b o,H b=ab o->H' b=ab o
theorem cy.refl(H:Hp):cy H H:=λ_ _ h=>h
theorem cy.trans{H H1 H2:Hp}(a:cy H H1)(b:cy H1 H2):cy H H2:=λc o h=>b c o (a c o h)
theorem cy.free{H H':Hp}(e:cy H H'){l:ag}(h:H' l=Option.none):H l=Option.none:=by
 cases q:H l with
 |none=>rfl
 |some o=>
  rw[e l o q]at h;cases h
section
variable{prog:br}{w:bd}{A:bN}{R:Result->aw->Prop}{s:aw}
theorem Oz{elt target iter:aY}{ifs:List aY}{scope:en}{pos:Pos}{it acc:ah}{env:Env}(I:Nat->aw->Prop)
 (turn:∀n s,I n s->wpAny (model prog w) A (pyNext it) (λr s₁=>match r with
  |none=>R (.ok .next) s₁
  |some v=>wpAny (model prog w) A (letOwnedTupleGo target it v) (λ_ s₂=>wpAny (model prog w) A (assign target env v) (λ_ s₃=>
   wpAny (model prog w) A (forIn ifs true λc r=>if r=true then do let ok <- isTrue c env (eval c env);pure (mZ ok)else pure (mZ r)) (λok s₄=>
    if ok=true then wpAny (model prog w) A (eval elt env) (λx s₅=>
     wpAny (model prog w) A (call (.builtin "list.append") [acc,x]) (λ_ s₆=>∃m,m<n/\I m s₆) (λ_ _=>False) s₅) (λ_ _=>False) s₄
    else∃m,m<n/\I m s₄) (λ_ _=>False) s₃) (λ_ _=>False) s₂) (λ_ _=>False) s₁) (λ_ _=>False) s)
 (n:Nat) (h:I n s) :
 codeAny (model prog w) A (.compLoop (.ListComp elt [⟨target,iter,ifs,0⟩] scope pos) 0 it acc env) R s:=by
 refine codeAny_loop rfl I (λn s hI=>?_) n h;show wpAny _ A ((compTurn (.ListComp elt [⟨target,iter,ifs,0⟩] scope pos) 0 it acc env).onRaise (λx=>do noteFrame x env;theTreesLotGoes x)) _ _ s;refine wpAny_noted (iX (E:=λ_ _=>False) ?_ (λ_ _ q=>q) λ_ _ q=>q.elim);rw[compTurn_list];refine aH (v8 (aH (aZ (turn n s hI) λr s₁ h₁=>?_)));cases r with
 |none=>exact bB h₁
 |some v=>
  refine aH (aZ h₁ λ_ s₂ h₂=>aH (aZ h₂ λ_ s₃ h₃=>aH (aZ h₃ λok s₄ h₄=>?_)));cases ok with
  |false=>exact bB ⟨rfl,h₄⟩
  |true=>exact aH (aH (aZ h₄ λx s₅ h₅=>aH (aZ h₅ λ_ s₆ h₆=>bB (bB ⟨rfl,h₆⟩))))
end
theorem cQ.track{P:br}{w:bd}{H:Hp}{h:aR}{a:ag}{o:HO}(x:cQ P w H h)(hn:H a=ac)(new:cH P w (upd H a o) h a o):cQ P w (upd H a o) h:=λb u e=>by
 by_cases hb:b=a
 ·subst hb;rw[bt]at e;cases e;exact new
 ·rw[aL hb]at e;exact(x b u e).stay (λc v _ q=>q) (λc q=>by rw[aL (cz q hn)];exact q) λc xs q=>by rw[aL (cz q hn)];exact q
theorem lookup_mem{α:Type}:∀{l:List (Str×α)} {x:Str} {k:α},l.lookup x=ab k->(x,k)∈l
 |[],_,_,h=>by simp at h
 |(n,k')::r,x,k,h=>by
  rw[mQ]at h;cases hx:x==n with
  |true=>
   rw[hx]at h;have:x=n:=by simpa using hx
   cases h;subst this;exact dA
  |false=>rw[hx]at h;exact ff _ (lookup_mem h)
theorem uH{env:Env}:∀{names:List (Str×mU)} {x:Str} {k:mU},
 (names.map λ(n,k)=>if(k==lV&&env.scope.kind==.function&&env.kindOf n==ab .cell)then(n,Aq)else(n,k)).lookup x=ab k ->
 ∃k',names.lookup x=ab k'/\(k=k'\/(k'=.free/\k=.cell))
 |[],_,_,h=>by simp at h
 |(n,k0)::r,x,k,h=>by
  have ih:=@uH env r x k;have h':zW x ((if(k0==lV&&env.scope.kind==.function&&env.kindOf n==ab .cell)=true then(n,Aq)else(n,k0)) ::
   (r.map λ(n,k)=>if(k==lV&&env.scope.kind==.function&&env.kindOf n==ab .cell)then(n,Aq)else(n,k)))=ab k:=h
  by_cases hc:(k0==lV&&env.scope.kind==.function&&env.kindOf n==ab .cell)=true
  ·rw[a9 hc,mQ]at h';rw[mQ];cases hx:x==n with
   |true=>
    rw[hx]at h';cases h';simp only[lU]at hc;exact⟨k0,rfl,.inr ⟨by simpa using hc.1.1,rfl⟩⟩
   |false=>rw[hx]at h';exact ih h'
  ·rw[ba hc,mQ]at h';rw[mQ];cases hx:x==n with
   |true=>rw[hx]at h';cases h';exact⟨_,rfl,.inl rfl⟩
   |false=>rw[hx]at h';exact ih h'
theorem xF{env:Env}{f:(Str×mU)->List (Str×ag)->Sem (ForInStep (List (Str×ag)))}
 (hf:∀n k r,f (n,k) r=if(k==lV)=true then(cellOf env n >>= λa=>pure (mZ ((n,a)::r)))else pure (mZ r)) :
 ∀(names:List (Str×mU)) (acc:List (Str×ag)),(∀y∈names,y.2=.free->∃c,env.cells.lookup y.1=ab c)->(∀x c,acc.lookup x=ab c->env.cells.lookup x=ab c) ->
  ∃cl,forIn names acc f=pure cl/\(∀x c,cl.lookup x=ab c->env.cells.lookup x=ab c)/\(∀x,(∃c,acc.lookup x=ab c)->∃c,cl.lookup x=ab c)/\∀x,(x,lV)∈names->∃c,cl.lookup x=ab c
 |[],acc,_,hacc=>⟨acc,rfl,hacc,λ_ h=>h,λ_ h=>by simp at h⟩
 |(n,k)::r,acc,hn,hacc=>by
  have hr:∀y∈r,y.2=.free->∃c,env.cells.lookup y.1=ab c:=λy hy=>hn y (ff _ hy);by_cases hk:(k==lV)=true
  ·have hk':k=.free:=by simpa using hk
   obtain⟨c,hc⟩:=hn (n,k) dA hk';obtain⟨cl,e,h1,h2,h3⟩:=xF hf r ((n,c)::acc) hr (λx c' h=>by
    rw[mQ]at h;cases hx:x==n with
    | true => rw [hx] at h; cases h; have : x = n := by simpa using hx
              subst this;exact hc
    |false=>rw[hx]at h;exact hacc x c' h)
   refine⟨cl,?_,h1,λx ⟨c',hx⟩=>h2 x ?_,λx hx=>?_⟩
   ·rw[zT,hf,a9 hk];have:cellOf env n=pure c:=by unfold cellOf;rw[hc]
    rw[this];exact e
   ·rw[mQ];cases x==n with
    |true=>exact⟨_,rfl⟩
    |false=>exact⟨c',hx⟩
   ·rcases bL.mp hx with e|hx
    ·cases e;exact h2 _ ⟨c,by rw[mQ];simp⟩
    ·exact h3 x hx
  ·obtain⟨cl,e,h1,h2,h3⟩:=xF hf r acc hr hacc;refine⟨cl,?_,h1,h2,λx hx=>?_⟩
   ·rw[zT,hf,ba hk];exact e
   ·rcases bL.mp hx with e|hx
    ·cases e;exact absurd rfl hk
    ·exact h3 x hx
theorem PV{sc:en}{env:Env}(h:∀y∈sc.names,y.2=.free->∃c,env.cells.lookup y.1=ab c) :
 ∃cl,closureFor sc env=pure cl/\(∀x c,cl.lookup x=ab c->env.cells.lookup x=ab c)/\∀x,(x,lV)∈sc.names->∃c,cl.lookup x=ab c:=by
 obtain⟨cl,e,h1,_,h3⟩:=xF (env:=env) (f:=λx r=>match x with|(name,kind)=>if(kind==lV)=true then(cellOf env name >>= λa=>pure (mZ ((name,a)::r)))else pure (mZ r))
  (λn k r=>rfl) sc.names [] h (λ_ _ h=>by simp at h)
 refine⟨cl,?_,h1,h3⟩;unfold closureFor;refine Eq.trans ?_ e;exact bind_pure _
def pick(ρ:List (Option Nat))(σ:St):St:=ρ.map λo=>o.bind λj=>(σ[j]?).join
def eZ(X:Cx)(N':List Str)(sc:en)(cl:List (Str×ag))(C:ag)(s:aw)(H:Hp)(fp:List ag):Cx:={ X with N:=N',s₀:=s,H₀:=H,env:=compEnvC sc cl C X.env,outer:=X.stack,ex:=fp,fn:=λ_=>false,xe:=λ_ _=>False }
structure eF(X:Cx)(N':List Str)(ρ:List (Option Nat))(sc:en):Prop where
 kind:sc.kind=.function
 lW:∀y∈sc.names,y.2≠.cell
 names:∀y∈sc.names,y.2=.local->sc.names.lookup y.1=ab .local
 free:∀y∈sc.names,y.2=.free->(X.env.kindOf y.1=ab .cell\/X.env.kindOf y.1=ab .free)
 len:ρ.length=N'.length
 ix:∀(i j:Nat),ρ[i]? = ab (ab j)->∃x,N'[i]? = ab x/\X.N[j]? = ab x/\sc.names.lookup x=ab .free
def sw(X:Cx)(ifs:List aY)(t:TT):Prop:=
 ∀(af:List (ag×Obj)) (s:aw) (σ:St) (H:Hp) (Q:Bool->Hp->Prop),Inv X af σ H s->t σ H Q ->
  wpAny (model X.prog X.w) X.A (forIn ifs true λc r=>if r=true then do let ok <- isTrue c X.env (eval c X.env);pure (mZ ok)else pure (mZ r)) (TP X af σ Q) X.xe s
def BR:TT:=λ_ H Q=>Q true H
theorem kF{X:Cx}:sw X [] BR:=λ_ _ _ H _ I h=>wpAny_tests_nil ⟨H,I,h⟩
theorem ma{X:Cx}{c:aY}{t:TT}(h:PT X c t):sw X [c] t:=λaf s σ H Q I hw=>wpAny_tests_one (h af s σ H Q I hw)
def rD(ρ:List (Option Nat))(g:TG):Prop:=∀v σ H Q,g v σ H Q->g v σ H λσ2 H2=>(σ2.length = σ.length/\∀(i j:Nat),ρ[i]? = ab (ab j)->σ2[i]? = σ[i]?)/\Q σ2 H2
def uU(ρ:List (Option Nat))(g:ii):Prop:=∀v σ H Q,g v σ H Q->g v σ H λσ2 H2=>(σ2.length = σ.length/\∀(i j:Nat),ρ[i]? = ab (ab j)->σ2[i]? = σ[i]?)/\Q σ2 H2
theorem gr{ρ:List (Option Nat)}{i:Nat}(h:ρ[i]? = ab ac):rD ρ (eS i):=λv σ H Q q=>by
 refine⟨⟨gH,λk j e=>?_⟩,q⟩;have:i≠k:=by intro z;subst z;rw[h]at e;cases e
 rw[eE this]
theorem ES{ρ:List (Option Nat)}:uU ρ sK:=λv σ H Q ⟨e,q⟩=>⟨e,⟨rfl,λ_ _ _=>rfl⟩,q⟩
theorem uK{ρ:List (Option Nat)}{i:Nat}{u:ii}(h:ρ[i]? = ab ac)(hu:uU ρ u)(mu:∀v σ H Q Q',(∀a b,Q a b->Q' a b)->u v σ H Q->u v σ H Q'):uU ρ (rW (eS i) u):=λvs σ H Q ⟨v,r,e,q⟩=>by
 refine⟨v,r,e,?_⟩;refine mu _ _ _ _ _ (λa b ⟨⟨l,k⟩,z⟩=>⟨⟨l.trans gH,λi' j' e'=>(k i' j' e').trans ?_⟩,z⟩) (hu _ _ _ _ q);have:i≠i':=by intro z;subst z;rw[h]at e';cases e'
 rw[eE this]
theorem vG:∀v σ H Q Q',(∀a b,Q a b->Q' a b)->sK v σ H Q->sK v σ H Q':=λ_ _ _ _ _ m ⟨e,q⟩=>⟨e,m _ _ q⟩
theorem Ff{i:Nat}{u:ii}(mu:∀v σ H Q Q',(∀a b,Q a b->Q' a b)->u v σ H Q->u v σ H Q'):∀v σ H Q Q',(∀a b,Q a b->Q' a b)->rW (eS i) u v σ H Q->rW (eS i) u v σ H Q':=λ_ _ _ _ _ m ⟨v,r,e,q⟩=>⟨v,r,e,mu _ _ _ _ _ m q⟩
theorem BZ{ρ:List (Option Nat)}{K:aP}{n:Nat}{u:ii}(hu:uU ρ u):rD ρ (yQ K n u):=λv σ H Q ⟨a,xs,e,hq,hl,q⟩=>⟨a,xs,e,hq,hl,hu _ _ _ _ q⟩
def JW(J:It)(ρ:List (Option Nat))(g:TG)(tc:TT)(te:TE)(σ:St)(H1:Hp)(Q:VK):Prop:=∃W:Nat->Nat->List V->Hp->Prop,(∃m,W 0 m [] H1)/\∀i m acc H,W i m acc H ->
 (J.stop i H/\∀p,H p=ac->Q (.ref p) (upd H p (.lst acc))) \/
 (J.go i H/\acc.length<sizeLine/\∃N:List V->Hp->Prop,(∀acc' H',N acc' H'->∃m',m'<m/\W (i+1) m' acc' H') /\
  ∀x H',J.yld i H x H'->g x (pick ρ σ) H' λσ2 H2=>tc σ2 H2 λb H3=>if b=true then te σ2 H3 λy H4=>N (acc++[y]) H4 else N acc H3)
def rJ(wi:TI)(ρ:List (Option Nat))(g:TG)(tc:TT)(te:TE):TE:=λσ H Q=>wi σ H λJ H1=>JW J ρ g tc te σ H1 Q
section
variable{X:Cx}{elt tg iter:aY}{ifs:List aY}{sc:en}{pos cpos:Pos}{N':List Str}{ρ:List (Option Nat)}{wi:TI}{g:TG}{tc:TT}{te:TE}
theorem FJ(hcalm:X.calm=true)(S:eF X N' ρ sc)(hi:PI X tg iter wi)
 (hg:∀cl C s H fp,PG (eZ X N' sc cl C s H fp) tg g) (gk:rD ρ g) (hc:∀cl C s H fp,sw (eZ X N' sc cl C s H fp) ifs tc) (he:∀cl C s H fp,PE (eZ X N' sc cl C s H fp) elt te)
 (hs:∀x,foldedSetIterable iter X.env x=pure x)
 (use:Option (ah->Sem Unit)) {R:ah->aw->Prop} {af:List (ag×Obj)} {s:aw} {σ:St} {H:Hp} {Q:VK} (I:Inv X af σ H s) (h:rJ wi ρ g tc te σ H Q)
 (hR:∀s' D C H',Inv X af σ H' s'->Q (.ref D) H'->(∃m,s'.heap.Ns C m)->gA X af H' C->compPost (model X.prog X.w) X.A X.xe use R (.ref D) C (.ok .next) s') :
 wpAny (model X.prog X.w) X.A (comprehension (.ListComp elt [⟨tg,iter,ifs,0⟩] sc pos) sc X.env cpos (newList []) false (eval iter X.env) use) R X.xe s:=by
 obtain⟨cl,hcl,hsub,hall⟩:=PV (sc:=sc) (env:=X.env) λy hy hf=>I.ok.has y.1 (S.free y hy hf);refine wpAny_comprehension_free rfl hs hcl S.kind S.names (aZ (hi af s σ H _ I h) λv s1 h1=>aZ h1 λitv s2 h2=>?_);obtain⟨it,fp,tn,J,H2,e,I2,T,st2,f2,W,⟨m0,w0⟩,turn⟩:=h2;subst e;refine wpAny_newList (items:=[]) ?_;refine wpAny_newFunctionEnv S.lW (by intro y hy;simp at hy) (λh₁ hns hsb=>?_) S.kind;dsimp only at hns hsb ⊢;generalize hH2:s2.heap.push { cls:=.type "list", data:=.seq ([]:List ah).toArray }=Hh at hns hsb ⊢;have hCs:Hh.objs.size=s2.heap.objs.size+1:=by rw[<- hH2,kS]
 generalize hD:s2.heap.objs.size=D at *;generalize hCC:Hh.objs.size=C at *;have hDC:D≠C:=by omega
 have ltC:∀b:Nat,b<s2.heap.objs.size->b≠C/\b≠D/\b<D:=λb h=>by omega
 have ltD:∀b:Nat,b<D->b≠C/\b≠D:=λb h=>by omega
 have old:∀b o,s2.heap.get? b=ab o->h₁.get? b=ab o:=λb o e=>hsb.extBut b o (ltC b (bZ e)).1 (bX _ (by rw[<- hH2];exact bX _ e));have newD:h₁.get? D=ab { cls:=.type "list", data:=.seq ([]:List ah).toArray }:=hsb.extBut _ _ hDC (bX _ (by rw[<- hH2,<- hD];exact cL _ rfl));have ltb:∀b∈fp,b<D:=λb hb=>by
  obtain⟨o,e,_⟩:=T.obj _ _ st2 b hb;exact(ltC b (bZ e)).2.2
 have fD:gA X af H2 D:=I2.gy (by omega) (I2.hok.fresh (by omega));have fC:gA X af H2 C:=I2.gy (by omega) (I2.hok.fresh (by omega));have nst:∀b,b≠X.env.locals->b∉X.fs->b∉frs X.stack:=λb h1 h2 hb=>by
  rcases bL.mp (I2.sX b hb)with e|e
  ·exact h1 e
  ·exact h2 e
 have ok':(eZ X N' sc cl C s2 H2 fp).Ok:=by
  refine⟨I2.ok.mod,S.kind,I2.ok.glob,I2.ok.blt,(by show s2.heap.objs.size<=C;omega),λx y c e1 e2=>I2.ok.inj x y c (hsub _ _ e1) (hsub _ _ e2),λx hx=>?_,λx c z=>(by cases z),I2.ok.hd,I2.ok.frames,.inl rfl,
   λb hb=>⟨(ltD b (ltb b hb)).1,λx c e=>(f2 b hb).2.2.2.2.1 x c (hsub _ _ e)⟩,I2.bs,(by show X.base.objs.size<=s2.heap.objs.size;exact eK I2.ok.bsz I2.sz),λb o e hb=>?_,λb hb=>nst b (f2 b hb).2.1 (f2 b hb).2.2.1,I2.stack,I2.Fp⟩
  ·have hx':∃k',sc.names.lookup x=ab k'/\(k'=.cell\/k'=.free):=by
    rcases hx with hx|hx
    ·obtain⟨k',e1,e2⟩:=uH (env:=X.env) (names:=sc.names) hx;rcases e2 with e2|⟨e2,_⟩
     ·exact⟨k',e1,.inl e2.symm⟩
     ·exact⟨k',e1,.inr e2⟩
    ·obtain⟨k',e1,e2⟩:=uH (env:=X.env) (names:=sc.names) hx;rcases e2 with e2|⟨e2,_⟩
     ·exact⟨k',e1,.inr e2.symm⟩
     ·exact⟨k',e1,.inr e2⟩
   obtain⟨k',e1,e2⟩:=hx';have hm:=lookup_mem e1;rcases e2 with e2|e2
   ·exact absurd e2 (S.lW _ hm)
   ·subst e2;exact hall x hm
  ·rcases(f2 b hb).2.2.2.1 with z|z
   ·exact I2.ok.tW b o e z
   ·exact absurd (fU (bZ e) (eK I2.ok.bsz z)) (jp _)
 have Hq:∀p∈X.pn++af,p.1<D:=λp hp=>(ltC p.1 (bZ (I2.pin p hp).1)).2.2;have P8:∀x c,cl.lookup x=ab c->c<D:=λx c e=>by
  obtain⟨v,q⟩:=I2.cell x c (hsub _ _ e);exact(ltC c q.lt).2.2
 have I':∀tk,Inv (eZ X N' sc cl C s2 H2 fp) (af++[(D,{ cls:=.type "list", data:=.seq ([]:List ah).toArray })]) (pick ρ σ) H2 { s2 with heap:=h₁,toks:=tk }:=λtk=>by
  refine⟨ok',rfl,I2.bare,Un.kept old,⟨_,hns,λi x v e1 e2 e3=>?_⟩,λx c e=>?_,fC.1,λx c e=>I2.i5 x c (hsub _ _ e),λp hp=>?_,I2.hok.kept old,?_⟩
  ·have e2':∃j,ρ[i]? = ab (ab j)/\σ[j]? = ab (ab v):=by
    unfold pick at e2;rw[cX]at e2;cases hr:ρ[i]? with
    |none=>rw[hr]at e2;cases e2
    |some o=>
     rw[hr]at e2;cases o with
     |none=>cases e2
     |some j=>
      refine⟨j,rfl,?_⟩;have e2:(σ[j]?).join=ab v:=fh e2;cases hq:σ[j]? with
      |none=>rw[hq]at e2;cases e2
      | some o' => rw [hq] at e2; have e2 : o' = ab v := e2
                   rw[e2]
   obtain⟨j,hj,hv⟩:=e2';obtain⟨y,ey,eN,ef⟩:=S.ix i j hj;have e1':N'[i]? = ab x:=e1;rw[ey]at e1';cases e1';obtain⟨m,hn,hl⟩:=I2.loc;have hm:=lookup_mem ef;have kX:=S.free _ hm rfl;obtain⟨u,ru,lk⟩:=hl j x v eN hv (by rcases kX with k|k;exact .inr (.inl k);exact .inr (.inr k));refine⟨u,ru,.inr ⟨?_,?_⟩⟩
   ·show(relabel sc X.env).names.lookup x=ab .cell\/(relabel sc X.env).names.lookup x=ab .free;rcases e3 with e3|e3|e3
    ·obtain⟨k',q1,q2⟩:=uH (env:=X.env) (names:=sc.names) e3;rw[ef]at q1;cases q1;rcases q2 with q2|⟨_,q2⟩<;>cases q2
    ·exact .inl e3
    ·exact .inr e3
   ·obtain⟨c,hc'⟩:=hall x hm;refine⟨c,hc',?_⟩;rcases lk with ⟨k,_⟩|⟨_,c',ec,z⟩
    ·rcases kX with k'|k'<;>(rw[k]at k';cases k')
    ·rw[hsub _ _ hc']at ec;cases ec;obtain⟨o,ho,hd⟩:=z;exact⟨o,old _ _ ho,hd⟩
  ·obtain⟨v,o,ho,hd⟩:=I2.cell x c (hsub _ _ e);exact⟨v,o,old _ _ ho,hd⟩
  ·have hp':p∈X.pn++af\/p=(D,{ cls:=.type "list", data:=.seq ([]:List ah).toArray }):=by
    rcases dI.mp hp with z|z
    ·exact .inl (gf _ z)
    ·rcases dI.mp z with z|z
     ·exact .inl (dS _ z)
     ·exact .inr (by simpa using z)
   rcases hp' with z|z
   ·obtain⟨q1,q2,q3,q4,q5⟩:=I2.pin p z;exact⟨old _ _ q1,q2,(ltD p.1 (Hq p z)).1,nst _ q3 q4,q5⟩
   ·subst z;exact⟨newD,fD.1,hDC,nst _ fD.2.1 fD.2.2.1,λv z=>by cases z⟩
  ·show(pick ρ σ).length=N'.length;unfold pick;rw[aX];exact S.len
 have stat:∀{H':Hp} {o:Obj},(∀b∈fp,H' b=ac)->∀b∈fp,gA (eZ X N' sc cl C s2 H2 fp) (af++[(D,o)]) H' b:=λ{H' o} hn b hb=>by
  refine⟨hn b hb,(ltD b (ltb b hb)).1,nst b (f2 b hb).2.1 (f2 b hb).2.2.1,.inl hb,λx c e=>(f2 b hb).2.2.2.2.1 x c (hsub _ _ e),λp hp=>?_⟩;rcases dI.mp hp with z|z
  ·exact(f2 b hb).2.2.2.2.2 p (gf _ z)
  ·rcases dI.mp z with z|z
   ·exact(f2 b hb).2.2.2.2.2 p (dS _ z)
   ·have e:p=(D,o):=by simpa using z
    subst e;exact cY (ltD b (ltb b hb)).2
 have loop:∀tk,codeAny (model X.prog X.w) X.A (.compLoop (.ListComp elt [⟨tg,iter,ifs,0⟩] sc pos) 0 (.ref it) (.ref D) (compEnvC sc cl C X.env)) (compPost (model X.prog X.w) X.A X.xe use R (.ref D) C) { s2 with heap:=h₁,toks:=tk }:=λtk=>by
  refine Oz (λn s'=>∃(i:Nat) (acc:List V) (aq:List ah) (k:Nat) (H':Hp),Inv (eZ X N' sc cl C s2 H2 fp) (af++[(D,{ cls:=.type "list", data:=.seq aq.toArray k })]) (pick ρ σ) H' s'/\Vals acc aq/\acc.length<=sizeLine/\tn i s'.heap/\(∀b∈fp,H' b=ac)/\W i n acc H')
   ?_ m0 ⟨0,[],[],0,H2,I' tk,.nil,fI _,T.keep _ _ _ st2 λb hb o e=>old b o e,λb hb=>(f2 b hb).1,w0⟩
  rintro n s3 ⟨i,acc,aq,k,H3,I3,va,hz0,st3,fr3,w3⟩;rcases turn i n acc H3 w3 with ⟨stop,qn⟩|⟨go,hz,Nn,hN,step⟩
  ·refine aZ (T.done (eZ X N' sc cl C s2 H2 fp) rfl rfl rfl hcalm i _ s3 _ H3 (λ_ _=>False) I3 (stat fr3) st3 stop) λr s4 ⟨hr,I4⟩=>?_;subst hr;obtain⟨p1,p2,p3,p4,p5⟩:=I4.pin (D,{ cls:=.type "list",data:=.seq aq.toArray k }) (by simp);have p1:s4.heap.get? D=ab { cls:=.type "list", data:=.seq aq.toArray k }:=p1;have p2:H3 D=ac:=p2;have B:=I4.base;have upn:∀b o,H3 b=ab o->upd H3 D (.lst acc) b=ab o:=λb o e=>by rw[aL (cz e p2)];exact e
   have IX:Inv X af σ (upd H3 D (.lst acc)) s4:=by
    refine I2.call' (ch:=fp) I4.os ⟨λb o q1 q2 q3 q4=>B.keep b o q1 q2 q3 q4,λb o q1 q2 q3 q4=>B.slot b o q1 q2 q3 q4,λb o q1 q2 q3=>?_,λb o q1 q2=>B.there b o q1 q2,
     λb xs q=>upn _ _ (B.tups b xs q),λb o u q=>upn _ _ (B.kW b o u q),λb w ps q=>?_⟩ (I4.hok.track p2 ⟨hz0,aq,k,va,p1⟩) I4.bare λb hb=>⟨(f2 b hb).2.2.2.1,(f2 b hb).2.1,(f2 b hb).2.2.2.2.1,(f2 b hb).2.2.2.2.2⟩
    ·rw[aL (ltC b (bZ q1)).2.1];exact B.free b o q1 q2 q3
    ·obtain⟨more,q'⟩:=B.kY b w ps q;exact⟨more,upn _ _ q'⟩
   obtain⟨m,hm,_⟩:=I4.loc;refine hR s4 D C _ IX (qn D p2) ⟨m,hm⟩ (I2.gy (by omega) ?_);rw[aL (cY hDC)];exact I4.free
  ·refine aZ (T.item (eZ X N' sc cl C s2 H2 fp) rfl rfl rfl hcalm i _ s3 _ H3 (λ_ _=>False) I3 (stat fr3) st3 go) λr s4 ⟨u,hr,h4⟩=>?_;subst hr;refine aZ h4 λ_ s5 ⟨x,H5,I5,r5,y5,st5,fr5⟩=>?_;have I5':=I5.pinned (stat fr5) (T.obj _ _ st5);refine aZ (hg cl C s2 H2 fp _ s5 _ H5 x u _ I5' r5 (gk _ _ _ _ (step x H5 y5))) λ_ s6 ⟨σ6,H6,I6,⟨l6,k6⟩,q6⟩=>?_;refine aZ (hc cl C s2 H2 fp _ s6 σ6 H6 _ I6 q6) λok s7 ⟨H7,I7,q7⟩=>?_;have wk:∀{qw:List (ag×Obj)} {H':Hp} {s':aw},Inv (eZ X N' sc cl C s2 H2 fp) qw σ6 H' s'->Inv (eZ X N' sc cl C s2 H2 fp) qw (pick ρ σ) H' s':=λ{qw H' s'} J'=>
    J'.weak l6.symm λj v e=>by
     have:∃j',ρ[j]? = ab (ab j'):=by
      unfold pick at e;rw[cX]at e;cases hr:ρ[j]? with
      |none=>rw[hr]at e;cases e
      |some o=>
       rw[hr]at e;cases o with
       |none=>cases e
       |some j'=>exact⟨j',rfl⟩
     obtain⟨j',hj'⟩:=this;rw[k6 j j' hj'];exact e
   cases ok with
   |false=>
    have q7:Nn acc H7:=by simpa using q7
    rw[ba c8];obtain⟨m',hm,w7⟩:=hN acc H7 q7;refine⟨m',hm,i+1,acc,aq,k,H7,wk I7.oM,va,hz0,T.keep _ _ _ st5 λb hb o e=>(I7.pin (b,o) (dS _ (dS _ (oU hb e)))).1,λb hb=>?_,w7⟩;obtain⟨o,e,d⟩:=T.obj _ _ st5 b hb;exact(I7.pin (b,o) (dS _ (dS _ (oU hb e)))).2.1
   |true=>
    have q7:te σ6 H7 λy H4=>Nn (acc++[y]) H4:=by simpa using q7
    rw[a9 rfl];refine aZ (he cl C s2 H2 fp _ s7 σ6 H7 _ I7 q7) λxv s8 ⟨y,H8,I8,r8,n8⟩=>?_;obtain⟨p1,p2,p3,p4,p5⟩:=I8.pin (D,{ cls:=.type "list",data:=.seq aq.toArray k }) (by simp);have p1:s8.heap.get? D=ab { cls:=.type "list",data:=.seq aq.toArray k }:=p1;have p2:H8 D=ac:=p2;refine wpAny_list_append_plain ⟨k,p1⟩ (λh' pl sb=>?_) (by rw[cS,<- va.length];omega);obtain⟨k',pl⟩:=pl;obtain⟨m',hm,w8⟩:=hN _ _ n8;have Ia:Inv (eZ X N' sc cl C s2 H2 fp) af σ6 H8 s8:=I8.oM.oM;have Ib:Inv (eZ X N' sc cl C s2 H2 fp) af σ6 H8 { s8 with heap:=h' }:=Ia.turned (t':=s8.toks) (it:=D) (λb o hb e=>(sb.2 b hb).trans e) p2 hDC (.inr (by show s2.heap.objs.size<=D;omega)) (λx c e=>(ltD c (P8 x c e)).2) λp hp=>(ltD p.1 (Hq p hp)).2;have pl':h'.get? D=ab { cls:=.type "list", data:=.seq (aq++[xv]).toArray k' }:=by rw[pl];simp
    have Ic:Inv (eZ X N' sc cl C s2 H2 fp) (af++[(D,{ cls:=.type "list", data:=.seq (aq++[xv]).toArray k' })]) σ6 H8 { s8 with heap:=h' }:=Ib.wX λp hp=>by
     rcases dI.mp hp with z|z
     ·exact Ib.pin p (dS _ z)
     ·have e:p=(D,{ cls:=.type "list", data:=.seq (aq++[xv]).toArray k' }):=by simpa using z
      subst e;exact⟨pl',p2,p3,p4,λv z=>by cases z⟩
    refine⟨m',hm,i+1,acc++[y],aq++[xv],k',H8,wk Ic,va.append (.cons r8 .nil),(by rw[cF,gc];omega),T.keep _ _ _ st5 λb hb o e=>?_,λb hb=>?_,w8⟩
    ·exact(sb.2 b (ltD b (ltb b hb)).2).trans (I8.pin (b,o) (dS _ (dS _ (oU hb e)))).1
    ·obtain⟨o,e,d⟩:=T.obj _ _ st5 b hb;exact(I8.pin (b,o) (dS _ (dS _ (oU hb e)))).2.1
 refine codeAny_compStart_list (loop _) (T.self X.A 0 _ _ _ (T.keep _ _ _ st2 λb hb o e=>old b o e) (loop _))
theorem gN(hcalm:X.calm=true)(S:eF X N' ρ sc)(hi:PI X tg iter wi)
 (hg:∀cl C s H fp,PG (eZ X N' sc cl C s H fp) tg g) (gk:rD ρ g) (hc:∀cl C s H fp,sw (eZ X N' sc cl C s H fp) ifs tc) (he:∀cl C s H fp,PE (eZ X N' sc cl C s H fp) elt te)
 (hs:∀x,foldedSetIterable iter X.env x=pure x:=by intro _;rfl) :
 PE X (.ListComp elt [⟨tg,iter,ifs,0⟩] sc pos) (rJ wi ρ g tc te):=by
 intro af s σ H Q I h;rw[eval_ListComp];refine FJ hcalm S hi hg gk hc he hs ac I h λs' D C H' I' q ⟨m,hm⟩ f=>⟨m,hm,λh' sb=>?_⟩;exact⟨.ref D,H',I'.turned (t':=s'.toks) (it:=C) (λb o hb e=>(sb.2 b hb).trans e) f.1 f.2.1 f.2.2.2.1 f.2.2.2.2.1 f.2.2.2.2.2,rfl,q⟩
theorem xW{i:Nat}{x:Str}{px:Pos}(hcalm:X.calm=true)(hN:X.N.Nodup)(hix:X.N[i]? = ab x)(hx:Loc X.env.scope x)(S:eF X N' ρ sc)(hi:PI X tg iter wi)
 (hg:∀cl C s H fp,PG (eZ X N' sc cl C s H fp) tg g) (gk:rD ρ g) (hc:∀cl C s H fp,sw (eZ X N' sc cl C s H fp) ifs tc) (he:∀cl C s H fp,PE (eZ X N' sc cl C s H fp) elt te)
 (hsw:swapsWith (.ListComp elt [⟨tg,iter,ifs,0⟩] sc pos) (ab (.Name x px)) cpos.line X.env=pure true:=by rfl)
 (hs:∀x,foldedSetIterable iter X.env x=pure x:=by intro _;rfl)
 (hf:X.fn x=true\/X.env.scope.names.lookup x=ab .local:=by first|exact .inl rfl|exact .inr rfl|assumption) :
 PS X (.Assign [.Name x px] (.ListComp elt [⟨tg,iter,ifs,0⟩] sc pos) cpos) (gI (rJ wi ρ g tc te) (eS i)):=by
 intro af s σ H D I h;rw[exec_Assign_Name_used _ _ _ _ hsw];refine aH (v8 (aH ?_));show wpAny _ X.A (do let _ <- comprehension (.ListComp elt [⟨tg,iter,ifs,0⟩] sc pos) sc X.env _ (newList []) false (eval iter X.env) (ab (assign (.Name x px) X.env))) _ _ s;refine aH (aZ (FJ (Q:=λy H1=>D.nx (σ.set i (ab y)) H1) (R:=λ_ s'=>SP X af D .next s') hcalm S hi hg gk hc he hs (ab (assign (.Name x px) X.env)) I h λs' Da C H' I' q ⟨m,hm⟩ f=>?_) λ_ s' hq=>bB (bB hq));show wpAny _ X.A (assign (.Name x px) X.env (.ref Da)) _ _ _;refine wpAny_assign_Name (EY I' hN hix hx (v:=.ref Da) rfl (λs2 I2 ⟨a,sb,ha⟩=>⟨m,hm.sameBut sb ?_,λh' sb2=>?_⟩) hf)
 ·rcases ha with e|e
  ·subst e;exact f.2.1
  ·exactλz=>f.2.2.2.2.1 x a e z.symm
 ·exact⟨_,H',I2.turned (t':=s2.toks) (it:=C) (λb o hb e=>(sb2.2 b hb).trans e) f.1 f.2.1 f.2.2.2.1 f.2.2.2.2.1 f.2.2.2.2.2,q⟩
end
structure It.Of(J:It)(Ok:Hp->Prop)(xs:List V):Prop where
 go:∀i H,Ok H->i<xs.length->J.go i H
 yld:∀i H x H',Ok H->i<xs.length->J.yld i H x H'->H'=H/\xs[i]? = ab x
 stop:∀H,Ok H->J.stop xs.length H
theorem CH{K:aP}{a:ag}{xs:List V}:(qQ K a).Of (λH=>da K H a xs) xs:=⟨λi H h hi=>⟨xs,xs[i],h,by simp[hi]⟩,λi H x H' h _ y=>⟨y.1,y.2 xs h⟩,λH h=>⟨xs,h,bv _⟩⟩
theorem Cm{K:aP}{a:ag}{xs:List V}:(rK K a).Of (λH=>eU K H a xs) xs:=⟨λi H h hi=>⟨xs,xs[i],h,by simp[hi]⟩,λi H x H' h _ y=>⟨y.1,y.2 xs h⟩,λH h=>⟨xs,h,bv _⟩⟩
def nh(lo:Int)(n:Nat):List V:=(cj n).map λi=>V.int (lo+(i:Nat))
theorem yM(lo:Int)(n:Nat):(nh lo n).length=n:=by simp[nh]
theorem Pu{lo:Int}{n i:Nat}(h:i<n):(nh lo n)[i]? = ab (.int (lo+i)):=by simp[nh,h]
theorem Kz{lo:Int}{n:Nat}:(l7 lo n).Of (λ_=>True) (nh lo n):=⟨λi H _ hi=>by rw[yM]at hi;exact hi,λi H x H' _ hi y=>⟨y.1,by rw[yM]at hi;rw[y.2];exact Pu hi⟩,λH _=>by rw[yM];exact bv _⟩
def sgn(c:Nat):V:=.str ⟨#[c]⟩
def oa(x:Str):List V:=x.cps.toList.map sgn
theorem Bt(x:Str):(oa x).length=x.length:=by simp[oa,oF]
def nI(x:Str):It:=⟨λi _=>i<x.length,λi H y H'=>H'=H/\(oa x)[i]? = ab y,λi _=>i=x.length⟩
theorem C3{x:Str}:(nI x).Of (λ_=>True) (oa x):=⟨λi H _ hi=>by rw[Bt]at hi;exact hi,λi H y H' _ _ h=>h,λH _=>Bt x⟩
theorem En{P:br}{w:bd}{K:aP}{tg:aY}(it:ag)(x:Str)(t:Tok)(ty:String)
 (hty:["enumerate","zip","dict_itemiterator","dict_reverseitemiterator","odict_iterator","itertools.zip_longest","itertools.pairwise"].contains ty=false)
 (W:∀A':bN,A'.handled=ac->Walks P w A' it [it] [it] x.cps.size (SignAt x) (λi h=>h.IsStrIter it ty x t i))
 (sf:∀(A:bN) (i:Nat) (s:aw) (Q:ah->aw->Prop) (E:ah->aw->Prop),s.heap.IsStrIter it ty x t i->Q (.ref it) s->wpAny (model P w) A (pyIter (.ref it)) Q E s) :
 Turn P w K tg (nI x) [it] it (λi h=>h.IsStrIter it ty x t i) where
 mem:=by simp
 obj:=λi h st b hb=>by
  have e:b=it:=by simpa using hb
  subst e;obtain⟨o,e,c,d⟩:=st;exact⟨o,e,λv z=>by rw[d]at z;cases z⟩
 keep:=λi h h' st k=>let ⟨o,ho,r⟩:=st;⟨o,k it (by simp) o ho,r⟩
 item:=by intro X hP hw hK hc i af s σ H E I hf st hg;subst hP hw hK;obtain⟨f0,f1,f2,f3,f4,f5⟩:=hf it (by simp);refine(W X.A (I.ok.hd hc)).item i s _ _ hg st λv h' tk hv st' kk=>?_;obtain⟨c,u,e,rfl⟩:=hv;have I1:Inv X af σ H { s with heap:=h',toks:=tk }:=I.turned (λb o hb e=>kk b o (by simpa using hb) e) f0 f1 f3 f4 f5;obtain⟨o,e',c',d'⟩:=id st';refine⟨_,rfl,qS (s:={ s with heap:=h',toks:=tk }) e' c' d' hty ⟨sgn c,H,I1,⟨u,rfl⟩,⟨rfl,?_⟩,st',λb hb=>(hf b hb).1⟩⟩;unfold oa;rw[cX,tQ,e];rfl
 done:=by intro X hP hw hK hc i af s σ H E I hf st hg;subst hP hw hK;obtain⟨f0,f1,f2,f3,f4,f5⟩:=hf it (by simp);have hg:i=x.length:=hg;subst hg;exact(W X.A (I.ok.hd hc)).done s _ _ st λh' tk kk=>⟨rfl,I.turned (λb o hb e=>kk b o (by simpa using hb) e) f0 f1 f3 f4 f5⟩
 self:=sf
section
variable{X:Cx}{tg:aY}
def CT(tl:TE):TI:=λσ H R=>tl σ H λx H1=>∃z,x=.str z/\R (nI z) H1
theorem Pn{l:aY}{tl:TE}(hl:PE X l tl):PI X tg l (CT tl):=by
 intro af s σ H R I h;refine aZ (hl af s σ H _ I h) λv s1 ⟨x,H1,I1,r1,q1⟩=>?_;obtain⟨z,e,q⟩:=q1;subst e;obtain⟨t,rfl⟩:=r1;cases ha:z.cps.all (· < 128)
 ·refine wpAny_pyIter_wide ha ?_;refine⟨s1.heap.objs.size,[s1.heap.objs.size],_,nI z,H1,rfl,I1.kept (t':=s1.toks) λb o e=>bX _ e,En _ z t "str_iterator" (by decide) (λA' hA=>Walks.strWide hA _ z t) (λ_ _ _ _ _ st hQ=>wpAny_pyIter_striter_wide st hQ),⟨_,cL _ rfl,rfl,rfl⟩,λb hb=>?_,q⟩;have e:b=s1.heap.objs.size:=by simpa using hb
  subst e;exact I1.gy (bv _) (I1.hok.fresh (bv _))
 ·refine wpAny_pyIter_ascii ha ?_;refine⟨s1.heap.objs.size,[s1.heap.objs.size],_,nI z,H1,rfl,I1.kept (t':=s1.toks) λb o e=>bX _ e,En _ z t "str_ascii_iterator" (by decide) (λA' hA=>Walks.strAscii hA _ z t) (λ_ _ _ _ _ st hQ=>wpAny_pyIter_striter_ascii st hQ),⟨_,cL _ rfl,rfl,rfl⟩,λb hb=>?_,q⟩;have e:b=s1.heap.objs.size:=by simpa using hb
  subst e;exact I1.gy (bv _) (I1.hok.fresh (bv _))
theorem DI:∀{bs:List Bool} {us:List ah},Vals (bs.map V.bl) us->us=bs.map jq
 |[],_,.nil=>rfl
 |b::r,_,.cons q t=>by rw[DI t,show _=jq b from q];rfl
theorem range_any(bs:List Bool):(cj bs.length).any (λi=>bs.getD i false)=bs.any id:=by
 induction bs with
 |nil=>rfl
 |cons b r ih=>
  rw[c6,zK,iV,vT,iV]
  congr 1
def Cw(K:aP)(f:List Bool->Bool):List V->Hp->VK->Prop:=λxs H Q=>∃a bs,xs=[.ref a]/\da K H a (bs.map V.bl)/\Q (.bl (f bs)) H
theorem ID{P:br}{w:bd}{A:bN}(bs:List Bool):TruthOf P w A (λi v=>(bs.map jq).toArray[i]? = ab v) (λi=>bs.getD i false):=by
 intro i v s Q E hv hq;have:v=.bool (bs.getD i false):=by
  rw[List.getElem?_toArray,cX]at hv;cases hb:bs[i]? with
  |none=>rw[hb]at hv;cases hv
  |some b=>
   rw[hb]at hv;rw[fS,hb];exact(fh hv).symm
 subst this;exact oq hq
theorem MK(hc:X.calm=true):fP X (.builtin "any") (Cw X.K (·.any id)):=by
 intro af s σ H xs us Q I r h;obtain⟨a,bs,rfl,hq,q⟩:=h;obtain⟨u,rfl,ru⟩:=vals1 r;cases ru;obtain⟨aq,rv,p,hz⟩:=I.list hq;have e:=DI rv;subst e;have hlt:a<s.heap.objs.size:=by obtain⟨o,n,e,_⟩:=p;exact bZ e
 refine call_any_walk (v4 p.isList ⟨_,_,_,_,_,_,λi=>bs.getD i false,rfl,Walks.list (A:=X.A.in1) (I.ok.hd hc) _ a (fV hlt) (bs.map jq).toArray,⟨⟨_,cL _ rfl,rfl,rfl⟩,(p.keeps λb o e=>bX _ e).isList⟩,ID bs,λh' tk kk=>?_⟩);refine⟨.bl (bs.any id),H,I.kept λb o e=>kk b o (by simpa using fV (bZ e)) (bX _ e),?_,q⟩;show jq _=jq _;rw[<- range_any];simp
theorem K8:ce X (compareOp .Gt) (λx y H Q=>∃i j,x=.str i/\y=.str j/\Q (.bl (decide (j.cps.toList<i.cps.toList))) H):=by intro af s σ H x y v u Q I rx ry h;obtain⟨i,j,rfl,rfl,q⟩:=h;obtain⟨t,rfl⟩:=rx;obtain⟨t',rfl⟩:=ry;exact PySem.P.gt_str (sS I q rfl)
def pF(x:Str)(lo hi:Option Int):Str:=⟨((x.cps.toList.drop (HT.dg x.length 0 lo)).take (HT.dg x.length x.length hi-HT.dg x.length 0 lo)).toArray⟩
theorem Mh(lo hi:Option Int)(n:Nat):Hb lo hi 1 n=(cj (HT.dg n n hi-HT.dg n 0 lo)).map (λk=>HT.dg n 0 lo+k):=by
 have h1:∀(v:Option Int) (d:Nat),d<=n->(match v with|none=>(d:Int)|some i=>max 0 (min (if i<0 then i+(n:Int)else i) (n:Int)))=((HT.dg n d v:Nat):Int):=by
  intro v d hd;cases v with
  |none=>rfl
  |some i=>
   show max 0 (min (if i<0 then i+(n:Int)else i) (n:Int))=(((if i<0 then(i+(n:Int)).toNat else min i.toNat n):Nat):Int);by_cases hv:i<0
   ·simp only[a9 hv];omega
   ·simp only[ba hv];omega
 have fin:∀(p q:Int) (a b:Nat),p=(a:Int)->q=(b:Int)->sliceRange p q 1=(cj (b-a)).map (λk=>a+k):=by
  intro p q a b e1 e2;subst e1 e2;unfold sliceRange;simp only[show((1:Int)>0)=True from by simp,kr];by_cases hlt:(a:Int)<b
  ·have e3:(((b:Int)-a+1-1)/1).toNat=b-a:=by first|omega|(simp;done)|(simp;omega)
   simp only[hlt,kr,e3];refine Gv λk _=>?_;omega
  ·have:b-a=0:=by omega
   simp[hlt,this]
 unfold Hb;refine fin _ _ _ _ ?_ ?_
 ·have:=h1 lo 0 (fI _);cases lo with
  |none=>exact this
  |some i=>exact this
 ·have:=h1 hi n (bv _);cases hi with
  |none=>exact this
  |some i=>exact this
theorem Jk(x:Str)(lo hi:Option Int):Txt.slice x lo hi=pF x lo hi:=by
 have hle:HT.dg x.length x.length hi<=x.length:=HT.DE _ _ (bv _) hi;have ha:HT.dg x.length 0 lo<=x.length:=HT.DE _ _ (fI _) lo;unfold Txt.slice pF;rw[Mh];generalize HT.dg x.length 0 lo=a at *;generalize HT.dg x.length x.length hi=b at *;have hp:((cj (b-a)).map (λk=>a+k)).filterMap (λi=>x.cps[i]?)=(x.cps.toList.drop a).take (b-a):=by have h:=StrLaws.picks x.cps.toList (b-a) a (by simp[oF]at hle ha ⊢;omega);simpa using h
 split
 ·rename_i h;simp only[aX,tu,rj,Al,beq_iff_eq]at h;have e:a=0\/x.length=0:=by omega
  have e2:(x.cps.toList.drop a).take (b-a)=x.cps.toList:=by
   rw[h];rcases e with e|e
   ·subst e;rw[mR];exact oj (by simp[oF])
   ·have:x.cps.toList=[]:=zH (by simpa [oF]using e);rw[this];simp
  rw[e2]
 ·rw[hp]
def Fb:V->Option Int->Option Int->Hp->VK->Prop:=λx lo hi H Q=>∃z,x=.str z/\z.length<=sizeLine/\Q (.str (pF z lo hi)) H
theorem N6:mE X Fb:=by
 intro af s σ H x v vl vu lo hi sl Q I rx hs pl pu h;obtain⟨z,rfl,hz,q⟩:=h;obtain⟨t,rfl⟩:=rx;have fin:∀(l u:Option (Int×Tok)),vl=partValue l->vu=partValue u->lo=l.map (·.1)->hi=u.map (·.1) ->
  wpAny (model X.prog X.w) X.A (getItem (.str z t) (.ref sl)) (EP X af σ Q) X.xe s:=by
  intro l u e1 e2 e3 e4;subst e1 e2 e3 e4;refine wpAny_getItem_str_slice (l:=l) (u:=u) (st:=ac) hs rfl ?_;refine post_val_or_str ⟨eK (Txt.slice_le z _ _) hz,λt' k=>?_⟩;refine⟨.str (pF z _ _),H,I.tok k,⟨t',?_⟩,q⟩;show oA (Txt.slice z _ _) t'=_;rw[Jk]
 refine⟨"str", _,F.slot_str_getitem.lookup,typeIs_str _ _ _,?_⟩;cases pl with
 | none=>cases pu with
  |none=>exact fin ac ac rfl rfl rfl rfl
  |int j tj=>exact fin ac (ab (j,tj)) rfl rfl rfl rfl
 | int i ti=>cases pu with
  |none=>exact fin (ab (i,ti)) ac rfl rfl rfl rfl
  |int j tj=>exact fin (ab (i,ti)) (ab (j,tj)) rfl rfl rfl rfl
def Dx(neg:Bool):R2:=λx y H Q=>∃c z,x=sgn c/\y=.str z/\Q (.bl (if neg then !decide (c∈z.cps.toList)else decide (c∈z.cps.toList))) H
theorem O5:ce X (compareOp .In) (Dx false):=by intro af s σ H x y v u Q I rx ry h;obtain⟨c,z,rfl,rfl,q⟩:=h;refine LM af s σ H _ _ v u Q I rx ry ⟨_,z,rfl,rfl,?_⟩;rw[StrLaws.found_one];exact q
def FS(K:aP):List V->Hp->VK->Prop:=λxs H Q=>∃x t T b,xs=[x,.ty T]/\iq K H x t/\z8 K t (.type T)=ab b/\Q (.bl b) H
theorem ph:fP X (.builtin "isinstance") (FS X.K):=by intro af s σ H xs us Q I r h;obtain⟨x,t,T,b,rfl,ty,e,q⟩:=h;obtain⟨u,w',rfl,rx,rt⟩:=vals2 r;cases(show w'=Value.type T from rt);exact Op I rx ty e λtk=>⟨.bl b,H,I.tok tk,rfl,q⟩
end
def Gj(osc:en)(N N':List Str)(ρ:List (Option Nat))(sc:en):Bool:=
 sc.names.all (λy=>!(decide (y.2=.cell)))&&sc.names.all (λy=>!(decide (y.2=.local))||decide (sc.names.lookup y.1=ab .local)) &&
 sc.names.all (λy=>!(decide (y.2=.free))||(decide (osc.names.lookup y.1=ab .cell)||decide (osc.names.lookup y.1=ab .free))) &&
 decide (ρ.length=N'.length)&&(cj ρ.length).all λi=>match ρ[i]? with
  |some (ab j)=>(match N'[i]? with|some x=>decide (N[j]? = ab x)&&decide (sc.names.lookup x=ab .free)|none=>false)
  |_=>true
theorem eF.of{X:Cx}{N':List Str}{ρ:List (Option Nat)}{sc:en}(hk:sc.kind=.function)(h:Gj X.env.scope X.N N' ρ sc=true):eF X N' ρ sc:=by
 unfold Gj at h;simp only[lU,tz,Bool.or_eq_true,GK,qD,decide_eq_false_iff_not]at h;obtain⟨⟨⟨⟨h1,h2⟩,h3⟩,h4⟩,h5⟩:=h;refine⟨hk,λy hy=>h1 y hy,λy hy e=>(h2 y hy).resolve_left (λz=>z e),λy hy e=>(h3 y hy).resolve_left (λz=>z e),h4,λi j e=>?_⟩;have hi:i < ρ.length:=(b9.mp e).1;have q:=h5 i (fT.mpr hi);rw[e]at q;cases hN:N'[i]? with
 |none=>rw[hN]at q;cases q
 |some x=>
  rw[hN]at q;simp only[lU,qD]at q;exact⟨x,rfl,q.1,q.2⟩
structure bK(P:br)(w:bd)(K:aP)(mg:Str->Option ah)(base:aR)(CX:gF)(k:Nat)(x:Str)(ps:List Str)(sp:Sp):Prop where
 ex:∃(f:ag) (fd:bG),mg x=ab (.ref f)/\kQ K (.ref f)=true/\Binds K fd ps []/\bJ P w K mg base CX k f fd ps sp
theorem rg{X:Cx}{CX:gF}{k:Nat}{x:Str}{ps:List Str}{sp:Sp}{E:XK}{e:aY}{es:List aY}{t:TA}{p pos:Pos}(C:bK X.prog X.w X.K X.mg X.base CX k x ps sp)(hr:cO k X.A)(hg:Gl X x)(hx:vg CX X E)
 (ha:PA X (e::es) t) (hdb:(x==("__debug__" : Str))=false:=by decide) (he:starEach (e::es) X.env=(false,eval e X.env)::starEach es X.env:=by rfl) (hpl:(backTo pos (starEach es X.env)).any (·.1)=false:=by rfl) :
 PE X (.Call (.Name x p) (e::es) [] pos) (mJ sp [] E t):=by
 obtain⟨f,fd,hm,hk,hb,F⟩:=C.ex;exact NV F hr hg hm hk hb .nil hx ha hdb he hpl
theorem oW{X:Cx}{x:Str}{T:String}{pos:Pos}(hg:Gl X x)(hm:X.mg x=ac)(hv:bootBuiltins x=ab (.type T))(hn:x ≠ "__name__" := by decide)(hd:(x==("__debug__" : Str))=false:=by decide):PE X (.Name x pos) (tC (.ty T)):=PH hg hm hv rfl hn hd
structure cn(K:aP)(mg:Str->Option ah)(x:Str)(st:bw)(ps:List Str):Prop where
 ex:∃(f:ag) (fd:bG),mg x=ab (.ref f)/\kQ K (.ref f)=true/\Binds K fd ps []/\(∀(s:aw) (us:List ah),us.length=ps.length->lS s fd ⟨us,[]⟩ (ps.zip us))/\b8 K x x st f fd
theorem sx{K:aP}{h:aR}{mg:Str->Option ah}{x:Str}{st:bw}{ps:List Str}{f:ag}{oc:ah}{od an:Option ag}{osl:Array (Option ah)}{kV doc pm cdv ct:ah}(X:K.In h)(G:h.Ns mainGlobals mg)
 (hb:∀(kV doc pm:ah) (an:Option ag) (cdv ct:ah) (us:List ah),us.length=ps.length->bindArgs (jW x x (lH st) (h9 st) (bA st) .none kV doc pm an cdv ct) ⟨us,[]⟩=pure (ps.zip us))
 (a:fG K mainGlobals x=ab (ab (.ref f))) (l:K.lookup f=ab ⟨oc,od,.func (jW x x (lH st) (h9 st) (bA st) .none kV doc pm an cdv ct),osl⟩)
 (c:qi K cdv x=true) (k:kQ K (.ref f)=true):cn K mg x st ps:=by
 have F:=Cf (st:=st) l c k;exact⟨f,_,PySem.W.mg_of X G a,k,F.binds hb,λs us hl=>.of_eq (hb kV doc pm an cdv ct us hl),F⟩
theorem cn.cal{P:br}{w:bd}{K:aP}{mg:Str->Option ah}{base:aR}{CX:gF}{k:Nat}{x:Str}{st:bw}{ps:List Str}{sp:Sp}(F:cn K mg x st ps)(h:∀f fd,b8 K x x st f fd->bJ P w K mg base CX k f fd ps sp) :
 bK P w K mg base CX k x ps sp:=by
 obtain⟨f,fd,h1,h2,h3,_,h4⟩:=F.ex;exact⟨f,fd,h1,h2,h3,h f fd h4⟩
end L2
namespace Mi
open PySem
inductive D where
 |non|bl (b:Bool)|int (i:Int)|str (x:Str)|lst (ds:List D)|tup (ds:List D)
mutual
def D.dep:D->Nat
 |.lst ds=>dr ds+1
 |.tup ds=>dr ds+1
 |_=>0
def dr:List D->Nat
 |[]=>0
 |d::r=>max d.dep (dr r)
end
mutual
/-- Python's == -/
def bH:D->D->Bool
 |.non,.non=>true
 |.bl a,.bl b=>a==b
 |.bl a,.int b=>(if a then 1 else 0)==b
 |.int a,.bl b=>a==(if b then 1 else 0)
 |.int a,.int b=>a==b
 |.str a,.str b=>a==b
 |.lst a,.lst b=>gZ a b
 |.tup a,.tup b=>gZ a b
 |_,_=>false
def gZ:List D->List D->Bool
 |[],[]=>true
 |a::r,b::s=>bH a b&&gZ r s
 |_,_=>false
end
mutual
/-- no list in it -/
def vH:D->Bool
 |.lst _=>false
 |.tup ds=>jc ds
 |_=>true
def jc:List D->Bool
 |[]=>true
 |d::r=>vH d&&jc r
end
def eg(n:Nat)(i:Int):Option Nat:=if 0<=i then(if i<n then ab i.toNat else ac)else if -(n:Int)<=i then ab (i+n).toNat else ac
def cK{α:Type}(xs:List α)(i:Int):Option α:=(eg xs.length i).bind λj=>xs[j]?
def dg(n d:Nat):Option Int->Nat
 |none=>d
 |some v=>if v<0 then(v+(n:Int)).toNat else min v.toNat n
def gq{α:Type}(xs:List α)(lo hi:Option Int):List α:=(xs.drop (dg xs.length 0 lo)).take (dg xs.length xs.length hi-dg xs.length 0 lo)
abbrev Ky:=Sum Bool Str
structure Kp where
 a:Nat
 c:Nat
 q:Str
 ga:List Nat
 deriving DecidableEq
inductive W where
 |d (x:D)|dk (ao:List (Ky×D))|dt (ao:List (List Ky×D))|df (ao:List (List Ky×D))|ex (c:String)|fn (κ:Kp) (aK:List D)
abbrev Env:=List (Option W)
structure lO where
 cls:String
 val:List D
inductive Rs(α:Type) where
 |ok (a:α)|ex (x:lO)|no
def Rs.bind{α β:Type}:Rs α->(α->Rs β)->Rs β
 |.ok a,f=>f a
 |.ex x,_=>.ex x
 |.no,_=>.no
@[simp] theorem aN {α β:Type} (a:α) (f:α->Rs β):(Rs.ok a).bind f=f a:=rfl
@[simp] theorem Qt {α β:Type} (x:lO) (f:α->Rs β):(Rs.ex x).bind f=.ex x:=rfl
@[simp] theorem Qq {α β:Type} (f:α->Rs β):(Rs.no).bind f=.no:=rfl
def Fin{α:Type}(r:Rs α)(k:α->Prop):Prop:=match r with
 |.ok a=>k a
 |_=>False
theorem aA{α β:Type}{r:Rs α}{f:α->Rs β}{k:β->Prop}:Fin (r.bind f) k↔Fin r λa=>Fin (f a) k:=by cases r<;>exact Iff.rfl
theorem Fin.mono{α:Type}{r:Rs α}{k k':α->Prop}(h:Fin r k)(m:∀a,k a->k' a):Fin r k':=by
 cases r with
 |ok a=>exact m a h
 |ex x=>exact h
 |no=>exact h
theorem jO{α:Type}{r s:Rs α}{k:α->Prop}(h:Fin (if true=true then r else s) k):Fin r k:=by simpa using h
theorem jG{α:Type}{r s:Rs α}{k:α->Prop}(h:Fin (if false=true then r else s) k):Fin s k:=by simpa using h
theorem nZ{α:Type}{a:α}{k:α->Prop}(h:Fin (.ok a) k):k a:=h
def cJ{α:Type}:Option α->Rs α
 |some a=>.ok a
 |none=>.no
def bf{α:Type}(c:Prop)[Decidable c](r:Rs α):Rs α:=if c then r else .no
theorem aQ{α:Type}{c:Prop}[Decidable c]{r:Rs α}(h:c):bf c r=r:=a9 h
theorem cq{α:Type}{c:Prop}[Decidable c]{r:Rs α}{k:α->Prop}(h:Fin (bf c r) k):c/\Fin r k:=by
 unfold bf at h;split at h
 ·exact⟨‹_›,h⟩
 ·exact h.elim
abbrev E:=Env->Rs D
abbrev C:=Env->Rs Bool
def mC(d:D):E:=λ_=>.ok d
def mV(i:Nat):E:=λe=>match e[i]? with
 |some (ab (.d x))=>.ok x
 |_=>.no
def m1(f:D->Rs D)(a:E):E:=λe=>(a e).bind f
def m2(f:D->D->Rs D)(a b:E):E:=λe=>(a e).bind λx=>(b e).bind λy=>f x y
def f7:List E->Env->Rs (List D)
 |[],_=>.ok []
 |a::r,e=>(a e).bind λx=>(f7 r e).bind λxs=>.ok (x::xs)
def mN(f:List D->Rs D)(as:List E):E:=λe=>(f7 as e).bind f
def dTup(ds:List D):Rs D:=bf (ds.length<=16777216) (.ok (.tup ds))
def cZ(ds:List D):Rs D:=bf (ds.length<=16777216) (.ok (.lst ds))
def mB:D->Rs Bool
 |.bl b=>.ok b
 |_=>.no
def nN(a b:E):E:=λe=>(a e).bind λx=>(mB x).bind λc=>if c=true then b e else .ok (.bl false)
def vt(a b:E):E:=λe=>(a e).bind λx=>(mB x).bind λc=>if c=true then .ok (.bl true)else b e
def lC(c:C)(a b:E):E:=λe=>(c e).bind λk=>if k=true then a e else b e
def uh(f g:D->D->Rs D)(a b c:E):E:=λe=>(a e).bind λx=>(b e).bind λy=>(f x y).bind λz=>(mB z).bind λk=>if k=true then(c e).bind λw=>g y w else .ok (.bl false)
def lm:D->Rs Int
 |.int i=>.ok i
 |_=>.no
def k7:Option E->Env->Rs (Option Int)
 |none,_=>.ok ac
 |some a,e=>(a e).bind λx=>(lm x).bind λi=>.ok (ab i)
def lX(x:Str)(lo hi:Option Int):Str:=⟨(gq x.cps.toList lo hi).toArray⟩
def eJ(x:D)(lo hi:Option Int):Rs D:=match x with
 |.lst ds=>.ok (.lst (gq ds lo hi))
 |.str z=>bf (z.length<=16777216) (.ok (.str (lX z lo hi)))
 |_=>.no
def eD(f:D->Option Int->Option Int->Rs D)(a:E)(lo hi:Option E):E:=λe=>(a e).bind λx=>(k7 lo e).bind λl=>(k7 hi e).bind λh=>f x l h
def cB(a:E):C:=λe=>(a e).bind mB
def eA(a b:C):C:=λe=>(a e).bind λc=>if c=true then b e else .ok false
def dO(a b:C):C:=λe=>(a e).bind λc=>if c=true then .ok true else b e
def cV(a:C):C:=λe=>(a e).bind λc=>.ok (!c)
def JO:D->Rs Bool
 |.non=>.ok false
 |.bl b=>.ok b
 |.int i=>.ok (i != 0)
 |.str y=>bf (y.length<=16777216) (.ok ((y.length:Int) != 0))
 |.lst ds=>.ok (!ds.isEmpty)
 |.tup ds=>.ok (!ds.isEmpty)
def fw(a:E):C:=λe=>(a e).bind JO
abbrev I:=Env->Rs (List D)
def ul:D->Rs (List D)
 |.lst ds=>.ok ds
 |.tup ds=>.ok ds
 |.str x=>.ok (x.cps.toList.map λc=>.str ⟨#[c]⟩)
 |_=>.no
def de(a:E):I:=λe=>(a e).bind ul
def cM(lo hi:Int):List D:=(cj (hi-lo).toNat).map λk=>.int (lo+(k:Nat))
def okR(i:Int):Prop:=-(2 ^ 62)<=i/\i<2 ^ 62
instance (i:Int):Decidable (okR i):=inferInstanceAs (Decidable (_/\_))
def h6(a:E):I:=λe=>(a e).bind λx=>(lm x).bind λj=>bf (okR j) (.ok (cM 0 j))
def lJ(a b:E):I:=λe=>(a e).bind λx=>(b e).bind λy=>(lm x).bind λi=>(lm y).bind λj=>bf (okR i/\okR j) (.ok (cM i j))
def iT(k:Nat):List D->List D
 |[]=>[]
 |d::r=>.tup [.int k,d]::iT (k+1) r
def Ea:D->Rs (List D)
 |.lst ds=>.ok ds
 |_=>.no
def xH(a:E):I:=λe=>(a e).bind λx=>(Ea x).bind λds=>.ok (iT 0 ds)
def iB:List D->List D->List D
 |a::r,b::s=>.tup [a,b]::iB r s
 |_,_=>[]
def fO:List D->List D->List D->List D
 |a::r,b::s,c::t=>.tup [a,b,c]::fO r s t
 |_,_,_=>[]
inductive Tg where
 |n (i:Nat)|t (is:List Nat)
def mF:List Nat->List D->Env->Rs Env
 |[],[],e=>.ok e
 |i::is,d::ds,e=>mF is ds (e.set i (ab (.d d)))
 |_,_,_=>.no
def Tg.put:Tg->D->Env->Rs Env
 |.n i,d,e=>.ok (e.set i (ab (.d d)))
 |.t is,.tup ds,e=>mF is ds e
 |_,_,_=>.no
def iF(ρ:List (Option Nat))(e:Env):Env:=ρ.map λo=>o.bind λj=>(e[j]?).join
def dE(tg:Tg)(c:C)(a:E)(e:Env):List D->Rs (List D)
 |[]=>.ok []
 |x::r=>(tg.put x e).bind λe1=>(c e1).bind λk=>if k=true then(a e1).bind λy=>(dE tg c a e r).bind λys=>.ok (y::ys)else dE tg c a e r
def el:C:=λ_=>.ok true
def dj(ρ:List (Option Nat))(it:I)(tg:Tg)(c:C)(a:E):E:=λe=>(it e).bind λxs=>bf (xs.length<=16777216) ((dE tg c a (iF ρ e) xs).bind λys=>.ok (.lst ys))
abbrev Fn:=List W->Rs W
abbrev EW:=Env->Rs W
def wD(a:E):EW:=λe=>(a e).bind λx=>.ok (.d x)
def wV(i:Nat):EW:=λe=>match e[i]? with
 |some (ab w)=>.ok w
 |_=>.no
def cW:List EW->Env->Rs (List W)
 |[],_=>.ok []
 |a::r,e=>(a e).bind λx=>(cW r e).bind λxs=>.ok (x::xs)
def jv(f:Fn)(as:List EW):EW:=λe=>(cW as e).bind f
def lG:W->Rs D
 |.d x=>.ok x
 |_=>.no
def a8(f:Fn)(as:List EW):E:=λe=>(jv f as e).bind lG
inductive Out where
 |nx (e:Env)|rt (w:W)|bk (e:Env)|ct (e:Env)
abbrev S:=Env->Rs Out
def bU:S:=λe=>.ok (.nx e)
def aM(s t:S):S:=λe=>(s e).bind λo=>match o with
 |.nx e'=>t e'
 |o=>.ok o
def jt(i:Nat)(a:EW):S:=λe=>(a e).bind λw=>.ok (.nx (e.set i (ab w)))
def bF(i:Nat)(a:E):S:=λe=>(a e).bind λd=>.ok (.nx (e.set i (ab (.d d))))
def nH(tg:Tg)(a:E):S:=λe=>(a e).bind λd=>(tg.put d e).bind λe'=>.ok (.nx e')
def fZ(a:E):S:=λe=>(a e).bind λ_=>.ok (.nx e)
def bp(a:EW):S:=λe=>(a e).bind λw=>.ok (.rt w)
def bI(c:C)(s t:S):S:=λe=>(c e).bind λk=>if k=true then s e else t e
def rf:S:=λ_=>.no
def jj(tg:Tg)(body:S):List D->Env->Rs Out
 |[],e=>.ok (.nx e)
 | x::r,e=>(tg.put x e).bind λe1=>(body e1).bind λo=>match o with
  |.nx e2=>jj tg body r e2
  |.ct e2=>jj tg body r e2
  |.bk e2=>.ok (.nx e2)
  |.rt w=>.ok (.rt w)
def dY(it:I)(tg:Tg)(body:S):S:=λe=>(it e).bind λxs=>jj tg body xs e
def gp(c:C)(body:S):Nat->Env->Rs Out
 |0,_=>.no
 | n+1,e=>(c e).bind λk=>if k=true then(body e).bind λo=>match o with
  |.nx e2=>gp c body n e2
  |.ct e2=>gp c body n e2
  |.bk e2=>.ok (.nx e2)
  |.rt w=>.ok (.rt w)
  else .ok (.nx e)
def iI(n:Nat)(c:C)(body:S):S:=gp c body n
def getL(e:Env)(i:Nat):Rs (List D):=match e[i]? with
 |some (ab (.d (.lst ds)))=>.ok ds
 |_=>.no
def putL(e:Env)(i:Nat)(ds:List D):Env:=e.set i (ab (.d (.lst ds)))
def c5(i:Nat)(a:E):S:=λe=>(a e).bind λd=>(getL e i).bind λds=>bf (ds.length<16777216) (.ok (.nx (putL e i (ds++[d]))))
def xC(i:Nat):S:=λe=>(getL e i).bind λds=>.ok (.nx (putL e i ds.reverse))
def vy(x y:Nat):S:=λe=>(getL e y).bind λds=>(cJ ds[ds.length-1]?).bind λd=>.ok (.nx ((putL e y ds.dropLast).set x (ab (.d d))))
def jz(ds:List D)(i:Int):Rs (D×List D):=bf (-(2 ^ 63)<=i/\i<2 ^ 63) ((cJ (eg ds.length i)).bind λk=>(cJ ds[k]?).bind λd=>.ok (d,ds.eraseIdx k))
def iu(x y:Nat)(k:E):S:=λe=>(k e).bind λz=>(lm z).bind λi=>(getL e y).bind λds=>(jz ds i).bind λp=>.ok (.nx ((putL e y p.2).set x (ab (.d p.1))))
def uo(x y:Nat)(k:E):S:=λe=>(k e).bind λz=>(lm z).bind λi=>(getL e y).bind λds=>(jz ds i).bind λp=>(getL (putL e y p.2) x).bind λes=>
 bf (es.length<16777216) (.ok (.nx (putL (putL e y p.2) x (es++[p.1]))))
def sH(x:Nat)(k a:E):S:=λe=>(a e).bind λd=>(k e).bind λz=>(lm z).bind λi=>(getL e x).bind λds=>(cJ (eg ds.length i)).bind λj=>.ok (.nx (putL e x (ds.set j d)))
def m8:D->Option Ky
 |.bl i=>ab (.inl i)
 |.str x=>ab (.inr x)
 |_=>ac
def nX:List D->Option (List Ky)
 |[]=>ab []
 | d::r=>match m8 d,nX r with
  |some k,ab ks=>ab (k::ks)
  |_,_=>ac
def gK{κ:Type}[DecidableEq κ](ao:List (κ×D))(k:κ):Option D:=(ao.find? λkv=>decide (kv.1=k)).map (·.2)
def pY(w:W)(k:D):Rs (Option D):=match w with
 |.dk ao=>(cJ (m8 k)).bind λk=>.ok (gK ao k)
 | .dt ao=>match k with
  |.tup ds=>(cJ (nX ds)).bind λk=>.ok (gK ao k)
  |_=>.no
 | .df ao=>match k with
  |.tup ds=>(cJ (nX ds)).bind λk=>.ok (gK ao k)
  |_=>.no
 |_=>.no
def putK{κ:Type}[DecidableEq κ](k:κ)(v:D)(ao:List (κ×D)):List (κ×D):=if(ao.any λkv=>decide (kv.1=k))=true then ao.map (λkv=>if kv.1=k then(kv.1,v)else kv)else ao++[(k,v)]
def rF(w:W)(k v:D):Rs W:=match w with
 |.dk ao=>bf (ao.length<16777216) ((cJ (m8 k)).bind λk=>.ok (.dk (putK k v ao)))
 | .dt ao=>match k with
  |.tup ds=>bf (ao.length<16777216) ((cJ (nX ds)).bind λk=>.ok (.dt (putK k v ao)))
  |_=>.no
 |_=>.no
def nA(i:Nat)(k:E):E:=λe=>(k e).bind λd=>(wV i e).bind λw=>(pY w d).bind λo=>.ok (.bl o.isSome)
def hG(i:Nat)(k:E):E:=λe=>(k e).bind λd=>(wV i e).bind λw=>(pY w d).bind λo=>.ok (.bl (!o.isSome))
def rp(i:Nat)(k:E):E:=λe=>(k e).bind λd=>(wV i e).bind λw=>(pY w d).bind cJ
def eB(i:Nat)(k v:E):S:=λe=>(v e).bind λx=>(k e).bind λd=>(wV i e).bind λw=>(rF w d x).bind λw'=>.ok (.nx (e.set i (ab w')))
def kC:Out->Rs W
 |.rt w=>.ok w
 |.nx _=>.ok (.d .non)
 |_=>.no
def dm(k n:Nat)(body:S):Fn:=λws=>bf (ws.length=k) ((body (ws.map ab++c7 (n-ws.length) ac)).bind kC)
def jH:Out->Rs W
 |.rt w=>.ok w
 |_=>.no
def fc(k n:Nat)(body:S):Fn:=λws=>bf (ws.length=k) ((body (ws.map ab++c7 (n-ws.length) ac)).bind jH)
def lr(i j:Int):Prop:=(-(2 ^ 64)<i/\i<2 ^ 64)\/(-(2 ^ 64)<j/\j<2 ^ 64)
instance (i j:Int):Decidable (lr i j):=inferInstanceAs (Decidable (_\/_))
def la(j:Int):Prop:=0<j/\j.natAbs.log2<9000
instance (j:Int):Decidable (la j):=inferInstanceAs (Decidable (_/\_))
def Ft(i j:Int):Prop:=0<=j/\j<=1000000/\i.natAbs<2 ^ 64
instance (i j:Int):Decidable (Ft i j):=inferInstanceAs (Decidable (_/\_))
def bn:D->D->Rs D
 |.int i,.int j=>.ok (.int (i+j))
 |.str i,.str j=>bf (i.length+j.length<=16777216) (.ok (.str (i++j)))
 |.lst i,.lst j=>bf (i.length+j.length<=16777216) (.ok (.lst (i++j)))
 |_,_=>.no
def dZ:D->D->Rs D
 |.int i,.int j=>.ok (.int (i-j))
 |_,_=>.no
def dCat:D->D->Rs D
 |.lst i,.lst j=>bf (i.length+j.length<=16777216) (.ok (.lst (i++j)))
 |_,_=>.no
def bV:D->D->Rs D
 |.int i,.int j=>bf (lr i j) (.ok (.int (i*j)))
 |_,_=>.no
def cx:D->D->Rs D
 |.int i,.int j=>bf (la j) (.ok (.int (i/j)))
 |_,_=>.no
def bg:D->D->Rs D
 |.int i,.int j=>bf (0<j) (.ok (.int (i%j)))
 |_,_=>.no
def zy:D->D->Rs D
 |.int i,.int j=>bf (Ft i j) (.ok (.int (i ^ j.toNat)))
 |_,_=>.no
def i7:D->Rs D
 |.int i=>.ok (.int (-i))
 |_=>.no
def d6:D->D->Rs D
 |.int i,.int j=>.ok (.bl (decide (i<j)))
 |.str i,.str j=>.ok (.bl (decide (i.cps.toList<j.cps.toList)))
 |_,_=>.no
def pe:D->D->Rs D
 |.int i,.int j=>.ok (.bl (decide (j<i)))
 |.str i,.str j=>.ok (.bl (decide (j.cps.toList<i.cps.toList)))
 |_,_=>.no
def oP:D->D->Rs D
 |.int i,.int j=>.ok (.bl (decide (i<=j)))
 |_,_=>.no
def dP(x y:D):Rs D:=bf (x.dep<=16) (.ok (.bl (bH x y)))
def eV(x y:D):Rs D:=bf (x.dep<=16) (.ok (.bl (!bH x y)))
def xp:D->Bool
 |.non=>true
 |_=>false
def rG(x y:D):Rs D:=match y with
 |.non=>.ok (.bl (xp x))
 |_=>.no
def rT(x y:D):Rs D:=match y with
 |.non=>.ok (.bl (!xp x))
 |_=>.no
def cC(x y:D):Rs D:=match y with
 |.lst ds=>bf (dr ds<=16) (.ok (.bl (ds.any λe=>bH e x)))
 |.tup ds=>bf (dr ds<=16) (.ok (.bl (ds.any λe=>bH e x)))
 | .str z=>match x with
  |.str s=>bf (s.length=1) (.ok (.bl (decide (s.cps.getD 0 0∈z.cps.toList))))
  |_=>.no
 |_=>.no
def f9(x y:D):Rs D:=match y with
 |.lst ds=>bf (dr ds<=16) (.ok (.bl (!ds.any λe=>bH e x)))
 |.tup ds=>bf (dr ds<=16) (.ok (.bl (!ds.any λe=>bH e x)))
 |_=>.no
def aE(x y:D):Rs D:=match x,y with
 |.lst ds,.int i=>cJ (cK ds i)
 |.tup ds,.int i=>cJ (cK ds i)
 |.str z,.int i=>bf (z.length<=16777216) ((cJ (cK z.cps.toList i)).bind λc=>.ok (.str ⟨#[c]⟩))
 |_,_=>.no
def bS:List D->Rs D
 |[.lst ds]=>.ok (.int ds.length)
 |[.tup ds]=>.ok (.int ds.length)
 |[.str z]=>bf (z.length<=16777216) (.ok (.int z.length))
 |_=>.no
def iH:List D->Rs D
 |[.int i,.int j]=>.ok (.int (max i j))
 |_=>.no
def mm:List D->Rs D
 |[.int i,.int j]=>.ok (.int (min i j))
 |_=>.no
def jC:List D->Option (List Bool)
 |[]=>ab []
 |.bl b::r=>(jC r).map (b :: ·)
 |_=>ac
def xc:List D->Rs D
 |[.lst ds]=>(cJ (jC ds)).bind λbs=>.ok (.bl (bs.all id))
 |_=>.no
def zq:List D->Rs D
 |[.lst ds]=>(cJ (jC ds)).bind λbs=>.ok (.bl (bs.any id))
 |_=>.no
def rA:List D->Rs D
 |[.lst ds]=>.ok (.lst ds)
 |[.tup ds]=>.ok (.lst ds)
 |_=>.no
def oZ:List D->Rs D
 |[.lst ds]=>.ok (.tup ds)
 |[.tup ds]=>.ok (.tup ds)
 |_=>.no
def uO(t:String):D->Bool
 |.non=>false
 |.bl _=>t == "bool" || t == "int"
 |.int _=>t == "int"
 |.str _=>t == "str"
 |.lst _=>t == "list"
 |.tup _=>t == "tuple"
def B9:D->String
 |.non => "NoneType" | .bl _ => "bool" | .int _ => "int" | .str _ => "str" | .lst _ => "list" | .tup _ => "tuple"
def gL(ts:List String)(x:D):Rs D:=.ok (.bl (ts.any λt=>uO t x))
def lh:List D->Option (List Str)
 |[]=>ab []
 |.str b::r=>(lh r).map (b :: ·)
 |_=>ac
def u6(x y:D):Rs D:=match x,y with
 |.str sep,.lst ds=>(cJ (lh ds)).bind λys=>bf ((ys.map (·.length)).sum+ys.length*sep.length<=16777216) (.ok (.str (jZ sep ys)))
 |_,_=>.no
def met(val:Nat->Str):Nat->List Str
 |0=>[]
 |i+1=>if val i∈met val i then met val i else met val i++[val i]
end Mi
namespace L2
open PySem PySem.Spec PyProof.Rows
open Mi (D dr bH gZ)
mutual
theorem wI:∀d:D,bH d d=true
 |.non=>rfl
 |.bl b=>by simp[bH]
 |.int i=>by simp[bH]
 |.str x=>by simp[bH]
 |.lst ds=>by rw[bH];exact zd ds
 |.tup ds=>by rw[bH];exact zd ds
theorem zd:∀ds:List D,gZ ds ds=true
 |[]=>rfl
 |d::r=>by rw[gZ,wI d,zd r];rfl
end
theorem sk:∀{ds es:List D},ds.length≠es.length->gZ ds es=false
 |[],[],h=>absurd rfl h
 |[],_::_,_=>rfl
 |_::_,[],_=>rfl
 |d::r,e::s,h=>by rw[gZ,sk (λz=>h (by rw[c6,c6,z])),Ak]
theorem se:∀{ds es:List D},ds.length=es.length->gZ ds es=(cj ds.length).all λj=>bH (ds.getD j .non) (es.getD j .non)
 |[],[],_=>rfl
 |[],_::_,h=>by simp at h
 |_::_,[],h=>by simp at h
 |d::r,e::s,h=>by
  rw[gZ,se (by simpa using h),c6,zK,List.all_cons,List.all_map];rfl
mutual
/-- the value v in the heap H is the tree d -/
def Rep(K:aP)(H:Hp):D->V->Prop
 |.non,v=>v=.non
 |.bl b,v=>v=.bl b
 |.int i,v=>v=.int i
 |.str x,v=>v=.str x
 |.lst ds,v=>∃a xs,v=.ref a/\da K H a xs/\bq K H ds xs
 |.tup ds,v=>∃a xs,v=.ref a/\eU K H a xs/\bq K H ds xs
def bq(K:aP)(H:Hp):List D->List V->Prop
 |[],vs=>vs=[]
 |d::ds,vs=>∃v r,vs=v::r/\Rep K H d v/\bq K H ds r
end
theorem bq.length{K:aP}{H:Hp}:∀{ds:List D} {vs:List V},bq K H ds vs->ds.length=vs.length
 |[],vs,h=>by rw[bq]at h;subst h;rfl
 |d::ds,vs,h=>by
  rw[bq]at h;obtain⟨v,r,rfl,_,q⟩:=h;rw[c6,c6,bq.length q]
theorem bq.get{K:aP}{H:Hp}:∀{ds:List D} {vs:List V} {j:Nat} {v:V},bq K H ds vs->vs[j]? = ab v->Rep K H (ds.getD j .non) v
 |[],vs,j,v,h,e=>by rw[bq]at h;subst h;simp at e
 |d::ds,vs,0,v,h,e=>by
  rw[bq]at h;obtain⟨v',r,rfl,p,q⟩:=h;simp at e;subst e;exact p
 |d::ds,vs,j+1,v,h,e=>by
  rw[bq]at h;obtain⟨v',r,rfl,p,q⟩:=h;have:=bq.get (j:=j) (v:=v) q (by simpa using e);simpa using this
section
variable{X:Cx}{af:List (ag×Obj)}{σ:St}{H:Hp}{s:aw}
theorem Inv.FM(I:Inv X af σ H s){a:ag}{xs ys:List V}(h:da X.K H a xs)(h':eU X.K H a ys):False:=by obtain⟨aq,_,p,_⟩:=I.list h;obtain⟨its',_,q,_⟩:=I.tuple h';obtain⟨o,n,e,c,_⟩:=p;obtain⟨o',e',c',_⟩:=q;rw[e]at e';cases e';rw[c]at c';exact absurd (wz c') (by decide)
mutual
theorem Rep.inj(I:Inv X af σ H s):∀{d e:D} {v:V},Rep X.K H d v->Rep X.K H e v->d=e
 |.non,e,v,h,h'=>by
  rw[Rep]at h;subst h;cases e<;>rw[Rep]at h'<;>first|rfl|(obtain⟨_,_,z,_⟩:=h';cases z)|cases h'
 |.bl b,e,v,h,h'=>by
  rw[Rep]at h;subst h;cases e<;>rw[Rep]at h'<;>first|(obtain⟨_,_,z,_⟩:=h';cases z)|(cases h';rfl)|cases h'
 |.int b,e,v,h,h'=>by
  rw[Rep]at h;subst h;cases e<;>rw[Rep]at h'<;>first|(obtain⟨_,_,z,_⟩:=h';cases z)|(cases h';rfl)|cases h'
 |.str b,e,v,h,h'=>by
  rw[Rep]at h;subst h;cases e<;>rw[Rep]at h'<;>first|(obtain⟨_,_,z,_⟩:=h';cases z)|(cases h';rfl)|cases h'
 |.lst ds,e,v,h,h'=>by
  rw[Rep]at h;obtain⟨a,xs,rfl,q,r⟩:=h;cases e with
  |lst es=>
   rw[Rep]at h';obtain⟨a',xs',z,q',r'⟩:=h';cases z;rw[I.uR q' q]at r';rw[bq.inj I r r']
  |tup es=>
   rw[Rep]at h';obtain⟨a',xs',z,q',r'⟩:=h';cases z;exact(I.FM q q').elim
  |_=>rw[Rep]at h';cases h'
 |.tup ds,e,v,h,h'=>by
  rw[Rep]at h;obtain⟨a,xs,rfl,q,r⟩:=h;cases e with
  |tup es=>
   rw[Rep]at h';obtain⟨a',xs',z,q',r'⟩:=h';cases z;rw[I.wJ q' q]at r';rw[bq.inj I r r']
  |lst es=>
   rw[Rep]at h';obtain⟨a',xs',z,q',r'⟩:=h';cases z;exact(I.FM q' q).elim
  |_=>rw[Rep]at h';cases h'
theorem bq.inj(I:Inv X af σ H s):∀{ds es:List D} {vs:List V},bq X.K H ds vs->bq X.K H es vs->ds=es
 |[],es,vs,h,h'=>by
  rw[bq]at h;subst h;cases es with
  |nil=>rfl
  |cons e es=>rw[bq]at h';obtain⟨_,_,z,_⟩:=h';cases z
 |d::ds,es,vs,h,h'=>by
  rw[bq]at h;obtain⟨v,r,rfl,p,q⟩:=h;cases es with
  |nil=>rw[bq]at h';cases h'
  |cons e es=>
   rw[bq]at h';obtain⟨v',r',z,p',q'⟩:=h';cases z;rw[Rep.inj I p p',bq.inj I q q']
end
theorem xq:∀{ds:List D} {j:Nat},(ds.getD j .non).dep<=dr ds
 |[],j=>by simp[D.dep]
 |d::ds,0=>by simp[dr];omega
 |d::ds,j+1=>by
  have:=xq (ds:=ds) (j:=j);have e:(d::ds).getD (j+1) .non=ds.getD j .non:=by simp
  rw[e,dr];omega
def _root_.Mi.D.flat:D->Bool
 |.lst _=>false
 |.tup _=>false
 |_=>true
def _root_.Mi.D.toV:D->V
 |.non=>.non|.bl b=>.bl b|.int i=>.int i|.str x=>.str x|.lst _=>.non|.tup _=>.non
theorem Rep.flat{K:aP}:∀{d:D} {v:V},d.flat=true->Rep K H d v->v=d.toV/\yp v=true
 |.non,v,_,h=>by rw[Rep]at h;subst h;exact⟨rfl,rfl⟩
 |.bl b,v,_,h=>by rw[Rep]at h;subst h;exact⟨rfl,rfl⟩
 |.int b,v,_,h=>by rw[Rep]at h;subst h;exact⟨rfl,rfl⟩
 |.str b,v,_,h=>by rw[Rep]at h;subst h;exact⟨rfl,rfl⟩
 |.lst _,v,z,h=>by cases z
 |.tup _,v,z,h=>by cases z
theorem Pc:∀{d e:D},d.flat=true->e.flat=true->bH d e=FU d.toV e.toV:=by intro d e h1 h2;cases d<;>cases e<;>first|rfl|exact absurd (show false=true from h1) c8|exact absurd (show false=true from h2) c8
open SeqAt in
theorem CJ(I:Inv X af σ H s):∀(n:Nat) (d e:D) (A:bN) {x y:V} {u u':ah},d.dep<=n->A.units+n<cLine->Rep X.K H d x->Rep X.K H e y->RelV x u->RelV y u'->EqAt A s u u' (bH d e):=by
 intro n
 induction n using Nat.strongRecOn with
 |ind n ih=>
  intro d e A x y u u' hd hu h h' r r';have hu0:A.units<cLine:=by omega
  by_cases hdf:d.flat=true
  ·obtain⟨ex,fx⟩:=h.flat hdf;subst ex;by_cases hef:e.flat=true
   ·obtain⟨ey,fy⟩:=h'.flat hef;subst ey;rw[Pc hdf hef];exact Oj r r' fx fy
   ·cases e with
    |lst es=>
     rw[Rep]at h';obtain⟨a,xs,rfl,q,_⟩:=h';cases r';obtain⟨aq,_,p,_⟩:=I.list q;cases d with
     |non=>cases r;exact EqAt.none_list p.isList hu0
     |bl b=>cases r;exact EqAt.bool_list b p.isList hu0
     |int b=>obtain⟨t,rfl⟩:=r;exact EqAt.int_list b t p.isList hu0
     |str b=>obtain⟨t,rfl⟩:=r;exact EqAt.str_list b t p.isList hu0
     |_=>cases hdf
    |tup es=>
     rw[Rep]at h';obtain⟨a,xs,rfl,q,_⟩:=h';cases r';obtain⟨aq,_,p,_⟩:=I.tuple q;cases d with
     |non=>cases r;exact EqAt.none_tuple p hu0
     |bl b=>cases r;exact EqAt.bool_tuple b p hu0
     |int b=>obtain⟨t,rfl⟩:=r;exact EqAt.int_tuple b t p hu0
     |str b=>obtain⟨t,rfl⟩:=r;exact EqAt.str_tuple b t p hu0
     |_=>cases hdf
    |_=>exact absurd rfl hef
  ·by_cases hef:e.flat=true
   ·obtain⟨ey,fy⟩:=h'.flat hef;subst ey;cases d with
    |lst ds=>
     rw[Rep]at h;obtain⟨a,xs,rfl,q,_⟩:=h;cases r;obtain⟨aq,_,p,_⟩:=I.list q;cases e with
     |non=>cases r';exact EqAt.list_none p.isList hu0
     |bl b=>cases r';exact EqAt.list_bool b p.isList hu0
     |int b=>obtain⟨t,rfl⟩:=r';exact EqAt.list_int b t p.isList hu0
     |str b=>obtain⟨t,rfl⟩:=r';exact EqAt.list_str b t p.isList hu0
     |_=>cases hef
    |tup ds=>
     rw[Rep]at h;obtain⟨a,xs,rfl,q,_⟩:=h;cases r;obtain⟨aq,_,p,_⟩:=I.tuple q;cases e with
     |non=>cases r';exact EqAt.tuple_none p hu0
     |bl b=>cases r';exact EqAt.tuple_bool b p hu0
     |int b=>obtain⟨t,rfl⟩:=r';exact EqAt.tuple_int b t p hu0
     |str b=>obtain⟨t,rfl⟩:=r';exact EqAt.tuple_str b t p hu0
     |_=>cases hef
    |_=>exact absurd rfl hdf
   ·-- both are lists or tuples
    have item:∀{ds es:List D} {xs ys:List V} {aq its':List ah},dr ds+1<=n->bq X.K H ds xs->bq X.K H es ys->Vals xs aq->Vals ys its' ->
     ∀j (h1:j<aq.toArray.size) (h2:j<its'.toArray.size),EqAt A.in1 s aq.toArray[j] its'.toArray[j] (bH (ds.getD j .non) (es.getD j .non)):=by
     intro ds es xs ys aq its' hn q q' v v' j h1 h2;have h1':j<aq.length:=by simpa using h1
     have h2':j<its'.length:=by simpa using h2
     have e1:j<xs.length:=by rw[v.length];exact h1'
     have e2:j<ys.length:=by rw[v'.length];exact h2'
     have g1:xs[j]? = ab xs[j]:=by simp[e1]
     have g2:ys[j]? = ab ys[j]:=by simp[e2]
     obtain⟨w1,k1,r1⟩:=v.get g1;obtain⟨w2,k2,r2⟩:=v'.get g2;have t1:aq.toArray[j]=w1:=by obtain⟨_,k1⟩:=b9.mp k1;simpa using k1
     have t2:its'.toArray[j]=w2:=by obtain⟨_,k2⟩:=b9.mp k2;simpa using k2
     rw[t1,t2];have:=xq (ds:=ds) (j:=j);refine ih (n-1) (by omega) _ _ A.in1 (by omega) ?_ (q.get g1) (q'.get g2) r1 r2;show A.units+1+(n-1)<cLine;omega
    cases d with
    |lst ds=>
     rw[Rep]at h;obtain⟨a,xs,rfl,q,rr⟩:=h;cases r;obtain⟨aq,v,p,_⟩:=I.list q;have hn:dr ds+1<=n:=by simpa [D.dep]using hd
     cases e with
     |lst es=>
      rw[Rep]at h';obtain⟨b,ys,rfl,q',rr'⟩:=h';cases r';obtain⟨its',v',p',_⟩:=I.list q';by_cases hab:a=b
      ·subst hab;rw[I.uR q' q]at rr';rw[bq.inj I rr rr',wI];exact EqAt.same _
      ·have l1:=rr.length;have l2:=rr'.length;have l3:=v.length;have l4:=v'.length;by_cases hl:ds.length=es.length
       ·rw[bH,se hl];have:=RcAt.lists p.isList p'.isList (by simp;omega) hu0 (item hn rr rr' v v');have e:aq.toArray.size=ds.length:=by simp;omega
        rw[e]at this;exact .of_refs hab this
       ·rw[bH,sk hl];exact .of_refs hab (RcAt.lists_lengths p.isList p'.isList (by simp;omega) hu0)
     |tup es=>
      rw[Rep]at h';obtain⟨b,ys,rfl,q',_⟩:=h';cases r';obtain⟨its',_,p',_⟩:=I.tuple q';exact EqAt.list_tuple p.isList p' hu0
     |_=>exact absurd rfl hef
    |tup ds=>
     rw[Rep]at h;obtain⟨a,xs,rfl,q,rr⟩:=h;cases r;obtain⟨aq,v,p,_⟩:=I.tuple q;have hn:dr ds+1<=n:=by simpa [D.dep]using hd
     cases e with
     |tup es=>
      rw[Rep]at h';obtain⟨b,ys,rfl,q',rr'⟩:=h';cases r';obtain⟨its',v',p',_⟩:=I.tuple q';by_cases hab:a=b
      ·subst hab;rw[I.wJ q' q]at rr';rw[bq.inj I rr rr',wI];exact EqAt.same _
      ·have l1:=rr.length;have l2:=rr'.length;have l3:=v.length;have l4:=v'.length;have R:=RcAt.tuples p p' hu0 (item hn rr rr' v v');have e1:aq.toArray.size=ds.length:=by simp;omega
       have e2:its'.toArray.size=es.length:=by simp;omega
       rw[e1,e2]at R;by_cases hl:ds.length=es.length
       ·rw[bH,se hl];rw[hl,Nat.min_self,rj,Bool.and_true,<- hl]at R;exact .of_refs hab R
       ·rw[bH,sk hl];have:(ds.length==es.length)=false:=by simpa using hl
        rw[this,Ak]at R;exact .of_refs hab R
     |lst es=>
      rw[Rep]at h';obtain⟨b,ys,rfl,q',_⟩:=h';cases r';obtain⟨its',_,p',_⟩:=I.list q';exact EqAt.tuple_list p p'.isList hu0
     |_=>exact absurd rfl hef
    |_=>exact absurd rfl hdf
def vJ(K:aP)(neg:Bool):R2:=λx y H Q=>∃(p:ag) (xs:List V) (d:D) (ds:List D),y=.ref p/\(da K H p xs\/eU K H p xs)/\Rep K H d x/\bq K H ds xs/\dr ds<=16 /\
 Q (.bl (if neg then !ds.any (λe=>bH e d)else ds.any (λe=>bH e d))) H
theorem bq.main{K:aP}:∀{ds:List D} {xs:List V} {us:List ah},bq K H ds xs->Vals xs us->∀u∈us,∃b∈ds,∃y,Rep K H b y/\RelV y u
 |[],xs,us,hr,hv,u,hu=>by
  rw[bq]at hr;subst hr;cases hv;cases hu
 |b::bs,xs,us,hr,hv,u,hu=>by
  rw[bq]at hr;obtain⟨y,r,rfl,p,q⟩:=hr;cases hv with
  |cons ry t=>
   rcases bL.mp hu with rfl|hu
   ·exact⟨b,dA,_,p,ry⟩
   ·obtain⟨b',hb',w⟩:=bq.main q t u hu;exact⟨b',ff _ hb',w⟩
theorem bq.any{K:aP}{e:ah->Bool}{f:D->Bool}(key:∀b y u,Rep K H b y->RelV y u->e u=f b):∀{ds:List D} {xs:List V} {us:List ah},bq K H ds xs->Vals xs us->us.any e=ds.any f
 |[],xs,us,hr,hv=>by
  rw[bq]at hr;subst hr;cases hv;rfl
 |b::bs,xs,us,hr,hv=>by
  rw[bq]at hr;obtain⟨y,r,rfl,p,q⟩:=hr;cases hv with
  |cons ry t=>rw[iV,iV,key b y _ p ry,bq.any key q t]
theorem CG:∀{ds:List D} {b:D},b∈ds->b.dep<=dr ds
 |d::ds,b,h=>by
  rw[dr];rcases bL.mp h with rfl|h
  ·omega
  ·have:=CG h;omega
open Classical in
theorem uD(I:Inv X af σ H s){A:bN}(hu:A.units+16<cLine){d:D}{x:V}{v:ah}(hx:Rep X.K H d x)(rx:RelV x v){ds:List D}{xs:List V}{us:List ah}(hd:dr ds<=16)(hr:bq X.K H ds xs)(hv:Vals xs us) :
 ∃e:ah->Bool,(∀u∈us,SeqAt.EqAt A s u v (e u))/\us.any e=ds.any (λb=>bH b d):=by
 have key:∀b y u,Rep X.K H b y->RelV y u->(λu=>decide (∃b y,Rep X.K H b y/\RelV y u/\bH b d=true)) u=bH b d:=by
  intro b y u hb hy;cases hp:bH b d with
  |true=>exact bW ⟨b,y,hb,hy,hp⟩
  |false=>
   refine cE ?_;rintro⟨b',y',hb',hy',hp'⟩;have:=hy.inj hy';subst this;rw[Rep.inj I hb hb',hp']at hp;cases hp
 refine⟨λu=>decide (∃b y,Rep X.K H b y/\RelV y u/\bH b d=true),λu hu'=>?_,bq.any key hr hv⟩;obtain⟨b,hb,y,rb,ry⟩:=bq.main hr hv u hu';rw[key b y u rb ry];exact CJ I 16 b d A (eK (CG hb) hd) hu rb hx ry rx
theorem OJ(hu:X.A.units+64<cLine):ce X (compareOp .In) (vJ X.K false):=by
 intro af s σ H x y v u Q I rx ry h;obtain⟨p,xs,d,ds,rfl,hq,hx,hr,hd,q⟩:=h;cases ry;have hu1:X.A.in1.units+16<cLine:=by show X.A.units+1+16<cLine;omega
 rcases hq with hq|hq
 ·obtain⟨aq,r,pl,hz⟩:=I.list hq;obtain⟨e,he,ea⟩:=uD I hu1 hx rx hd hr r;refine SeqAt.in_listAt e pl.isList (λw hw=>he w (by simpa using hw)) ⟨.bl _,H,I,rfl,?_⟩;rw[show aq.toArray.any e=aq.any e by simp,ea];exact q
 ·obtain⟨aq,r,pl,hz⟩:=I.tuple hq;obtain⟨e,he,ea⟩:=uD I hu1 hx rx hd hr r;refine SeqAt.in_tupleAt e pl (λw hw=>he w (by simpa using hw)) ⟨.bl _,H,I,rfl,?_⟩;rw[show aq.toArray.any e=aq.any e by simp,ea];exact q
theorem rN(hu:X.A.units+64<cLine):ce X (compareOp .NotIn) (vJ X.K true):=by
 intro af s σ H x y v u Q I rx ry h;obtain⟨p,xs,d,ds,rfl,hq,hx,hr,hd,q⟩:=h;cases ry;have hu1:X.A.in1.units+16<cLine:=by show X.A.units+1+16<cLine;omega
 rcases hq with hq|hq
 ·obtain⟨aq,r,pl,hz⟩:=I.list hq;obtain⟨e,he,ea⟩:=uD I hu1 hx rx hd hr r;refine SeqAt.notIn_listAt e pl.isList (λw hw=>he w (by simpa using hw)) ⟨.bl _,H,I,rfl,?_⟩;rw[show aq.toArray.any e=aq.any e by simp,ea];exact q
 ·obtain⟨aq,r,pl,hz⟩:=I.tuple hq;obtain⟨e,he,ea⟩:=uD I hu1 hx rx hd hr r;refine SeqAt.notIn_tupleAt e pl (λw hw=>he w (by simpa using hw)) ⟨.bl _,H,I,rfl,?_⟩;rw[show aq.toArray.any e=aq.any e by simp,ea];exact q
end
end L2
namespace L2
open PySem PySem.Spec PyProof.Rows
theorem rP{H:Hp}{p:ag}{o:HO}(hp:H p=ac):cy H (upd H p o):=λb u e=>by rw[aL (cz e hp)];exact e
theorem C7:∀{ys:List Str} {us:List ah},Vals (ys.map V.str) us->StrsAre us ys
 |[],_,.nil=>.nil
 |y::ys,_,.cons r t=>by
  obtain⟨tk,rfl⟩:=(show∃tk,_=oA y tk from r);exact .cons y tk (C7 t)
section
variable{X:Cx}
def rJoin(K:aP):V->List V->Hp->VK->Prop:=λx vs H Q=>∃(sep:Str) (p:ag) (ys:List Str),x=.str sep/\vs=[.ref p]/\da K H p (ys.map V.str)/\(ys.map (·.length)).sum+ys.length*sep.length<=16777216/\Q (.str (jZ sep ys)) H
theorem CD:xl X "str.join" (rJoin X.K):=by intro af s σ H x vs v us Q I rx rv h;obtain⟨sep,p,ys,rfl,rfl,hq,hz,q⟩:=h;obtain⟨t,rfl⟩:=rx;obtain⟨u,rfl,ru⟩:=rv.one;cases ru;obtain⟨aq,r,pl,_⟩:=I.list hq;refine join_list pl.isList (by simpa using C7 r) hz λt' k=>⟨.str (jZ sep ys),H,I.tok k,⟨t',?_⟩,q⟩;show oA (Builtin.Str.glued sep ys) t'=_;rw[StrLaws.glued_eq_join]
def Cq(i j:Int):Prop:=0<j/\j.natAbs.log2<9000
theorem iz:ce X (binaryOp .FloorDiv) (rI Cq λi j=>.int (i/j)):=u8 λi j _ _ _ _ _ hc q=>by
 refine floordiv_int (by have:=hc.1;omega) ?_ (.inl (PyProof.noPylong_of_log2 hc.2));rw[Int.fdiv_eq_ediv_of_nonneg i (by have:=hc.1;omega)];exact q
theorem Kh(hc:X.calm=true):fP X (.builtin "max") (λxs H Q=>∃i j z,xs=[.int i,.int j]/\max i j=z/\Q (.int z) H):=by intro af s σ H xs us Q I r ⟨i,j,z,e1,e2,q⟩;subst e2;refine Mg hc af s σ H xs us Q I r ⟨i,j,e1,?_⟩;rw[show(if j>i then j else i)=max i j by split<;>omega];exact q
theorem Lv(hc:X.calm=true):fP X (.builtin "min") (λxs H Q=>∃i j z,xs=[.int i,.int j]/\min i j=z/\Q (.int z) H):=by intro af s σ H xs us Q I r ⟨i,j,z,e1,e2,q⟩;subst e2;refine Ks hc af s σ H xs us Q I r ⟨i,j,e1,?_⟩;rw[show(if j<i then j else i)=min i j by split<;>omega];exact q
end
end L2
namespace A
open PySem L2 PyProof.Rows
open Mi (D W Rs Fin aA)
inductive P2{α β:Type}(F:α->β->Prop):List α->List β->Prop
 |nil:P2 F [] []
 |cons {a b l m}:F a b->P2 F l m->P2 F (a::l) (b::m)
section
variable{α β:Type}{F G:α->β->Prop}
theorem P2.imp(h:∀a b,F a b->G a b):∀{l m},P2 F l m->P2 G l m
 |_,_,.nil=>.nil
 |_,_,.cons x t=>.cons (h _ _ x) (t.imp h)
theorem P2.len:∀{l m},P2 F l m->l.length=m.length
 |_,_,.nil=>rfl
 |_,_,.cons _ t=>by rw[c6,c6,t.len]
theorem P2.append:∀{l m l' m'},P2 F l m->P2 F l' m'->P2 F (l++l') (m++m')
 |_,_,_,_,.nil,s=>s
 |_,_,_,_,.cons x t,s=>.cons x (t.append s)
theorem P2.get:∀{l m} {i:Nat} {a b},P2 F l m->l[i]? = ab a->m[i]? = ab b->F a b
 |_,_,_,_,_,.nil,e,_=>by simp at e
 |_,_,0,_,_,.cons x _,e,e'=>by simp at e e';subst e e';exact x
 |_,_,i+1,a,b,.cons _ t,e,e'=>t.get (i:=i) (by simpa using e) (by simpa using e')
theorem P2.getL{l m}{i:Nat}{a}(t:P2 F l m)(e:l[i]? = ab a):∃b,m[i]? = ab b/\F a b:=by
 have h:i<m.length:=by rw[<- t.len];exact(b9.mp e).1
 exact⟨m[i],by simp[h],t.get e (by simp[h])⟩
theorem P2.yb{l m}{i:Nat}{b}(t:P2 F l m)(e:m[i]? = ab b):∃a,l[i]? = ab a/\F a b:=by
 have h:i<l.length:=by rw[t.len];exact(b9.mp e).1
 exact⟨l[i],by simp[h],t.get (by simp[h]) e⟩
theorem P2.set{a b}(x:F a b):∀{l m} (i:Nat),P2 F l m->P2 F (l.set i a) (m.set i b)
 |_,_,_,.nil=>.nil
 |_,_,0,.cons _ t=>.cons x t
 |_,_,i+1,.cons y t=>.cons y (t.set x i)
theorem P2.take:∀{l m} (n:Nat),P2 F l m->P2 F (l.take n) (m.take n)
 |_,_,0,_=>.nil
 |_,_,_+1,.nil=>.nil
 |_,_,n+1,.cons x t=>.cons x (t.take n)
theorem P2.drop:∀{l m} (n:Nat),P2 F l m->P2 F (l.drop n) (m.drop n)
 |_,_,0,t=>t
 |_,_,_+1,.nil=>.nil
 |_,_,n+1,.cons _ t=>t.drop n
theorem P2.erase:∀{l m} (n:Nat),P2 F l m->P2 F (l.eraseIdx n) (m.eraseIdx n)
 |_,_,_,.nil=>.nil
 |_,_,0,.cons _ t=>t
 |_,_,n+1,.cons x t=>.cons x (t.erase n)
theorem P2.rev:∀{l m},P2 F l m->P2 F l.reverse m.reverse
 |_,_,.nil=>.nil
 |_,_,.cons x t=>by rw[mL,mL];exact t.rev.append (.cons x .nil)
theorem P2.dropLast:∀{l m},P2 F l m->P2 F l.dropLast m.dropLast
 |_,_,.nil=>.nil
 |_,_,.cons x .nil=>.nil
 |_,_,.cons x (.cons y t)=>.cons x (P2.dropLast (.cons y t))
end
def Lst(H:Hp)(a:ag)(xs:List V):Prop:=H a=ab (.lst xs)\/∃o,H a=ab (.frz o (.lst xs))
mutual
def Rep(H:Hp):D->V->Prop
 |.non,v=>v=.non
 |.bl b,v=>v=.bl b
 |.int i,v=>v=.int i
 |.str x,v=>v=.str x
 |.lst ds,v=>∃a xs,v=.ref a/\Lst H a xs/\bq H ds xs
 |.tup ds,v=>∃a xs,v=.ref a/\H a=ab (.tup xs)/\bq H ds xs
def bq(H:Hp):List D->List V->Prop
 |[],vs=>vs=[]
 |d::ds,vs=>∃v r,vs=v::r/\Rep H d v/\bq H ds r
end
theorem nR{H:Hp}:∀{ds:List D} {vs:List V},bq H ds vs↔P2 (Rep H) ds vs
 |[],vs=>by
  rw[bq];exact⟨λh=>by subst h;exact .nil,λh=>by cases h;rfl⟩
 |d::ds,vs=>by
  rw[bq];constructor
  ·rintro⟨v,r,rfl,p,q⟩;exact .cons p (nR.mp q)
  ·intro h;cases h with
   |cons p q=>exact⟨_,_,rfl,p,nR.mpr q⟩
@[simp] theorem Et {H:Hp} {v:V}:Rep H .non v↔v=.non:=by rw[Rep]
@[simp] theorem o1 {H:Hp} {v:V} {b:Bool}:Rep H (.bl b) v↔v=.bl b:=by rw[Rep]
@[simp] theorem qE {H:Hp} {v:V} {b:Int}:Rep H (.int b) v↔v=.int b:=by rw[Rep]
@[simp] theorem nC {H:Hp} {v:V} {b:Str}:Rep H (.str b) v↔v=.str b:=by rw[Rep]
theorem iU{H:Hp}{v:V}{ds:List D}:Rep H (.lst ds) v↔∃a xs,v=.ref a/\Lst H a xs/\P2 (Rep H) ds xs:=by rw[Rep];exact⟨λ⟨a,xs,e,l,r⟩=>⟨a,xs,e,l,nR.mp r⟩,λ⟨a,xs,e,l,r⟩=>⟨a,xs,e,l,nR.mpr r⟩⟩
theorem ia{H:Hp}{v:V}{ds:List D}:Rep H (.tup ds) v↔∃a xs,v=.ref a/\H a=ab (.tup xs)/\P2 (Rep H) ds xs:=by rw[Rep];exact⟨λ⟨a,xs,e,l,r⟩=>⟨a,xs,e,l,nR.mp r⟩,λ⟨a,xs,e,l,r⟩=>⟨a,xs,e,l,nR.mpr r⟩⟩
theorem Lst.same{H H':Hp}{a:ag}{xs:List V}(s:cy H H')(h:Lst H a xs):Lst H' a xs:=by
 rcases h with h|⟨o,h⟩
 ·exact .inl (s _ _ h)
 ·exact .inr ⟨o,s _ _ h⟩
theorem Lst.sq{K:aP}{H:Hp}{a:ag}{xs:List V}(h:Lst H a xs):da K H a xs:=.inl h
mutual
theorem gC{H H':Hp}(s:cy H H'):∀{d:D} {v:V},Rep H d v->Rep H' d v
 |.non,v,h=>by rw[Rep]at h ⊢;exact h
 |.bl b,v,h=>by rw[Rep]at h ⊢;exact h
 |.int i,v,h=>by rw[Rep]at h ⊢;exact h
 |.str x,v,h=>by rw[Rep]at h ⊢;exact h
 |.lst ds,v,h=>by
  rw[Rep]at h ⊢;obtain⟨a,xs,e,q,r⟩:=h;exact⟨a,xs,e,q.same s,zt s r⟩
 |.tup ds,v,h=>by
  rw[Rep]at h ⊢;obtain⟨a,xs,e,q,r⟩:=h;exact⟨a,xs,e,s _ _ q,zt s r⟩
theorem zt{H H':Hp}(s:cy H H'):∀{ds:List D} {vs:List V},bq H ds vs->bq H' ds vs
 |[],vs,h=>by rw[bq]at h ⊢;exact h
 |d::ds,vs,h=>by
  rw[bq]at h ⊢;obtain⟨v,r,e,p,q⟩:=h;exact⟨v,r,e,gC s p,zt s q⟩
end
theorem d9{H H':Hp}(s:cy H H'){ds:List D}{vs:List V}(h:P2 (Rep H) ds vs):P2 (Rep H') ds vs:=h.imp λ_ _=>gC s
mutual
theorem lp(K:aP){H:Hp}:∀{d:D} {v:V},Rep H d v->L2.Rep K H d v
 |.non,v,h=>by rw[Rep]at h;rw[L2.Rep];exact h
 |.bl b,v,h=>by rw[Rep]at h;rw[L2.Rep];exact h
 |.int i,v,h=>by rw[Rep]at h;rw[L2.Rep];exact h
 |.str x,v,h=>by rw[Rep]at h;rw[L2.Rep];exact h
 |.lst ds,v,h=>by
  rw[Rep]at h;rw[L2.Rep];obtain⟨a,xs,e,q,r⟩:=h;exact⟨a,xs,e,q.sq,uY K r⟩
 |.tup ds,v,h=>by
  rw[Rep]at h;rw[L2.Rep];obtain⟨a,xs,e,q,r⟩:=h;exact⟨a,xs,e,.inl (.inl q),uY K r⟩
theorem uY(K:aP){H:Hp}:∀{ds:List D} {vs:List V},bq H ds vs->L2.bq K H ds vs
 |[],vs,h=>by rw[bq]at h;rw[L2.bq];exact h
 |d::ds,vs,h=>by
  rw[bq]at h;rw[L2.bq];obtain⟨v,r,e,p,q⟩:=h;exact⟨v,r,e,lp K p,uY K q⟩
end
def NT:HO->Prop
 |.tbl _ _=>False
 |_=>True
def NW:HO->Prop
 |.tbl _ _=>False
 |.frz _ (.lst _)=>False
 |_=>True
theorem NW.nt:∀{o:HO},NW o->NT o:=λ{o} c=>by cases o<;>first|exact c.elim|trivial
structure Old(H H':Hp):Prop where
 nt:∀a o,H a=ab o->NT o->H' a=ab o
 dom:∀a,H' a=ac->H a=ac
 tb:∀a w ps,H a=ab (.tbl w ps)->∃ps',H' a=ab (.tbl w ps')
theorem Old.at{H H':Hp}(s:Old H H'){a:ag}{o:HO}(q:H a=ab o)(n:NT o:=by trivial):H' a=ab o:=s.nt a o q n
theorem Old.free{H H':Hp}(s:Old H H'){a:ag}(h:H' a=ac):H a=ac:=s.dom a h
theorem Old.refl(H:Hp):Old H H:=⟨λ_ _ e _=>e,λ_ e=>e,λ_ _ ps e=>⟨ps,e⟩⟩
theorem Old.trans{H H1 H2:Hp}(a:Old H H1)(b:Old H1 H2):Old H H2:=⟨λx o e n=>b.nt x o (a.nt x o e n) n,λx e=>a.dom x (b.dom x e),λx w ps e=>let ⟨p1,e1⟩:=a.tb x w ps e;b.tb x w p1 e1⟩
theorem Old.of{H H':Hp}(s:cy H H'):Old H H':=⟨λa o e _=>s a o e,λa e=>s.free e,λa w ps e=>⟨ps,s a _ e⟩⟩
theorem Old.tab{H H':Hp}(s:Old H H'){a:ag}{w:Str}{ps:Array ah}{o:HO}(q:H a=ab (.tbl w ps))(n:NT o):¬ H' a=ab o:=λe=>by
 obtain⟨p,z⟩:=s.tb a w ps q;rw[e]at z;cases z;exact n
theorem Old.put{H0 H:Hp}(s:Old H0 H){p:ag}{o u:HO}(h0:H0 p=ac)(h:H p=ab u):Old H0 (upd H p o):=
 ⟨λa v e n=>by rw[aL (cz e h0)];exact s.nt a v e n,λa e=>by
  by_cases hp:a=p
  ·subst hp;exact h0
  ·rw[aL hp]at e;exact s.dom a e,λa w ps e=>by rw[aL (cz e h0)];exact s.tb a w ps e⟩
def gn(c:ag)(q:Str):aR->Prop:=λh=>∃o vs t,h.get? c=ab o/\o.data=.fields vs/\vs[1]? = ab (.str q t)
class bD where
 l:List (ag×Str)
 cl:String->ag
variable[Tb:bD]
structure gJ(H:Hp):Prop where
 has:∀p∈Tb.l,∃ps,H p.1=ab (.tbl p.2 ps)
 cd:∀T q ps,H T=ab (.tbl q ps)->qp ps.toList/\∀pos v,codeAmong pos ps.toList=ab v->∃c,v=.ref c/\H c=ab (.ext (gn c q))
 fz:∀a o xs,H a=ab (.frz o (.lst xs))->∀x∈xs,∃i,x=V.int i
theorem gJ.new{H:Hp}(k:gJ H){p:ag}{o:HO}(h:H p=ac)(n:NW o):gJ (upd H p o):=⟨λr hr=>let ⟨ps,e⟩:=k.has r hr;⟨ps,by rw[aL (cz e h)];exact e⟩,λT q ps e=>by
 by_cases hp:T=p
 ·subst hp;rw[bt]at e;cases e;exact n.elim
 ·rw[aL hp]at e;obtain⟨t,r⟩:=k.cd T q ps e;refine⟨t,λpos v z=>?_⟩;obtain⟨c,e1,e2⟩:=r pos v z;exact⟨c,e1,by rw[aL (cz e2 h)];exact e2⟩,λa q xs e=>by
 by_cases hp:a=p
 ·subst hp;rw[bt]at e;cases e;exact n.elim
 ·rw[aL hp]at e;exact k.fz a q xs e⟩
def Cell:HO->Prop
 |.lst _=>True
 |.dK _=>True
 |.dT _=>True
 |.ext _=>True
 |_=>False
theorem Cell.nw:∀{o:HO},Cell o->NW o:=λ{o} c=>by cases o<;>first|exact c.elim|trivial
theorem Cell.nt:∀{o:HO},Cell o->NT o:=λ{o} c=>by cases o<;>first|exact c.elim|trivial
def qF:HO->Prop
 |.lst _=>True
 |.dK _=>True
 |.dT _=>True
 |_=>False
theorem qF.cell:∀{o:HO},qF o->Cell o:=λ{o} c=>by cases o<;>first|exact c.elim|trivial
theorem gJ.put{H:Hp}(k:gJ H){p:ag}{o u:HO}(h:H p=ab u)(c:qF u)(n:NW o):gJ (upd H p o):=⟨λr hr=>let ⟨ps,e⟩:=k.has r hr;⟨ps,by rw[aL (λy=>by rw[y,h]at e;cases e;exact c.elim)];exact e⟩,λT q ps e=>by
 by_cases hp:T=p
 ·subst hp;rw[bt]at e;cases e;exact n.elim
 ·rw[aL hp]at e;obtain⟨t,r⟩:=k.cd T q ps e;refine⟨t,λpos v z=>?_⟩;obtain⟨x,e1,e2⟩:=r pos v z;refine⟨x,e1,?_⟩;rw[aL (λy=>by subst y;rw[h]at e2;cases e2;exact c.elim)];exact e2,λa q xs e=>by
 by_cases hp:a=p
 ·subst hp;rw[bt]at e;cases e;exact n.elim
 ·rw[aL hp]at e;exact k.fz a q xs e⟩
structure Vw(H Hv:Hp):Prop where
 sub:cy Hv H
 tup:∀a xs,H a=ab (.tup xs)->Hv a=ab (.tup xs)
 frz:∀a o u,H a=ab (.frz o u)->Hv a=ab (.frz o u)
 cd:gJ H
 nv:∀a o,Hv a=ab o->NT o
structure bi(H Hv H' Hv':Hp):Prop where
 old:Old H H'
 vis:cy Hv Hv'
 vw:Vw H' Hv'
 hid:∀a o,H a=ab o->Hv a=ac->Hv' a=ac
theorem bi.refl{H Hv:Hp}(v:Vw H Hv):bi H Hv H Hv:=⟨Old.refl _,cy.refl _,v,λ_ _ _ e=>e⟩
theorem Old.some{H H':Hp}(s:Old H H'){a:ag}{o:HO}(q:H a=ab o):∃o',H' a=ab o':=by
 cases h:H' a with
 |none=>rw[s.dom a h]at q;cases q
 |some o'=>exact⟨o',rfl⟩
theorem bi.trans{H Hv H1 Hv1 H2 Hv2:Hp}(g:bi H Hv H1 Hv1)(k:bi H1 Hv1 H2 Hv2):bi H Hv H2 Hv2:=⟨g.old.trans k.old,g.vis.trans k.vis,k.vw,λa o e n=>let ⟨o',e'⟩:=g.old.some e;k.hid a o' e' (g.hid a o e n)⟩
theorem l5{H Hv:Hp}(v:Vw H Hv){p:ag}(h:H p=ac):Hv p=ac:=v.sub.free h
theorem bi.new{H Hv:Hp}(v:Vw H Hv){p:ag}{o:HO}(h:H p=ac)(nt:NW o:=by trivial):bi H Hv (upd H p o) (upd Hv p o):=by
 refine⟨.of (rP h),rP (l5 v h),⟨λb u e=>?_,λb xs e=>?_,λb q u e=>?_,v.cd.new h nt,λb u e=>?_⟩,λb u e n=>?_⟩
 ·by_cases hb:b=p
  ·subst hb;rw[bt]at e ⊢;exact e
  ·rw[aL hb]at e ⊢;exact v.sub b u e
 ·by_cases hb:b=p
  ·subst hb;rw[bt]at e ⊢;exact e
  ·rw[aL hb]at e ⊢;exact v.tup b xs e
 ·by_cases hb:b=p
  ·subst hb;rw[bt]at e ⊢;exact e
  ·rw[aL hb]at e ⊢;exact v.frz b q u e
 ·by_cases hb:b=p
  ·subst hb;rw[bt]at e;cases e;exact nt.nt
  ·rw[aL hb]at e;exact v.nv b u e
 ·rw[aL (cz e h)];exact n
theorem bi.nr{H Hv:Hp}(v:Vw H Hv){p:ag}{o:HO}(c:Cell o)(h:H p=ac):bi H Hv (upd H p o) Hv:=by
 refine⟨.of (rP h),cy.refl _,⟨λb u e=>?_,λb xs e=>?_,λb q u e=>?_,v.cd.new h c.nw,v.nv⟩,λb u e n=>n⟩
 ·rw[aL (cz (v.sub b u e) h)];exact v.sub b u e
 ·by_cases hb:b=p
  ·subst hb;rw[bt]at e;cases e;exact c.elim
  ·rw[aL hb]at e;exact v.tup b xs e
 ·by_cases hb:b=p
  ·subst hb;rw[bt]at e;cases e;exact c.elim
  ·rw[aL hb]at e;exact v.frz b q u e
theorem Vw.show{H Hv:Hp}(v:Vw H Hv){a:ag}{o:HO}(h:H a=ab o)(n:Hv a=ac)(nt:NT o):Vw H (upd Hv a o)/\cy Hv (upd Hv a o):=by
 refine⟨⟨λb u e=>?_,λb xs e=>?_,λb q u e=>?_,v.cd,λb u e=>?_⟩,rP n⟩
 ·by_cases hb:b=a
  ·subst hb;rw[bt]at e;rw[h];exact e
  ·rw[aL hb]at e;exact v.sub b u e
 ·by_cases hb:b=a
  ·subst hb;rw[bt];rw[h]at e;exact e
  ·rw[aL hb];exact v.tup b xs e
 ·by_cases hb:b=a
  ·subst hb;rw[bt];rw[h]at e;exact e
  ·rw[aL hb];exact v.frz b q u e
 ·by_cases hb:b=a
  ·subst hb;rw[bt]at e;cases e;exact nt
  ·rw[aL hb]at e;exact v.nv b u e
theorem Lst.old{H H':Hp}{a:ag}{xs:List V}(s:Old H H')(h:Lst H a xs):Lst H' a xs:=by
 rcases h with h|⟨o,h⟩
 ·exact .inl (s.at h)
 ·exact .inr ⟨o,s.at h⟩
mutual
theorem CN{H H':Hp}(t:∀a xs,H a=ab (.tup xs)->H' a=ab (.tup xs)):∀{d:D} {v:V},Mi.vH d=true->Rep H d v->Rep H' d v
 |.non,v,_,h=>by rw[Rep]at h ⊢;exact h
 |.bl b,v,_,h=>by rw[Rep]at h ⊢;exact h
 |.int i,v,_,h=>by rw[Rep]at h ⊢;exact h
 |.str x,v,_,h=>by rw[Rep]at h ⊢;exact h
 |.lst ds,v,z,h=>by rw[Mi.vH]at z;cases z
 |.tup ds,v,z,h=>by
  rw[Mi.vH]at z;rw[Rep]at h ⊢;obtain⟨a,xs,e,q,r⟩:=h;exact⟨a,xs,e,t _ _ q,Fv t z r⟩
theorem Fv{H H':Hp}(t:∀a xs,H a=ab (.tup xs)->H' a=ab (.tup xs)):∀{ds:List D} {vs:List V},Mi.jc ds=true->bq H ds vs->bq H' ds vs
 |[],vs,_,h=>by rw[bq]at h ⊢;exact h
 |d::ds,vs,z,h=>by
  rw[Mi.jc,lU]at z;rw[bq]at h ⊢;obtain⟨v,r,e,p,q⟩:=h;exact⟨v,r,e,CN t z.1 p,Fv t z.2 q⟩
end
def eI{κ:Type}(H:Hp)(ao:List (κ×D))(kv:List (κ×V)):Prop:=P2 (λp q=>p.1=q.1/\Rep H p.2 q.2) ao kv
theorem eI.same{κ:Type}{H H':Hp}(s:cy H H'){ao:List (κ×D)}{kv:List (κ×V)}(h:eI H ao kv):eI H' ao kv:=P2.imp (λ_ _ z=>⟨z.1,gC s z.2⟩) h
def dW(Hv:Hp):W->HO->Prop
 |.d (.lst ds),.lst xs=>P2 (Rep Hv) ds xs
 |.dk ao,.dK kv=>eI Hv ao kv
 |.dt ao,.dT kv=>eI Hv ao kv
 |_,_=>False
theorem dW.same{H H':Hp}(s:cy H H'):∀{w:W} {o:HO},dW H w o->dW H' w o:=λ{w o} h=>by
 cases w with
 |d x=>
  cases x with
  | lst ds=>cases o with
   |lst xs=>exact d9 s h
   |_=>exact h.elim
  |_=>cases o<;>exact h.elim
 | dk ao=>cases o with
  |dK kv=>exact eI.same s h
  |_=>exact h.elim
 | dt ao=>cases o with
  |dT kv=>exact eI.same s h
  |_=>exact h.elim
 |df ao=>exact h.elim
 |ex c=>exact h.elim
 |fn c=>exact h.elim
theorem dW.Ci{H:Hp}{w:W}{o:HO}(h:dW H w o):qF o:=by
 cases w with
 |d x=>
  cases x with
  | lst ds=>cases o with
   |lst xs=>trivial
   |_=>exact h.elim
  |_=>cases o<;>exact h.elim
 | dk ao=>cases o with
  |dK kv=>trivial
  |_=>exact h.elim
 | dt ao=>cases o with
  |dT kv=>trivial
  |_=>exact h.elim
 |df ao=>exact h.elim
 |ex c=>exact h.elim
 |fn c=>exact h.elim
theorem dW.cell{H:Hp}{w:W}{o:HO}(h:dW H w o):Cell o:=h.Ci.cell
theorem dW.nw{H:Hp}{w:W}{o:HO}(h:dW H w o):NW o:=h.cell.nw
theorem dW.nt{H:Hp}{w:W}{o:HO}(h:dW H w o):NT o:=h.cell.nt
def EK(a C:ag):aR->Prop:=λh=>∃o,h.get? a=ab o/\o.cls=.ref C/\o.dict=ac/\∃vs,o.data=.fields vs
def fL(H:Hp):W->V->Prop
 |.d x,v=>Rep H x v
 |.dk ao,v=>∃a kv,v=.ref a/\H a=ab (.dK kv)/\eI H ao kv
 |.dt ao,v=>∃a kv,v=.ref a/\H a=ab (.dT kv)/\eI H ao kv
 |.df ao,v=>∃a ob kv,v=.ref a/\H a=ab (.frz ob (.dT kv))/\eI H ao kv
 |.ex c,v=>∃a,v=.ref a/\H a=ab (.ext (EK a (Tb.cl c)))
 |.fn κ aK,v=>v=.ref κ.a/\H κ.c=ab (.ext (gn κ.c κ.q))/\P2 (λd a=>Rep H d (.ref a)) aK κ.ga
theorem pB{H H':Hp}(s:cy H H'):∀{w:W} {v:V},fL H w v->fL H' w v
 |.d x,v,h=>gC (d:=x) s h
 |.dk ao,v,⟨a,kv,e,q,r⟩=>⟨a,kv,e,s _ _ q,r.same s⟩
 |.dt ao,v,⟨a,kv,e,q,r⟩=>⟨a,kv,e,s _ _ q,r.same s⟩
 |.df ao,v,⟨a,ob,kv,e,q,r⟩=>⟨a,ob,kv,e,s _ _ q,r.same s⟩
 |.ex c,v,⟨a,e,q⟩=>⟨a,e,s _ _ q⟩
 |.fn κ aK,v,⟨e,q,r⟩=>⟨e,s _ _ q,r.imp λ_ _ z=>gC s z⟩
theorem ve{H:Hp}{w:W}{a:ag}{o:HO}(h:H a=ab o)(c:dW H w o):fL H w (.ref a):=by
 cases w with
 |d x=>
  cases x with
  | lst ds=>cases o with
   |lst xs=>exact iU.mpr ⟨a,xs,rfl,.inl h,c⟩
   |_=>exact c.elim
  |_=>cases o<;>exact c.elim
 | dk ao=>cases o with
  |dK kv=>exact⟨a,kv,rfl,h,c⟩
  |_=>exact c.elim
 | dt ao=>cases o with
  |dT kv=>exact⟨a,kv,rfl,h,c⟩
  |_=>exact c.elim
 |df ao=>exact c.elim
 |ex z=>exact c.elim
 |fn z=>exact c.elim
def Own(H Hv:Hp)(w:W)(v:V):Prop:=∃a o,v=.ref a/\H a=ab o/\Hv a=ac/\dW Hv w o
def RB(H Hv:Hp)(w:W)(v:V):Prop:=fL Hv w v\/∃a o,v=.ref a/\H a=ab o/\dW Hv w o
theorem RB.grow{H Hv H' Hv':Hp}(g:bi H Hv H' Hv'){w:W}{v:V}(h:RB H Hv w v):RB H' Hv' w v:=by
 rcases h with h|⟨a,o,e,q,c⟩
 ·exact .inl (pB g.vis h)
 ·exact .inr ⟨a,o,e,g.old.at q c.nt,c.same g.vis⟩
theorem Own.grow{H Hv H' Hv':Hp}(g:bi H Hv H' Hv'){w:W}{v:V}(h:Own H Hv w v):Own H' Hv' w v:=by obtain⟨a,o,e,q,n,c⟩:=h;exact⟨a,o,e,g.old.at q c.nt,g.hid _ _ q n,c.same g.vis⟩
theorem RB.full{H Hv:Hp}(v:Vw H Hv){w:W}{x:V}(h:RB H Hv w x):fL H w x:=by
 rcases h with h|⟨a,o,rfl,q,c⟩
 ·exact pB v.sub h
 ·exact ve q (c.same v.sub)
abbrev RD(H Hv:Hp)(d:D)(v:V):Prop:=RB H Hv (.d d) v
theorem RD.pq{H Hv:Hp}{d:D}{v:V}(h:RD H Hv d v)(n:∀ds,d≠.lst ds):Rep Hv d v:=by
 rcases h with h|⟨a,o,e,q,c⟩
 ·exact h
 ·cases d with
  |lst ds=>exact absurd rfl (n ds)
  |_=>cases o<;>exact c.elim
theorem RD.lst{H Hv:Hp}(w:Vw H Hv){ds:List D}{v:V}(h:RD H Hv (.lst ds) v):∃a xs,v=.ref a/\Lst H a xs/\P2 (Rep Hv) ds xs:=by
 rcases h with h|⟨a,o,e,q,c⟩
 ·obtain⟨a,xs,e,l,r⟩:=iU.mp h;exact⟨a,xs,e,l.same w.sub,r⟩
 ·cases o with
  |lst xs=>exact⟨a,xs,e,.inl q,c⟩
  |_=>exact c.elim
theorem RD.tup{H Hv:Hp}(w:Vw H Hv){ds:List D}{v:V}(h:RD H Hv (.tup ds) v):∃a xs,v=.ref a/\H a=ab (.tup xs)/\Hv a=ab (.tup xs)/\P2 (Rep Hv) ds xs:=by obtain⟨a,xs,e,l,r⟩:=ia.mp (h.pq λ_ z=>by cases z);exact⟨a,xs,e,w.sub _ _ l,l,r⟩
theorem RD.int{H Hv:Hp}{i:Int}{v:V}(h:RD H Hv (.int i) v):v=.int i:=qE.mp (h.pq λ_ z=>by cases z)
theorem RD.str{H Hv:Hp}{i:Str}{v:V}(h:RD H Hv (.str i) v):v=.str i:=nC.mp (h.pq λ_ z=>by cases z)
theorem RD.bl{H Hv:Hp}{i:Bool}{v:V}(h:RD H Hv (.bl i) v):v=.bl i:=o1.mp (h.pq λ_ z=>by cases z)
theorem RD.non{H Hv:Hp}{v:V}(h:RD H Hv .non v):v=.non:=Et.mp (h.pq λ_ z=>by cases z)
theorem RD.full{H Hv:Hp}(v:Vw H Hv){d:D}{x:V}(h:RD H Hv d x):Rep H d x:=RB.full v h
abbrev Kd:=Hp->Hp->Hp->W->V->Prop
def qP:Kd:=λ_ H' Hv' w v=>RB H' Hv' w v
def qV:Kd:=λ_ _ Hv' w v=>fL Hv' w v
def qN:Kd:=λH H' Hv' w v=>∃a o,v=.ref a/\H a=ac/\H' a=ab o/\Hv' a=ac/\dW Hv' w o
theorem iP{H H' Hv':Hp}{i:Int}:qV H H' Hv' (.d (.int i)) (.int i):=(qE (H:=Hv')).mpr rfl
theorem sQ{H H' Hv':Hp}{i:Str}:qV H H' Hv' (.d (.str i)) (.str i):=(nC (H:=Hv')).mpr rfl
theorem eX{H H' Hv':Hp}{i:Bool}:qV H H' Hv' (.d (.bl i)) (.bl i):=(o1 (H:=Hv')).mpr rfl
theorem vm{H H' Hv':Hp}:qV H H' Hv' (.d .non) .non:=(Et (H:=Hv')).mpr rfl
class KM (κ:Kd):Prop where
 mono:∀{H H1 H' Hv' w v},Old H H1->κ H1 H' Hv' w v->κ H H' Hv' w v
instance:KM qP:=⟨λ_ h=>h⟩
instance:KM qV:=⟨λ_ h=>h⟩
instance:KM qN:=⟨λs ⟨a,o,e,n,r⟩=>⟨a,o,e,s.free n,r⟩⟩
structure R0(M:Nat->Bool)(e:Mi.Env)(σ:L2.St)(H Hv:Hp):Prop where
 vw:Vw H Hv
 len:σ.length=e.length
 nob:∀i w,e[i]? = ab (ab w)->M i=false->∃v,σ[i]? = ab (ab v)/\fL Hv w v
 own:∀i w,e[i]? = ab (ab w)->M i=true->∃v,σ[i]? = ab (ab v)/\Own H Hv w v
theorem R0.grow{M:Nat->Bool}{e:Mi.Env}{σ:L2.St}{H Hv H' Hv':Hp}(r:R0 M e σ H Hv)(g:bi H Hv H' Hv'):R0 M e σ H' Hv':=⟨g.vw,r.len,λi w h m=>let ⟨v,q,z⟩:=r.nob i w h m;⟨v,q,pB g.vis z⟩,λi w h m=>let ⟨v,q,z⟩:=r.own i w h m;⟨v,q,z.grow g⟩⟩
structure R1(M:Nat->Bool)(H0 Hv0:Hp)(e:Mi.Env)(σ:L2.St)(H Hv:Hp):Prop extends R0 M e σ H Hv where
 gw:bi H0 Hv0 H Hv
 fresh:∀i w a,e[i]? = ab (ab w)->M i=true->σ[i]? = ab (ab (.ref a))->H0 a=ac
 sep:∀i j w w' a b,i≠j->e[i]? = ab (ab w)->e[j]? = ab (ab w')->M i=true->M j=true->σ[i]? = ab (ab (.ref a))->σ[j]? = ab (ab (.ref b))->a≠b
theorem R1.grow{M:Nat->Bool}{H0 Hv0:Hp}{e:Mi.Env}{σ:L2.St}{H Hv H' Hv':Hp}(r:R1 M H0 Hv0 e σ H Hv)(g:bi H Hv H' Hv'):R1 M H0 Hv0 e σ H' Hv':=⟨r.toR0.grow g,r.gw.trans g,r.fresh,r.sep⟩
end A
namespace A
open PySem L2 PyProof.Rows
open Mi (D W Rs Fin aA)
variable[Tb:bD]
abbrev pV:=Mi.Env
class KG (κ:Kd):Prop where
 go:∀{H H1 Hv1 H2 Hv2 w v},bi H1 Hv1 H2 Hv2->κ H H1 Hv1 w v->κ H H2 Hv2 w v
instance:KG qP:=⟨λg h=>h.grow g⟩
instance:KG qV:=⟨λg h=>pB g.vis h⟩
instance:KG qN:=⟨λg ⟨a,o,e,n,q,z,c⟩=>⟨a,o,e,n,g.old.at q c.nt,g.hid _ _ q z,c.same g.vis⟩⟩
def AW(M:Nat->Bool)(κ:Kd)(t:TE)(m:Mi.EW):Prop:=∀e σ H Hv Q,R0 M e σ H Hv->Fin (m e) (λw=>∀v H' Hv',bi H Hv H' Hv'->κ H H' Hv' w v->Q v H')->t σ H Q
def AE(M:Nat->Bool)(κ:Kd)(t:TE)(m:Mi.E):Prop:=∀e σ H Hv Q,R0 M e σ H Hv->Fin (m e) (λd=>∀v H' Hv',bi H Hv H' Hv'->κ H H' Hv' (.d d) v->Q v H')->t σ H Q
def AT(M:Nat->Bool)(t:TT)(m:Mi.C):Prop:=∀e σ H Hv Q,R0 M e σ H Hv->Fin (m e) (λb=>∀H' Hv',bi H Hv H' Hv'->Q b H')->t σ H Q
def AA(M:Nat->Bool)(κ:Kd)(t:TA)(m:pV->Rs (List D)):Prop:=∀e σ H Hv Q,R0 M e σ H Hv->Fin (m e) (λds=>∀vs H' Hv',bi H Hv H' Hv'->P2 (λd v=>κ H H' Hv' (.d d) v) ds vs->Q vs H')->t σ H Q
def AAW(M:Nat->Bool)(κ:Kd)(t:TA)(m:pV->Rs (List W)):Prop:=∀e σ H Hv Q,R0 M e σ H Hv->Fin (m e) (λws=>∀vs H' Hv',bi H Hv H' Hv'->P2 (λw v=>κ H H' Hv' w v) ws vs->Q vs H')->t σ H Q
def AO(M:Nat->Bool)(t:TO)(m:pV->Rs (Option Int)):Prop:=∀e σ H Hv Q,R0 M e σ H Hv->Fin (m e) (λo=>∀H' Hv',bi H Hv H' Hv'->Q o H')->t σ H Q
section
variable{M:Nat->Bool}{κ:Kd}{t ta tb tc te:TE}{a b c:Mi.E}{r r':R2}{f g:D->D->Rs D}
theorem AE.w(h:AE M κ t a):AW M κ t (Mi.wD a):=λe σ H Hv Q I q=>h e σ H Hv Q I ((aA.mp q).mono λd z=>z)
theorem OF{H H' Hv':Hp}{w:W}{v:V}(h:qV H H' Hv' w v):qP H H' Hv' w v:=.inl h
theorem Jd{H H' Hv':Hp}{w:W}{v:V}(h:qN H H' Hv' w v):qP H H' Hv' w v:=by obtain⟨a,o,e,_,q,_,c⟩:=h;exact .inr ⟨a,o,e,q,c⟩
theorem vh{H Hv H' Hv':Hp}(g:bi H Hv H' Hv'){w:W}{v:V}(h:qN H H' Hv' w v):∃j0,bi H Hv H' j0/\fL j0 w v:=by obtain⟨a,o,rfl,n,q,z,c⟩:=h;obtain⟨vw,s⟩:=g.vw.show q z c.nt;refine⟨upd Hv' a o,⟨g.old,g.vis.trans s,vw,λb u e m=>?_⟩,ve bt (c.same s)⟩;rw[aL (cz e n)];exact g.hid b u e m
theorem AW.nv(h:AW M qN t m):AW M qV t m:=λe σ H Hv Q I q=>h e σ H Hv Q I (q.mono λw z v H' Hv' g k=>let ⟨j0,g',r⟩:=vh g k;z v H' j0 g' r)
theorem AE.p(h:AE M qV t a):AE M qP t a:=λe σ H Hv Q I q=>h e σ H Hv Q I (q.mono λw z v H' Hv' g k=>z v H' Hv' g (OF k))
theorem AE.np(h:AE M qN t a):AE M qP t a:=λe σ H Hv Q I q=>h e σ H Hv Q I (q.mono λw z v H' Hv' g k=>z v H' Hv' g (Jd k))
theorem AE.nv(h:AE M qN t a):AE M qV t a:=λe σ H Hv Q I q=>h e σ H Hv Q I (q.mono λw z v H' Hv' g k=>let ⟨j0,g',r⟩:=vh g k;z v H' j0 g' r)
theorem aG{i:Int}:AE M qV (tC (.int i)) (Mi.mC (.int i)):=λe σ H Hv Q I h=>h _ H Hv (.refl I.vw) iP
theorem wT{i:Str}:AE M qV (tC (.str i)) (Mi.mC (.str i)):=λe σ H Hv Q I h=>h _ H Hv (.refl I.vw) sQ
theorem eW{i:Bool}:AE M qV (tC (.bl i)) (Mi.mC (.bl i)):=λe σ H Hv Q I h=>h _ H Hv (.refl I.vw) eX
theorem uV:AE M qV (tC .non) (Mi.mC .non):=λe σ H Hv Q I h=>h _ H Hv (.refl I.vw) vm
theorem xi{e:pV}{i:Nat}{k:D->Prop}(h:Fin (Mi.mV i e) k):∃d,e[i]? = ab (ab (.d d))/\k d:=by
 unfold Mi.mV at h;split at h
 ·exact⟨_,‹_›,h⟩
 ·exact h.elim
theorem nk{e:pV}{i:Nat}{k:W->Prop}(h:Fin (Mi.wV i e) k):∃w,e[i]? = ab (ab w)/\k w:=by
 unfold Mi.wV at h;split at h
 ·exact⟨_,‹_›,h⟩
 ·exact h.elim
theorem Gi(i:Nat)(hm:M i=false):AE M qV (dB i) (Mi.mV i):=λe σ H Hv Q I h=>by
 obtain⟨d,he,k⟩:=xi h;obtain⟨v,q,z⟩:=I.nob i _ he hm;exact⟨v,q,k v H Hv (.refl I.vw) z⟩
theorem NG{H Hv:Hp}{w:W}{v:V}(h:Own H Hv w v):RB H Hv w v:=by obtain⟨a,o,e,q,_,c⟩:=h;exact .inr ⟨a,o,e,q,c⟩
theorem R0.any{e:pV}{σ:L2.St}{H Hv:Hp}(I:R0 M e σ H Hv){i:Nat}{w:W}(he:e[i]? = ab (ab w)):∃v,σ[i]? = ab (ab v)/\RB H Hv w v:=by
 cases hm:M i with
 |false=>
  obtain⟨v,q,z⟩:=I.nob i w he hm;exact⟨v,q,.inl z⟩
 |true=>
  obtain⟨v,q,z⟩:=I.own i w he hm;exact⟨v,q,NG z⟩
theorem av(i:Nat):AE M qP (dB i) (Mi.mV i):=λe σ H Hv Q I h=>by
 obtain⟨d,he,k⟩:=xi h;obtain⟨v,q,z⟩:=I.any he;exact⟨v,q,k v H Hv (.refl I.vw) z⟩
theorem EG(i:Nat)(hm:M i=false):AW M qV (dB i) (Mi.wV i):=λe σ H Hv Q I h=>by
 obtain⟨d,he,k⟩:=nk h;obtain⟨v,q,z⟩:=I.nob i _ he hm;exact⟨v,q,k v H Hv (.refl I.vw) z⟩
def B2(κ:Kd)(r:R2)(f:D->D->Rs D):Prop:=∀x y v u H Hv Q,Vw H Hv->RD H Hv x v->RD H Hv y u->Fin (f x y) (λd=>∀w H' Hv',bi H Hv H' Hv'->κ H H' Hv' (.d d) w->Q w H')->r v u H Q
def B1(κ:Kd)(r:V->Hp->VK->Prop)(f:D->Rs D):Prop:=∀x v H Hv Q,Vw H Hv->RD H Hv x v->Fin (f x) (λd=>∀w H' Hv',bi H Hv H' Hv'->κ H H' Hv' (.d d) w->Q w H')->r v H Q
def BN(κ:Kd)(r:List V->Hp->VK->Prop)(f:List D->Rs D):Prop:=∀ds vs H Hv Q,Vw H Hv->P2 (RD H Hv) ds vs->Fin (f ds) (λd=>∀w H' Hv',bi H Hv H' Hv'->κ H H' Hv' (.d d) w->Q w H')->r vs H Q
theorem ax[KM κ](hr:B2 κ r f)(ha:AE M qP ta a)(hb:AE M qP tb b):AE M κ (kj r ta tb) (Mi.m2 f a b):=λe σ H Hv Q I h=>
 ha e σ H Hv _ I ((aA.mp h).mono λx hx v H1 Hv1 g1 rx=>hb e σ H1 Hv1 _ (I.grow g1) ((aA.mp hx).mono λy hy u H2 Hv2 g2 ry=>
  hr x y v u H2 Hv2 Q g2.vw (RB.grow g2 rx) ry (hy.mono λd hd w H3 Hv3 g3 rw=>hd w H3 Hv3 (g1.trans (g2.trans g3)) (KM.mono (g1.old.trans g2.old) rw))))
theorem uX[KM κ]{r:V->Hp->VK->Prop}{f:D->Rs D}(hr:B1 κ r f)(ha:AE M qP ta a):AE M κ (EO r ta) (Mi.m1 f a):=λe σ H Hv Q I h=>
 ha e σ H Hv _ I ((aA.mp h).mono λx hx v H1 Hv1 g1 rx=>hr x v H1 Hv1 Q g1.vw rx (hx.mono λd hd w H3 Hv3 g3 rw=>hd w H3 Hv3 (g1.trans g3) (KM.mono g1.old rw)))
theorem xw{x:D}{k:Bool->Prop}(h:Fin (Mi.mB x) k):∃b,x=.bl b/\k b:=by
 cases x with
 |bl b=>exact⟨b,rfl,h⟩
 |_=>exact h.elim
theorem nO{x:D}{k:Int->Prop}(h:Fin (Mi.lm x) k):∃b,x=.int b/\k b:=by
 cases x with
 |int b=>exact⟨b,rfl,h⟩
 |_=>exact h.elim
theorem LR(ha:AE M qP ta a)(hb:AE M qV tb b):AE M qV (Fq ta tb) (Mi.nN a b):=λe σ H Hv Q I h=>
 ha e σ H Hv _ I ((aA.mp h).mono λx hx v H1 Hv1 g1 rx=>by
  obtain⟨k,rfl,hk⟩:=xw (aA.mp hx);cases RD.bl rx;refine⟨k,rfl,?_⟩;cases k with
  |true=>exact kA (hb e σ H1 Hv1 Q (I.grow g1) (Fin.mono (Mi.jO hk) λd hd w H2 Hv2 g2 rw=>hd w H2 Hv2 (g1.trans g2) rw))
  |false=>exact kn ((Mi.nZ (Mi.jG hk)) _ H1 Hv1 g1 eX))
theorem Kc(ha:AE M qP ta a)(hb:AE M qV tb b):AE M qV (Dy ta tb) (Mi.vt a b):=λe σ H Hv Q I h=>
 ha e σ H Hv _ I ((aA.mp h).mono λx hx v H1 Hv1 g1 rx=>by
  obtain⟨k,rfl,hk⟩:=xw (aA.mp hx);cases RD.bl rx;refine⟨k,rfl,?_⟩;cases k with
  |false=>exact kn (hb e σ H1 Hv1 Q (I.grow g1) (Fin.mono (Mi.jG hk) λd hd w H2 Hv2 g2 rw=>hd w H2 Hv2 (g1.trans g2) rw))
  |true=>exact kA ((Mi.nZ (Mi.jO hk)) _ H1 Hv1 g1 eX))
theorem y9[KM κ]{tt:TT}{k:Mi.C}(hc:AT M tt k)(ha:AE M κ ta a)(hb:AE M κ tb b):AE M κ (DQ tt ta tb) (Mi.lC k a b):=λe σ H Hv Q I h=>
 hc e σ H Hv _ I ((aA.mp h).mono λx hx H1 Hv1 g1=>by
  cases x with
  |true=>exact kA (ha e σ H1 Hv1 Q (I.grow g1) (Fin.mono (Mi.jO hx) λd hd w H2 Hv2 g2 rw=>hd w H2 Hv2 (g1.trans g2) (KM.mono g1.old rw)))
  |false=>exact kn (hb e σ H1 Hv1 Q (I.grow g1) (Fin.mono (Mi.jG hx) λd hd w H2 Hv2 g2 rw=>hd w H2 Hv2 (g1.trans g2) (KM.mono g1.old rw))))
theorem mx:AO M Eg (Mi.k7 ac):=λe σ H Hv Q I h=>h H Hv (.refl I.vw)
theorem kH(ha:AE M qP ta a):AO M (Cp ta) (Mi.k7 (ab a)):=λe σ H Hv Q I h=>
 ha e σ H Hv _ I ((aA.mp h).mono λx hx v H1 Hv1 g1 rx=>by
  obtain⟨i,rfl,hk⟩:=nO (aA.mp hx);exact⟨i,RD.int rx,hk H1 Hv1 g1⟩)
def BS(κ:Kd)(r:V->Option Int->Option Int->Hp->VK->Prop)(f:D->Option Int->Option Int->Rs D):Prop:=∀x lo hi v H Hv Q,Vw H Hv->RD H Hv x v->Fin (f x lo hi) (λd=>∀w H' Hv',bi H Hv H' Hv'->κ H H' Hv' (.d d) w->Q w H')->r v lo hi H Q
theorem lj[KM κ]{r:V->Option Int->Option Int->Hp->VK->Prop}{tl th:TO}{lo hi:Option Mi.E}{f:D->Option Int->Option Int->Rs D}(hr:BS κ r f)(ha:AE M qP ta a)(hl:AO M tl (Mi.k7 lo))(hh:AO M th (Mi.k7 hi)):AE M κ (C6 r ta tl th) (Mi.eD f a lo hi):=λe σ H Hv Q I h=>
 ha e σ H Hv _ I ((aA.mp h).mono λx hx v H1 Hv1 g1 rx=>hl e σ H1 Hv1 _ (I.grow g1) ((aA.mp hx).mono λl hl H2 Hv2 g2=>hh e σ H2 Hv2 _ (I.grow (g1.trans g2)) ((aA.mp hl).mono λu hu H3 Hv3 g3=>
  hr x l u v H3 Hv3 Q g3.vw (RB.grow (g2.trans g3) rx) (hu.mono λd hd w H4 Hv4 g4 rw=>hd w H4 Hv4 (g1.trans (g2.trans (g3.trans g4))) (KM.mono (g1.old.trans (g2.old.trans g3.old)) rw)))))
theorem fo(ha:AE M qP ta a):AT M (tB ta) (Mi.cB a):=λe σ H Hv Q I h=>
 ha e σ H Hv _ I ((aA.mp h).mono λx hx v H1 Hv1 g1 rx=>by
  obtain⟨k,rfl,hk⟩:=xw hx;exact⟨k,RD.bl rx,hk H1 Hv1 g1⟩)
theorem cD(ha:AE M qP ta a):AT M (Bu ta) (Mi.cB a):=fo ha
theorem pO{K:aP}(ha:AE M qP ta a):AT M (λσ H Q=>ta σ H λx H'=>∃k,yk K x H' k/\Q k H') (Mi.fw a):=λe σ H Hv Q I h=>
 ha e σ H Hv _ I ((aA.mp h).mono λx hx v H1 Hv1 g1 rx=>by
  cases x with
  |non=>cases RD.non rx;exact⟨false,rfl,hx H1 Hv1 g1⟩
  |bl b=>cases RD.bl rx;exact⟨b,rfl,hx H1 Hv1 g1⟩
  |int i=>cases RD.int rx;exact⟨_,rfl,hx H1 Hv1 g1⟩
  |str y=>
   cases RD.str rx;obtain⟨hz,hq⟩:=Mi.cq hx;exact⟨_,⟨by rw[eh];exact hz,rfl⟩,hq H1 Hv1 g1⟩
  |lst ds=>
   obtain⟨p,xs,rfl,l,r⟩:=RD.lst g1.vw rx;refine⟨!xs.isEmpty,.inl ⟨xs,l.sq,rfl⟩,?_⟩;have:ds.isEmpty=xs.isEmpty:=by cases r<;>rfl
   rw[<- this];exact hx H1 Hv1 g1
  |tup ds=>
   obtain⟨p,xs,rfl,l,_,r⟩:=RD.tup g1.vw rx;refine⟨!xs.isEmpty,.inr (.inl ⟨xs,.inl (.inl l),rfl⟩),?_⟩;have:ds.isEmpty=xs.isEmpty:=by cases r<;>rfl
   rw[<- this];exact hx H1 Hv1 g1)
variable{tt uu:TT}{k l:Mi.C}
theorem sW(ha:AT M tt k)(hb:AT M uu l):AT M (CM tt uu) (Mi.eA k l):=λe σ H Hv Q I h=>
 ha e σ H Hv _ I ((aA.mp h).mono λx hx H1 Hv1 g1=>by
  cases x with
  |true=>exact kA (hb e σ H1 Hv1 Q (I.grow g1) (Fin.mono (Mi.jO hx) λb hd H2 Hv2 g2=>hd H2 Hv2 (g1.trans g2)))
  |false=>exact kn ((Mi.nZ (Mi.jG hx)) H1 Hv1 g1))
theorem jB(ha:AT M tt k)(hb:AT M uu l):AT M (Cb tt uu) (Mi.dO k l):=λe σ H Hv Q I h=>
 ha e σ H Hv _ I ((aA.mp h).mono λx hx H1 Hv1 g1=>by
  cases x with
  |false=>exact kn (hb e σ H1 Hv1 Q (I.grow g1) (Fin.mono (Mi.jG hx) λb hd H2 Hv2 g2=>hd H2 Hv2 (g1.trans g2)))
  |true=>exact kA ((Mi.nZ (Mi.jO hx)) H1 Hv1 g1))
theorem iN(ha:AT M tt k):AT M (Bo tt) (Mi.cV k):=λe σ H Hv Q I h=>
 ha e σ H Hv _ I ((aA.mp h).mono λx hx H1 Hv1 g1=>hx H1 Hv1 g1)
theorem kg:AT M BR Mi.el:=λe σ H Hv Q I h=>h H Hv (.refl I.vw)
variable{tr:TA}{as:List Mi.E}{ws:List Mi.EW}
theorem bx:AA M κ gU (Mi.f7 []):=λe σ H Hv Q I h=>h [] H Hv (.refl I.vw) .nil
theorem be[KM κ][KG κ](ha:AE M κ ta a)(hr:AA M κ tr (Mi.f7 as)):AA M κ (fR ta tr) (Mi.f7 (a::as)):=λe σ H Hv Q I h=>
 ha e σ H Hv _ I ((aA.mp h).mono λx hx v H1 Hv1 g1 rx=>hr e σ H1 Hv1 _ (I.grow g1) ((aA.mp hx).mono λxs hs vs H2 Hv2 g2 rs=>
  hs (v::vs) H2 Hv2 (g1.trans g2) (.cons (KG.go g2 rx) (rs.imp λ_ _ z=>KM.mono g1.old z))))
theorem bQ:AAW M κ gU (Mi.cW []):=λe σ H Hv Q I h=>h [] H Hv (.refl I.vw) .nil
theorem aJ[KM κ][KG κ]{w:Mi.EW}(ha:AW M κ ta w)(hr:AAW M κ tr (Mi.cW ws)):AAW M κ (fR ta tr) (Mi.cW (w::ws)):=λe σ H Hv Q I h=>
 ha e σ H Hv _ I ((aA.mp h).mono λx hx v H1 Hv1 g1 rx=>hr e σ H1 Hv1 _ (I.grow g1) ((aA.mp hx).mono λxs hs vs H2 Hv2 g2 rs=>
  hs (v::vs) H2 Hv2 (g1.trans g2) (.cons (KG.go g2 rx) (rs.imp λ_ _ z=>KM.mono g1.old z))))
theorem dq[KM κ]{r:List V->Hp->VK->Prop}{f:List D->Rs D}(hr:BN κ r f)(ha:AA M qP tr (Mi.f7 as)):AE M κ (pM r tr) (Mi.mN f as):=λe σ H Hv Q I h=>
 ha e σ H Hv _ I ((aA.mp h).mono λds hx vs H1 Hv1 g1 rx=>hr ds vs H1 Hv1 Q g1.vw rx (hx.mono λd hd w H3 Hv3 g3 rw=>hd w H3 Hv3 (g1.trans g3) (KM.mono g1.old rw)))
theorem jb(ha:AA M qV tr (Mi.f7 as)):AE M qV (yK tr) (Mi.mN Mi.dTup as):=λe σ H Hv Q I h=>
 ha e σ H Hv _ I ((aA.mp h).mono λds hx vs H1 Hv1 g1 rx=>by
  obtain⟨hz,hq⟩:=Mi.cq hx;refine⟨by rw[<- rx.len,eh];exact hz,λp hp=>?_⟩;have g2:bi H1 Hv1 (upd H1 p (.tup vs)) (upd Hv1 p (.tup vs)):=.new g1.vw hp;exact hq _ _ _ (g1.trans g2) (ia.mpr ⟨p,vs,rfl,bt,d9 g2.vis rx⟩))
theorem ft(ha:AA M qV tr (Mi.f7 as)):AE M qN (DA tr) (Mi.mN Mi.cZ as):=λe σ H Hv Q I h=>
 ha e σ H Hv _ I ((aA.mp h).mono λds hx vs H1 Hv1 g1 rx=>by
  obtain⟨hz,hq⟩:=Mi.cq hx;refine⟨by rw[<- rx.len,eh];exact hz,λp hp=>?_⟩;have g2:bi H1 Hv1 (upd H1 p (.lst vs)) Hv1:=.nr g1.vw trivial hp;exact hq _ _ _ (g1.trans g2) ⟨p,.lst vs,rfl,g1.old.free hp,bt,l5 g1.vw hp,rx⟩)
def aI(f:Mi.Fn):Sp:=λvs H Q _=>∃Hv ws,Vw H Hv/\P2 (fL Hv) ws vs/\Fin (f ws) (λw=>∀v H' Hv',bi H Hv H' Hv'->qV H H' Hv' w v->Q v H')
def cI(f:Mi.Fn):Sp:=λvs H Q _=>∃Hv ws,Vw H Hv/\P2 (fL Hv) ws vs/\Fin (f ws) (λw=>∀v H' Hv',bi H Hv H' Hv'->qN H H' Hv' w v->Q v H')
variable{fn:Mi.Fn}{E:XK}
theorem Ol(ha:AAW M qV tr (Mi.cW ws)):AW M qV (mJ (aI fn) [] E tr) (Mi.jv fn ws):=λe σ H Hv Q I h=>
 ha e σ H Hv _ I ((aA.mp h).mono λds hx vs H1 Hv1 g1 rx=>by
  rw[qg];exact⟨Hv1,ds,g1.vw,rx,hx.mono λd hd w H3 Hv3 g3 rw=>hd w H3 Hv3 (g1.trans g3) rw⟩)
theorem Gb(ha:AAW M qV tr (Mi.cW ws)):AW M qN (mJ (cI fn) [] E tr) (Mi.jv fn ws):=λe σ H Hv Q I h=>
 ha e σ H Hv _ I ((aA.mp h).mono λds hx vs H1 Hv1 g1 rx=>by
  rw[qg];exact⟨Hv1,ds,g1.vw,rx,hx.mono λd hd w H3 Hv3 g3 rw=>hd w H3 Hv3 (g1.trans g3) (KM.mono (κ:=qN) g1.old rw)⟩)
theorem Cg{w:W}{k:D->Prop}(h:Fin (Mi.lG w) k):∃d,w=.d d/\k d:=by
 cases w with
 |d x=>exact⟨x,rfl,h⟩
 |_=>exact h.elim
theorem AW.d{w:Mi.EW}(h:AW M κ t w):AE M κ t (λe=>(w e).bind Mi.lG):=λe σ H Hv Q I q=>
 h e σ H Hv Q I ((aA.mp q).mono λw z v H' Hv' g k=>by
  obtain⟨d,rfl,z⟩:=Cg z;exact z v H' Hv' g k)
theorem cR(ha:AAW M qV tr (Mi.cW ws)):AE M qV (mJ (aI fn) [] E tr) (Mi.a8 fn ws):=(Ol ha).d
theorem ip(ha:AAW M qV tr (Mi.cW ws)):AE M qN (mJ (cI fn) [] E tr) (Mi.a8 fn ws):=(Gb ha).d
def iL(H:Hp):Hp:=λa=>match H a with
 |some (.tbl _ _)=>ac
 |x=>x
theorem jQ{H:Hp}{a:ag}{o:HO}(h:H a=ab o)(n:NT o):iL H a=ab o:=by unfold iL;rw[h];cases o<;>first|rfl|exact n.elim
theorem vv{H:Hp}{a:ag}{o:HO}(h:iL H a=ab o):H a=ab o/\NT o:=by
 unfold iL at h;cases q:H a with
 |none=>rw[q]at h;cases h
 |some u=>
  rw[q]at h;cases u with
  |tbl w ps=>cases h
  |_=>cases h;exact⟨rfl,trivial⟩
theorem Vw.all{H:Hp}(k:gJ H):Vw H (iL H):=⟨λa o e=>(vv e).1,λa xs e=>jQ e trivial,λa o u e=>jQ e trivial,k,λa o e=>(vv e).2⟩
theorem RB.Ox{H Hv:Hp}(v:Vw H Hv){w:W}{x:V}(h:RB H Hv w x):fL (iL H) w x:=by
 have s:cy Hv (iL H):=λa o e=>jQ (v.sub a o e) (v.nv a o e);rcases h with h|⟨a,o,rfl,q,c⟩
 ·exact pB s h
 ·exact ve (jQ q c.nt) (c.same s)
def seen(H Hv H':Hp):Hp:=λa=>match Hv a,H a with
 |none,ab _=>ac
 |_,_=>iL H' a
theorem NZ{H Hv H':Hp}(v:Vw H Hv)(s:Old H H')(k':gJ H'):bi H Hv H' (seen H Hv H'):=by
 have key:∀a,(∃o,H a=ab o/\Hv a=ac/\seen H Hv H' a=ac)\/(seen H Hv H' a=iL H' a/\∀o,H a=ab o->Hv a=ab o):=λa=>by
  cases h1:Hv a with
  |none=>
   cases h2:H a with
   |none=>exact .inr ⟨by unfold seen;rw[h1,h2],λo e=>by cases e⟩
   |some o=>exact .inl ⟨o,rfl,rfl,by unfold seen;rw[h1,h2]⟩
  |some o=>
   refine .inr ⟨by unfold seen;rw[h1],λu e=>?_⟩;rw[v.sub a o h1]at e;exact e
 have back:∀b o,H' b=ab o->NT o->(∃u,H b=ab u)->∃u,H b=ab u:=λ_ _ _ _ z=>z;refine⟨s,λb o e=>?_,⟨λb o e=>?_,λb xs e=>?_,λb q u e=>?_,k',λb o e=>?_⟩,λb o e n=>?_⟩
 ·rcases key b with ⟨u,_,z,_⟩|⟨z,_⟩
  ·rw[e]at z;cases z
  ·rw[z];exact jQ (s.nt b o (v.sub b o e) (v.nv b o e)) (v.nv b o e)
 ·rcases key b with ⟨u,_,_,z⟩|⟨z,_⟩
  ·rw[e]at z;cases z
  ·rw[z]at e;exact(vv e).1
 ·rcases key b with ⟨u,h1,h2,_⟩|⟨z,_⟩
  ·cases u with
   |tbl w ps=>exact absurd e (s.tab h1 trivial)
   |_=>
    have:=s.nt b _ h1 trivial;rw[e]at this;cases this
    try (rw[v.tup b xs h1]at h2;cases h2)
  ·rw[z];exact jQ e trivial
 ·rcases key b with ⟨w,h1,h2,_⟩|⟨z,_⟩
  ·cases w with
   |tbl w ps=>exact absurd e (s.tab h1 trivial)
   |_=>
    have:=s.nt b _ h1 trivial;rw[e]at this;cases this
    try (rw[v.frz b q u h1]at h2;cases h2)
  ·rw[z];exact jQ e trivial
 ·rcases key b with ⟨u,_,_,z⟩|⟨z,_⟩
  ·rw[e]at z;cases z
  ·rw[z]at e;exact(vv e).2
 ·rcases key b with ⟨u,h1,h2,z⟩|⟨z,k⟩
  ·exact z
  ·rw[k o e]at n;cases n
end
end A
namespace A
open PySem L2 PyProof.Rows
open Mi (D W Rs Fin aA Out Tg)
variable[Tb:bD]
structure pi(J:It)(P:Hp->Hp->Prop)(ds:List D):Prop where
 go:∀i H Hv,P H Hv->Vw H Hv->i<ds.length->J.go i H
 yld:∀i H Hv x H',P H Hv->Vw H Hv->i<ds.length->J.yld i H x H'->∃Hv' d,bi H Hv H' Hv'/\ds[i]? = ab d/\Rep Hv' d x
 stop:∀H Hv,P H Hv->Vw H Hv->J.stop ds.length H
def vI(M:Nat->Bool)(wi:TI)(it:Mi.I):Prop:=∀e σ H Hv (R:It->Hp->Prop),R0 M e σ H Hv->Fin (it e) (λds=>∀(J:It) H' Hv' (P:Hp->Hp->Prop),bi H Hv H' Hv'->pi J P ds->P H' Hv'->(∀H1 Hv1 H2 Hv2,P H1 Hv1->bi H1 Hv1 H2 Hv2->P H2 Hv2)->R J H')->wi σ H R
def fm(M:Nat->Bool)(wi:TI)(it:Mi.I):Prop:=∀e σ H Hv (R:It->Hp->Prop),R0 M e σ H Hv->Fin (it e) (λds=>∀(J:It) H' Hv' (P:Hp->Hp->Prop),bi H Hv H' Hv'->pi J P ds->P H' Hv'->(∀H1 Hv1 H2 Hv2,P H1 Hv1->cy Hv1 Hv2->Vw H2 Hv2->P H2 Hv2)->R J H')->wi σ H R
theorem jd{α:Type}{r:Rs α}{k:α->Prop}(h:Fin r k):∃x,r=.ok x/\k x:=by
 cases r with
 |ok x=>exact⟨x,rfl,h⟩
 |_=>exact h.elim
section
variable{M:Nat->Bool}{ta tb:TE}{a b:Mi.E}{wi:TI}{it:Mi.I}{tr:TA}{as:List Mi.E}
theorem fm.c(h:fm M wi it):vI M wi it:=λe σ H Hv R I q=>h e σ H Hv R I (q.mono λds z J H' Hv' P g o p k=>z J H' Hv' P g o p λH1 Hv1 H2 Hv2 p g'=>k H1 Hv1 H2 Hv2 p g'.vis g'.vw)
theorem nz{J:It}{Ok:Hp->Prop}{xs:List V}(O:J.Of Ok xs){ds:List D}{P:Hp->Hp->Prop}(ok:∀H Hv,P H Hv->Vw H Hv->Ok H)(r:∀H Hv,P H Hv->P2 (Rep Hv) ds xs)(ex:∃H Hv,P H Hv):pi J P ds:=by
 have hl:ds.length=xs.length:=by obtain⟨H,Hv,p⟩:=ex;exact(r H Hv p).len
 refine⟨λi H Hv p v hi=>O.go i H (ok H Hv p v) (by omega),λi H Hv x H' p v hi y=>?_,λH Hv p v=>by rw[hl];exact O.stop H (ok H Hv p v)⟩;obtain⟨rfl,hx⟩:=O.yld i H x H' (ok H Hv p v) (by omega) y;obtain⟨d,hd,rx⟩:=(r H' Hv p).yb hx;exact⟨Hv,d,.refl v,hd,rx⟩
def rY(K:aP)(tl:TE):TI:=λσ H R=>Gh K tl σ H R\/FL K tl σ H R\/CT tl σ H R
theorem gt{X:Cx}{tg l:aY}{tl:TE}(hl:PE X l tl):PI X tg l (rY X.K tl):=λaf s σ H R I h=>by
 rcases h with h|h|h
 ·exact K1 hl af s σ H R I h
 ·exact MD hl af s σ H R I h
 ·exact Pn hl af s σ H R I h
theorem Fw(H:Hp)(z:Str):P2 (Rep H) (z.cps.toList.map λc=>D.str ⟨#[c]⟩) (oa z):=by
 unfold oa
 induction z.cps.toList with
 |nil=>exact .nil
 |cons c r ih=>exact .cons (nC.mpr rfl) ih
theorem k4{K:aP}(ha:AE M qP ta a):vI M (rY K ta) (Mi.de a):=λe σ H Hv R I h=>by
 obtain⟨d,hd,h⟩:=jd (aA.mp h);have run:∀Q:VK,(∀v H' Hv',bi H Hv H' Hv'->RD H' Hv' d v->Q v H')->ta σ H Q:=λQ q=>ha e σ H Hv Q I (by rw[hd];exact q);cases d with
 |lst ds=>
  refine .inl (run _ λv H' Hv' g r=>?_);obtain⟨p,xs,rfl,l,r⟩:=RD.lst g.vw r;exact⟨p,rfl,⟨xs,l.sq⟩,h (qQ K p) H' Hv' (λH Hv=>Lst H p xs/\P2 (Rep Hv) ds xs) g (nz CH (λH Hv p v=>p.1.sq) (λH Hv p=>p.2) ⟨H',Hv',l,r⟩) ⟨l,r⟩ λH1 Hv1 H2 Hv2 z g'=>⟨z.1.old g'.old,d9 g'.vis z.2⟩⟩
 |tup ds=>
  refine .inr (.inl (run _ λv H' Hv' g r=>?_));obtain⟨p,xs,rfl,l,_,r⟩:=RD.tup g.vw r;exact⟨p,rfl,⟨xs,.inl (.inl l)⟩,h (rK K p) H' Hv' (λH Hv=>H p=ab (.tup xs)/\P2 (Rep Hv) ds xs) g (nz Cm (λH Hv p v=>.inl (.inl p.1)) (λH Hv p=>p.2) ⟨H',Hv',l,r⟩) ⟨l,r⟩ λH1 Hv1 H2 Hv2 z g'=>⟨g'.old.at z.1,d9 g'.vis z.2⟩⟩
 |str z=>
  refine .inr (.inr (run _ λv H' Hv' g r=>?_));exact⟨z,RD.str r,h (nI z) H' Hv' (λ_ _=>True) g (nz C3 (λ_ _ _ _=>trivial) (λH Hv _=>Fw Hv z) ⟨H,Hv,trivial⟩) trivial λ_ _ _ _ _ _=>trivial⟩
 |_=>exact h.elim
theorem qb{K:aP}(ha:AE M qV ta a):fm M (rY K ta) (Mi.de a):=λe σ H Hv R I h=>by
 obtain⟨d,hd,h⟩:=jd (aA.mp h);have run:∀Q:VK,(∀v H' Hv',bi H Hv H' Hv'->Rep Hv' d v->Q v H')->ta σ H Q:=λQ q=>ha e σ H Hv Q I (by rw[hd];exact q);cases d with
 |lst ds=>
  refine .inl (run _ λv H' Hv' g r=>?_);obtain⟨p,xs,rfl,l,r⟩:=iU.mp r;exact⟨p,rfl,⟨xs,(l.same g.vw.sub).sq⟩,h (qQ K p) H' Hv' (λH Hv=>Lst Hv p xs/\P2 (Rep Hv) ds xs) g (nz CH (λH Hv p v=>(p.1.same v.sub).sq) (λH Hv p=>p.2) ⟨H',Hv',l,r⟩) ⟨l,r⟩ λH1 Hv1 H2 Hv2 z s v=>⟨z.1.same s,d9 s z.2⟩⟩
 |tup ds=>
  refine .inr (.inl (run _ λv H' Hv' g r=>?_));obtain⟨p,xs,rfl,l,r⟩:=ia.mp r;exact⟨p,rfl,⟨xs,.inl (.inl (g.vw.sub _ _ l))⟩,h (rK K p) H' Hv' (λH Hv=>Hv p=ab (.tup xs)/\P2 (Rep Hv) ds xs) g (nz Cm (λH Hv p v=>.inl (.inl (v.sub _ _ p.1))) (λH Hv p=>p.2) ⟨H',Hv',l,r⟩) ⟨l,r⟩ λH1 Hv1 H2 Hv2 z s v=>⟨s _ _ z.1,d9 s z.2⟩⟩
 |str z=>
  refine .inr (.inr (run _ λv H' Hv' g r=>?_));exact⟨z,nC.mp r,h (nI z) H' Hv' (λ_ _=>True) g (nz C3 (λ_ _ _ _=>trivial) (λH Hv _=>Fw Hv z) ⟨H,Hv,trivial⟩) trivial λ_ _ _ _ _ _ _=>trivial⟩
 |_=>exact h.elim
theorem Mb(H:Hp)(lo hi:Int):P2 (Rep H) (Mi.cM lo hi) (nh lo (hi-lo).toNat):=by
 unfold Mi.cM nh
 induction cj (hi-lo).toNat with
 |nil=>exact .nil
 |cons c r ih=>exact .cons (qE.mpr rfl) ih
theorem C8(lo hi:Int)(H Hv:Hp):pi (l7 lo (hi-lo).toNat) (λ_ _=>True) (Mi.cM lo hi):=nz Kz (λ_ _ _ _=>trivial) (λH Hv _=>Mb Hv lo hi) ⟨H,Hv,trivial⟩
theorem j5(ha:AE M qP ta a):fm M (EB (fR ta gU)) (Mi.h6 a):=λe σ H Hv R I h=>
 ha e σ H Hv _ I ((aA.mp h).mono λx hx v H1 Hv1 g1 rx=>by
  obtain⟨j,rfl,hk⟩:=nO (aA.mp hx);obtain⟨hz,hq⟩:=Mi.cq hk;cases RD.int rx;refine⟨j,rfl,hz.1,hz.2,?_⟩;have:=hq (l7 0 (j-0).toNat) H1 Hv1 _ g1 (C8 0 j H Hv) trivial λ_ _ _ _ _ _ _=>trivial;rw[Int.sub_zero]at this;exact this)
theorem uJ(ha:AE M qP ta a)(hb:AE M qP tb b):fm M (Ev (fR ta (fR tb gU))) (Mi.lJ a b):=λe σ H Hv R I h=>
 ha e σ H Hv _ I ((aA.mp h).mono λx hx v H1 Hv1 g1 rx=>hb e σ H1 Hv1 _ (I.grow g1) ((aA.mp hx).mono λy hy u H2 Hv2 g2 ry=>by
  obtain⟨i,rfl,hk⟩:=nO (aA.mp hy);obtain⟨j,rfl,hk⟩:=nO (aA.mp hk);obtain⟨hz,hq⟩:=Mi.cq hk;cases RD.int rx;cases RD.int ry;exact⟨i,j,rfl,⟨hz.1.1,hz.1.2,hz.2.1,hz.2.2⟩,hq (l7 i (j-i).toNat) H2 Hv2 _ (g1.trans g2) (C8 i j H Hv) trivial λ_ _ _ _ _ _ _=>trivial⟩))
end
def t6:List Nat->ii
 |[]=>sK
 |i::r=>rW (eS i) (t6 r)
def oQ:Tg->List Nat
 |.n i=>[i]
 |.t is=>is
def sF(K:aP):Tg->TG
 |.n i=>eS i
 |.t is=>yQ K is.length (t6 is)
section
variable{P:Mi.Env->L2.St->Prop}{H Hv:Hp}
theorem wY:∀{is:List Nat} {ds:List D} {xs:List V} {e:Mi.Env} {σ:L2.St} {Q:L2.St->Hp->Prop},(∀i∈is,∀e σ d v,P e σ->Rep Hv d v->P (e.set i (ab (.d d))) (σ.set i (ab v)))->P e σ->P2 (Rep Hv) ds xs ->
 Fin (Mi.mF is ds e) (λe'=>∀σ',P e' σ'->Q σ' H)->t6 is xs σ H Q
 |[],[],xs,e,σ,Q,cl,p,r,h=>by
  cases r;exact⟨rfl,h σ p⟩
 |[],_::_,xs,e,σ,Q,cl,p,r,h=>h.elim
 |_::_,[],xs,e,σ,Q,cl,p,r,h=>h.elim
 |i::is,d::ds,xs,e,σ,Q,cl,p,r,h=>by
  cases r with
  |cons x t=>exact⟨_,_,rfl,wY (λj hj=>cl j (ff _ hj)) (cl i dA _ _ _ _ p x) t h⟩
theorem w5:∀{is:List Nat} {ds:List D} {e:Mi.Env} {k:Mi.Env->Prop},Fin (Mi.mF is ds e) k->ds.length=is.length
 |[],[],_,_,_=>rfl
 |[],_::_,_,_,h=>h.elim
 |_::_,[],_,_,h=>h.elim
 |i::is,d::ds,e,k,h=>by rw[c6,c6,w5 (is:=is) (ds:=ds) (k:=k) h]
theorem u0{K:aP}(vw:Vw H Hv){tg:Tg}{d:D}{v:V}{e:Mi.Env}{σ:L2.St}{Q:L2.St->Hp->Prop}(cl:∀i∈oQ tg,∀e σ d v,P e σ->Rep Hv d v->P (e.set i (ab (.d d))) (σ.set i (ab v)))(p:P e σ)(r:Rep Hv d v)
 (h:Fin (tg.put d e) (λe'=>∀σ',P e' σ'->Q σ' H)):sF K tg v σ H Q:=by
 cases tg with
 |n i=>exact h _ (cl i (by simp[oQ]) _ _ _ _ p r)
 |t is=>
  cases d with
  |tup ds=>
   obtain⟨a,xs,e1,l,r⟩:=ia.mp r;exact⟨a,xs,e1,.inl (.inl (vw.sub _ _ l)),by rw[<- r.len];exact w5 h,wY cl p r h⟩
  |_=>exact h.elim
end
theorem jJ{α:Type}{l:List α}{i j:Nat}{x y:α}(h:(l.set i x)[j]? = ab y):(i=j/\x=y/\i<l.length)\/(i≠j/\l[j]? = ab y):=by
 rw[tw]at h;split at h
 ·split at h
  ·exact .inl ⟨‹_›,fh h,by omega⟩
  ·cases h
 ·exact .inr ⟨‹_›,h⟩
theorem R0.set{M:Nat->Bool}{e:Mi.Env}{σ:L2.St}{H Hv:Hp}(I:R0 M e σ H Hv){i:Nat}{w:W}{v:V}(hm:M i=false)(r:fL Hv w v):R0 M (e.set i (ab w)) (σ.set i (ab v)) H Hv:=by
 refine⟨I.vw,by rw[gH,gH];exact I.len,λj w' h m=>?_,λj w' h m=>?_⟩
 ·rcases jJ h with ⟨rfl,h,l⟩|⟨n,h⟩
  ·cases h;exact⟨v,by rw[jo (by rw[I.len];exact l)],r⟩
  ·obtain⟨u,q,z⟩:=I.nob j w' h m;exact⟨u,by rw[eE n];exact q,z⟩
 ·rcases jJ h with ⟨rfl,h,l⟩|⟨n,h⟩
  ·rw[hm]at m;cases m
  ·obtain⟨u,q,z⟩:=I.own j w' h m;exact⟨u,by rw[eE n];exact q,z⟩
theorem R1.set{M:Nat->Bool}{H0 Hv0:Hp}{e:Mi.Env}{σ:L2.St}{H Hv:Hp}(I:R1 M H0 Hv0 e σ H Hv){i:Nat}{w:W}{v:V}(hm:M i=false)(r:fL Hv w v):R1 M H0 Hv0 (e.set i (ab w)) (σ.set i (ab v)) H Hv:=by
 have nj:∀{j:Nat} {w':W},(e.set i (ab w))[j]? = ab (ab w')->M j=true->i≠j/\e[j]? = ab (ab w'):=λ{j w'} h m=>by
  rcases jJ h with ⟨rfl,_,_⟩|⟨n,h⟩
  ·rw[hm]at m;cases m
  ·exact⟨n,h⟩
 refine⟨I.toR0.set hm r,I.gw,λj w' a h m q=>?_,λj k w1 w2 a b hjk h1 h2 m1 m2 q1 q2=>?_⟩
 ·obtain⟨n,h⟩:=nj h m;rw[eE n]at q;exact I.fresh j w' a h m q
 ·obtain⟨n1,h1⟩:=nj h1 m1;obtain⟨n2,h2⟩:=nj h2 m2;rw[eE n1]at q1;rw[eE n2]at q2;exact I.sep j k w1 w2 a b hjk h1 h2 m1 m2 q1 q2
def js(ρ:List (Option Nat))(M:Nat->Bool):Nat->Bool:=λi=>match ρ[i]? with
 |some (ab j)=>M j
 |_=>false
theorem BK{α:Type}{ρ:List (Option Nat)}{e:List (Option α)}{i:Nat}{w:α}(h:(ρ.map λo=>o.bind λj=>(e[j]?).join)[i]? = ab (ab w)):∃j,ρ[i]? = ab (ab j)/\e[j]? = ab (ab w):=by
 rw[cX]at h;cases hr:ρ[i]? with
 |none=>rw[hr]at h;cases h
 |some o=>
  rw[hr]at h;cases o with
  |none=>cases h
  |some j=>
   refine⟨j,rfl,?_⟩;have h:(e[j]?).join=ab w:=fh h;cases hq:e[j]? with
   |none=>rw[hq]at h;cases h
   | some o' => rw [hq] at h; have h : o' = ab w := h
                rw[h]
theorem D2{α:Type}{ρ:List (Option Nat)}{e:List (Option α)}{i j:Nat}{w:α}(h1:ρ[i]? = ab (ab j))(h2:e[j]? = ab (ab w)):(ρ.map λo=>o.bind λj=>(e[j]?).join)[i]? = ab (ab w):=by rw[cX,h1];show ab ((e[j]?).join)=_;rw[h2];rfl
theorem R0.pick{M:Nat->Bool}{e:Mi.Env}{σ:L2.St}{H Hv:Hp}(I:R0 M e σ H Hv)(ρ:List (Option Nat)):R0 (js ρ M) (Mi.iF ρ e) (L2.pick ρ σ) H Hv:=by
 refine⟨I.vw,by unfold Mi.iF L2.pick;rw[aX,aX],λi w h m=>?_,λi w h m=>?_⟩
 ·obtain⟨j,h1,h2⟩:=BK h;have m:M j=false:=by unfold js at m;rw[h1]at m;exact m
  obtain⟨v,q,z⟩:=I.nob j w h2 m;exact⟨v,D2 h1 q,z⟩
 ·obtain⟨j,h1,h2⟩:=BK h;have m:M j=true:=by unfold js at m;rw[h1]at m;exact m
  obtain⟨v,q,z⟩:=I.own j w h2 m;exact⟨v,D2 h1 q,z⟩
theorem FH{tg:Tg}{c:Mi.C}{a:Mi.E}{e:Mi.Env}{x:D}{r:List D}{k:List D->Prop}(h:Fin (Mi.dE tg c a e (x::r)) k) :
 Fin (tg.put x e) λe1=>Fin (c e1) λb=>if b=true then Fin (a e1) λy=>Fin (Mi.dE tg c a e r) λys=>k (y::ys)else Fin (Mi.dE tg c a e r) k:=by
 refine(aA.mp h).mono λe1 h1=>(aA.mp h1).mono λb h2=>?_;cases b with
 |true=>exact kA ((aA.mp (Mi.jO h2)).mono λy h3=>(aA.mp h3).mono λys h4=>h4)
 |false=>exact kn (Mi.jG h2)
theorem fY{M:Nat->Bool}{K:aP}{ρ:List (Option Nat)}{wi:TI}{it:Mi.I}{tg:Tg}{tc:TT}{c:Mi.C}{te:TE}{a:Mi.E}(hi:vI M wi it)(hm:∀i∈oQ tg,js ρ M i=false)(hc:AT (js ρ M) tc c)(he:AE (js ρ M) qV te a) :
 AE M qN (rJ wi ρ (sF K tg) tc te) (Mi.dj ρ it tg c a):=λe σ H Hv Q I h=>
 hi e σ H Hv _ I ((aA.mp h).mono λds h1 J H1 Hv1 P g1 O p1 per=>by
  obtain⟨hz,h1⟩:=Mi.cq h1;have h1:=aA.mp h1;have I1:=I.grow g1;refine⟨λi m acc H'=>m=ds.length-i/\i<=ds.length/\∃Hv',bi H1 Hv1 H' Hv'/\P H' Hv'/\acc.length<=i/\∃done,P2 (Rep Hv') done acc/\Fin (Mi.dE tg c a (Mi.iF ρ e) (ds.drop i)) λys=>∀v H2 Hv2,bi H Hv H2 Hv2->qN H H2 Hv2 (.d (.lst (done++ys))) v->Q v H2,
   ⟨ds.length,by simp,fI _,Hv1,.refl g1.vw,p1,bv _,[],.nil,by rw[mR];exact h1.mono λys z=>z⟩,?_⟩
  rintro i m acc H' ⟨rfl,hle,Hv',g,pp,l,done,pd,hf⟩;by_cases hlt:i<ds.length
  ·refine .inr ⟨O.go i H' Hv' pp g.vw hlt,by rw[eh];omega,λacc' H2=>∃Hv2,bi H1 Hv1 H2 Hv2/\P H2 Hv2/\acc'.length<=i+1/\∃done,P2 (Rep Hv2) done acc'/\Fin (Mi.dE tg c a (Mi.iF ρ e) (ds.drop (i+1))) λys=>∀v H3 Hv3,bi H Hv H3 Hv3->qN H H3 Hv3 (.d (.lst (done++ys))) v->Q v H3,
    λacc' H2 z=>⟨ds.length-(i+1),by omega,rfl,hlt,z⟩,λx H2 y=>?_⟩
   obtain⟨Hv2,d,g2,hd,rx⟩:=O.yld i H' Hv' x H2 pp g.vw hlt y;have g12:=g.trans g2;have hdr:ds.drop i=d::ds.drop (i+1):=by obtain⟨hl,e1⟩:=b9.mp hd;rw[oh hl,e1]
   rw[hdr]at hf;have hf:=FH hf;refine u0 (P:=λe1 σ1=>R0 (js ρ M) e1 σ1 H2 Hv2) g2.vw (λj hj e1 σ1 d1 v1 r1 z=>r1.set (hm j hj) z) ((I1.grow g12).pick ρ) rx (hf.mono λe1 hf1 σ1 r1=>?_);refine hc e1 σ1 H2 Hv2 _ r1 (hf1.mono λb hb H3 Hv3 g3=>?_);cases b with
   |true=>
    refine kA (he e1 σ1 H3 Hv3 _ (r1.grow g3) (Fin.mono (by simpa using hb) λy hy v H4 Hv4 g4 ry=>?_));exact⟨Hv4,g12.trans (g3.trans g4),per _ _ _ _ pp (g2.trans (g3.trans g4)),by rw[cF,gc];omega,done++[y],(d9 (g2.trans (g3.trans g4)).vis pd).append (.cons ry .nil),hy.mono λys z v H5 Hv5 g5 k=>z v H5 Hv5 g5 (by rw[mM]at k;exact k)⟩
   |false=>exact kn ⟨Hv3,g12.trans g3,per _ _ _ _ pp (g2.trans g3),by omega,done,d9 (g2.trans g3).vis pd,by simpa using hb⟩
  ·have hi:i=ds.length:=by omega
   subst hi;refine .inl ⟨O.stop H' Hv' pp g.vw,λp hp=>?_⟩;rw[qc (bv _)]at hf;have g2:bi H' Hv' (upd H' p (.lst acc)) Hv':=.nr g.vw trivial hp;refine hf _ _ _ (g1.trans (g.trans g2)) ⟨p,.lst acc,rfl,(g1.old.trans g.old).free hp,bt,l5 g.vw hp,?_⟩;show P2 (Rep Hv') (done++[]) acc;rw[qg];exact pd)
def iK(M:Nat->Bool)(κ:Kd)(H0 Hv0:Hp)(D:Ends)(Hv:Hp):Out->Prop
 |.nx e=>∀σ H' Hv',R1 M H0 Hv0 e σ H' Hv'->cy Hv Hv'->D.nx σ H'
 |.rt w=>∀v H' Hv',bi H0 Hv0 H' Hv'->κ H0 H' Hv' w v->D.rt v H'
 |.bk e=>∀σ H' Hv',R1 M H0 Hv0 e σ H' Hv'->cy Hv Hv'->D.bk σ H'
 |.ct e=>∀σ H' Hv',R1 M H0 Hv0 e σ H' Hv'->cy Hv Hv'->D.ct σ H'
def AS(M:Nat->Bool)(κ:Kd)(t:TS)(m:Mi.S):Prop:=∀H0 Hv0 e σ H Hv D,R1 M H0 Hv0 e σ H Hv->Fin (m e) (iK M κ H0 Hv0 D Hv)->t D σ H
section
variable{M:Nat->Bool}{κ:Kd}{t u:TS}{m n:Mi.S}{te:TE}{a b:Mi.E}{w:Mi.EW}
theorem d8:AS M κ tp Mi.bU:=λH0 Hv0 e σ H Hv D I h=>h σ H Hv I (cy.refl _)
theorem Es:AS M κ E1 Mi.rf:=λH0 Hv0 e σ H Hv D I h=>h
theorem a7(h1:AS M κ t m)(h2:AS M κ u n):AS M κ (ku t u) (Mi.aM m n):=λH0 Hv0 e σ H Hv D I h=>
 h1 H0 Hv0 e σ H Hv _ I ((aA.mp h).mono λo ho=>by
  cases o with
  |nx e'=>exactλσ' H' Hv' I' s=>h2 H0 Hv0 e' σ' H' Hv' D I' (Fin.mono ho λo z=>by
   cases o with
   |nx e2=>exactλσ2 H2 Hv2 I2 s2=>z σ2 H2 Hv2 I2 (s.trans s2)
   |rt w=>exact z
   |bk e2=>exactλσ2 H2 Hv2 I2 s2=>z σ2 H2 Hv2 I2 (s.trans s2)
   |ct e2=>exactλσ2 H2 Hv2 I2 s2=>z σ2 H2 Hv2 I2 (s.trans s2))
  |rt w=>exact ho
  |bk e'=>exact ho
  |ct e'=>exact ho)
theorem nF(ha:AE M qP te a):AS M κ (lw te) (Mi.fZ a):=λH0 Hv0 e σ H Hv D I h=>
 ha e σ H Hv _ I.toR0 ((aA.mp h).mono λd hd v H1 Hv1 g1 r=>hd σ H1 Hv1 (I.grow g1) g1.vis)
theorem dG(i:Nat)(hm:M i=false)(ha:AE M qV te a):AS M κ (gI te (eS i)) (Mi.bF i a):=λH0 Hv0 e σ H Hv D I h=>
 ha e σ H Hv _ I.toR0 ((aA.mp h).mono λd hd v H1 Hv1 g1 r=>hd _ H1 Hv1 ((I.grow g1).set hm r) g1.vis)
theorem Kt(i:Nat)(hm:M i=false)(ha:AW M qV te w):AS M κ (gI te (eS i)) (Mi.jt i w):=λH0 Hv0 e σ H Hv D I h=>
 ha e σ H Hv _ I.toR0 ((aA.mp h).mono λd hd v H1 Hv1 g1 r=>hd _ H1 Hv1 ((I.grow g1).set hm r) g1.vis)
theorem u7{K:aP}(tg:Tg)(hm:∀i∈oQ tg,M i=false)(ha:AE M qV te a):AS M κ (gI te (sF K tg)) (Mi.nH tg a):=λH0 Hv0 e σ H Hv D I h=>
 ha e σ H Hv _ I.toR0 ((aA.mp h).mono λd hd v H1 Hv1 g1 r=>
  u0 (P:=λe1 σ1=>R1 M H0 Hv0 e1 σ1 H1 Hv1) g1.vw (λj hj e1 σ1 d1 v1 r1 z=>r1.set (hm j hj) z) (I.grow g1) r ((aA.mp hd).mono λe1 h1 σ1 I1=>h1 σ1 H1 Hv1 I1 g1.vis))
theorem dh(ha:AW M qV te w):AS M qV (pJ te) (Mi.bp w):=λH0 Hv0 e σ H Hv D I h=>
 ha e σ H Hv _ I.toR0 ((aA.mp h).mono λd hd v H1 Hv1 g1 r=>hd v H1 Hv1 (I.gw.trans g1) r)
theorem jA(ha:AW M qN te w):AS M qN (pJ te) (Mi.bp w):=λH0 Hv0 e σ H Hv D I h=>
 ha e σ H Hv _ I.toR0 ((aA.mp h).mono λd hd v H1 Hv1 g1 r=>hd v H1 Hv1 (I.gw.trans g1) (KM.mono (κ:=qN) I.gw.old r))
theorem dX{tt:TT}{c:Mi.C}(hc:AT M tt c)(h1:AS M κ t m)(h2:AS M κ u n):AS M κ (qX tt t u) (Mi.bI c m n):=λH0 Hv0 e σ H Hv D I h=>
 hc e σ H Hv _ I.toR0 ((aA.mp h).mono λb hb H1 Hv1 g1=>by
  have up:∀o,iK M κ H0 Hv0 D Hv o->iK M κ H0 Hv0 D Hv1 o:=λo z=>by
   cases o with
   |nx e2=>exactλσ2 H2 Hv2 I2 s2=>z σ2 H2 Hv2 I2 (g1.vis.trans s2)
   |rt w=>exact z
   |bk e2=>exactλσ2 H2 Hv2 I2 s2=>z σ2 H2 Hv2 I2 (g1.vis.trans s2)
   |ct e2=>exactλσ2 H2 Hv2 I2 s2=>z σ2 H2 Hv2 I2 (g1.vis.trans s2)
  cases b with
  |true=>exact kA (h1 H0 Hv0 e σ H1 Hv1 D (I.grow g1) (Fin.mono (Mi.jO hb) up))
  |false=>exact kn (h2 H0 Hv0 e σ H1 Hv1 D (I.grow g1) (Fin.mono (Mi.jG hb) up)))
theorem iK.up{H0 Hv0 Hv Hv1:Hp}{D:Ends}(s:cy Hv Hv1){o:Out}(z:iK M κ H0 Hv0 D Hv o):iK M κ H0 Hv0 D Hv1 o:=by
 cases o with
 |nx e2=>exactλσ2 H2 Hv2 I2 s2=>z σ2 H2 Hv2 I2 (s.trans s2)
 |rt w=>exact z
 |bk e2=>exactλσ2 H2 Hv2 I2 s2=>z σ2 H2 Hv2 I2 (s.trans s2)
 |ct e2=>exactλσ2 H2 Hv2 I2 s2=>z σ2 H2 Hv2 I2 (s.trans s2)
theorem gX{K:aP}{wi:TI}{it:Mi.I}{tg:Tg}(hi:fm M wi it)(hm:∀i∈oQ tg,M i=false)(hb:AS M κ t m):AS M κ (uT wi (sF K tg) t) (Mi.dY it tg m):=λH0 Hv0 e σ H Hv D I h=>
 hi e σ H Hv _ I.toR0 ((aA.mp h).mono λds h1 J H1 Hv1 P g1 O p1 per=>by
  refine⟨λi k σ' H'=>k=ds.length-i/\i<=ds.length/\∃e' Hv',R1 M H0 Hv0 e' σ' H' Hv'/\P H' Hv'/\Fin (Mi.jj tg m (ds.drop i) e') (iK M κ H0 Hv0 D Hv'),
   ⟨ds.length,by simp,fI _,e,Hv1,I.grow g1,p1,by rw[mR];exact h1.mono λo z=>z.up g1.vis⟩,?_⟩
  rintro i k σ' H' ⟨rfl,hle,e',Hv',I',pp,hf⟩;by_cases hlt:i<ds.length
  ·refine .inr ⟨O.go i H' Hv' pp I'.vw hlt,λσ2 H2=>∃e2 Hv2,R1 M H0 Hv0 e2 σ2 H2 Hv2/\P H2 Hv2/\Fin (Mi.jj tg m (ds.drop (i+1)) e2) (iK M κ H0 Hv0 D Hv2),
    λσ2 H2 z=>⟨ds.length-(i+1),by omega,rfl,hlt,z⟩,λx H2 y=>?_⟩
   obtain⟨Hv2,d,g2,hd,rx⟩:=O.yld i H' Hv' x H2 pp I'.vw hlt y;have I2:=I'.grow g2;have hdr:ds.drop i=d::ds.drop (i+1):=by obtain⟨hl,e1⟩:=b9.mp hd;rw[oh hl,e1]
   rw[hdr]at hf;refine u0 (P:=λe1 σ1=>R1 M H0 Hv0 e1 σ1 H2 Hv2) g2.vw (λj hj e1 σ1 d1 v1 r1 z=>r1.set (hm j hj) z) I2 rx ((aA.mp hf).mono λe1 h1 σ1 I1=>?_);refine hb H0 Hv0 e1 σ1 H2 Hv2 _ I1 ((aA.mp h1).mono λo ho=>?_);cases o with
   |nx e2=>exactλσ2 H3 Hv3 I3 s3=>⟨e2,Hv3,I3,per _ _ _ _ pp (g2.vis.trans s3) I3.vw,Fin.mono ho λo z=>z.up (g2.vis.trans s3)⟩
   |ct e2=>exactλσ2 H3 Hv3 I3 s3=>⟨e2,Hv3,I3,per _ _ _ _ pp (g2.vis.trans s3) I3.vw,Fin.mono ho λo z=>z.up (g2.vis.trans s3)⟩
   |bk e2=>exactλσ2 H3 Hv3 I3 s3=>ho σ2 H3 Hv3 I3 (g2.vis.trans s3)
   |rt w=>exact ho
  ·have hi:i=ds.length:=by omega
   subst hi;refine .inl ⟨O.stop H' Hv' pp I'.vw,?_⟩;rw[qc (bv _)]at hf;exact hf σ' H' Hv' I' (cy.refl _))
theorem t5{tt:TT}{c:Mi.C}(k:Nat)(hc:AT M tt c)(hb:AS M κ t m):AS M κ (Fh tt t) (Mi.iI k c m):=λH0 Hv0 e σ H Hv D I h=>by
 refine⟨λj σ' H'=>∃e' Hv',R1 M H0 Hv0 e' σ' H' Hv'/\Fin (Mi.gp c m j e') (iK M κ H0 Hv0 D Hv'),⟨k,e,Hv,I,h⟩,?_⟩;rintro j σ' H' ⟨e',Hv',I',hf⟩;cases j with
 |zero=>exact hf.elim
 |succ j=>
  refine hc e' σ' H' Hv' _ I'.toR0 ((aA.mp hf).mono λb hb' H1 Hv1 g1=>?_);cases b with
  |false=>exact kn ((Mi.nZ (Mi.jG hb')) σ' H1 Hv1 (I'.grow g1) g1.vis)
  |true=>
   refine kA ⟨λσ2 H2=>∃e2 Hv2,R1 M H0 Hv0 e2 σ2 H2 Hv2/\Fin (Mi.gp c m j e2) (iK M κ H0 Hv0 D Hv2),λσ2 H2 z=>⟨j,Ae j,z⟩,?_⟩;refine hb H0 Hv0 e' σ' H1 Hv1 _ (I'.grow g1) ((aA.mp (Mi.jO hb')).mono λo ho=>?_);cases o with
   |nx e2=>exactλσ2 H2 Hv2 I2 s2=>⟨e2,Hv2,I2,Fin.mono ho λo z=>z.up (g1.vis.trans s2)⟩
   |ct e2=>exactλσ2 H2 Hv2 I2 s2=>⟨e2,Hv2,I2,Fin.mono ho λo z=>z.up (g1.vis.trans s2)⟩
   |bk e2=>exactλσ2 H2 Hv2 I2 s2=>ho σ2 H2 Hv2 I2 (g1.vis.trans s2)
   |rt w=>exact ho
end
end A
namespace A
open PySem L2 PyProof.Rows
open Mi (D W Rs Fin aA Out Tg)
variable[Tb:bD]
section
variable{M:Nat->Bool}{κ:Kd}{te:TE}{a b:Mi.E}{w:Mi.EW}{K:aP}
theorem R1.write{H0 Hv0:Hp}{e:Mi.Env}{σ:L2.St}{H Hv:Hp}(I:R1 M H0 Hv0 e σ H Hv){i:Nat}{w w':W}{p:ag}{o:HO}(hm:M i=true)(he:e[i]? = ab (ab w))(hs:σ[i]? = ab (ab (.ref p)))(c:dW Hv w' o):R1 M H0 Hv0 (e.set i (ab w')) σ (upd H p o) Hv:=by
 have hp:∃o',H p=ab o'/\Hv p=ac/\qF o':=by obtain⟨v,q,a,o',e1,q1,n,c'⟩:=I.own i w he hm;rw[hs]at q;cases q;cases e1;exact⟨o',q1,n,c'.Ci⟩
 obtain⟨o',hp,hn,hcc⟩:=hp;have h0:H0 p=ac:=I.fresh i w p he hm hs;have vw:Vw (upd H p o) Hv:=by
  refine⟨λb u q=>?_,λb xs q=>?_,λb z u q=>?_,I.vw.cd.put hp hcc c.nw,I.vw.nv⟩
  ·rw[aL (cz q hn)];exact I.vw.sub b u q
  ·by_cases hb:b=p
   ·subst hb;rw[bt]at q;cases q;exact c.cell.elim
   ·rw[aL hb]at q;exact I.vw.tup b xs q
  ·by_cases hb:b=p
   ·subst hb;rw[bt]at q;cases q;exact c.cell.elim
   ·rw[aL hb]at q;exact I.vw.frz b z u q
 have get:∀{j:Nat} {w2:W},(e.set i (ab w'))[j]? = ab (ab w2)->(i=j/\w'=w2)\/(i≠j/\e[j]? = ab (ab w2)):=λ{j w2} h=>by
  rcases jJ h with ⟨x,y,_⟩|z
  ·exact .inl ⟨x,fh y⟩
  ·exact .inr z
 have get':∀{j:Nat} {w2:W},(e.set i (ab w'))[j]? = ab (ab w2)->∃w3,e[j]? = ab (ab w3):=λ{j w2} h=>by
  rcases get h with ⟨x,_⟩|⟨_,z⟩
  ·subst x;exact⟨w,he⟩
  ·exact⟨w2,z⟩
 refine⟨⟨vw,by rw[gH];exact I.len,λj w2 h m=>?_,λj w2 h m=>?_⟩,⟨I.gw.old.put h0 hp,I.gw.vis,vw,I.gw.hid⟩,λj w2 x h m q=>?_,λj k w1 w2 x y hjk h1 h2 m1 m2 q1 q2=>?_⟩
 ·rcases get h with ⟨rfl,_⟩|⟨_,z⟩
  ·rw[hm]at m;cases m
  ·exact I.nob j w2 z m
 ·rcases get h with ⟨rfl,rfl⟩|⟨n,z⟩
  ·exact⟨.ref p,hs,p,o,rfl,bt,hn,c⟩
  ·obtain⟨v,q,x,u,e1,q1,n1,c1⟩:=I.own j w2 z m;subst e1;have:=I.sep i j w w2 p x n he z hm m hs q;exact⟨.ref x,q,x,u,rfl,by rw[aL (cY this)];exact q1,n1,c1⟩
 ·obtain⟨w3,z⟩:=get' h;exact I.fresh j w3 x z m q
 ·obtain⟨w3,z3⟩:=get' h1;obtain⟨w4,z4⟩:=get' h2;exact I.sep j k w3 w4 x y hjk z3 z4 m1 m2 q1 q2
theorem R1.cell{H0 Hv0:Hp}{e:Mi.Env}{σ:L2.St}{H Hv:Hp}(I:R1 M H0 Hv0 e σ H Hv){i:Nat}{w:W}(hm:M i=true)(he:e[i]? = ab (ab w)):∃p o,σ[i]? = ab (ab (.ref p))/\H p=ab o/\Hv p=ac/\H0 p=ac/\dW Hv w o:=by obtain⟨v,q,p,o,rfl,q1,n,c⟩:=I.own i w he hm;exact⟨p,o,q,q1,n,I.fresh i w p he hm q,c⟩
theorem nY{e:Mi.Env}{i:Nat}{k:List D->Prop}(h:Fin (Mi.getL e i) k):∃ds,e[i]? = ab (ab (.d (.lst ds)))/\k ds:=by
 unfold Mi.getL at h;split at h
 ·exact⟨_,‹_›,h⟩
 ·exact h.elim
theorem R1.list{H0 Hv0:Hp}{e:Mi.Env}{σ:L2.St}{H Hv:Hp}(I:R1 M H0 Hv0 e σ H Hv){i:Nat}{ds:List D}(hm:M i=true)(he:e[i]? = ab (ab (.d (.lst ds)))):∃p xs,σ[i]? = ab (ab (.ref p))/\H p=ab (.lst xs)/\Hv p=ac/\P2 (Rep Hv) ds xs:=by
 obtain⟨p,o,q,q1,n,_,c⟩:=I.cell hm he;cases o with
 |lst xs=>exact⟨p,xs,q,q1,n,c⟩
 |_=>exact c.elim
theorem R1.name{H0 Hv0:Hp}{e:Mi.Env}{σ:L2.St}{H Hv H1 Hv1:Hp}(I:R1 M H0 Hv0 e σ H Hv)(g:bi H Hv H1 Hv1){i:Nat}{w:W}{v:V}(hm:M i=true)(k:qN H H1 Hv1 w v):R1 M H0 Hv0 (e.set i (ab w)) (σ.set i (ab v)) H1 Hv1:=by
 obtain⟨p,o,rfl,hf,hp,hn,c⟩:=k;have I1:=I.grow g;have other:∀{j:Nat} {w2:W} {x:ag},e[j]? = ab (ab w2)->M j=true->σ[j]? = ab (ab (.ref x))->x≠p:=λ{j w2 x} h m q=>by
  obtain⟨p',o',q',q1,_⟩:=I.cell m h;rw[q]at q';cases q';exact cz q1 hf
 refine⟨⟨I1.vw,by rw[gH,gH];exact I.len,λj w2 h m=>?_,λj w2 h m=>?_⟩,I1.gw,λj w2 x h m q=>?_,λj k w1 w2 x y hjk h1 h2 m1 m2 q1 q2=>?_⟩
 ·rcases jJ h with ⟨rfl,_⟩|⟨n,z⟩
  ·rw[hm]at m;cases m
  ·obtain⟨u,q,r⟩:=I1.nob j w2 z m;exact⟨u,by rw[eE n];exact q,r⟩
 ·rcases jJ h with ⟨rfl,h,l⟩|⟨n,z⟩
  ·cases h;exact⟨.ref p,by rw[jo (by rw[I.len];exact l)],p,o,rfl,hp,hn,c⟩
  ·obtain⟨u,q,r⟩:=I1.own j w2 z m;exact⟨u,by rw[eE n];exact q,r⟩
 ·rcases jJ h with ⟨rfl,h,l⟩|⟨n,z⟩
  ·rw[jo (by rw[I.len];exact l)]at q;cases q;exact I.gw.old.free hf
  ·rw[eE n]at q;exact I.fresh j w2 x z m q
 ·rcases jJ h1 with ⟨rfl,_,l⟩|⟨n,z⟩
  ·rw[jo (by rw[I.len];exact l)]at q1;cases q1;rcases jJ h2 with ⟨rfl,_,_⟩|⟨n2,z2⟩
   ·exact absurd rfl hjk
   ·rw[eE n2]at q2;exact cY (other z2 m2 q2)
  ·rw[eE n]at q1;rcases jJ h2 with ⟨rfl,_,l⟩|⟨n2,z2⟩
   ·rw[jo (by rw[I.len];exact l)]at q2;cases q2;exact other z m1 q1
   ·rw[eE n2]at q2;exact I.sep j k w1 w2 x y hjk z z2 m1 m2 q1 q2
theorem jw(i:Nat)(hm:M i=true)(ha:AE M qN te a):AS M κ (gI te (eS i)) (Mi.bF i a):=λH0 Hv0 e σ H Hv D I h=>
 ha e σ H Hv _ I.toR0 ((aA.mp h).mono λd hd v H1 Hv1 g1 r=>hd _ H1 Hv1 (I.name g1 hm r) g1.vis)
theorem yB(i:Nat)(hm:M i=true)(ha:AW M qN te w):AS M κ (gI te (eS i)) (Mi.jt i w):=λH0 Hv0 e σ H Hv D I h=>
 ha e σ H Hv _ I.toR0 ((aA.mp h).mono λd hd v H1 Hv1 g1 r=>hd _ H1 Hv1 (I.name g1 hm r) g1.vis)
theorem Py:AW M qN FC (λ_=>.ok (.dk [])):=λe σ H Hv Q I h p hp=>
 h _ _ Hv (.nr I.vw trivial hp) ⟨p,.dK [],rfl,hp,bt,l5 I.vw hp,.nil⟩
theorem NM:AW M qN DO (λ_=>.ok (.dt [])):=λe σ H Hv Q I h p hp=>
 h _ _ Hv (.nr I.vw trivial hp) ⟨p,.dT [],rfl,hp,bt,l5 I.vw hp,.nil⟩
theorem lI(i:Nat)(hm:M i=true)(ha:AE M qV te a):AS M κ (lw (oK K "list" wP (dB i) (fR te gU))) (Mi.c5 i a):=λH0 Hv0 e σ H Hv D I h=>by
 obtain⟨d,hd,h⟩:=jd (aA.mp h);obtain⟨ds,he,h⟩:=nY (aA.mp h);obtain⟨hz,h⟩:=Mi.cq h;obtain⟨p,xs,q,q1,n,c⟩:=I.list hm he;refine⟨.ref p,q,.inl ⟨rfl,xs,.inl (.inl q1)⟩,ha e σ H Hv _ I.toR0 (by
  rw[hd];intro v H1 Hv1 g1 r;have I1:=I.grow g1;refine⟨p,xs,v,rfl,rfl,g1.old.at q1,by rw[<- c.len,eh];exact hz,?_⟩;exact h σ _ Hv1 (I1.write hm he q (show dW Hv1 (.d (.lst (ds++[d]))) (.lst (xs++[v]))from(d9 g1.vis c).append (.cons r .nil))) g1.vis)⟩
theorem JY(i:Nat)(hm:M i=true):AS M κ (lw (ny K "list" FP (dB i))) (Mi.xC i):=λH0 Hv0 e σ H Hv D I h=>by
 obtain⟨ds,he,h⟩:=nY (aA.mp h);obtain⟨p,xs,q,q1,n,c⟩:=I.list hm he;exact⟨.ref p,q,.inl ⟨rfl,xs,.inl (.inl q1)⟩,p,xs,rfl,rfl,q1,h σ _ Hv (I.write hm he q (show dW Hv (.d (.lst ds.reverse)) (.lst xs.reverse)from c.rev)) (cy.refl _)⟩
theorem gV{α:Type}{o:Option α}{k:α->Prop}(h:Fin (Mi.cJ o) k):∃x,o=ab x/\k x:=by
 cases o with
 |some x=>exact⟨x,rfl,h⟩
 |none=>exact h.elim
theorem Pt(x y:Nat)(hx:M x=false)(hy:M y=true):AS M κ (gI (ny K "list" Bs (dB y)) (eS x)) (Mi.vy x y):=λH0 Hv0 e σ H Hv D I h=>by
 obtain⟨ds,he,h⟩:=nY (aA.mp h);obtain⟨d,hd,h⟩:=gV (aA.mp h);obtain⟨p,xs,q,q1,n,c⟩:=I.list hy he;rw[c.len]at hd;obtain⟨v,hv,r⟩:=c.getL hd;exact⟨.ref p,q,.inl ⟨rfl,xs,.inl (.inl q1)⟩,p,xs,v,rfl,rfl,q1,hv,h _ _ Hv ((I.write hy he q (show dW Hv (.d (.lst ds.dropLast)) (.lst xs.dropLast)from c.dropLast)).set hx r) (cy.refl _)⟩
theorem DR{n:Nat}{i:Int}{k:Nat}(h:Mi.eg n i=ab k):seqIndex? i n=ab k:=by
 unfold Mi.eg at h;split at h
 ·split at h
  ·rw[wc (by omega) (by omega)];exact h
  ·cases h
 ·split at h
  ·rw[wb (by omega) (by omega)];exact h
  ·cases h
theorem C9{ds:List D}{i:Int}{k:D×List D->Prop}(h:Fin (Mi.jz ds i) k):-(2 ^ 63)<=i/\i<2 ^ 63/\∃j d,Mi.eg ds.length i=ab j/\ds[j]? = ab d/\k (d,ds.eraseIdx j):=by obtain⟨⟨h1,h2⟩,h⟩:=Mi.cq h;obtain⟨j,hj,h⟩:=gV (aA.mp h);obtain⟨d,hd,h⟩:=gV (aA.mp h);exact⟨h1,h2,j,d,hj,hd,h⟩
theorem za(x y:Nat)(hx:M x=false)(hy:M y=true)(ha:AE M qP te a):AS M κ (gI (oK K "list" wR (dB y) (fR te gU)) (eS x)) (Mi.iu x y a):=λH0 Hv0 e σ H Hv D I h=>by
 obtain⟨z,hz,h⟩:=jd (aA.mp h);obtain⟨i,rfl,h⟩:=nO (aA.mp h);obtain⟨ds,he,h⟩:=nY (aA.mp h);obtain⟨h1,h2,j,d,hj,hd,h⟩:=C9 (aA.mp h);obtain⟨p,xs,q,q1,n,c⟩:=I.list hy he;refine⟨.ref p,q,.inl ⟨rfl,xs,.inl (.inl q1)⟩,ha e σ H Hv _ I.toR0 (by
  rw[hz];intro v H1 Hv1 g1 r;have I1:=I.grow g1;cases RD.int r;obtain⟨u,hu,ru⟩:=c.getL hd;rw[c.len]at hj;refine⟨p,xs,i,j,u,rfl,rfl,g1.old.at q1,h1,h2,DR hj,hu,?_⟩;exact h _ _ Hv1 ((I1.write hy he q (show dW Hv1 (.d (.lst (ds.eraseIdx j))) (.lst (xs.eraseIdx j))from(d9 g1.vis c).erase j)).set hx (gC g1.vis ru)) g1.vis)⟩
theorem Ov(x y:Nat)(hxy:x≠y)(hx:M x=true)(hy:M y=true)(ha:AE M qP te a):AS M κ (lw (oK K "list" wP (dB x) (fR (oK K "list" wR (dB y) (fR te gU)) gU))) (Mi.uo x y a):=λH0 Hv0 e σ H Hv D I h=>by
 obtain⟨z,hz,h⟩:=jd (aA.mp h);obtain⟨i,rfl,h⟩:=nO (aA.mp h);obtain⟨ds,he,h⟩:=nY (aA.mp h);obtain⟨h1,h2,j,d,hj,hd,h⟩:=C9 (aA.mp h);obtain⟨es,he2,h⟩:=nY (aA.mp h);obtain⟨hsz,h⟩:=Mi.cq h;have Hr:e[x]? = ab (ab (.d (.lst es))):=by
  have he2:(e.set y (ab (.d (.lst (ds.eraseIdx j)))))[x]? = _:=he2
  rwa [eE (cY hxy)]at he2
 obtain⟨p,xs,q,q1,n,c⟩:=I.list hy he;obtain⟨p',xs',q',q1',n',c'⟩:=I.list hx Hr;have hpp:p'≠p:=I.sep x y _ _ p' p hxy Hr he hx hy q' q;refine⟨.ref p',q',.inl ⟨rfl,xs',.inl (.inl q1')⟩,.ref p,q,.inl ⟨rfl,xs,.inl (.inl q1)⟩,ha e σ H Hv _ I.toR0 (by
  rw[hz];intro v H1 Hv1 g1 r;have I1:=I.grow g1;cases RD.int r;obtain⟨u,hu,ru⟩:=c.getL hd;rw[c.len]at hj;refine⟨p,xs,i,j,u,rfl,rfl,g1.old.at q1,h1,h2,DR hj,hu,?_⟩;have I2:=I1.write hy he q (show dW Hv1 (.d (.lst (ds.eraseIdx j))) (.lst (xs.eraseIdx j))from(d9 g1.vis c).erase j);refine⟨p',xs',u,rfl,rfl,by rw[aL hpp];exact g1.old.at q1',by rw[<- c'.len,eh];exact hsz,?_⟩;exact h σ _ Hv1 (I2.write hx he2 q' (show dW Hv1 (.d (.lst (es++[d]))) (.lst (xs'++[u]))from(d9 g1.vis c').append (.cons (gC g1.vis ru) .nil))) g1.vis)⟩
theorem Kl{tk:TE}{k:Mi.E}(x:Nat)(hx:M x=true)(ha:AE M qV te a)(hk:AE M qP tk k):AS M κ (gI te (BF (dB x) tk ED)) (Mi.sH x k a):=λH0 Hv0 e σ H Hv D I h=>by
 obtain⟨d,hd,h⟩:=jd (aA.mp h);obtain⟨z,hz,h⟩:=jd (aA.mp h);obtain⟨i,rfl,h⟩:=nO (aA.mp h);obtain⟨ds,he,h⟩:=nY (aA.mp h);obtain⟨j,hj,h⟩:=gV (aA.mp h);obtain⟨p,xs,q,q1,n,c⟩:=I.list hx he;refine ha e σ H Hv _ I.toR0 (by
  rw[hd];intro v H1 Hv1 g1 r;refine⟨.ref p,q,hk e σ H1 Hv1 _ (I.toR0.grow g1) (by
   rw[hz];intro v2 H2 Hv2 g2 r2;cases RD.int r2;have I2:=(I.grow g1).grow g2;rw[c.len]at hj;refine⟨p,xs,i,j,rfl,rfl,g2.old.at (g1.old.at q1),hj,?_⟩;exact h σ _ Hv2 (I2.write hx he q (show dW Hv2 (.d (.lst (ds.set j d))) (.lst (xs.set j v))from P2.set (gC g2.vis r) j (d9 (g1.trans g2).vis c))) (g1.trans g2).vis)⟩)
theorem sr(i:Nat)(hm:M i=true):AS M qN (pJ (dB i)) (Mi.bp (Mi.wV i)):=λH0 Hv0 e σ H Hv D I h=>by
 obtain⟨w,he,h⟩:=nk (aA.mp h);obtain⟨p,o,q,q1,n,h0,c⟩:=I.cell hm he;exact⟨.ref p,q,h _ H Hv I.gw ⟨p,o,rfl,h0,q1,n,c⟩⟩
theorem R1.Jr{H0 Hv0:Hp}{e:Mi.Env}{σ:L2.St}{H Hv:Hp}(I:R1 M H0 Hv0 e σ H Hv){y:Nat}{w:W}(hy:M y=true)(he:e[y]? = ab (ab w)):∃p Hv',σ[y]? = ab (ab (.ref p))/\R1 M H0 Hv0 (e.set y ac) σ H Hv'/\cy Hv Hv'/\fL Hv' w (.ref p):=by
 obtain⟨p,o,q,q1,n,h0,c⟩:=I.cell hy he;obtain⟨vw,s⟩:=I.vw.show q1 n c.nt;have nj:∀{j:Nat} {w':W},(e.set y ac)[j]? = ab (ab w')->y≠j/\e[j]? = ab (ab w'):=λ{j w'} h=>by
  rcases jJ h with ⟨_,h,_⟩|z
  ·cases h
  ·exact z
 refine⟨p,upd Hv p o,q,⟨⟨vw,by rw[gH];exact I.len,λj w' h m=>?_,λj w' h m=>?_⟩,⟨I.gw.old,I.gw.vis.trans s,vw,λb u z1 z2=>?_⟩,λj w' x h m z=>?_,λj k w1 w2 x z hjk h1 h2 m1 m2 z1 z2=>?_⟩,s,ve bt (c.same s)⟩
 ·obtain⟨_,h⟩:=nj h;obtain⟨v,z,r⟩:=I.nob j w' h m;exact⟨v,z,pB s r⟩
 ·obtain⟨hne,h⟩:=nj h;obtain⟨v,z,x,u,e1,q2,n2,c2⟩:=I.own j w' h m;subst e1;have:=I.sep y j w w' p x hne he h hy m q z;exact⟨.ref x,z,x,u,rfl,q2,by rw[aL (cY this)];exact n2,c2.same s⟩
 ·rw[aL (cz z1 h0)];exact I.gw.hid b u z1 z2
 ·exact I.fresh j w' x (nj h).2 m z
 ·exact I.sep j k w1 w2 x z hjk (nj h1).2 (nj h2).2 m1 m2 z1 z2
theorem xt{κ':Type}[DecidableEq κ']{H:Hp}{k:κ'}{ao:List (κ'×D)}{kv:List (κ'×V)}(h:eI H ao kv):match Mi.gK ao k with
 |some d=>∃v,gQ kv k=ab v/\Rep H d v
 |none=>gQ kv k=ac:=by
 unfold Mi.gK gQ
 induction h with
 |nil=>rfl
 | @cons p q l m hpq t ih=>
  rw[jU,jU,hpq.1];by_cases hk:q.1=k
  ·rw[bW hk];exact⟨q.2,rfl,hpq.2⟩
  ·rw[cE hk];exact ih
theorem FE{κ':Type}[DecidableEq κ']{H:Hp}{k:κ'}{d:D}{v:V}(r:Rep H d v){ao:List (κ'×D)}{kv:List (κ'×V)}(h:eI H ao kv):eI H (Mi.putK k d ao) (L2.putK kv k v):=by
 have e:(ao.any λx=>decide (x.1=k))=(kv.any λx=>decide (x.1=k)):=by
  induction h with
  |nil=>rfl
  | @cons p q l m hpq t ih=>rw[iV,iV,ih,hpq.1]
 unfold Mi.putK L2.putK;rw[e];split
 ·rename_i hh;clear hh e
  induction h with
  |nil=>exact .nil
  | @cons p q l m hpq t ih=>
   rw[cG,cG];refine .cons ?_ ih
   ·by_cases hk:q.1=k
    ·rw[a9 hk,a9 (hpq.1.trans hk)];exact⟨hpq.1,r⟩
    ·rw[ba hk,ba (λz=>hk (hpq.1.symm.trans z))];exact hpq
 ·exact P2.append h (.cons ⟨rfl,r⟩ .nil)
end
end A
namespace A
open PySem L2 PyProof.Rows
open Mi (D W Rs Fin aA Out Tg)
variable[Tb:bD]
section
variable{X:Cx}{K:aP}
def IF:R2:=λx y H Q=>∃i j,x=.str i/\y=.str j/\i.length+j.length<=sizeLine/\Q (.str (i++j)) H
theorem rR{af:List (ag×Obj)}{σ:L2.St}{H:Hp}{s:aw}{a:ag}{xs:List V}(I:Inv X af σ H s)(h:Lst H a xs):∃(aq:List ah) (n:Nat),Vals xs aq/\xs.length<=sizeLine/\s.heap.get? a=ab { cls:=.type "list", data:=.seq aq.toArray n }:=by
 rcases h with h|⟨o,h⟩
 ·obtain⟨z,aq,n,r,e⟩:=I.hok a _ h;exact⟨aq,n,r,z,e⟩
 ·obtain⟨_,z,aq,n,r,e⟩:=I.hok a _ h;exact⟨aq,n,r,z,e⟩
def yz:R2:=λx y H Q=>∃l b xs zs,x=.ref l/\y=.ref b/\Lst H l xs/\Lst H b zs/\xs.length+zs.length<=sizeLine/\∀p,H p=ac->Q (.ref p) (upd H p (.lst (xs++zs)))
theorem Ef:ce X (binaryOp .Add) yz:=by
 intro af s σ H x y v u Q I rx ry h;obtain⟨l,b,xs,zs,rfl,rfl,hH,hB,hz,q⟩:=h;cases rx;cases ry;obtain⟨aq,n,r,z,e⟩:=rR I hH;obtain⟨its2,n2,r2,z2,e2⟩:=rR I hB;have hl:=r.length;have hl2:=r2.length;refine PySem.P.add_list e e2 ?_ (by rw[cS,cS];omega);have ea:aq.toArray++its2.toArray=(aq++its2).toArray:=by simp
 rw[ea];exact⟨.ref _,_,I.JL (t':=s.toks) (r.append r2) (by rw[cF];omega),rfl,q _ I.fresh⟩
def CB:R2:=λx y H Q=>kz (λi j=>.int (i+j)) x y H Q\/IF x y H Q\/yz x y H Q
theorem dQ:ce X (binaryOp .Add) CB:=Nq.or (ce.or Lc Ef)
theorem uA{H Hv:Hp}(vw:Vw H Hv){ds:List D}{xs:List V}(r:P2 (Rep Hv) ds xs){p:ag}(hp:H p=ac):bi H Hv (upd H p (.lst xs)) Hv/\qN H (upd H p (.lst xs)) Hv (.d (.lst ds)) (.ref p):=⟨.nr vw trivial hp,p,.lst xs,rfl,hp,bt,l5 vw hp,r⟩
theorem FV{H Hv:Hp}(vw:Vw H Hv){ds:List D}{xs:List V}(r:P2 (Rep Hv) ds xs){p:ag}(hp:H p=ac):bi H Hv (upd H p (.lst xs)) (upd Hv p (.lst xs))/\qV H (upd H p (.lst xs)) (upd Hv p (.lst xs)) (.d (.lst ds)) (.ref p):=by have g:bi H Hv (upd H p (.lst xs)) (upd Hv p (.lst xs)):=.new vw hp;exact⟨g,iU.mpr ⟨p,xs,rfl,.inl bt,d9 g.vis r⟩⟩
theorem xo{H Hv:Hp}(vw:Vw H Hv){ds:List D}{xs:List V}(r:P2 (Rep Hv) ds xs){p:ag}(hp:H p=ac):bi H Hv (upd H p (.tup xs)) (upd Hv p (.tup xs))/\qV H (upd H p (.tup xs)) (upd Hv p (.tup xs)) (.d (.tup ds)) (.ref p):=by have g:bi H Hv (upd H p (.tup xs)) (upd Hv p (.tup xs)):=.new vw hp;exact⟨g,ia.mpr ⟨p,xs,rfl,bt,d9 g.vis r⟩⟩
theorem dN:B2 qV CB Mi.bn:=λx y v u H Hv Q vw rx ry h=>by
 cases x with
 | int i=>cases y with
  |int j=>cases RD.int rx;cases RD.int ry;exact .inl ⟨i,j,rfl,rfl,h _ H Hv (.refl vw) iP⟩
  |_=>exact h.elim
 | str i=>cases y with
  |str j=>
   cases RD.str rx;cases RD.str ry;obtain⟨hz,h⟩:=Mi.cq h;exact .inr (.inl ⟨i,j,rfl,rfl,by rw[eh];exact hz,h _ H Hv (.refl vw) sQ⟩)
  |_=>exact h.elim
 | lst a=>cases y with
  |lst b=>
   obtain⟨hz,h⟩:=Mi.cq h;obtain⟨p,xs,rfl,l1,r1⟩:=RD.lst vw rx;obtain⟨q,ys,rfl,l2,r2⟩:=RD.lst vw ry;refine .inr (.inr ⟨p,q,xs,ys,rfl,rfl,l1,l2,by rw[<- r1.len,<- r2.len,eh];exact hz,λa ha=>?_⟩);obtain⟨g,k⟩:=FV vw (r1.append r2) ha;exact h _ _ _ g k
  |_=>exact h.elim
 |_=>cases y<;>exact h.elim
theorem KO:B2 qN yz Mi.dCat:=λx y v u H Hv Q vw rx ry h=>by
 cases x with
 | lst a=>cases y with
  |lst b=>
   obtain⟨hz,h⟩:=Mi.cq h;obtain⟨p,xs,rfl,l1,r1⟩:=RD.lst vw rx;obtain⟨q,ys,rfl,l2,r2⟩:=RD.lst vw ry;refine⟨p,q,xs,ys,rfl,rfl,l1,l2,by rw[<- r1.len,<- r2.len,eh];exact hz,λa ha=>?_⟩;obtain⟨g,k⟩:=uA vw (r1.append r2) ha;exact h _ _ _ g k
  |_=>exact h.elim
 |_=>cases y<;>exact h.elim
theorem li:B2 qV (kz λi j=>.int (i-j)) Mi.dZ:=λx y v u H Hv Q vw rx ry h=>by
 cases x with
 | int i=>cases y with
  |int j=>cases RD.int rx;cases RD.int ry;exact⟨i,j,rfl,rfl,h _ H Hv (.refl vw) iP⟩
  |_=>exact h.elim
 |_=>cases y<;>exact h.elim
theorem fK:B2 qV (rI vx λi j=>.int (i*j)) Mi.bV:=λx y v u H Hv Q vw rx ry h=>by
 cases x with
 | int i=>cases y with
  |int j=>cases RD.int rx;cases RD.int ry;obtain⟨hz,h⟩:=Mi.cq h;exact⟨i,j,rfl,rfl,hz,h _ H Hv (.refl vw) iP⟩
  |_=>exact h.elim
 |_=>cases y<;>exact h.elim
theorem ik:B2 qV (rI Cq λi j=>.int (i/j)) Mi.cx:=λx y v u H Hv Q vw rx ry h=>by
 cases x with
 | int i=>cases y with
  |int j=>cases RD.int rx;cases RD.int ry;obtain⟨hz,h⟩:=Mi.cq h;exact⟨i,j,rfl,rfl,hz,h _ H Hv (.refl vw) iP⟩
  |_=>exact h.elim
 |_=>cases y<;>exact h.elim
theorem dv:B2 qV (rI (λ_ j=>0<j) λi j=>.int (i%j)) Mi.bg:=λx y v u H Hv Q vw rx ry h=>by
 cases x with
 | int i=>cases y with
  |int j=>cases RD.int rx;cases RD.int ry;obtain⟨hz,h⟩:=Mi.cq h;exact⟨i,j,rfl,rfl,hz,h _ H Hv (.refl vw) iP⟩
  |_=>exact h.elim
 |_=>cases y<;>exact h.elim
theorem Kb:B2 qV (rI Dk λi j=>.int (i ^ j.toNat)) Mi.zy:=λx y v u H Hv Q vw rx ry h=>by
 cases x with
 | int i=>cases y with
  |int j=>cases RD.int rx;cases RD.int ry;obtain⟨hz,h⟩:=Mi.cq h;exact⟨i,j,rfl,rfl,hz,h _ H Hv (.refl vw) iP⟩
  |_=>exact h.elim
 |_=>cases y<;>exact h.elim
theorem vk:B1 qV (rU λi=>.int (-i)) Mi.i7:=λx v H Hv Q vw rx h=>by
 cases x with
 |int i=>cases RD.int rx;exact⟨i,rfl,h _ H Hv (.refl vw) iP⟩
 |_=>exact h.elim
def Ej:R2:=λx y H Q=>kz (λi j=>.bl (decide (i<j))) x y H Q\/∃i j,x=.str i/\y=.str j/\Q (.bl (decide (i.cps.toList<j.cps.toList))) H
theorem nL:ce X (compareOp .Lt) Ej:=JE.or KR
def Cu:R2:=λx y H Q=>kz (λi j=>.bl (decide (j<i))) x y H Q\/∃i j,x=.str i/\y=.str j/\Q (.bl (decide (j.cps.toList<i.cps.toList))) H
theorem Er:ce X (compareOp .Gt) Cu:=M8.or K8
theorem n6:B2 qV Ej Mi.d6:=λx y v u H Hv Q vw rx ry h=>by
 cases x with
 | int i=>cases y with
  |int j=>cases RD.int rx;cases RD.int ry;exact .inl ⟨i,j,rfl,rfl,h _ H Hv (.refl vw) eX⟩
  |_=>exact h.elim
 | str i=>cases y with
  |str j=>cases RD.str rx;cases RD.str ry;exact .inr ⟨i,j,rfl,rfl,h _ H Hv (.refl vw) eX⟩
  |_=>exact h.elim
 |_=>cases y<;>exact h.elim
theorem F8:B2 qV Cu Mi.pe:=λx y v u H Hv Q vw rx ry h=>by
 cases x with
 | int i=>cases y with
  |int j=>cases RD.int rx;cases RD.int ry;exact .inl ⟨i,j,rfl,rfl,h _ H Hv (.refl vw) eX⟩
  |_=>exact h.elim
 | str i=>cases y with
  |str j=>cases RD.str rx;cases RD.str ry;exact .inr ⟨i,j,rfl,rfl,h _ H Hv (.refl vw) eX⟩
  |_=>exact h.elim
 |_=>cases y<;>exact h.elim
def vq(K:aP)(neg:Bool):R2:=λx y H Q=>∃d e,L2.Rep K H d x/\L2.Rep K H e y/\d.dep<=16/\Q (.bl (if neg then !Mi.bH d e else Mi.bH d e)) H
theorem kK:B2 qV (vq K false) Mi.dP:=λx y v u H Hv Q vw rx ry h=>by
 obtain⟨hz,h⟩:=Mi.cq h;exact⟨x,y,lp K (RD.full vw rx),lp K (RD.full vw ry),hz,h _ H Hv (.refl vw) eX⟩
theorem mH:B2 qV (vq K true) Mi.eV:=λx y v u H Hv Q vw rx ry h=>by
 obtain⟨hz,h⟩:=Mi.cq h;exact⟨x,y,lp K (RD.full vw rx),lp K (RD.full vw ry),hz,h _ H Hv (.refl vw) eX⟩
def ui(neg:Bool):R2:=λx y H Q=>y=.non/\Q (.bl (if neg then !decide (x=.non)else decide (x=.non))) H
theorem By:ce X (compareOp .Is) (ui false):=IQ
theorem IZ:ce X (compareOp .IsNot) (ui true):=IB
theorem F9{H Hv:Hp}{d:D}{v:V}(r:RD H Hv d v):decide (v=.non)=Mi.xp d:=by
 cases d with
 |non=>cases RD.non r;rfl
 |bl b=>cases RD.bl r;rfl
 |int b=>cases RD.int r;rfl
 |str b=>cases RD.str r;rfl
 |lst ds=>
  rcases r with r|⟨a,o,e,_⟩
  ·obtain⟨a,xs,e,_⟩:=iU.mp r;subst e;rfl
  ·subst e;rfl
 |tup ds=>
  obtain⟨a,xs,e,_⟩:=ia.mp (r.pq λ_ z=>by cases z);subst e;rfl
theorem FN:B2 qV (ui false) Mi.rG:=λx y v u H Hv Q vw rx ry h=>by
 cases y with
 |non=>
  cases RD.non ry;refine⟨rfl,?_⟩;show Q (.bl (decide (v=.non))) H;rw[F9 rx];exact h _ H Hv (.refl vw) eX
 |_=>exact h.elim
theorem MM:B2 qV (ui true) Mi.rT:=λx y v u H Hv Q vw rx ry h=>by
 cases y with
 |non=>
  cases RD.non ry;refine⟨rfl,?_⟩;show Q (.bl (!decide (v=.non))) H;rw[F9 rx];exact h _ H Hv (.refl vw) eX
 |_=>exact h.elim
def Db(K:aP):R2:=λx y H Q=>vJ K false x y H Q\/Dx false x y H Q
theorem jI(hu:X.A.units+64<cLine):ce X (compareOp .In) (Db X.K):=(OJ hu).or O5
theorem vB{H:Hp}{ds:List D}{xs:List V}(h:P2 (Rep H) ds xs):L2.bq K H ds xs:=uY K (nR.mpr h)
theorem jN:B2 qV (Db K) Mi.cC:=λx y v u H Hv Q vw rx ry h=>by
 cases y with
 |lst ds=>
  obtain⟨hz,h⟩:=Mi.cq h;obtain⟨p,xs,rfl,l1,r1⟩:=RD.lst vw ry;exact .inl ⟨p,xs,x,ds,rfl,.inl l1.sq,lp K (RD.full vw rx),vB (d9 vw.sub r1),hz,h _ H Hv (.refl vw) eX⟩
 |tup ds=>
  obtain⟨hz,h⟩:=Mi.cq h;obtain⟨p,xs,rfl,l1,_,r1⟩:=RD.tup vw ry;exact .inl ⟨p,xs,x,ds,rfl,.inr (.inl (.inl l1)),lp K (RD.full vw rx),vB (d9 vw.sub r1),hz,h _ H Hv (.refl vw) eX⟩
 | str z=>cases x with
  |str c=>
   obtain⟨hz,h⟩:=Mi.cq h;cases RD.str rx;cases RD.str ry;obtain⟨⟨l⟩⟩:=c
   match l,hz with
   |[c],_=>exact .inr ⟨c,z,rfl,rfl,h _ H Hv (.refl vw) eX⟩
  |_=>exact h.elim
 |_=>exact h.elim
theorem sR:B2 qV (vJ K true) Mi.f9:=λx y v u H Hv Q vw rx ry h=>by
 cases y with
 |lst ds=>
  obtain⟨hz,h⟩:=Mi.cq h;obtain⟨p,xs,rfl,l1,r1⟩:=RD.lst vw ry;exact⟨p,xs,x,ds,rfl,.inl l1.sq,lp K (RD.full vw rx),vB (d9 vw.sub r1),hz,h _ H Hv (.refl vw) eX⟩
 |tup ds=>
  obtain⟨hz,h⟩:=Mi.cq h;obtain⟨p,xs,rfl,l1,_,r1⟩:=RD.tup vw ry;exact⟨p,xs,x,ds,rfl,.inr (.inl (.inl l1)),lp K (RD.full vw rx),vB (d9 vw.sub r1),hz,h _ H Hv (.refl vw) eX⟩
 |_=>exact h.elim
theorem II{α:Type}(xs:List α)(i:Int):Mi.cK xs i=L2.cK xs i:=rfl
theorem Cz{α β:Type}{F:α->β->Prop}{l:List α}{m:List β}(h:P2 F l m){i:Int}{a:α}(e:Mi.cK l i=ab a):∃b,L2.cK m i=ab b/\F a b:=by
 unfold Mi.cK at e;cases hj:Mi.eg l.length i with
 |none=>rw[hj]at e;cases e
 |some j=>
  rw[hj]at e;have e:l[j]? = ab a:=e;obtain⟨b,hb,r⟩:=h.getL e;refine⟨b,?_,r⟩;rw[<- II];unfold Mi.cK;rw[<- h.len,hj];exact hb
theorem bE:B2 qV (nS K) Mi.aE:=λx y v u H Hv Q vw rx ry h=>by
 cases y with
 |int i=>
  cases RD.int ry;cases x with
  |lst ds=>
   obtain⟨d,e,h⟩:=gV h;obtain⟨p,xs,rfl,l1,r1⟩:=RD.lst vw rx;obtain⟨z,ez,rz⟩:=Cz r1 e;exact .inl ⟨p,xs,i,z,rfl,rfl,l1.sq,ez,h z H Hv (.refl vw) rz⟩
  |tup ds=>
   obtain⟨d,e,h⟩:=gV h;obtain⟨p,xs,rfl,l1,_,r1⟩:=RD.tup vw rx;obtain⟨z,ez,rz⟩:=Cz r1 e;exact .inr (.inl ⟨p,xs,i,z,rfl,rfl,.inl (.inl l1),ez,h z H Hv (.refl vw) rz⟩)
  |str z=>
   cases RD.str rx;obtain⟨hz,h⟩:=Mi.cq h;obtain⟨c,e,h⟩:=gV (aA.mp h);exact .inr (.inr ⟨z,i,c,rfl,rfl,by rw[eh];exact hz,e,h _ H Hv (.refl vw) sQ⟩)
  |_=>exact h.elim
 |_=>cases x<;>exact h.elim
theorem Iy{F:D->V->Prop}{l:List D}{m:List V}(h:P2 F l m)(lo hi:Option Int):P2 F (Mi.gq l lo hi) (L2.pQ m lo hi):=by unfold Mi.gq L2.pQ;rw[h.len];exact(h.drop _).take _
def Dt(K:aP):V->Option Int->Option Int->Hp->VK->Prop:=λx lo hi H Q=>F5 K x lo hi H Q\/Fb x lo hi H Q
theorem ll:mE X (Dt X.K):=Od.or N6
theorem Ke(z:Str)(lo hi:Option Int):pF z lo hi=Mi.lX z lo hi:=by
 unfold pF Mi.lX Mi.gq;have:z.cps.toList.length=z.length:=by simp[oF]
 rw[this];rfl
theorem k9:BS qV (Dt K) Mi.eJ:=λx lo hi v H Hv Q vw rx h=>by
 cases x with
 |lst ds=>
  obtain⟨p,xs,rfl,l1,r1⟩:=RD.lst vw rx;refine .inl ⟨p,xs,rfl,l1.sq,λa ha=>?_⟩;obtain⟨g,k⟩:=FV vw (Iy r1 lo hi) ha;exact h _ _ _ g k
 |str z=>
  cases RD.str rx;obtain⟨hz,h⟩:=Mi.cq h;exact .inr ⟨z,rfl,by rw[eh];exact hz,h _ H Hv (.refl vw) (by rw[Ke];exact sQ)⟩
 |_=>exact h.elim
theorem md{F:D->V->Prop}{d:D}{vs:List V}(h:P2 F [d] vs):∃v,vs=[v]/\F d v:=by
 cases h with
 |cons r t=>cases t;exact⟨_,rfl,r⟩
theorem F3{F:D->V->Prop}{d e:D}{vs:List V}(h:P2 F [d,e] vs):∃v u,vs=[v,u]/\F d v/\F e u:=by
 cases h with
 | cons r t=>cases t with
  |cons r' t=>cases t;exact⟨_,_,rfl,r,r'⟩
def C5(K:aP):List V->Hp->VK->Prop:=λxs H Q=>∃x n,xs=[x]/\BQ K x H n/\Q (.int n) H
theorem fB:fP X (.builtin "len") (C5 X.K):=Pf
theorem cv:BN qV (C5 K) Mi.bS:=λds vs H Hv Q vw r h=>by
 match ds,r,h with
 |[.lst ds],r,h=>
  obtain⟨v,ev,rr⟩:=md r;subst ev;replace r:=rr;obtain⟨p,xs,rfl,l1,r1⟩:=RD.lst vw r;refine⟨_,xs.length,rfl,.inl ⟨xs,l1.sq,rfl⟩,?_⟩;rw[<- r1.len];exact h _ H Hv (.refl vw) iP
 |[.tup ds],r,h=>
  obtain⟨v,ev,rr⟩:=md r;subst ev;replace r:=rr;obtain⟨p,xs,rfl,l1,_,r1⟩:=RD.tup vw r;refine⟨_,xs.length,rfl,.inr ⟨xs,.inl (.inl l1),rfl⟩,?_⟩;rw[<- r1.len];exact h _ H Hv (.refl vw) iP
 |[.str z],r,h=>
  obtain⟨v,ev,rr⟩:=md r;subst ev;replace r:=rr;cases RD.str r;obtain⟨hz,h⟩:=Mi.cq h;exact⟨_,z.length,rfl,⟨by rw[eh];exact hz,rfl⟩,h _ H Hv (.refl vw) iP⟩
def FX:List V->Hp->VK->Prop:=λxs H Q=>∃i j z,xs=[.int i,.int j]/\max i j=z/\Q (.int z) H
def F4:List V->Hp->VK->Prop:=λxs H Q=>∃i j z,xs=[.int i,.int j]/\min i j=z/\Q (.int z) H
theorem Ew(hc:X.calm=true):fP X (.builtin "max") FX:=Kh hc
theorem Kr(hc:X.calm=true):fP X (.builtin "min") F4:=Lv hc
theorem rH:BN qV FX Mi.iH:=λds vs H Hv Q vw r h=>by
 match ds,r,h with
 |[.int i,.int j],r,h=>
  obtain⟨v,u,ev,rr,r'⟩:=F3 r;subst ev;replace r:=rr;cases RD.int r;cases RD.int r';exact⟨i,j,_,rfl,rfl,h _ H Hv (.refl vw) iP⟩
theorem zD:BN qV F4 Mi.mm:=λds vs H Hv Q vw r h=>by
 match ds,r,h with
 |[.int i,.int j],r,h=>
  obtain⟨v,u,ev,rr,r'⟩:=F3 r;subst ev;replace r:=rr;cases RD.int r;cases RD.int r';exact⟨i,j,_,rfl,rfl,h _ H Hv (.refl vw) iP⟩
theorem E3{Hv:Hp}:∀{ds:List D} {xs:List V} {bs:List Bool},Mi.jC ds=ab bs->P2 (Rep Hv) ds xs->xs=bs.map V.bl
 |[],_,bs,e,r=>by cases e;cases r;rfl
 |.bl b::ds,_,bs,e,r=>by
  cases r with
  |cons x t=>
   cases hb:Mi.jC ds with
   |none=>rw[Mi.jC,hb]at e;cases e
   |some cs=>
    rw[Mi.jC,hb]at e;cases e;rw[E3 hb t,o1.mp x];rfl
 |.non::_,_,_,e,_=>by cases e
 |.int _::_,_,_,e,_=>by cases e
 |.str _::_,_,_,e,_=>by cases e
 |.lst _::_,_,_,e,_=>by cases e
 |.tup _::_,_,_,e,_=>by cases e
theorem yV:BN qV (Cw K (·.any id)) Mi.zq:=λds vs H Hv Q vw r h=>by
 match ds,r,h with
 |[.lst ds],r,h=>
  obtain⟨v,ev,rr⟩:=md r;subst ev;replace r:=rr;obtain⟨bs,e,h⟩:=gV (aA.mp h);obtain⟨p,xs,rfl,l1,r1⟩:=RD.lst vw r;have:=E3 e r1;subst this;exact⟨p,bs,rfl,l1.sq,h _ H Hv (.refl vw) eX⟩
def DB(K:aP):List V->Hp->VK->Prop:=λxs H Q=>∃p ys,xs=[.ref p]/\(da K H p ys\/eU K H p ys)/\∀l,H l=ac->Q (.ref l) (upd H l (.lst ys))
theorem yT:fP X (.type "list") (DB X.K):=IS
theorem jM:BN qN (DB K) Mi.rA:=λds vs H Hv Q vw r h=>by
 match ds,r,h with
 |[.lst ds],r,h=>
  obtain⟨v,ev,rr⟩:=md r;subst ev;replace r:=rr;obtain⟨p,xs,rfl,l1,r1⟩:=RD.lst vw r;refine⟨p,xs,rfl,.inl l1.sq,λa ha=>?_⟩;obtain⟨g,k⟩:=uA vw r1 ha;exact h _ _ _ g k
 |[.tup ds],r,h=>
  obtain⟨v,ev,rr⟩:=md r;subst ev;replace r:=rr;obtain⟨p,xs,rfl,l1,_,r1⟩:=RD.tup vw r;refine⟨p,xs,rfl,.inr (.inl (.inl l1)),λa ha=>?_⟩;obtain⟨g,k⟩:=uA vw r1 ha;exact h _ _ _ g k
def Fo(K:aP):List V->Hp->VK->Prop:=λxs H Q=>∃p ys,xs=[.ref p]/\((da K H p ys/\∀l,H l=ac->Q (.ref l) (upd H l (.tup ys)))\/(eU K H p ys/\Q (.ref p) H))
theorem uf:fP X (.type "tuple") (Fo X.K):=IE
theorem kw:BN qV (Fo K) Mi.oZ:=λds vs H Hv Q vw r h=>by
 match ds,r,h with
 |[.lst ds],r,h=>
  obtain⟨v,ev,rr⟩:=md r;subst ev;replace r:=rr;obtain⟨p,xs,rfl,l1,r1⟩:=RD.lst vw r;refine⟨p,xs,rfl,.inl ⟨l1.sq,λa ha=>?_⟩⟩;obtain⟨g,k⟩:=xo vw r1 ha;exact h _ _ _ g k
 |[.tup ds],r,h=>
  obtain⟨v,ev,rr⟩:=md r;subst ev;replace r:=rr;obtain⟨p,xs,rfl,l1,l2,r1⟩:=RD.tup vw r;exact⟨p,xs,rfl,.inr ⟨.inl (.inl l1),h _ H Hv (.refl vw) (ia.mpr ⟨p,xs,rfl,l2,r1⟩)⟩⟩
end
end A
namespace A
open PySem L2 PyProof.Rows
open Mi (D W Rs Fin aA Out Tg)
variable[Tb:bD]
section
variable{X:Cx}{af:List (ag×Obj)}{σ:L2.St}{H:Hp}{s:aw}
open SeqAt in
theorem IP:∀{d e:D} {A:bN} {x y:V} {u u':ah},d.flat=true->e.flat=true->L2.Rep X.K H d x->L2.Rep X.K H e y->RelV x u->RelV y u'->RcAt A s u u' (Mi.bH d e)/\RcNeAt A s u u' (!Mi.bH d e):=by
 intro d e A x y u u' h1 h2 r1 r2 q1 q2;cases d with
 |non=>
  rw[L2.Rep]at r1;subst r1;cases q1;cases e with
  |non=>rw[L2.Rep]at r2;subst r2;cases q2;exact⟨RcAt.none_none,RcNeAt.none_none⟩
  |bl b=>rw[L2.Rep]at r2;subst r2;cases q2;exact⟨RcAt.none_bool b,RcNeAt.none_bool b⟩
  |int b=>rw[L2.Rep]at r2;subst r2;obtain⟨t,rfl⟩:=q2;exact⟨RcAt.none_int b t,RcNeAt.none_int b t⟩
  |str b=>rw[L2.Rep]at r2;subst r2;obtain⟨t,rfl⟩:=q2;exact⟨RcAt.none_str b t,RcNeAt.none_str b t⟩
  |_=>cases h2
 |bl a=>
  rw[L2.Rep]at r1;subst r1;cases q1;cases e with
  |non=>rw[L2.Rep]at r2;subst r2;cases q2;exact⟨RcAt.bool_none a,RcNeAt.bool_none a⟩
  |bl b=>rw[L2.Rep]at r2;subst r2;cases q2;rw[Mi.bH];exact⟨RcAt.bool_bool a b,RcNeAt.bool_bool a b⟩
  |int b=>rw[L2.Rep]at r2;subst r2;obtain⟨t,rfl⟩:=q2;rw[Mi.bH];exact⟨RcAt.bool_int a b t,RcNeAt.bool_int a b t⟩
  |str b=>rw[L2.Rep]at r2;subst r2;obtain⟨t,rfl⟩:=q2;exact⟨RcAt.bool_str a b t,RcNeAt.bool_str a b t⟩
  |_=>cases h2
 |int a=>
  rw[L2.Rep]at r1;subst r1;obtain⟨t1,rfl⟩:=q1;cases e with
  |non=>rw[L2.Rep]at r2;subst r2;cases q2;exact⟨RcAt.int_none a t1,RcNeAt.int_none a t1⟩
  |bl b=>rw[L2.Rep]at r2;subst r2;cases q2;rw[Mi.bH];exact⟨RcAt.int_bool a t1 b,RcNeAt.int_bool a t1 b⟩
  |int b=>rw[L2.Rep]at r2;subst r2;obtain⟨t,rfl⟩:=q2;rw[Mi.bH];exact⟨RcAt.int_int a t1 b t,RcNeAt.int_int a t1 b t⟩
  |str b=>rw[L2.Rep]at r2;subst r2;obtain⟨t,rfl⟩:=q2;exact⟨RcAt.int_str a t1 b t,RcNeAt.int_str a t1 b t⟩
  |_=>cases h2
 |str a=>
  rw[L2.Rep]at r1;subst r1;obtain⟨t1,rfl⟩:=q1;cases e with
  |non=>rw[L2.Rep]at r2;subst r2;cases q2;exact⟨RcAt.str_none a t1,RcNeAt.str_none a t1⟩
  |bl b=>rw[L2.Rep]at r2;subst r2;cases q2;exact⟨RcAt.str_bool a t1 b,RcNeAt.str_bool a t1 b⟩
  |int b=>rw[L2.Rep]at r2;subst r2;obtain⟨t,rfl⟩:=q2;exact⟨RcAt.str_int a t1 b t,RcNeAt.str_int a t1 b t⟩
  |str b=>rw[L2.Rep]at r2;subst r2;obtain⟨t,rfl⟩:=q2;rw[Mi.bH];exact⟨RcAt.str_str a t1 b t,RcNeAt.str_str a t1 b t⟩
  |_=>cases h2
 |_=>cases h1
open SeqAt in
theorem B3(I:Inv X af σ H s):∀(d e:D) (A:bN) {x y:V} {u u':ah},d.dep<=16->A.units+17<cLine->L2.Rep X.K H d x->L2.Rep X.K H e y->RelV x u->RelV y u'->RcAt A s u u' (Mi.bH d e)/\RcNeAt A s u u' (!Mi.bH d e):=by
 intro d e A x y u u' hd hu h h' r r';have hu0:A.units<cLine:=by omega
 have item:∀{ds es:List D} {xs ys:List V} {aq its':List ah},Mi.dr ds<=16->L2.bq X.K H ds xs->L2.bq X.K H es ys->Vals xs aq->Vals ys its' ->
  ∀j (h1:j<aq.toArray.size) (h2:j<its'.toArray.size),EqAt A.in1 s aq.toArray[j] its'.toArray[j] (Mi.bH (ds.getD j .non) (es.getD j .non)):=by
  intro ds es xs ys aq its' hn q q' v v' j h1 h2;have h1':j<aq.length:=by simpa using h1
  have h2':j<its'.length:=by simpa using h2
  have e1:j<xs.length:=by rw[v.length];exact h1'
  have e2:j<ys.length:=by rw[v'.length];exact h2'
  have g1:xs[j]? = ab xs[j]:=by simp[e1]
  have g2:ys[j]? = ab ys[j]:=by simp[e2]
  obtain⟨w1,k1,r1⟩:=v.get g1;obtain⟨w2,k2,r2⟩:=v'.get g2;have t1:aq.toArray[j]=w1:=by obtain⟨_,k1⟩:=b9.mp k1;simpa using k1
  have t2:its'.toArray[j]=w2:=by obtain⟨_,k2⟩:=b9.mp k2;simpa using k2
  rw[t1,t2];have:=xq (ds:=ds) (j:=j);refine CJ I 16 _ _ A.in1 (by omega) ?_ (q.get g1) (q'.get g2) r1 r2;show A.units+1+16<cLine;omega
 by_cases hdf:d.flat=true
 ·by_cases hef:e.flat=true
  ·exact IP hdf hef h h' r r'
  ·cases e with
   |lst es=>
    rw[L2.Rep]at h';obtain⟨a,xs,rfl,q,_⟩:=h';cases r';obtain⟨aq,_,p,_⟩:=I.list q;cases d with
    |non=>rw[L2.Rep]at h;subst h;cases r;exact⟨RcAt.none_list p.isList hu0,RcNeAt.none_list p.isList hu0⟩
    |bl b=>rw[L2.Rep]at h;subst h;cases r;exact⟨RcAt.bool_list b p.isList hu0,RcNeAt.bool_list b p.isList hu0⟩
    |int b=>rw[L2.Rep]at h;subst h;obtain⟨t,rfl⟩:=r;exact⟨RcAt.int_list b t p.isList hu0,RcNeAt.int_list b t p.isList hu0⟩
    |str b=>rw[L2.Rep]at h;subst h;obtain⟨t,rfl⟩:=r;exact⟨RcAt.str_list b t p.isList hu0,RcNeAt.str_list b t p.isList hu0⟩
    |_=>cases hdf
   |tup es=>
    rw[L2.Rep]at h';obtain⟨a,xs,rfl,q,_⟩:=h';cases r';obtain⟨aq,_,p,_⟩:=I.tuple q;cases d with
    |non=>rw[L2.Rep]at h;subst h;cases r;exact⟨RcAt.none_tuple p hu0,RcNeAt.none_tuple p hu0⟩
    |bl b=>rw[L2.Rep]at h;subst h;cases r;exact⟨RcAt.bool_tuple b p hu0,RcNeAt.bool_tuple b p hu0⟩
    |int b=>rw[L2.Rep]at h;subst h;obtain⟨t,rfl⟩:=r;exact⟨RcAt.int_tuple b t p hu0,RcNeAt.int_tuple b t p hu0⟩
    |str b=>rw[L2.Rep]at h;subst h;obtain⟨t,rfl⟩:=r;exact⟨RcAt.str_tuple b t p hu0,RcNeAt.str_tuple b t p hu0⟩
    |_=>cases hdf
   |_=>exact absurd rfl hef
 ·cases d with
  |lst ds=>
   rw[L2.Rep]at h;obtain⟨a,xs,rfl,q,rr⟩:=h;cases r;obtain⟨aq,v,p,_⟩:=I.list q;have hn:Mi.dr ds<=16:=by rw[Mi.D.dep]at hd;omega
   cases e with
   |non=>rw[L2.Rep]at h';subst h';cases r';exact⟨RcAt.list_none p.isList hu0,RcNeAt.list_none p.isList hu0⟩
   |bl b=>rw[L2.Rep]at h';subst h';cases r';exact⟨RcAt.list_bool b p.isList hu0,RcNeAt.list_bool b p.isList hu0⟩
   |int b=>rw[L2.Rep]at h';subst h';obtain⟨t,rfl⟩:=r';exact⟨RcAt.list_int b t p.isList hu0,RcNeAt.list_int b t p.isList hu0⟩
   |str b=>rw[L2.Rep]at h';subst h';obtain⟨t,rfl⟩:=r';exact⟨RcAt.list_str b t p.isList hu0,RcNeAt.list_str b t p.isList hu0⟩
   |lst es=>
    rw[L2.Rep]at h';obtain⟨b,ys,rfl,q',rr'⟩:=h';cases r';obtain⟨its',v',p',_⟩:=I.list q';have l1:=rr.length;have l2:=rr'.length;have l3:=v.length;have l4:=v'.length;by_cases hl:ds.length=es.length
    ·rw[Mi.bH,se hl];have e1:aq.toArray.size=ds.length:=by simp;omega
     have k1:=RcAt.lists p.isList p'.isList (by simp;omega) hu0 (item hn rr rr' v v');have k2:=RcNeAt.lists p.isList p'.isList (by simp;omega) hu0 (item hn rr rr' v v');rw[e1]at k1 k2;exact⟨k1,k2⟩
    ·rw[Mi.bH,sk hl];exact⟨RcAt.lists_lengths p.isList p'.isList (by simp;omega) hu0,RcNeAt.lists_lengths p.isList p'.isList (by simp;omega) hu0⟩
   |tup es=>
    rw[L2.Rep]at h';obtain⟨b,ys,rfl,q',_⟩:=h';cases r';obtain⟨its',_,p',_⟩:=I.tuple q';exact⟨RcAt.list_tuple p.isList p' hu0,RcNeAt.list_tuple p.isList p' hu0⟩
  |tup ds=>
   rw[L2.Rep]at h;obtain⟨a,xs,rfl,q,rr⟩:=h;cases r;obtain⟨aq,v,p,_⟩:=I.tuple q;have hn:Mi.dr ds<=16:=by rw[Mi.D.dep]at hd;omega
   cases e with
   |non=>rw[L2.Rep]at h';subst h';cases r';exact⟨RcAt.tuple_none p hu0,RcNeAt.tuple_none p hu0⟩
   |bl b=>rw[L2.Rep]at h';subst h';cases r';exact⟨RcAt.tuple_bool b p hu0,RcNeAt.tuple_bool b p hu0⟩
   |int b=>rw[L2.Rep]at h';subst h';obtain⟨t,rfl⟩:=r';exact⟨RcAt.tuple_int b t p hu0,RcNeAt.tuple_int b t p hu0⟩
   |str b=>rw[L2.Rep]at h';subst h';obtain⟨t,rfl⟩:=r';exact⟨RcAt.tuple_str b t p hu0,RcNeAt.tuple_str b t p hu0⟩
   |tup es=>
    rw[L2.Rep]at h';obtain⟨b,ys,rfl,q',rr'⟩:=h';cases r';obtain⟨its',v',p',_⟩:=I.tuple q';have l1:=rr.length;have l2:=rr'.length;have l3:=v.length;have l4:=v'.length;have k1:=RcAt.tuples p p' hu0 (item hn rr rr' v v');have k2:=RcNeAt.tuples p p' hu0 (item hn rr rr' v v');have e1:aq.toArray.size=ds.length:=by simp;omega
    have e2:its'.toArray.size=es.length:=by simp;omega
    rw[e1,e2]at k1 k2;by_cases hl:ds.length=es.length
    ·rw[Mi.bH,se hl];rw[hl,Nat.min_self,rj,Bool.and_true,<- hl]at k1 k2;exact⟨k1,k2⟩
    ·rw[Mi.bH,sk hl];have:(ds.length==es.length)=false:=by simpa using hl
     rw[this,Ak]at k1 k2;exact⟨k1,k2⟩
   |lst es=>
    rw[L2.Rep]at h';obtain⟨b,ys,rfl,q',_⟩:=h';cases r';obtain⟨its',_,p',_⟩:=I.list q';exact⟨RcAt.tuple_list p p'.isList hu0,RcNeAt.tuple_list p p'.isList hu0⟩
  |_=>exact absurd rfl hdf
theorem ke(hu:X.A.units+64<cLine):ce X (compareOp .Eq) (vq X.K false):=by intro af s σ H x y v u Q I rx ry h;obtain⟨d,e,r1,r2,hz,q⟩:=h;exact(B3 I d e X.A hz (by omega) r1 r2 rx ry).1 _ _ _ _ ⟨.bl _,H,I,rfl,q⟩
theorem mf(hu:X.A.units+64<cLine):ce X (compareOp .NotEq) (vq X.K true):=by intro af s σ H x y v u Q I rx ry h;obtain⟨d,e,r1,r2,hz,q⟩:=h;exact(B3 I d e X.A hz (by omega) r1 r2 rx ry).2 _ _ _ _ ⟨.bl _,H,I,rfl,q⟩
end
section
variable{X:Cx}{K:aP}{M:Nat->Bool}{κ:Kd}{ta tb te:TE}{a b:Mi.E}
theorem JA{H Hv:Hp}(vw:Vw H Hv){d:D}{v:V}(r:RD H Hv d v):iq K H v (.type (Mi.B9 d)):=by
 cases d with
 |non=>cases RD.non r;exact .non
 |bl b=>cases RD.bl r;exact .bl b
 |int b=>cases RD.int r;exact .int b
 |str b=>cases RD.str r;exact .str b
 |lst ds=>
  obtain⟨p,xs,rfl,l,_⟩:=RD.lst vw r;rcases l with l|⟨o,l⟩
  ·exact .lst l
  ·exact .frz l
 |tup ds=>
  obtain⟨p,xs,rfl,l,_⟩:=RD.tup vw r;exact .tup l
def uL(K:aP)(T:String):Prop:=∀d:D,z8 K (.type (Mi.B9 d)) (.type T)=ab (Mi.uO T d)
theorem oI{T:String}(hT:uL K T)(ha:AE M qP ta a):AE M qV (pM (FS K) (fR ta (fR (tC (.ty T)) gU))) (Mi.m1 (Mi.gL [T]) a):=λe σ H Hv Q I h=>
 ha e σ H Hv _ I ((aA.mp h).mono λx hx v H1 Hv1 g1 rx=>⟨v,_,T,_,rfl,JA g1.vw rx,hT x,(Mi.nZ hx) _ H1 Hv1 g1 (by
  have:([T].any λt=>Mi.uO t x)=Mi.uO T x:=by simp
  rw[this];exact eX)⟩)
theorem ty_str(K:aP):uL K "str" := λd=>by cases d<;>rfl
theorem ty_list(K:aP):uL K "list" := λd=>by cases d<;>rfl
theorem ty_tuple(K:aP):uL K "tuple" := λd=>by cases d<;>rfl
end
end A
namespace A
open PySem L2 PyProof.Rows
open Mi (D W Rs Fin aA Out Tg)
variable[Tb:bD]
def Mo(l:List Nat):Nat->Bool:=λi=>l.contains i
theorem xV{M:Nat->Bool}{N:List Str}{k:Nat}{ws:List W}{vs:List V}{H Hv:Hp}(vw:Vw H Hv)(p:P2 (fL Hv) ws vs)(hk:ws.length=k)(hM:∀i,i<k->M i=false) :
 R1 M H Hv (ws.map ab++c7 (N.length-ws.length) ac) (start N vs) H Hv:=by
 have get:∀{i:Nat} {w:W},(ws.map ab++c7 (N.length-ws.length) ac)[i]? = ab (ab w)->ws[i]? = ab w/\i<k:=λ{i w} h=>by
  by_cases hi:i<ws.length
  ·rw[kM (by simpa using hi),cX]at h;cases e:ws[i]? with
   |none=>rw[e]at h;cases h
   |some a=>rw[e]at h;cases h;exact⟨rfl,by omega⟩
  ·rw[jS (by simpa using hi),Go]at h;split at h<;>cases h
 have no:∀{i:Nat} {w:W},(ws.map ab++c7 (N.length-ws.length) ac)[i]? = ab (ab w)->M i=true->False:=λ{i w} h m=>by
  rw[hM i (get h).2]at m;cases m
 refine⟨⟨vw,?_,λi w h m=>?_,λi w h m=>(no h m).elim⟩,.refl vw,λi w a h m=>(no h m).elim,λi j w w' a b _ h _ m=>(no h m).elim⟩
 ·unfold L2.start;rw[cF,cF,aX,aX,zM,zM,p.len]
 ·obtain⟨hw,hi⟩:=get h;obtain⟨v,hv,r⟩:=p.getL hw;refine⟨v,?_,r⟩;unfold L2.start;rw[kM (by rw[aX,<- p.len];omega),cX,hv];rfl
theorem JF{f:Mi.S}{k n:Nat}{vs:List V}{H:Hp}{Q:VK}{E:XK}(h:aI (Mi.dm k n f) vs H Q E):vs.length=k:=by obtain⟨Hv,ws,_,p,q⟩:=h;rw[<- p.len];exact(Mi.cq q).1
theorem yf{f:Mi.S}{k n:Nat}{vs:List V}{H:Hp}{Q:VK}{E:XK}(h:cI (Mi.fc k n f) vs H Q E):vs.length=k:=by obtain⟨Hv,ws,_,p,q⟩:=h;rw[<- p.len];exact(Mi.cq q).1
theorem OT{N:List Str}{M:Nat->Bool}{k:Nat}{t:TS}{m:Mi.S}(hA:AS M qV t m)(hM:∀i,i<k->M i=false){vs:List V}{H:Hp}{Q:VK}{E:XK}(h:aI (Mi.dm k N.length m) vs H Q E) :
 t { nx:=λ_ H'=>Q .non H',rt:=Q } (start N vs) H:=by
 obtain⟨Hv,ws,vw,p,q⟩:=h;obtain⟨hk,q⟩:=Mi.cq q;refine hA H Hv _ _ H Hv _ (xV vw p hk hM) ((aA.mp q).mono λo ho=>?_);cases o with
 |nx e=>exactλσ H' Hv' I s=>ho _ H' Hv' I.gw vm
 |rt w=>exactλv H' Hv' g r=>ho v H' Hv' g r
 |bk e=>exact ho.elim
 |ct e=>exact ho.elim
theorem runN{N:List Str}{M:Nat->Bool}{k:Nat}{t:TS}{m:Mi.S}(hA:AS M qN t m)(hM:∀i,i<k->M i=false){vs:List V}{H:Hp}{Q:VK}{E:XK}(h:cI (Mi.fc k N.length m) vs H Q E) :
 t { nx:=λ_ H'=>Q .non H',rt:=Q } (start N vs) H:=by
 obtain⟨Hv,ws,vw,p,q⟩:=h;obtain⟨hk,q⟩:=Mi.cq q;refine hA H Hv _ _ H Hv _ (xV vw p hk hM) ((aA.mp q).mono λo ho=>?_);cases o with
 |rt w=>exactλv H' Hv' g r=>ho v H' Hv' g r
 |nx e=>exact ho.elim
 |bk e=>exact ho.elim
 |ct e=>exact ho.elim
def rZ:Sp:=λvs H Q _=>∃(a:ag) (ns:List Int),vs=[.ref a]/\Lst H a (ns.map V.int)/\ns.length<=63/\gJ H/\∀H',Q (.bl true) H'
theorem ints_rep(H:Hp):∀ns:List Int,P2 (Rep H) (ns.map D.int) (ns.map V.int)
 |[]=>.nil
 |n::r=>.cons (qE.mpr rfl) (ints_rep H r)
theorem M9{P:br}{w:bd}{K:aP}{mg:Str->Option ah}{base:aR}{CX:gF}{k:Nat}{f:ag}{fd:bG}{ps:List Str}{m:Mi.Fn}(F:bJ P w K mg base CX k f fd ps (aI m))
 (h:∀ns:List Int,ns.length<=63->m [.d (.lst (ns.map D.int))]=.ok (.d (.bl true))):bJ P w K mg base CX k f fd ps rZ:=
 F.imp λvs H Q E ⟨a,ns,e,l,hl,k,q⟩=>by
  subst e;have l':Lst (iL H) a (ns.map V.int):=by
   rcases l with l|⟨o,l⟩
   ·exact .inl (jQ l trivial)
   ·exact .inr ⟨o,jQ l trivial⟩
  refine⟨iL H,[.d (.lst (ns.map D.int))],.all k,.cons (iU.mpr ⟨a,_,rfl,l',ints_rep _ ns⟩) .nil,?_⟩;rw[h ns hl];intro v H' Hv' g r;cases(o1 (H:=Hv')).mp r;exact q H'
def sd(K:aP)(a:ag):It:=⟨λi H=>∃xs x,da K H a xs/\xs[i]? = ab x,λi H v H'=>∃p x,(∀xs,da K H a xs->xs[i]? = ab x)/\H p=ac/\v=.ref p/\H'=upd H p (.tup [.int i,x]),λi H=>∃xs,da K H a xs/\xs.length=i⟩
theorem D3{X:Cx}{af:List (ag×Obj)}{σ:L2.St}{H:Hp}{s:aw}{fp:List ag}{T:ag}{o:HO}{h':aR}{t':Nat}(I:Inv X af σ H s)(hf:∀b∈fp,gA X af H b)
 (k:∀b u,b∉fp->s.heap.get? b=ab u->h'.get? b=ab u) (hT:s.heap.objs.size<=T) (new:cH X.prog X.w (upd H T o) h' T o):Inv X af σ (upd H T o) { s with heap:=h',toks:=t' }:=by
 have hn:H T=ac:=I.hok.fresh hT;have nfp:∀b u,H b=ab u->b∉fp:=λb u e z=>by rw[(hf b z).1]at e;cases e
 refine I.call' (s':={ s with heap:=h',toks:=t' }) (ch:=fp) rfl ⟨λb u e _ _ hb=>k b u hb e,λb u e _ _ hb=>⟨u.slots,k b u hb e⟩,λb u e hb _=>?_,λb u e hb=>⟨u,k b u hb e⟩,λb xs e=>?_,λb q u e=>?_,λb w ps e=>⟨#[],?_⟩⟩ ?_ I.bare
  λb hb=>⟨(hf b hb).2.2.2.1,(hf b hb).2.1,(hf b hb).2.2.2.2.1,(hf b hb).2.2.2.2.2⟩
 ·have:b≠T:=fV (fU (bZ e) hT);rw[aL this];exact hb
 ·rw[aL (cz e hn)];exact e
 ·rw[aL (cz e hn)];exact e
 ·rw[aL (cz e hn),e];simp
 ·intro b u e;by_cases hb:b=T
  ·subst hb;rw[bt]at e;cases e;exact new
  ·rw[aL hb]at e;refine(I.hok b u e).stay (λc v hc q=>k c v ?_ q) (λc q=>by rw[aL (cz q hn)];exact q) λc xs q=>by rw[aL (cz q hn)];exact q
   rcases hc with z|z
   ·rw[z];exact nfp b u e
   ·exact nfp c _ z
theorem EM{X:Cx}{af:List (ag×Obj)}{σ:L2.St}{H:Hp}{s:aw}{fp:List ag}{h':aR}{t':Nat}(I:Inv X af σ H s)(hf:∀b∈fp,gA X af H b)
 (k:∀b u,b∉fp->s.heap.get? b=ab u->h'.get? b=ab u):Inv X af σ H { s with heap:=h',toks:=t' }:=by
 have nfp:∀b u,H b=ab u->b∉fp:=λb u e z=>by rw[(hf b z).1]at e;cases e
 refine I.call' (s':={ s with heap:=h',toks:=t' }) (ch:=fp) rfl ⟨λb u e _ _ hb=>k b u hb e,λb u e _ _ hb=>⟨u.slots,k b u hb e⟩,λb u e hb _=>hb,λb u e hb=>⟨u,k b u hb e⟩,λb xs e=>e,λb q u e=>e,λb w ps e=>⟨#[],by rw[e];simp⟩⟩ ?_ I.bare
  λb hb=>⟨(hf b hb).2.2.2.1,(hf b hb).2.1,(hf b hb).2.2.2.2.1,(hf b hb).2.2.2.2.2⟩
 intro b u e;refine(I.hok b u e).stay (λc v hc q=>k c v ?_ q) (λc q=>q) λc xs q=>q;rcases hc with z|z
 ·rw[z];exact nfp b u e
 ·exact nfp c _ z
theorem Mf{P:br}{w:bd}{K:aP}{elts:List aY}{k1:Nat}{pos:Pos}(a e it:ag)(hne:e≠it):Turn P w K (.Tuple elts k1 pos) (sd K a) [e,it] e (λi h=>(∃old,IsEnum h e it i old)/\h.IsListIter it a i) where
 mem:=by simp
 obj:=λi h st b hb=>by
  obtain⟨⟨old,he⟩,o,ho,c,d⟩:=st;rcases bL.mp hb with rfl|hb
  ·exact⟨_,he,λv z=>by cases z⟩
  ·have e1:b=it:=by simpa using hb
   subst e1;exact⟨o,ho,λv z=>by rw[d]at z;cases z⟩
 keep:=λi h h' st kk=>⟨let ⟨old,he⟩:=st.1;⟨old,kk e (by simp) _ he⟩,st.2.at λo q=>kk it (by simp) o q⟩
 item:=by
  intro X hP hw hK hc i af s σ H E I hf st hg;subst hP hw hK;obtain⟨xs,x,hq,hx⟩:=hg;obtain⟨aq,rv,p,hz⟩:=I.list hq;obtain⟨u,hu,ru⟩:=rv.get hx;obtain⟨⟨old,he⟩,hli⟩:=st;have hlt:i<aq.toArray.size:=by rw[cS];exact(b9.mp hu).1
  have hai:a≠it:=by rintro rfl;obtain⟨o,ho,c,_⟩:=hli;obtain⟨o',n,ho',c',_⟩:=p;rw[ho]at ho';cases ho';rw[c]at c';exact absurd (wz c') (by decide)
  have hea:e≠a:=by rintro rfl;obtain⟨o',n,ho',c',_⟩:=p;rw[he]at ho';cases ho';exact absurd (wz c') (by decide)
  refine wpAny_pyNext_enum_itemD (Draws.list (by first|exact I.ok.hd hc|(simp;exact I.ok.hd hc)) it a hai aq.toArray) he ⟨hli,p.isList⟩ hlt hne (by simp[hne,hea]) λy h' tk hy ho hs' hT hsz hk=>?_;have hy:y=u:=by
   have hu':aq.toArray[i]? = ab u:=by simpa using hu
   rw[hu']at hy;exact(fh hy).symm
  subst hy;refine⟨_,rfl,wpAny_letOwnedTupleGo_enum ho λh2 he2 hs2=>?_⟩;have kk:∀b o,b∉[e,it]->s.heap.get? b=ab o->h2.get? b=ab o:=λb o hb q=>by
   simp at hb;exact(hs2.2 b hb.1).trans (hk b o hb.1 hb.2 q)
  have hTn:s.heap.objs.size≠e:=λz=>absurd (bZ he) (by rw[z];exact jp _);refine⟨.ref s.heap.objs.size,upd H s.heap.objs.size (.tup [.int i,x]),D3 (s:=s) (t':=tk+1) I hf kk (bv _) ?_,rfl,⟨_,x,λys hy=>by rw[I.uR hy hq];exact hx,I.hok.fresh (bv _),rfl,rfl⟩,⟨⟨_,he2⟩,?_⟩,λb hb=>?_⟩
  ·exact⟨by simp only[c6,lQ];rw[eh];decide,[.int i tk,y],.cons ⟨_,rfl⟩ (.cons ru .nil),⟨_,(hs2.2 _ hTn).trans hT,rfl,rfl,_,rfl⟩⟩
  ·exact hs'.1.at λo q=>(hs2.2 it (cY hne)).trans q
  ·have:b≠s.heap.objs.size:=λz=>by
    subst z;rcases bL.mp hb with z|z
    ·exact hTn z
    ·have z:s.heap.objs.size=it:=by simpa using z
     obtain⟨o,ho,_⟩:=hli;exact absurd (bZ ho) (by rw[<- z];exact jp _)
   rw[aL this];exact(hf b hb).1
 done:=by
  intro X hP hw hK hc i af s σ H E I hf st hg;subst hP hw hK;obtain⟨xs,hq,hx⟩:=hg;obtain⟨aq,rv,p,hz⟩:=I.list hq;obtain⟨⟨old,he⟩,hli⟩:=st;have hl:=rv.length;have hai:a≠it:=by rintro rfl;obtain⟨o,ho,c,_⟩:=hli;obtain⟨o',n,ho',c',_⟩:=p;rw[ho]at ho';cases ho';rw[c]at c';exact absurd (wz c') (by decide)
  subst hx;have D:=Draws.list (prog:=X.prog) (w:=X.w) (A:=X.A.in1) (by first|exact I.ok.hd hc|(simp;exact I.ok.hd hc)) it a hai aq.toArray;have hn:aq.toArray.size=xs.length:=by simp;omega
  rw[hn]at D;exact wpAny_pyNext_enum_endD D he ⟨hli,p.isList⟩ λh' hx=>⟨rfl,EM (s:=s) (t':=s.toks) I hf λb o hb q=>hx b o (λz=>hb (by simp[z])) q⟩
 self:=λ_ i s Q E st h=>let ⟨⟨old,he⟩,_⟩:=st;wpAny_pyIter_enum he h
section
variable{X:Cx}{elts:List aY}{k1:Nat}{tpos:Pos}
def DN(K:aP)(tl:TE):TI:=λσ H R=>tl σ H λx H1=>∃a,[x]=[V.ref a]/\(∃xs,da K H1 a xs)/\R (sd K a) H1
theorem IM{a:aY}{ta:TE}{p pos:Pos}(hg:Gl X "enumerate")(hm:X.mg "enumerate" = ac)(ha:PE X a ta)(hs:starEach [a] X.env=[(false,eval a X.env)]:=by rfl)(hs0:starEach [a] X.env=(false,eval a X.env)::starEach [] X.env:=by rfl) :
 PI X (.Tuple elts k1 tpos) (.Call (.Name "enumerate" p) [a] [] pos) (DN X.K ta):=by
 intro af s σ H R I h;refine Call_ (lY I hg hm boot_enumerate (qt (aZ (aD ha bj hs0 pos af s σ H (λvs H1=>∃l,vs=[.ref l]/\(∃xs,da X.K H1 l xs)/\R (sd X.K l) H1) I ?_) λus s1 ⟨vs,H1,I1,r1,q1⟩=>?_) hs rfl))
 ·exact h
 ·obtain⟨l,e,⟨xs,hq⟩,q⟩:=q1;subst e;obtain⟨u,rfl,ru⟩:=vals1 r1;cases ru;obtain⟨aq,rv,pl,hz⟩:=I1.list hq;refine call_enumerate_list pl.isList λh' hE hI hsz hk=>?_;refine wpAny_pyIter_enum hE ?_;have I2:Inv X af σ H1 { s1 with heap:=h' }:=I1.kept (t':=s1.toks) λb o e=>hk b o e;refine⟨_,[s1.heap.objs.size+1,s1.heap.objs.size],_,_,H1,rfl,I2,Mf l (s1.heap.objs.size+1) s1.heap.objs.size (oy (Ae _)),⟨⟨_,hE⟩,hI⟩,λb hb=>?_,q⟩;have hb:s1.heap.objs.size<=b:=by
   rcases bL.mp hb with z|z
   ·rw[z];exact Nat.le_succ _
   ·have z:b=s1.heap.objs.size:=by simpa using z
    rw[z];exact bv _
  exact I1.gy hb (I1.hok.fresh hb)
theorem DF:∀{ds:List D} {k i:Nat} {d:D},ds[i]? = ab d->(Mi.iT k ds)[i]? = ab (.tup [.int ((k+i:Nat):Int),d])
 |[],_,_,_,h=>by simp at h
 |d::r,k,0,e,h=>by simp at h;subst h;rfl
 |d::r,k,i+1,e,h=>by
  have:=DF (ds:=r) (k:=k+1) (i:=i) (d:=e) (by simpa using h);rw[Mi.iT,jn,this];rw[show k+1+i=k+(i+1)by omega]
theorem uI:∀(ds:List D) (k:Nat),(Mi.iT k ds).length=ds.length
 |[],_=>rfl
 |d::r,k=>by rw[Mi.iT,c6,c6,uI r]
theorem LP{x:D}{k:List D->Prop}(h:Fin (Mi.Ea x) k):∃ds,x=.lst ds/\k ds:=by
 cases x with
 |lst b=>exact⟨b,rfl,h⟩
 |_=>exact h.elim
theorem JP{K:aP}{a:ag}{ds:List D}{P:Hp->Hp->Prop}(ok:∀H Hv,P H Hv->Vw H Hv->∃xs,da K H a xs/\P2 (Rep Hv) ds xs):pi (sd K a) P (Mi.iT 0 ds):=by
 refine⟨λi H Hv p v hi=>?_,λi H Hv x H' p v hi y=>?_,λH Hv p v=>?_⟩
 ·obtain⟨xs,l,r⟩:=ok H Hv p v;rw[uI]at hi;obtain⟨x,hx,_⟩:=r.getL (i:=i) (a:=ds[i]) (by simp[hi]);exact⟨xs,x,l,hx⟩
 ·obtain⟨xs,l,r⟩:=ok H Hv p v;rw[uI]at hi;obtain⟨q,z,hz,hq,rfl,rfl⟩:=y;obtain⟨x,hx,rx⟩:=r.getL (i:=i) (a:=ds[i]) (by simp[hi]);rw[hz xs l]at hx;cases hx;obtain⟨g,k⟩:=xo v (ds:=[.int i,ds[i]]) (xs:=[.int i,z]) (.cons (qE.mpr rfl) (.cons rx .nil)) hq;refine⟨_,.tup [.int i,ds[i]],g,?_,k⟩;rw[DF (i:=i) (d:=ds[i]) (by simp[hi])];simp
 ·obtain⟨xs,l,r⟩:=ok H Hv p v;exact⟨xs,l,by rw[uI,r.len]⟩
theorem LX{M:Nat->Bool}{K:aP}{ta:TE}{a:Mi.E}(ha:AE M qV ta a):fm M (DN K ta) (Mi.xH a):=λe σ H Hv R I h=>
 ha e σ H Hv _ I ((aA.mp h).mono λx hx v H1 Hv1 g1 rx=>by
  obtain⟨ds,rfl,hk⟩:=LP (aA.mp hx);obtain⟨p,xs,rfl,l,r⟩:=(iU (H:=Hv1)).mp rx;exact⟨p,rfl,⟨xs,(l.same g1.vw.sub).sq⟩,hk (sd K p) H1 Hv1 (λH Hv=>Lst Hv p xs/\P2 (Rep Hv) ds xs) g1 (JP λH Hv z v=>⟨xs,(z.1.same v.sub).sq,z.2⟩) ⟨l,r⟩ λH1 Hv1 H2 Hv2 z s v=>⟨z.1.same s,d9 s z.2⟩⟩)
end
end A
namespace A
open PySem L2 PyProof.Rows
open Mi (D W Rs Fin aA Out Tg)
variable[Tb:bD]
section
variable{X:Cx}{K:aP}{M:Nat->Bool}{κ:Kd}{ta tb te tk:TE}{a b k:Mi.E}
theorem Du{Hv:Hp}:∀{ds:List D} {xs:List V} {bs:List Str},Mi.lh ds=ab bs->P2 (Rep Hv) ds xs->xs=bs.map V.str
 |[],_,bs,e,r=>by cases e;cases r;rfl
 |.str b::ds,_,bs,e,r=>by
  cases r with
  |cons x t=>
   cases hb:Mi.lh ds with
   |none=>rw[Mi.lh,hb]at e;cases e
   |some cs=>
    rw[Mi.lh,hb]at e;cases e;rw[Du hb t,nC.mp x];rfl
 |.non::_,_,_,e,_=>by cases e
 |.int _::_,_,_,e,_=>by cases e
 |.bl _::_,_,_,e,_=>by cases e
 |.lst _::_,_,_,e,_=>by cases e
 |.tup _::_,_,_,e,_=>by cases e
theorem D8(ha:AE M qP ta a)(hb:AE M qP tb b):AE M qV (oK K "str" (rJoin K) ta (fR tb gU)) (Mi.m2 Mi.u6 a b):=λe σ H Hv Q I h=>by
 obtain⟨x,hx,h⟩:=jd (aA.mp h);obtain⟨y,hy,h⟩:=jd (aA.mp h);cases x with
 | str sep=>cases y with
  |lst ds=>
   obtain⟨ys,hs,h⟩:=gV (aA.mp h);obtain⟨hz,h⟩:=Mi.cq h;refine ha e σ H Hv _ I (by
    rw[hx];intro v H1 Hv1 g1 r1;cases RD.str r1;refine⟨rfl,hb e σ H1 Hv1 _ (I.grow g1) (by
     rw[hy];intro v2 H2 Hv2 g2 r2;obtain⟨p,xs,rfl,l,r⟩:=RD.lst g2.vw r2;have:=Du hs r;subst this;exact⟨sep,p,ys,rfl,rfl,l.sq,hz,(Mi.nZ h) _ H2 Hv2 (g1.trans g2) sQ⟩)⟩)
  |_=>exact h.elim
 |_=>cases y<;>exact h.elim
theorem uc{H:Hp}{d:D}{v:V}{y:Mi.Ky}(h:Mi.m8 d=ab y)(r:Rep H d v):v=kV y:=by
 cases d with
 |bl i=>cases h;exact o1.mp r
 |str i=>cases h;exact nC.mp r
 |_=>cases h
theorem vA{H:Hp}:∀{ds:List D} {vs:List V} {ys:List Mi.Ky},Mi.nX ds=ab ys->P2 (Rep H) ds vs->vs=ys.map kV
 |[],_,_,h,r=>by cases h;cases r;rfl
 |d::ds,_,ys,h,r=>by
  cases r with
  |cons x t=>
   unfold Mi.nX at h;cases h1:Mi.m8 d with
   |none=>rw[h1]at h;cases h
   |some y=>
    cases h2:Mi.nX ds with
    |none=>rw[h1,h2]at h;cases h
    |some zs=>
     rw[h1,h2]at h;cases h;rw[uc h1 x,vA h2 t];rfl
theorem wH{H Hv:Hp}(vw:Vw H Hv){w:W}{x:V}{d:D}{v:V}{q:Option D->Prop}(hw:RB H Hv w x)(r:Rep Hv d v)(h:Fin (Mi.pY w d) q):∃a o o',x=.ref a/\ib H a v o/\q o'/\match o' with
 |some d'=>∃v',o=ab v'/\Rep Hv d' v'
 |none=>o=ac:=by
 cases w with
 |d x=>exact h.elim
 |ex z=>exact h.elim
 |fn z=>exact h.elim
 |dk ao=>
  obtain⟨y,hy,h⟩:=gV (aA.mp h);have h:q (Mi.gK ao y):=h;have:∃a kv,x=.ref a/\H a=ab (.dK kv)/\eI Hv ao kv:=by
   rcases hw with ⟨a,kv,e,z,c⟩|⟨a,o,e,z,c⟩
   ·exact⟨a,kv,e,vw.sub _ _ z,c⟩
   ·cases o with
    |dK kv=>exact⟨a,kv,e,z,c⟩
    |_=>exact c.elim
  obtain⟨a,kv,e,z,c⟩:=this;have hv:=uc hy r;subst hv;exact⟨a,_,_,e,ib.k z,h,xt c⟩
 |dt ao=>
  cases d with
  |tup ds=>
   obtain⟨y,hy,h⟩:=gV (aA.mp h);have h:q (Mi.gK ao y):=h;have:∃a kv,x=.ref a/\H a=ab (.dT kv)/\eI Hv ao kv:=by
    rcases hw with ⟨a,kv,e,z,c⟩|⟨a,o,e,z,c⟩
    ·exact⟨a,kv,e,vw.sub _ _ z,c⟩
    ·cases o with
     |dT kv=>exact⟨a,kv,e,z,c⟩
     |_=>exact c.elim
   obtain⟨a,kv,e,z,c⟩:=this;obtain⟨b,xs,rfl,l,r⟩:=ia.mp r;have hv:=vA hy r;subst hv;exact⟨a,_,_,e,ib.t z (vw.sub _ _ l),h,xt c⟩
  |_=>exact h.elim
 |df ao=>
  cases d with
  |tup ds=>
   obtain⟨y,hy,h⟩:=gV (aA.mp h);have h:q (Mi.gK ao y):=h;have:∃a ob kv,x=.ref a/\H a=ab (.frz ob (.dT kv))/\eI Hv ao kv:=by
    rcases hw with ⟨a,ob,kv,e,z,c⟩|⟨a,o,e,z,c⟩
    ·exact⟨a,ob,kv,e,vw.sub _ _ z,c⟩
    ·exact c.elim
   obtain⟨a,ob,kv,e,z,c⟩:=this;obtain⟨b,xs,rfl,l,r⟩:=ia.mp r;have hv:=vA hy r;subst hv;exact⟨a,_,_,e,.inr ⟨kv,y,b,.inr ⟨ob,z⟩,rfl,vw.sub _ _ l,rfl⟩,h,xt c⟩
  |_=>exact h.elim
theorem EF(i:Nat)(hk:AE M qV tk k):AE M qV (Fc tk (dB i)) (Mi.nA i k):=λe σ H Hv Q I h=>
 hk e σ H Hv _ I ((aA.mp h).mono λd hd v H1 Hv1 g1 r=>by
  obtain⟨w,he,hd⟩:=nk (aA.mp hd);have I1:=I.grow g1;obtain⟨x,q,z⟩:=I1.any he;obtain⟨a,o,o',e1,g,h2,m⟩:=wH g1.vw z r (aA.mp hd);refine⟨x,q,a,o,e1,g,?_⟩;have:o.isSome=o'.isSome:=by
   cases o' with
   |none=>have m:o=ac:=m;rw[m];rfl
   |some d'=>obtain⟨v',m,_⟩:=m;rw[m];rfl
  rw[this];exact h2 _ H1 Hv1 g1 eX)
theorem Dr(i:Nat)(hk:AE M qV tk k):AE M qV (DJ tk (dB i)) (Mi.hG i k):=λe σ H Hv Q I h=>
 hk e σ H Hv _ I ((aA.mp h).mono λd hd v H1 Hv1 g1 r=>by
  obtain⟨w,he,hd⟩:=nk (aA.mp hd);have I1:=I.grow g1;obtain⟨x,q,z⟩:=I1.any he;obtain⟨a,o,o',e1,g,h2,m⟩:=wH g1.vw z r (aA.mp hd);refine⟨x,q,a,o,e1,g,?_⟩;have:o.isSome=o'.isSome:=by
   cases o' with
   |none=>have m:o=ac:=m;rw[m];rfl
   |some d'=>obtain⟨v',m,_⟩:=m;rw[m];rfl
  rw[this];exact h2 _ H1 Hv1 g1 eX)
theorem Nl(i:Nat)(hk:AE M qV tk k):AE M qV (Cc (dB i) tk) (Mi.rp i k):=λe σ H Hv Q I h=>by
 obtain⟨d,hd,h⟩:=jd (aA.mp h);obtain⟨w,he,h⟩:=nk (aA.mp h);obtain⟨x,q,z⟩:=I.any he;refine⟨x,q,hk e σ H Hv _ I (by
  rw[hd];intro v H1 Hv1 g1 r;obtain⟨a,o,o',e1,g,h2,m⟩:=wH g1.vw (z.grow g1) r (aA.mp h);cases o' with
  |none=>exact h2.elim
  |some d'=>
   obtain⟨v',rfl,rv⟩:=m;exact⟨a,v',e1,g,h2 v' H1 Hv1 g1 rv⟩)⟩
theorem vD{tv:TE}{v:Mi.E}(i:Nat)(hm:M i=true)(hk:AE M qV tk k)(hv:AE M qV tv v):AS M κ (L2.eB (dB i) tk tv) (Mi.eB i k v):=λH0 Hv0 e σ H Hv D I h=>by
 obtain⟨d,hd,h⟩:=jd (aA.mp h);obtain⟨y,hy,h⟩:=jd (aA.mp h);obtain⟨w,he,h⟩:=nk (aA.mp h);refine hv e σ H Hv _ I.toR0 (by
  rw[hd];intro x H1 Hv1 g1 rx;have I1:=I.grow g1;obtain⟨p,o,q,q1,n,h0,c⟩:=I1.cell hm he;refine⟨.ref p,q,hk e σ H1 Hv1 _ I1.toR0 (by
   rw[hy];intro u H2 Hv2 g2 ru;have I2:=I1.grow g2;have c2:=c.same g2.vis;have q2:=g2.old.at q1 c.nt;have g12:=g1.trans g2;have rx2:=gC g2.vis rx;cases w with
   |d x=>exact(show False from aA.mp h).elim
   |ex z=>exact(show False from aA.mp h).elim
   |fn z=>exact(show False from aA.mp h).elim
   |df z=>exact(show False from aA.mp h).elim
   |dk ao=>
    obtain⟨hz,h⟩:=Mi.cq (aA.mp h);obtain⟨ky,hky,h⟩:=gV (aA.mp h);cases o with
    |dK kv=>
     have c2:eI Hv2 ao kv:=c2;have hu:=uc hky ru;subst hu;refine⟨p,_,rfl,mi.k q2 (by rw[<- P2.len c2,eh];exact hz),?_⟩;exact h σ _ Hv2 (I2.write hm he q (show dW Hv2 (.dk (Mi.putK ky d ao)) (.dK (L2.putK kv ky x))from FE rx2 c2)) g12.vis
    |_=>exact c2.elim
   |dt ao=>
    cases y with
    |tup ds=>
     obtain⟨hz,h⟩:=Mi.cq (aA.mp h);obtain⟨ky,hky,h⟩:=gV (aA.mp h);cases o with
     |dT kv=>
      have c2:eI Hv2 ao kv:=c2;obtain⟨b,xs,rfl,l,r⟩:=(ia (H:=Hv2)).mp ru;have hu:=vA hky r;subst hu;refine⟨p,_,rfl,mi.t q2 (g2.vw.sub _ _ l) (by rw[<- P2.len c2,eh];exact hz),?_⟩;exact h σ _ Hv2 (I2.write hm he q (show dW Hv2 (.dt (Mi.putK ky d ao)) (.dT (L2.putK kv ky x))from FE rx2 c2)) g12.vis
     |_=>exact c2.elim
    |_=>exact(show False from aA.mp h).elim)⟩)
end
end A
namespace Zp
open PySem PySem.Spec PyProof.Rows L2
variable[Tb:A.bD]
section
variable{P:br}{w:bd}{B:bN}{F:ah->aw->Prop}{z:aw}
theorem NH{c t:ag}{i:Nat}{us:Array ah}{u:ah}{R:ah->aw->Prop}(hc:z.heap.IsTupleIter c t i)(ht:z.heap.IsTuple t us)(hu:us[i]? = ab u)
 (hR:∀h',h'.IsTupleIter c t (i+1)->mX c z.heap h'->R u { z with heap:=h' }):wpAny (model P w) B (oB (.ref c)) R F z:=by
 obtain⟨ob,gb,cb,db⟩:=id hc;obtain⟨ol,gl,_,nl,dl⟩:=ht;unfold oB;refine aH (qj (name:=oE "__next__") hc.typeIs wm (mS wm hc.typeIs GN ?_ (GL _)));show wpAny _ _ (field (.ref c) 0 >>= _) _ _ z;refine aH (mT gb db (x:=.ref t) rfl ?_);show wpAny _ _ (if(dL t==iZ)=true then _ else _) _ _ z;rw[ba (λq:(dL t==iZ)=true=>nomatch q)];show wpAny _ _ (field (.ref c) 1 >>= _) _ _ z;refine aH (mT gb db (x:=.int i 0) rfl ?_);show wpAny _ _ (seqItems? (.ref t) >>= _) _ _ z;refine aH (qm gl dl ?_);simp only[jX,hu];refine aH (v7 gb db (by simp) (bB ⟨u,rfl,bB (hR _ ?_ (tT ..))⟩));refine⟨_,ox _ gb (G0 (wt db _)),(Obj.cls_mapFields ..).trans cb,?_⟩;rw[wt db];simp[rawInt]
theorem LA{c t:ag}{i:Nat}{us:Array ah}{R:ah->aw->Prop}(hn:B.handled=ac)(hc:z.heap.IsTupleIter c t i)(ht:z.heap.IsTuple t us)(hu:us[i]? = ac)
 (hF:∀h' e,we c z.heap h'->(∃o,h'.get? e=ab o/\o.cls=.type "StopIteration")->F (.ref e) { z with heap:=h' }):wpAny (model P w) B (oB (.ref c)) R F z:=by
 obtain⟨ob,gb,cb,db⟩:=id hc;obtain⟨ol,gl,_,nl,dl⟩:=ht;unfold oB;refine aH (qj (name:=oE "__next__") hc.typeIs wm (mS wm hc.typeIs GN ?_ (GL _)));show wpAny _ _ (field (.ref c) 0 >>= _) _ _ z;refine aH (mT gb db (x:=.ref t) rfl ?_);show wpAny _ _ (if(dL t==iZ)=true then _ else _) _ _ z;rw[ba (λq:(dL t==iZ)=true=>nomatch q)];show wpAny _ _ (field (.ref c) 1 >>= _) _ _ z;refine aH (mT gb db (x:=.int i 0) rfl ?_);show wpAny _ _ (seqItems? (.ref t) >>= _) _ _ z;refine aH (qm gl dl ?_);simp only[jX,hu];refine aH (wpAny_rule (aH (v7 gb db (by simp) ?_)));show wpAny _ _ (newExc (.type "StopIteration") [] >>= _) _ _ _;refine aH ?_;simp only[newExc,newTuple];refine aH (tH ?_ (by size_fits));refine aH (m:=firstArgMember _ _) (wpAny_of_eq (a:=iZ) (by simp only[firstArgMember];rfl) (tH ?_ (by size_fits)));simp only[raiseNew];refine aH (wpAny_handled ?_)
 first|rw[show B.in1.handled=ac from hn]|rw[hn]
 exact aH (bB (wpAny_throw (hF _ _ (((tT ..).extBut.push _).push _) ⟨_,cL _ rfl,rfl⟩)))
end
def nm:Bool->String|true => "list" | false => "tuple"
def B6:Bool->String|true => "list_iterator" | false => "tuple_iterator"
def et(k:Bool)(h:aR)(l:ag)(us:Array ah):Prop:=∃o,h.get? l=ab o/\o.cls=.type (nm k)/\∃n,o.data=.seq us n
def kE(k:Bool)(h:aR)(c l:ag)(i:Nat):Prop:=∃o,h.get? c=ab o/\o.cls=.type (B6 k)/\o.data=.fields #[.ref l,.int i 0]
theorem et.at{k:Bool}{h h':aR}{l:ag}{us:Array ah}(x:et k h l us)(f:∀o,h.get? l=ab o->h'.get? l=ab o):et k h' l us:=let ⟨o,e,r⟩:=x;⟨o,f o e,r⟩
theorem kE.at{k:Bool}{h h':aR}{c l:ag}{i:Nat}(x:kE k h c l i)(f:∀o,h.get? c=ab o->h'.get? c=ab o):kE k h' c l i:=let ⟨o,e,r⟩:=x;⟨o,f o e,r⟩
theorem kE.cell{k:Bool}{h:aR}{c l:ag}{i:Nat}(x:kE k h c l i):∃o,h.get? c=ab o/\∀v,o.data≠.cell v:=let ⟨o,e,_,d⟩:=x;⟨o,e,λv q=>by rw[d]at q;cases q⟩
section
variable{P:br}{w:bd}{B:bN}{F:ah->aw->Prop}{z:aw}
theorem nx{k:Bool}{c t:ag}{i:Nat}{us:Array ah}{u:ah}{R:ah->aw->Prop}(hc:kE k z.heap c t i)(ht:et k z.heap t us)(hu:us[i]? = ab u)
 (hR:∀h',kE k h' c t (i+1)->mX c z.heap h'->R u { z with heap:=h' }):wpAny (model P w) B (oB (.ref c)) R F z:=by
 cases k
 ·exact NH hc ht hu hR
 ·exact wpAny_nextOf_list_item hc ht hu hR
theorem JJ{k:Bool}{c t:ag}{i:Nat}{us:Array ah}{R:ah->aw->Prop}(hn:B.handled=ac)(hc:kE k z.heap c t i)(ht:et k z.heap t us)(hu:us[i]? = ac)
 (hF:∀h' e,we c z.heap h'->(∃o,h'.get? e=ab o/\o.cls=.type "StopIteration")->F (.ref e) { z with heap:=h' }):wpAny (model P w) B (oB (.ref c)) R F z:=by
 cases k
 ·exact LA hn hc ht hu hF
 ·exact wpAny_nextOf_list_end hn hc ht hu hF
abbrev gO(k:Bool)(l:ag):Obj:={ cls:=.type (B6 k),data:=.fields #[.ref l,.int 0 0] }
theorem sy{k:Bool}{l:ag}{us:Array ah}{R:ah->aw->Prop}(h:et k z.heap l us)(hR:R (.ref z.heap.objs.size) { z with heap:=z.heap.push (gO k l) }):wpAny (model P w) B (pyIter (.ref l)) R F z:=by
 cases k
 ·exact wpAny_pyIter_tuple h hR
 ·exact v4 h hR
end
end Zp
namespace Zp
open PySem PySem.Spec PyProof.Rows L2
variable[Tb:A.bD]
structure Sr where
 k:Bool
 c:ag
 l:ag
 us:Array ah
def On(h:aR)(i:Nat)(q:Sr):Prop:=kE q.k h q.c q.l i/\et q.k h q.l q.us
theorem On.at{h h':aR}{i:Nat}{q:Sr}(x:On h i q)(f:∀b o,b=q.c\/b=q.l->h.get? b=ab o->h'.get? b=ab o):On h' i q:=⟨x.1.at λo e=>f _ o (.inl rfl) e,x.2.at λo e=>f _ o (.inr rfl) e⟩
abbrev TupAt(h:aR)(T:ag)(vs:List ah):Prop:=h.get? T=ab { cls:=.type "tuple", data:=.seq vs.toArray }
structure Ap(z TI TO:ag)(L:List Sr):Prop where
 TIz:TI≠z
 TOz:TO≠z
 TITO:TI≠TO
 nd:(L.map (·.c)).Nodup
 c:∀q∈L,q.c≠z/\q.c≠TI/\q.c≠TO
 l:∀q∈L,q.l≠z/\q.l≠TO/\∀r∈L,q.l≠r.c
theorem CU{M:Model}{B:bN}{α β:Type}{b:β}{f:α->β->Sem (ForInStep β)}{E:ah->aw->Prop}(I:Nat->aw->Prop):∀(xs:List α) (n:Nat) (s:aw),
 (∀j x,xs[j]? = ab x->∀s,I (n+j) s->wpAny M B (f x b) (λr s'=>r=.yield b/\I (n+j+1) s') E s)->I n s->wpAny M B (forIn xs b f) (λr s'=>r=b/\I (n+xs.length) s') E s
 |[],n,s,_,h=>by
  rw[List.forIn_nil];exact bB ⟨rfl,h⟩
 |x::r,n,s,hs,h=>by
  rw[zT];refine aH (iX (hs 0 x rfl s h) (λy s' hy=>?_) λ_ _ e=>e);obtain⟨rfl,hy⟩:=hy;refine iX (CU I r (n+1) s' (λj x' e s2 h2=>?_) hy) (λy s2 h2=>⟨h2.1,?_⟩) λ_ _ e=>e
  ·rw[show n+1+j=n+(j+1)by omega]at h2 ⊢;exact hs (j+1) x' (by simpa using e) s2 h2
  ·rw[c6,show n+(r.length+1)=n+1+r.length by omega];exact h2.2
section
variable{P:br}{w:bd}{B:bN}{F:ah->aw->Prop}{s:aw}
def Kp(z TO:ag)(L:List Sr)(h h':aR):Prop:=∀b o,b≠z->b≠TO->b∉L.map (·.c)->h.get? b=ab o->h'.get? b=ab o
structure Mid(s:aw)(z TI TO:ag)(L:List Sr)(i n:Nat)(s':aw):Prop where
 zz:IsZip s'.heap z TI TO .ellipsis
 vs:∃vs:List ah,vs.length=L.length/\TupAt s'.heap TO vs/\∀(j:Nat) (q:Sr),j<n->L[j]? = ab q->vs[j]? = q.us[i]?/\i<q.us.size
 on:∀(j:Nat) (q:Sr),L[j]? = ab q->On s'.heap (if j<n then i+1 else i) q
 sz:s'.heap.objs.size=s.heap.objs.size
 kp:Kp z TO L s.heap s'.heap
 eq:s'={ s with heap:=s'.heap }
theorem KS{L:List Sr}(h:(L.map (·.c)).Nodup){i j:Nat}{p q:Sr}(hp:L[i]? = ab p)(hq:L[j]? = ab q)(hij:i≠j):p.c≠q.c:=by
 intro e;have h1:(L.map (·.c))[i]? = ab p.c:=by rw[cX,hp];rfl
 have h2:(L.map (·.c))[j]? = ab q.c:=by rw[cX,hq];rfl
 obtain⟨l1,g1⟩:=b9.mp h1;obtain⟨l2,g2⟩:=b9.mp h2;exact hij ((mP h).mp (by rw[g1,g2,e]))
theorem FF{z TI TO:ag}{L:List Sr}{i:Nat}{vs:List ah}{R:ah->aw->Prop}(hh:B.handled=ac)(D:Ap z TI TO L)(h0:L≠[])
 (hz:IsZip s.heap z TI TO .none) (hI:TupAt s.heap TI (L.map λq=>.ref q.c)) (hO:TupAt s.heap TO vs) (hl:vs.length=L.length) (hL:L.length<=8) (hon:∀q∈L,On s.heap i q)
 (hR:∀(h':aR) (ws:List ah),IsZip h' z TI TO (rawInt s.heap.objs.size)->ws.length=L.length->(∀(j:Nat) (q:Sr),L[j]? = ab q->ws[j]? = q.us[i]?/\i<q.us.size)->TupAt h' TO ws->TupAt h' s.heap.objs.size ws->(∀q∈L,On h' (i+1) q) ->
  Kp z TO L s.heap h'->R (.ref s.heap.objs.size) { s with heap:=h' })
 (hF:∀(h':aR) (e:ag),Kp z TO L s.heap h'->(∃o,h'.get? e=ab o/\o.cls=.type "StopIteration")->(∃q∈L,q.us.size<=i)->F (.ref e) { s with heap:=h' }) :
 wpAny (model P w) B (Builtin.«zip.__next__» ⟨[.ref z],[]⟩) (λfin s'=>∃v,fin=.done (.ret v)/\R v s') F s:=by
 show wpAny _ _ (field (.ref z) 2 >>= _) _ _ _;refine aH (mT hz rfl (x:=.bool false) rfl ?_);show wpAny _ _ (field (.ref z) 3 >>= _) _ _ _;refine aH (mT hz rfl (x:=.ref TI) rfl ?_);refine aH (qm hI rfl ?_);have hne:((L.map λq=>dL q.c).toArray.isEmpty)=false:=by cases L with|nil=>exact absurd rfl h0|cons q r=>rfl
 simp only[hne,qr,jk];show wpAny _ _ (GY (.ref z) >>= _) _ _ _;refine aH ?_;unfold GY;refine aH (mT hz rfl (x:=.none) rfl (bB ?_));simp only[kr];refine aH (wpAny_rule (aH (mT hz rfl (x:=.ref TO) rfl (aH (v0 hz (by simp) λh1 hz1 hs1=>?_)))));replace hz1:IsZip h1 z TI TO .ellipsis:=hz1;have M0:Mid s z TI TO L i 0 { s with heap:=h1 }:=⟨hz1,⟨vs,hl,hs1.extBut _ _ D.TOz hO,λj q h _=>absurd h (qq _)⟩,λj q e=>(hon q (gG e)).at λb o hb x=>by
  have hq:=gG e;rcases hb with rfl|rfl
  ·exact hs1.extBut _ _ (D.c q hq).1 x
  ·exact hs1.extBut _ _ (D.l q hq).1 x,hs1.1,λb o b1 _ _ x=>hs1.extBut _ _ b1 x,rfl⟩
 refine aH (iX (CU (Mid s z TI TO L i) _ 0 _ ?_ M0) ?_ λ_ _ e=>e)
 ·intro j x e s2 M;rw[eM]at M ⊢;obtain⟨q,hq,rfl⟩ : ∃q,L[j]? = ab q/\x=(dL q.c,j):=by
   simp only[List.getElem?_zipIdx,cX,Option.map_map]at e;obtain⟨q,hq,e⟩:=iY.mp e;exact⟨q,hq,by rw[<- e];simp⟩
  have hqm:=gG hq;have jlt:j<L.length:=(b9.mp hq).1;have onq:=M.on j q hq;rw[ba (jp j)]at onq;obtain⟨ws,wl,wO,wv⟩:=M.vs;refine aH (wpAny_onRaise ?_);show wpAny _ _ (oB (.ref q.c) >>= _) _ _ _;cases hu:q.us[i]? with
  |none=>
   refine aH (JJ hh onq.1 onq.2 hu λh3 e2 x3 he=>?_);obtain⟨oe,goe,coe⟩:=he;have hz3:IsZip h3 z TI TO .ellipsis:=x3 _ _ (D.c q hqm).1.symm M.zz;have hez:e2≠z:=λy=>by subst y;rw[hz3]at goe;cases goe;simp at coe
   refine v0 hz3 (by simp) λh4 _ x4=>?_;rw[M.eq];exact hF h4 e2 (λb o b1 b2 b3 y=>x4.extBut _ _ b1 (x3 _ _ (λq'=>b3 (by rw[q'];exact oo hqm)) (M.kp b o b1 b2 b3 y))) ⟨oe,x4.extBut _ _ hez goe,coe⟩ ⟨q,hqm,by simpa using hu⟩
  |some u=>
   refine aH (nx onq.1 onq.2 hu λh3 a3 x3=>bB ?_);have hO3:TupAt h3 TO ws:=x3.extBut _ _ (D.c q hqm).2.2.symm wO;refine aH (qm hO3 rfl (aH (v6 hO3 rfl ?_ (by rw[cS,wl,eh];omega) (by simp only[Array.size_setIfInBounds,cS];rw[wl,eh];omega))));refine aH (wpAny_letGo (bB ⟨rfl,?_⟩));have x4:mX TO h3 (h3.update TO (i4 (·.setIfInBounds j u))):=tT ..;have hu':i<q.us.size:=(Array.getElem?_eq_some_iff.mp hu).1;have up:∀b o,b≠q.c->b≠TO->s2.heap.get? b=ab o->(h3.update TO (i4 (·.setIfInBounds j u))).get? b=ab o:=λb o b1 b2 y=>x4.extBut _ _ b2 (x3.extBut _ _ b1 y);refine⟨up _ _ (D.c q hqm).1.symm D.TOz.symm M.zz,⟨ws.set j u,by rw[gH];exact wl,?_,λk r hk hr=>?_⟩,λk r hr=>?_,?_,λb o b1 b2 b3 y=>up b o (λq'=>b3 (by rw[q'];exact oo hqm)) b2 (M.kp b o b1 b2 b3 y),?_⟩
   ·show(h3.update TO _).get? TO=_;rw[ox _ hO3 rfl];simp[i4]
   ·by_cases hkj:k=j
    ·subst hkj;rw[hq]at hr;cases hr;rw[tw,a9 rfl,a9 (by omega),hu];exact⟨rfl,hu'⟩
    ·rw[tw,ba (λq=>hkj q.symm)];exact wv k r (by omega) hr
   ·have hrm:=gG hr;by_cases hkj:k=j
    ·subst hkj;rw[hq]at hr;cases hr;rw[a9 (Ae _)];exact⟨a3.at λo y=>x4.extBut _ _ (D.c q hqm).2.2 y,onq.2.at λo y=>up _ o ((D.l q hqm).2.2 q hqm) (D.l q hqm).2.1 y⟩
    ·have:=M.on k r hr;rw[show(if k<j then i+1 else i)=(if k<j+1 then i+1 else i)from by
      by_cases h:k<j
      ·rw[a9 h,a9 (by omega)]
      ·rw[ba h,ba (by omega)]]at this
     exact this.at λb o hb y=>by
      rcases hb with rfl|rfl
      ·exact up _ _ (KS D.nd hr hq hkj) (D.c r hrm).2.2 y
      ·exact up _ _ ((D.l r hrm).2.2 q hqm) (D.l r hrm).2.1 y
   ·show(h3.update TO _).objs.size=_;rw[x4.1,x3.1,M.sz]
   ·rw[M.eq]
 ·rintro r s2 ⟨rfl,M⟩;have hL2:0+((L.map λq=>dL q.c).toArray.toList.zipIdx).length=L.length:=by simp
  rw[hL2]at M;obtain⟨ws,wl,wO,wv⟩:=M.vs;refine aH (qm wO rfl (aH (wpAny_newTuple ?_ (by show ws.length<=_;rw[wl,eh];omega))));show wpAny _ _ (GX (.ref z) (.ref s2.heap.objs.size) >>= _) _ _ _;refine aH ?_;unfold GX;have hz6:IsZip (s2.heap.push { cls:=.type "tuple", data:=.seq ws.toArray }) z TI TO .ellipsis:=bX _ M.zz;refine aH (v0 hz6 (by simp) λh7 hz7 x7=>?_);replace hz7:IsZip h7 z TI TO (rawInt s2.heap.objs.size):=hz7;refine v0 hz7 (by simp) λh8 hz8 x8=>?_;replace hz8:IsZip h8 z TI TO (rawInt s2.heap.objs.size):=hz8;have up:∀b o,b≠z->s2.heap.get? b=ab o->h8.get? b=ab o:=λb o b1 y=>x8.extBut _ _ b1 (x7.extBut _ _ b1 (bX _ y));have hzl:z<s2.heap.objs.size:=bZ M.zz;have hT8:TupAt h8 s2.heap.objs.size ws:=x8.extBut _ _ (oy hzl) (x7.extBut _ _ (oy hzl) (cL _ rfl));refine bB ⟨_,rfl,?_⟩;show R (.ref s2.heap.objs.size) _;rw[M.sz]at hz8 hT8 ⊢;have e:=M.eq;rw[e];exact hR h8 ws hz8 wl (λj q hq=>wv j q (b9.mp hq).1 hq) (up _ _ D.TOz wO) hT8 (λq hq=>by
   obtain⟨j,hj⟩:=mK hq;have:=M.on j q hj;rw[a9 (b9.mp hj).1]at this;exact this.at λb o hb y=>by
    rcases hb with rfl|rfl
    ·exact up _ _ (D.c q hq).1 y
    ·exact up _ _ (D.l q hq).1 y) λb o b1 b2 b3 y=>up b o b1 (M.kp b o b1 b2 b3 y)
end
end Zp
namespace Zp
open PySem PySem.Spec PyProof.Rows L2
variable[Tb:A.bD]
section
variable{P:br}{w:bd}{B:bN}{F':ah->aw->Prop}{s:aw}
theorem vo(a b c:ah):checkTypeCall "zip" ⟨[a,b,c],[]⟩=pure ():=by kernel_rfl
theorem Jh(a b c:ah):checkBuiltinCall "zip.__new__" ⟨[.type "zip", a,b,c],[]⟩=pure ():=by kernel_rfl
theorem KL(a b c d:ah):argsOk "object.__init__" ⟨[a,b,c,d],[]⟩:=by unfold argsOk;rw[signature?_of (id := "object.__init__") (n:=['_','_','t','i','n','i','_','_']) (o:=['t','c','e','j','b','o']) (by kernel_rfl) F.owner_object];kernel_rfl
abbrev zO(TI TO:ag):Obj:={ cls:=.type "zip", data:=.fields #[.none,.bool false,.bool false,.ref TI,.ref TO] }
abbrev tO(vs:List ah):Obj:={ cls:=.type "tuple", data:=.seq vs.toArray }
theorem mk2(k1 k2:Bool)(l1 l2:ag)(xs ys:Array ah) :
 Meets (Builtin.«zip.__new__» ⟨[.type "zip", .ref l1,.ref l2],[]⟩) (λ_ R s=>et k1 s.heap l1 xs/\et k2 s.heap l2 ys /\
  ∀h1 h2 h3 h4:aR,h1=s.heap.push (gO k1 l1)->h2=h1.push (gO k2 l2)->h3=h2.push (tO [.ref s.heap.objs.size,.ref h1.objs.size])->h4=h3.push (tO [.none,.none]) ->
  R (.ok (.ret (.ref h4.objs.size))) { s with heap:=h4.push (zO h2.objs.size h3.objs.size) }):=
 .of_wp λprog w A R s h=>by
  obtain⟨hp,g,d,tk,os⟩:=s;obtain⟨a1,a2,h⟩:=h;have hsub:=sub_zip;have b1:et k1 (tV ⟨hp,g,d,tk,os⟩) l1 xs:=a1;have b2:et k2 (tV ⟨hp.push (gO k1 l1),g,d,tk,os⟩) l2 ys:=a2.at λo e=>bX _ e
  wp_walk using sy b1,sy b2
  exact⟨_,rfl,h _ _ _ _ rfl rfl rfl rfl⟩
theorem mk3(k1 k2 k3:Bool)(l1 l2 l3:ag)(xs ys zs:Array ah) :
 Meets (Builtin.«zip.__new__» ⟨[.type "zip", .ref l1,.ref l2,.ref l3],[]⟩) (λ_ R s=>et k1 s.heap l1 xs/\et k2 s.heap l2 ys/\et k3 s.heap l3 zs /\
  ∀h1 h2 h3 h4 h5:aR,h1=s.heap.push (gO k1 l1)->h2=h1.push (gO k2 l2)->h3=h2.push (gO k3 l3)->h4=h3.push (tO [.ref s.heap.objs.size,.ref h1.objs.size,.ref h2.objs.size])->h5=h4.push (tO [.none,.none,.none]) ->
  R (.ok (.ret (.ref h5.objs.size))) { s with heap:=h5.push (zO h3.objs.size h4.objs.size) }):=
 .of_wp λprog w A R s h=>by
  obtain⟨hp,g,d,tk,os⟩:=s;obtain⟨a1,a2,a3,h⟩:=h;have hsub:=sub_zip;have b1:et k1 (tV ⟨hp,g,d,tk,os⟩) l1 xs:=a1;have b2:et k2 (tV ⟨hp.push (gO k1 l1),g,d,tk,os⟩) l2 ys:=a2.at λo e=>bX _ e;have b3:et k3 (tV ⟨(hp.push (gO k1 l1)).push (gO k2 l2),g,d,tk,os⟩) l3 zs:=a3.at λo e=>bX _ (bX _ e)
  wp_walk using sy b1,sy b2,sy b3
  exact⟨_,rfl,h _ _ _ _ _ rfl rfl rfl rfl rfl⟩
abbrev Tr:=Bool×ag×ag
structure Zs(h:aR)(z TI TO:ag)(T:List Tr)(i:Nat):Prop where
 zz:IsZip h z TI TO .none
 ti:TupAt h TI (T.map λq=>.ref q.2.1)
 to:∃vs:List ah,vs.length=T.length/\TupAt h TO vs
 it:∀q∈T,kE q.1 h q.2.1 q.2.2 i
theorem call2{k1 k2:Bool}{l1 l2:ag}{xs ys:Array ah}{R:ah->aw->Prop}(a1:et k1 s.heap l1 xs)(a2:et k2 s.heap l2 ys)
 (h:∀h',Zs h' (s.heap.objs.size+4) (s.heap.objs.size+2) (s.heap.objs.size+3) [(k1,s.heap.objs.size,l1),(k2,s.heap.objs.size+1,l2)] 0->(∀c o,s.heap.get? c=ab o->h'.get? c=ab o) ->
  R (.ref (s.heap.objs.size+4)) { s with heap:=h' }):wpAny (model P w) B (call (.type "zip") [.ref l1,.ref l2]) R F' s:=by
 refine callType_new F.called_zip (by decide) (F.typeCall_zip_2 _ _) (F.newCall_zip_2 _ _) (λobj=>F.args_object_init_3 obj _ _) F.entry_zip_new (mk2 k1 k2 l1 l2 xs ys) ⟨a1,a2,?_⟩;intro h1 h2 h3 h4 e1 e2 e3 e4;have z1:h1.objs.size=s.heap.objs.size+1:=by rw[e1];exact kS ..
 have z2:h2.objs.size=s.heap.objs.size+2:=by rw[e2,kS,z1]
 have z3:h3.objs.size=s.heap.objs.size+3:=by rw[e3,kS,z2]
 have z4:h4.objs.size=s.heap.objs.size+4:=by rw[e4,kS,z3]
 have p1:∀c o,s.heap.get? c=ab o->h1.get? c=ab o:=λc o x=>by rw[e1];exact bX _ x
 have p2:∀c o,h1.get? c=ab o->h2.get? c=ab o:=λc o x=>by rw[e2];exact bX _ x
 have p3:∀c o,h2.get? c=ab o->h3.get? c=ab o:=λc o x=>by rw[e3];exact bX _ x
 have p4:∀c o,h3.get? c=ab o->h4.get? c=ab o:=λc o x=>by rw[e4];exact bX _ x
 have p5:∀c o,h4.get? c=ab o->(h4.push (zO h2.objs.size h3.objs.size)).get? c=ab o:=λc o x=>bX _ x;have g1:h1.get? s.heap.objs.size=ab (gO k1 l1):=by rw[e1];exact cL _ rfl
 have g2:h2.get? h1.objs.size=ab (gO k2 l2):=by rw[e2];exact cL _ rfl
 have g3:h3.get? h2.objs.size=ab (tO [.ref s.heap.objs.size,.ref h1.objs.size]):=by rw[e3];exact cL _ rfl
 have g4:h4.get? h3.objs.size=ab (tO [.none,.none]):=by rw[e4];exact cL _ rfl
 have g5:(h4.push (zO h2.objs.size h3.objs.size)).get? h4.objs.size=ab (zO h2.objs.size h3.objs.size):=cL _ rfl;show _/\_;refine⟨⟨_,g5,rfl⟩,?_⟩;rw[z1]at g2 g3;rw[z2]at g3;rw[z3]at g4;rw[z4]at g5 ⊢;rw[z2,z3]at g5 p5 ⊢;exact h _ ⟨g5,p5 _ _ (p4 _ _ g3),⟨_,rfl,p5 _ _ g4⟩,λq hq=>by
  rcases bL.mp hq with rfl|hq
  ·exact⟨_,p5 _ _ (p4 _ _ (p3 _ _ (p2 _ _ g1))),rfl,rfl⟩
  ·obtain rfl:=cr.mp hq;exact⟨_,p5 _ _ (p4 _ _ (p3 _ _ g2)),rfl,rfl⟩⟩ λc o x=>p5 _ _ (p4 _ _ (p3 _ _ (p2 _ _ (p1 _ _ x))))
theorem lN{k1 k2 k3:Bool}{l1 l2 l3:ag}{xs ys zs:Array ah}{R:ah->aw->Prop}(a1:et k1 s.heap l1 xs)(a2:et k2 s.heap l2 ys)(a3:et k3 s.heap l3 zs)
 (h:∀h',Zs h' (s.heap.objs.size+5) (s.heap.objs.size+3) (s.heap.objs.size+4) [(k1,s.heap.objs.size,l1),(k2,s.heap.objs.size+1,l2),(k3,s.heap.objs.size+2,l3)] 0->(∀c o,s.heap.get? c=ab o->h'.get? c=ab o) ->
  R (.ref (s.heap.objs.size+5)) { s with heap:=h' }):wpAny (model P w) B (call (.type "zip") [.ref l1,.ref l2,.ref l3]) R F' s:=by
 refine callType_new F.called_zip (by decide) (vo _ _ _) (Jh _ _ _) (λobj=>KL obj _ _ _) F.entry_zip_new (mk3 k1 k2 k3 l1 l2 l3 xs ys zs) ⟨a1,a2,a3,?_⟩;intro h1 h2 h3 h4 h5 e1 e2 e3 e4 e5;have z1:h1.objs.size=s.heap.objs.size+1:=by rw[e1];exact kS ..
 have z2:h2.objs.size=s.heap.objs.size+2:=by rw[e2,kS,z1]
 have z3:h3.objs.size=s.heap.objs.size+3:=by rw[e3,kS,z2]
 have z4:h4.objs.size=s.heap.objs.size+4:=by rw[e4,kS,z3]
 have z5:h5.objs.size=s.heap.objs.size+5:=by rw[e5,kS,z4]
 have p1:∀c o,s.heap.get? c=ab o->h1.get? c=ab o:=λc o x=>by rw[e1];exact bX _ x
 have p2:∀c o,h1.get? c=ab o->h2.get? c=ab o:=λc o x=>by rw[e2];exact bX _ x
 have p3:∀c o,h2.get? c=ab o->h3.get? c=ab o:=λc o x=>by rw[e3];exact bX _ x
 have p4:∀c o,h3.get? c=ab o->h4.get? c=ab o:=λc o x=>by rw[e4];exact bX _ x
 have p5:∀c o,h4.get? c=ab o->h5.get? c=ab o:=λc o x=>by rw[e5];exact bX _ x
 have p6:∀c o,h5.get? c=ab o->(h5.push (zO h3.objs.size h4.objs.size)).get? c=ab o:=λc o x=>bX _ x;have g1:h1.get? s.heap.objs.size=ab (gO k1 l1):=by rw[e1];exact cL _ rfl
 have g2:h2.get? h1.objs.size=ab (gO k2 l2):=by rw[e2];exact cL _ rfl
 have g3:h3.get? h2.objs.size=ab (gO k3 l3):=by rw[e3];exact cL _ rfl
 have g4:h4.get? h3.objs.size=ab (tO [.ref s.heap.objs.size,.ref h1.objs.size,.ref h2.objs.size]):=by rw[e4];exact cL _ rfl
 have g5:h5.get? h4.objs.size=ab (tO [.none,.none,.none]):=by rw[e5];exact cL _ rfl
 have g6:(h5.push (zO h3.objs.size h4.objs.size)).get? h5.objs.size=ab (zO h3.objs.size h4.objs.size):=cL _ rfl;show _/\_;refine⟨⟨_,g6,rfl⟩,?_⟩;rw[z1]at g2 g4;rw[z2]at g3 g4;rw[z3]at g4;rw[z4]at g5;rw[z5]at g6 ⊢;rw[z3,z4]at g6 p6 ⊢;exact h _ ⟨g6,p6 _ _ (p5 _ _ g4),⟨_,rfl,p6 _ _ g5⟩,λq hq=>by
  rcases bL.mp hq with rfl|hq
  ·exact⟨_,p6 _ _ (p5 _ _ (p4 _ _ (p3 _ _ (p2 _ _ g1)))),rfl,rfl⟩
  rcases bL.mp hq with rfl|hq
  ·exact⟨_,p6 _ _ (p5 _ _ (p4 _ _ (p3 _ _ g2))),rfl,rfl⟩
  ·obtain rfl:=cr.mp hq;exact⟨_,p6 _ _ (p5 _ _ (p4 _ _ g3)),rfl,rfl⟩⟩ λc o x=>p6 _ _ (p5 _ _ (p4 _ _ (p3 _ _ (p2 _ _ (p1 _ _ x)))))
end
end Zp
namespace Zp
open PySem PySem.Spec PyProof.Rows L2 A
variable[Tb:A.bD]
def jg(H:Hp)(s:Bool×ag)(xs:List V):Prop:=match s.1 with
 |true=>Lst H s.2 xs
 |false=>H s.2=ab (.tup xs)
theorem jg.nn{H:Hp}{s:Bool×ag}{xs:List V}(h:jg H s xs):H s.2≠ac:=by
 obtain⟨k,a⟩:=s;cases k
 ·have h:H a=_:=h;show H a≠ac;rw[h];simp
 ·rcases(show Lst H a xs from h)with h|⟨o,h⟩
  ·show H a≠ac;rw[h];simp
  ·show H a≠ac;rw[h];simp
theorem jg.inj{H:Hp}{s:Bool×ag}{xs ys:List V}(h:jg H s xs)(h':jg H s ys):xs=ys:=by
 obtain⟨k,a⟩:=s;cases k
 ·have h:H a=ab (.tup xs):=h;have h':H a=ab (.tup ys):=h';rw[h]at h';cases h';rfl
 ·rcases(show Lst H a xs from h)with h|⟨o,h⟩<;>rcases(show Lst H a ys from h')with h'|⟨o',h'⟩<;>rw[h]at h'<;>cases h'<;>rfl
theorem jg.at{X:Cx}{af:List (ag×Obj)}{σ:L2.St}{H:Hp}{s:aw}{k:Bool}{a:ag}{xs:List V}(I:Inv X af σ H s)(h:jg H (k,a) xs):∃aq:List ah,Vals xs aq/\et k s.heap a aq.toArray:=by
 cases k
 ·have h:H a=ab (.tup xs):=h;obtain⟨_,aq,rv,o,e,c,_,d⟩:=I.hok a _ h;exact⟨aq,rv,o,e,c,d⟩
 ·have h:Lst H a xs:=h;obtain⟨aq,rv,⟨o,n,e,c,_,d⟩,_⟩:=I.list h.sq;exact⟨aq,rv,o,e,c,n,d⟩
abbrev g9(H:Hp)(S:List (Bool×ag))(xss:List (List V)):Prop:=P2 (λs xs=>jg H s xs) S xss
def mI(S:List (Bool×ag)):It:=
 ⟨fun i H => ∃ xss, g9 H S xss ∧ ∀ xs ∈ xss, i < xs.length,
  λi H v H'=>∃p ws,(∀xss,g9 H S xss->P2 (λ(xs:List V) x=>xs[i]? = ab x) xss ws)/\H p=ac/\v=.ref p/\H'=upd H p (.tup ws),
  λi H=>∃xss,g9 H S xss/\∃xs∈xss,xs.length<=i⟩
theorem E6{H:Hp}:∀{S:List (Bool×ag)} {xss yss:List (List V)},g9 H S xss->g9 H S yss->xss=yss
 |_,_,_,.nil,.nil=>rfl
 |_,_,_,.cons a r,.cons b t=>by rw[a.inj b,E6 r t]
theorem lie{X:Cx}{af:List (ag×Obj)}{σ:L2.St}{H:Hp}{s:aw}(I:Inv X af σ H s):∀{T:List Tr} {xss:List (List V)},g9 H (T.map λq=>(q.1,q.2.2)) xss ->
 ∃L:List Sr,L.map (λq=>(q.k,q.c,q.l))=T/\(∀q∈L,et q.k s.heap q.l q.us/\H q.l≠ac)/\P2 (λ(q:Sr) xs=>Vals xs q.us.toList) L xss
 |[],_,.nil=>⟨[],rfl,λq h=>absurd h (by simp),.nil⟩
 |(k,c,l)::T,_,.cons a r=>by
  obtain⟨L,e,h,p⟩:=lie I r;obtain⟨aq,rv,q⟩:=a.at I;refine⟨⟨k,c,l,aq.toArray⟩::L,by rw[cG,e],λy hy=>?_,.cons rv p⟩;rcases bL.mp hy with rfl|hy
  ·exact⟨q,a.nn⟩
  ·exact h y hy
theorem pick{i:Nat}:∀{L:List Sr} {xss:List (List V)} {ws:List ah},P2 (λ(q:Sr) xs=>Vals xs q.us.toList) L xss->ws.length=L.length->(∀(j:Nat) (q:Sr),L[j]? = ab q->ws[j]? = q.us[i]?/\i<q.us.size) ->
 ∃vws:List V,Vals vws ws/\P2 (λ(xs:List V) x=>xs[i]? = ab x) xss vws
 |_,_,[],.nil,_,_=>⟨[],.nil,.nil⟩
 |_,_,w::ws,.cons (a:=q) (b:=xs) rv t,hl,h=>by
  obtain⟨vws,r,p⟩:=pick t (by simpa using hl) λj r hr=>by simpa using h (j+1) r (by simpa using hr)
  obtain⟨e,hi⟩:=h 0 q rfl;have hlen:=rv.length;have hix:i<xs.length:=by simp at hlen;omega
  obtain⟨u,hu,ru⟩:=rv.get (i:=i) (x:=xs[i]) (by simp[hix]);have:ab w=ab u:=by have e':ab w=q.us[i]?:=e;rw[e',<- hu];simp
  cases this;exact⟨xs[i]::vws,.cons ru r,.cons (by simp[hix]) p⟩
 |_,_,[],.cons _ _,hl,_=>by simp at hl
 |_,_,w::ws,.nil,hl,_=>by simp at hl
structure xO(z TI TO:ag)(T:List Tr):Prop where
 TIz:TI≠z
 TOz:TO≠z
 TITO:TI≠TO
 nd:(T.map (·.2.1)).Nodup
 c:∀q∈T,q.2.1≠z/\q.2.1≠TI/\q.2.1≠TO
theorem Eu{P:br}{w:bd}{K:aP}{elts:List aY}{k1:Nat}{pos:Pos}{z TI TO:ag}{T:List Tr}(D0:xO z TI TO T)(hT0:T≠[])(hT8:T.length<=8) :
 Turn P w K (.Tuple elts k1 pos) (mI (T.map λq=>(q.1,q.2.2))) (z::TI::TO::T.map (·.2.1)) z (λi h=>Zs h z TI TO T i) where
 mem:=by simp
 obj:=λi h st b hb=>by
  rcases bL.mp hb with rfl|hb
  ·exact⟨_,st.zz,λv q=>by cases q⟩
  rcases bL.mp hb with rfl|hb
  ·exact⟨_,st.ti,λv q=>by cases q⟩
  rcases bL.mp hb with rfl|hb
  ·obtain⟨vs,_,h⟩:=st.to;exact⟨_,h,λv q=>by cases q⟩
  ·obtain⟨q,hq,rfl⟩:=ca.mp hb;exact(st.it q hq).cell
 keep:=λi h h' st kk=>⟨kk z (by simp) _ st.zz,kk TI (by simp) _ st.ti,let ⟨vs,l,e⟩:=st.to;⟨vs,l,kk TO (by simp) _ e⟩,λq hq=>(st.it q hq).at λo e=>kk _ (by simp only[bL];exact .inr (.inr (.inr (oo (f:=λq:Tr=>q.2.1) hq)))) o e⟩
 item:=by
  intro X hP hw hK hc i af s σ H E I hf st hg;subst hP hw hK;obtain⟨xss,hq,hx⟩:=hg;obtain⟨L,eL,at_,rL⟩:=lie I hq;have eT:T.map (λq=>(dL q.2.1))=L.map λq=>.ref q.c:=by rw[<- eL,dJ];rfl
  have eC:T.map (λq=>q.2.1)=L.map λq=>q.c:=by rw[<- eL,dJ];rfl
  have lT:T.length=L.length:=by rw[<- eL,aX]
  have inT:∀q∈L,(q.k,q.c,q.l)∈T:=λq h=>by rw[<- eL];exact oo (f:=λq:Sr=>(q.k,q.c,q.l)) h
  have lne:∀q∈L,∀b∈z::TI::TO::T.map (·.2.1),q.l≠b:=λq h b hb e=>(at_ q h).2 (by rw[e];exact(hf b hb).1);have D:Ap z TI TO L:=⟨D0.TIz,D0.TOz,D0.TITO,by rw[<- eC];exact D0.nd,λq h=>D0.c _ (inT q h),λq h=>⟨lne q h z (by simp),lne q h TO (by simp),λr hr=>lne q h r.c (by rw[eC];simp only[bL];exact .inr (.inr (.inr (oo (f:=λq:Sr=>q.c) hr))))⟩⟩;have hO:=st.to;obtain⟨vs,vl,hO⟩:=hO;have hTI:=st.ti;rw[eT]at hTI;have hty:s.TypeIs (.ref z) "zip" := ⟨_,st.zz,rfl⟩;unfold pyNext;refine aH (v9 (qj (name:=oE "__next__") hty wq (mS wq hty F.entry_zip_next
   (FF (by first|exact I.ok.hd hc|(simp;exact I.ok.hd hc)) D (λe=>hT0 (by rw[e]at lT;exact zH lT)) st.zz hTI hO (by rw[vl,lT]) (by omega) (λq h=>⟨st.it _ (inT q h),(at_ q h).1⟩) (λh' ws hz' wl wv hO' hN on' kp=>bB ?_) (λh' e kp he hend=>?_)) (F.args_zip_next_1 _))))
  ·refine⟨_,rfl,wpAny_letOwnedTupleGo_zip hz' λh2 hz2 hs2=>?_⟩;have kk:∀b o,b∉z::TI::TO::T.map (·.2.1)->s.heap.get? b=ab o->h2.get? b=ab o:=λb o hb q=>by
    simp only[bL,not_or]at hb;exact(hs2.2 b hb.1).trans (kp b o hb.1 hb.2.2.1 (by rw[<- eC];exact hb.2.2.2) q)
   have hne:∀b∈z::TI::TO::T.map (·.2.1),b≠s.heap.objs.size:=λb hb e=>by
    obtain⟨o,ho,_⟩ : ∃o,s.heap.get? b=ab o/\True:=by
     rcases bL.mp hb with rfl|hb
     ·exact⟨_,st.zz,trivial⟩
     rcases bL.mp hb with rfl|hb
     ·exact⟨_,st.ti,trivial⟩
     rcases bL.mp hb with rfl|hb
     ·exact⟨_,hO,trivial⟩
     ·obtain⟨q,hq,rfl⟩:=ca.mp hb;obtain⟨o,ho,_⟩:=st.it q hq;exact⟨o,ho,trivial⟩
    exact absurd (bZ ho) (by rw[e];exact jp _)
   obtain⟨vws,hv,hy⟩ : ∃vws:List V,Vals vws ws/\P2 (λ(xs:List V) x=>xs[i]? = ab x) xss vws:=by exact pick rL wl wv
   have hN2:TupAt h2 s.heap.objs.size ws:=(hs2.2 _ (λe=>hne z (by simp) e.symm)).trans hN;refine⟨.ref s.heap.objs.size,upd H s.heap.objs.size (.tup vws),D3 (s:=s) (t':=s.toks) I hf kk (bv _) ⟨?_,ws,hv,⟨_,hN2,rfl,rfl,_,rfl⟩⟩,rfl,⟨_,vws,λyss h=>by rw[E6 h hq];exact hy,I.hok.fresh (bv _),rfl,rfl⟩,?_,λb hb=>?_⟩
   ·rw[hv.length,wl,eh];omega
   ·refine⟨hz2,(hs2.2 _ D0.TIz).trans ?_,⟨ws,by rw[wl,lT],(hs2.2 _ D0.TOz).trans hO'⟩,λq hq2=>?_⟩
    ·exact kp _ _ D0.TIz D0.TITO (λh=>by
      rw[<- eC]at h;obtain⟨q,hq2,e⟩:=ca.mp h;exact(D0.c q hq2).2.1 e) st.ti
    ·rw[<- eL]at hq2;obtain⟨r,hr,rfl⟩:=ca.mp hq2;exact(on' r hr).1.at λo q=>(hs2.2 _ (D.c r hr).1).trans q
   ·rw[aL (hne b hb)];exact(hf b hb).1
  ·exfalso;obtain⟨q,hqm,hle⟩:=hend;obtain⟨j,hj⟩:=mK hqm;obtain⟨xs,hxs,rv⟩:=rL.getL hj;have:=hx xs (gG hxs);have:=rv.length;simp at this;omega
 done:=by
  intro X hP hw hK hc i af s σ H E I hf st hg;subst hP hw hK;obtain⟨xss,hq,xs0,hx0,hxl⟩:=hg;obtain⟨L,eL,at_,rL⟩:=lie I hq;have eT:T.map (λq=>(dL q.2.1))=L.map λq=>.ref q.c:=by rw[<- eL,dJ];rfl
  have eC:T.map (λq=>q.2.1)=L.map λq=>q.c:=by rw[<- eL,dJ];rfl
  have lT:T.length=L.length:=by rw[<- eL,aX]
  have inT:∀q∈L,(q.k,q.c,q.l)∈T:=λq h=>by rw[<- eL];exact oo (f:=λq:Sr=>(q.k,q.c,q.l)) h
  have lne:∀q∈L,∀b∈z::TI::TO::T.map (·.2.1),q.l≠b:=λq h b hb e=>(at_ q h).2 (by rw[e];exact(hf b hb).1);have D:Ap z TI TO L:=⟨D0.TIz,D0.TOz,D0.TITO,by rw[<- eC];exact D0.nd,λq h=>D0.c _ (inT q h),λq h=>⟨lne q h z (by simp),lne q h TO (by simp),λr hr=>lne q h r.c (by rw[eC];simp only[bL];exact .inr (.inr (.inr (oo (f:=λq:Sr=>q.c) hr))))⟩⟩;have hO:=st.to;obtain⟨vs,vl,hO⟩:=hO;have hTI:=st.ti;rw[eT]at hTI;have hty:s.TypeIs (.ref z) "zip" := ⟨_,st.zz,rfl⟩;unfold pyNext;refine aH (v9 (qj (name:=oE "__next__") hty wq (mS wq hty F.entry_zip_next
   (FF (by first|exact I.ok.hd hc|(simp;exact I.ok.hd hc)) D (λe=>hT0 (by rw[e]at lT;exact zH lT)) st.zz hTI hO (by rw[vl,lT]) (by omega) (λq h=>⟨st.it _ (inT q h),(at_ q h).1⟩) (λh' ws hz' wl wv hO' hN on' kp=>?_) (λh' e kp he hend=>?_)) (F.args_zip_next_1 _))))
  ·exfalso;obtain⟨j,hj⟩:=mK hx0;obtain⟨q,hqj,rv⟩:=rL.yb hj;have:=(wv j q hqj).2;have:=rv.length;simp at this;omega
  ·obtain⟨o,ho,hcl⟩:=he;refine aH (Aa (T := "StopIteration") (b:=true) ⟨o,ho,hcl⟩ isSubtype_stop (bB ⟨rfl,?_⟩));exact EM (s:=s) (t':=s.toks) I hf λb o hb q=>by
    simp only[bL,not_or]at hb;exact kp b o hb.1 hb.2.2.1 (by rw[<- eC];exact hb.2.2.2) q
 self:=λ_ i s Q E st h=>Ab st.zz h
end Zp
namespace Mi
def pA:D->Rs (List D)
 |.lst ds=>.ok ds
 |.tup ds=>.ok ds
 |_=>.no
def wL(a b:E):I:=λe=>(a e).bind λx=>(b e).bind λy=>(pA x).bind λds=>(pA y).bind λes=>.ok (iB ds es)
def xQ(a b c:E):I:=λe=>(a e).bind λx=>(b e).bind λy=>(c e).bind λz=>(pA x).bind λds=>(pA y).bind λes=>(pA z).bind λfs=>.ok (fO ds es fs)
end Mi
namespace Zp
open PySem PySem.Spec PyProof.Rows L2 A
open Mi (D W Rs Fin aA)
variable[Tb:A.bD]
theorem jg.same{H H':Hp}{s:Bool×ag}{xs:List V}(h:cy H H')(q:jg H s xs):jg H' s xs:=by
 obtain⟨k,a⟩:=s;cases k
 ·exact h _ _ q
 ·exact Lst.same (a:=a) h q
theorem ng{H H':Hp}{S:List (Bool×ag)}{xss:List (List V)}(h:cy H H')(q:g9 H S xss):g9 H' S xss:=q.imp λ_ _ x=>x.same h
def zf(dss:List (List D))(dz:List D):Prop:=(∀i,i<dz.length->∃us,dz[i]? = ab (.tup us)/\P2 (λ(ds:List D) u=>ds[i]? = ab u) dss us)/\∃ds∈dss,ds.length=dz.length
theorem picks{Hv:Hp}{i:Nat}:∀{dss:List (List D)} {xss:List (List V)} {us:List D} {ws:List V},P2 (P2 (Rep Hv)) dss xss->P2 (λ(ds:List D) u=>ds[i]? = ab u) dss us->P2 (λ(xs:List V) x=>xs[i]? = ab x) xss ws->P2 (Rep Hv) us ws
 |_,_,_,_,.nil,.nil,.nil=>.nil
 |_,_,_,_,.cons a r,.cons b s,.cons c t=>.cons (a.get b c) (picks r s t)
theorem E4{α β:Type}{F:α->β->Prop}:∀{l:List α} {m:List β} {b:β},P2 F l m->b∈m->∃a∈l,F a b
 |_,_,_,.cons x t,h=>by
  rcases bL.mp h with rfl|h
  ·exact⟨_,dA ..,x⟩
  ·obtain⟨a,ha,q⟩:=E4 t h;exact⟨a,ff _ ha,q⟩
theorem yW{α β:Type}{F:α->β->Prop}:∀{l:List α} {m:List β} {a:α},P2 F l m->a∈l->∃b∈m,F a b
 |_,_,_,.cons x t,h=>by
  rcases bL.mp h with rfl|h
  ·exact⟨_,dA ..,x⟩
  ·obtain⟨a,ha,q⟩:=yW t h;exact⟨a,ff _ ha,q⟩
def ZP(S:List (Bool×ag))(dss:List (List D))(xss:List (List V))(_ Hv:Hp):Prop:=g9 Hv S xss/\P2 (P2 (Rep Hv)) dss xss
theorem DY{S:List (Bool×ag)}{dss:List (List D)}{xss:List (List V)}{dz:List D}(hz:zf dss dz):pi (mI S) (ZP S dss xss) dz:=by
 refine⟨λi H Hv p v hi=>?_,λi H Hv x H' p v hi y=>?_,λH Hv p v=>?_⟩
 ·obtain⟨us,_,hu⟩:=hz.1 i hi;refine⟨xss,ng v.sub p.1,λxs hx=>?_⟩;obtain⟨ds,hd,r⟩:=E4 p.2 hx;obtain⟨u,_,e⟩:=yW hu hd;have:=(b9.mp e).1;rw[<- r.len];exact this
 ·obtain⟨us,hd,hu⟩:=hz.1 i hi;obtain⟨q,ws,hw,hq,rfl,rfl⟩:=y;have r:=picks p.2 hu (hw xss (ng v.sub p.1));obtain⟨g,k⟩:=xo v r hq;exact⟨_,.tup us,g,hd,k⟩
 ·obtain⟨ds,hd,e⟩:=hz.2;obtain⟨xs,hx,r⟩:=yW p.2 hd;exact⟨xss,ng v.sub p.1,xs,hx,by rw[<- r.len];omega⟩
theorem Bz:∀ds es:List D,zf [ds,es] (Mi.iB ds es)
 |[],es=>⟨λi h=>absurd h (by simp[Mi.iB]),[],by simp,by simp[Mi.iB]⟩
 |d::r,[]=>⟨λi h=>absurd h (by simp[Mi.iB]),[],by simp,by simp[Mi.iB]⟩
 |d::r,e::s=>by
  obtain⟨h1,ds,hd,hl⟩:=Bz r s;refine⟨λi hi=>?_,?_⟩
  ·cases i with
   |zero=>exact⟨[d,e],rfl,.cons rfl (.cons rfl .nil)⟩
   |succ i=>
    obtain⟨us,a,b⟩:=h1 i (by simpa [Mi.iB]using hi);refine⟨us,by simpa [Mi.iB]using a,?_⟩;cases b with
    |cons x t=>
     cases t with
     |cons y t=>cases t;exact .cons (by simpa using x) (.cons (by simpa using y) .nil)
  ·rcases bL.mp hd with rfl|hd
   ·exact⟨d::ds,by simp,by simp[Mi.iB,hl]⟩
   ·obtain rfl:=cr.mp hd;exact⟨e::ds,by simp,by simp[Mi.iB,hl]⟩
theorem DH:∀ds es fs:List D,zf [ds,es,fs] (Mi.fO ds es fs)
 |[],es,fs=>⟨λi h=>absurd h (by simp[Mi.fO]),[],by simp,by simp[Mi.fO]⟩
 |d::r,[],fs=>⟨λi h=>absurd h (by simp[Mi.fO]),[],by simp,by simp[Mi.fO]⟩
 |d::r,e::s,[]=>⟨λi h=>absurd h (by simp[Mi.fO]),[],by simp,by simp[Mi.fO]⟩
 |d::r,e::s,f::t=>by
  obtain⟨h1,ds,hd,hl⟩:=DH r s t;refine⟨λi hi=>?_,?_⟩
  ·cases i with
   |zero=>exact⟨[d,e,f],rfl,.cons rfl (.cons rfl (.cons rfl .nil))⟩
   |succ i=>
    obtain⟨us,a,b⟩:=h1 i (by simpa [Mi.fO]using hi);refine⟨us,by simpa [Mi.fO]using a,?_⟩;cases b with
    |cons x t=>
     cases t with
     |cons y t=>
      cases t with
      |cons z t=>cases t;exact .cons (by simpa using x) (.cons (by simpa using y) (.cons (by simpa using z) .nil))
  ·rcases bL.mp hd with rfl|hd
   ·exact⟨d::ds,by simp,by simp[Mi.fO,hl]⟩
   rcases bL.mp hd with rfl|hd
   ·exact⟨e::ds,by simp,by simp[Mi.fO,hl]⟩
   ·obtain rfl:=cr.mp hd;exact⟨f::ds,by simp,by simp[Mi.fO,hl]⟩
theorem sL{x:D}{k:List D->Prop}(h:Fin (Mi.pA x) k):∃ds,(x=.lst ds\/x=.tup ds)/\k ds:=by
 cases x with
 |lst b=>exact⟨b,.inl rfl,h⟩
 |tup b=>exact⟨b,.inr rfl,h⟩
 |_=>exact h.elim
theorem sU{H:Hp}{x:D}{ds:List D}{v:V}(h:x=.lst ds\/x=.tup ds)(r:Rep H x v):∃k a xs,v=.ref a/\jg H (k,a) xs/\P2 (Rep H) ds xs:=by
 rcases h with rfl|rfl
 ·obtain⟨a,xs,e,l,r⟩:=iU.mp r;exact⟨true,a,xs,e,l,r⟩
 ·obtain⟨a,xs,e,l,r⟩:=ia.mp r;exact⟨false,a,xs,e,l,r⟩
section
variable{X:Cx}{elts:List aY}{k1:Nat}{tpos:Pos}{M:Nat->Bool}
theorem eO{a b:Nat}(h:a≠b):@Ne ag a b:=h
theorem LS{n:Nat}:∀{b:Nat},b∈([n+4,n+2,n+3,n,n+1]:List Nat)->n<=b:=λ{b} h=>by simp at h;omega
theorem Mu{n:Nat}:∀{b:Nat},b∈([n+5,n+3,n+4,n,n+1,n+2]:List Nat)->n<=b:=λ{b} h=>by simp at h;omega
theorem Pr(n:Nat)(k k':Bool)(l l':ag):xO (n+4) (n+2) (n+3) [(k,n,l),(k',n+1,l')]:=
 ⟨eO (by omega),eO (by omega),eO (by omega),by show([n,n+1]:List Nat).Nodup;simp,λq hq=>by
  rcases bL.mp hq with rfl|hq
  ·exact⟨eO (show n≠n+4 by omega),eO (show n≠n+2 by omega),eO (show n≠n+3 by omega)⟩
  ·obtain rfl:=cr.mp hq;exact⟨eO (show n+1≠n+4 by omega),eO (show n+1≠n+2 by omega),eO (show n+1≠n+3 by omega)⟩⟩
theorem J6(n:Nat)(k k' k'':Bool)(l l' l'':ag):xO (n+5) (n+3) (n+4) [(k,n,l),(k',n+1,l'),(k'',n+2,l'')]:=
 ⟨eO (by omega),eO (by omega),eO (by omega),by show([n,n+1,n+2]:List Nat).Nodup;simp,λq hq=>by
  rcases bL.mp hq with rfl|hq
  ·exact⟨eO (show n≠n+5 by omega),eO (show n≠n+3 by omega),eO (show n≠n+4 by omega)⟩
  rcases bL.mp hq with rfl|hq
  ·exact⟨eO (show n+1≠n+5 by omega),eO (show n+1≠n+3 by omega),eO (show n+1≠n+4 by omega)⟩
  ·obtain rfl:=cr.mp hq;exact⟨eO (show n+2≠n+5 by omega),eO (show n+2≠n+3 by omega),eO (show n+2≠n+4 by omega)⟩⟩
def DT(ta tb:TE):TI:=λσ H R=>ta σ H λx H1=>tb σ H1 λy H2=>∃S xss,[x,y]=S.map (λs:Bool×ag=>V.ref s.2)/\S.length=2/\g9 H2 S xss/\R (mI S) H2
def C1(ta tb tc:TE):TI:=λσ H R=>ta σ H λx H1=>tb σ H1 λy H2=>tc σ H2 λz H3=>∃S xss,[x,y,z]=S.map (λs:Bool×ag=>V.ref s.2)/\S.length=3/\g9 H3 S xss/\R (mI S) H3
theorem Nx{a b:aY}{ta tb:TE}{p pos:Pos}(hg:Gl X "zip")(hm:X.mg "zip" = ac)(ha:PE X a ta)(hb:PE X b tb)(hs:starEach [a,b] X.env=[(false,eval a X.env),(false,eval b X.env)]:=by rfl)(hs0:starEach [a,b] X.env=(false,eval a X.env)::starEach [b] X.env:=by rfl)(hs1:starEach [b] X.env=(false,eval b X.env)::starEach [] X.env:=by rfl)(hpl:(backTo pos (starEach [b] X.env)).any (·.1)=false:=by rfl) :
 PI X (.Tuple elts k1 tpos) (.Call (.Name "zip" p) [a,b] [] pos) (DT ta tb):=by
 intro af s σ H R I h;refine Call_ (lY I hg hm boot_zip (qt (aZ (aD ha (aD hb bj hs1) hs0 pos af s σ H (λvs H1=>∃S xss,vs=S.map (λs:Bool×ag=>V.ref s.2)/\S.length=2/\g9 H1 S xss/\R (mI S) H1) I ?_) λus s1 ⟨vs,H1,I1,r1,q1⟩=>?_) hs0 hpl))
 ·exact h
 ·obtain⟨S,xss,e,hl,hS,q⟩:=q1;obtain⟨⟨k,l⟩,⟨k',l'⟩,rfl⟩ : ∃x y,S=[x,y]:=by
   match S,hl with
   |[x,y],_=>exact⟨x,y,rfl⟩
  subst e;have hS0:=hS;cases hS with
  |cons s1' t=>
  cases t with
  |cons s2' t=>
  cases t;cases r1 with
  |cons u1 r1=>
  cases r1 with
  |cons u2 r1=>
  cases r1;cases u1;cases u2;obtain⟨i1,_,a1⟩:=s1'.at I1;obtain⟨i2,_,a2⟩:=s2'.at I1;refine call2 a1 a2 λh' hZ hk=>Ab hZ.zz ?_;have I2:Inv X af σ H1 { s1 with heap:=h' }:=I1.kept (t':=s1.toks) λb o e=>hk b o e;refine⟨_,_,_,_,H1,rfl,I2,Eu (z:=s1.heap.objs.size+4) (TI:=s1.heap.objs.size+2) (TO:=s1.heap.objs.size+3) (Pr _ k k' l l') (by simp) (by simp),hZ,λb hb=>?_,q⟩;have hb:s1.heap.objs.size<=b:=LS hb;exact I1.gy hb (I1.hok.fresh hb)
theorem Iw{a b c:aY}{ta tb tc:TE}{p pos:Pos}(hg:Gl X "zip")(hm:X.mg "zip" = ac)(ha:PE X a ta)(hb:PE X b tb)(hc:PE X c tc)(hs0:starEach [a,b,c] X.env=(false,eval a X.env)::starEach [b,c] X.env:=by rfl)(hs1:starEach [b,c] X.env=(false,eval b X.env)::starEach [c] X.env:=by rfl)(hs2:starEach [c] X.env=(false,eval c X.env)::starEach [] X.env:=by rfl)(hpl:(backTo pos (starEach [b,c] X.env)).any (·.1)=false:=by rfl) :
 PI X (.Tuple elts k1 tpos) (.Call (.Name "zip" p) [a,b,c] [] pos) (C1 ta tb tc):=by
 intro af s σ H R I h;refine Call_ (lY I hg hm boot_zip (qt (aZ (aD ha (aD hb (aD hc bj hs2) hs1) hs0 pos af s σ H (λvs H1=>∃S xss,vs=S.map (λs:Bool×ag=>V.ref s.2)/\S.length=3/\g9 H1 S xss/\R (mI S) H1) I ?_) λus s1 ⟨vs,H1,I1,r1,q1⟩=>?_) hs0 hpl))
 ·exact h
 ·obtain⟨S,xss,e,hl,hS,q⟩:=q1;obtain⟨⟨k,l⟩,⟨k',l'⟩,⟨k'',l''⟩,rfl⟩ : ∃x y z,S=[x,y,z]:=by
   match S,hl with
   |[x,y,z],_=>exact⟨x,y,z,rfl⟩
  subst e;cases hS with
  |cons s1' t=>
  cases t with
  |cons s2' t=>
  cases t with
  |cons s3' t=>
  cases t;cases r1 with
  |cons u1 r1=>
  cases r1 with
  |cons u2 r1=>
  cases r1 with
  |cons u3 r1=>
  cases r1;cases u1;cases u2;cases u3;obtain⟨i1,_,a1⟩:=s1'.at I1;obtain⟨i2,_,a2⟩:=s2'.at I1;obtain⟨i3,_,a3⟩:=s3'.at I1;refine lN a1 a2 a3 λh' hZ hk=>Ab hZ.zz ?_;have I2:Inv X af σ H1 { s1 with heap:=h' }:=I1.kept (t':=s1.toks) λb o e=>hk b o e;refine⟨_,_,_,_,H1,rfl,I2,Eu (z:=s1.heap.objs.size+5) (TI:=s1.heap.objs.size+3) (TO:=s1.heap.objs.size+4) (J6 _ k k' k'' l l' l'') (by simp) (by simp),hZ,λb hb=>?_,q⟩;have hb:s1.heap.objs.size<=b:=Mu hb;exact I1.gy hb (I1.hok.fresh hb)
theorem OB{ta tb:TE}{a b:Mi.E}(ha:AE M qV ta a)(hb:AE M qV tb b):fm M (DT ta tb) (Mi.wL a b):=λe σ H Hv R I h=>
 ha e σ H Hv _ I ((aA.mp h).mono λx hx v H1 Hv1 g1 rx=>hb e σ H1 Hv1 _ (I.grow g1) ((aA.mp hx).mono λy hy u H2 Hv2 g2 ry=>by
  obtain⟨ds,hd,hk⟩:=sL (aA.mp hy);obtain⟨es,he,hk⟩:=sL (aA.mp hk);obtain⟨k,a,xs,rfl,s1,r1⟩:=sU hd (gC g2.vis (show Rep Hv1 x v from rx));obtain⟨k',a',ys,rfl,s2,r2⟩:=sU he (show Rep Hv2 y u from ry);have S2:g9 Hv2 [(k,a),(k',a')] [xs,ys]:=.cons s1 (.cons s2 .nil);exact⟨[(k,a),(k',a')],[xs,ys],rfl,rfl,ng g2.vw.sub S2,hk (mI [(k,a),(k',a')]) H2 Hv2 (ZP [(k,a),(k',a')] [ds,es] [xs,ys]) (g1.trans g2) (DY (Bz ds es)) ⟨S2,.cons r1 (.cons r2 .nil)⟩ λ_ _ _ _ z s _=>⟨ng s z.1,z.2.imp λ_ _ q=>d9 s q⟩⟩))
theorem Mq{ta tb tc:TE}{a b c:Mi.E}(ha:AE M qV ta a)(hb:AE M qV tb b)(hc:AE M qV tc c):fm M (C1 ta tb tc) (Mi.xQ a b c):=λe σ H Hv R I h=>
 ha e σ H Hv _ I ((aA.mp h).mono λx hx v H1 Hv1 g1 rx=>hb e σ H1 Hv1 _ (I.grow g1) ((aA.mp hx).mono λy hy u H2 Hv2 g2 ry=>hc e σ H2 Hv2 _ ((I.grow g1).grow g2) ((aA.mp hy).mono λz hz t H3 Hv3 g3 rz=>by
  obtain⟨ds,hd,hk⟩:=sL (aA.mp hz);obtain⟨es,he,hk⟩:=sL (aA.mp hk);obtain⟨fs,hf,hk⟩:=sL (aA.mp hk);obtain⟨k,a,xs,rfl,s1,r1⟩:=sU hd (gC g3.vis (gC g2.vis (show Rep Hv1 x v from rx)));obtain⟨k',a',ys,rfl,s2,r2⟩:=sU he (gC g3.vis (show Rep Hv2 y u from ry));obtain⟨k'',a'',zs,rfl,s3,r3⟩:=sU hf (show Rep Hv3 z t from rz);have S2:g9 Hv3 [(k,a),(k',a'),(k'',a'')] [xs,ys,zs]:=.cons s1 (.cons s2 (.cons s3 .nil));exact⟨[(k,a),(k',a'),(k'',a'')],[xs,ys,zs],rfl,rfl,ng g3.vw.sub S2,hk (mI [(k,a),(k',a'),(k'',a'')]) H3 Hv3 (ZP [(k,a),(k',a'),(k'',a'')] [ds,es,fs] [xs,ys,zs]) (g1.trans (g2.trans g3)) (DY (DH ds es fs)) ⟨S2,.cons r1 (.cons r2 (.cons r3 .nil))⟩ λ_ _ _ _ z s _=>⟨ng s z.1,z.2.imp λ_ _ q=>d9 s q⟩⟩)))
end
end Zp
namespace Zp
end Zp
namespace Mi
end Mi
namespace Zp
open PySem PySem.Spec PyProof.Rows L2 A
open Mi (D W Rs Fin aA)
open AutoSeq1 (wpAny_loadPart')
variable[Tb:A.bD]
end Zp
namespace Mi
def FT(k v:E):EW:=λe=>(k e).bind λd=>(v e).bind λx=>(cJ (m8 d)).bind λy=>.ok (.dk [(y,x)])
end Mi
namespace Zp
open PySem PySem.Spec PyProof.Rows L2 A
open Mi (D W Rs Fin aA)
variable[Tb:A.bD]
section
variable{X:Cx}{M:Nat->Bool}{κ:Kd}
theorem Px{k v:aY}{tk tv:TE}{pos:Pos}(hk:PE X k tk)(hv:PE X v tv):PE X (.Dict [ab k] [v] pos) (wG [(tk,tv)]):=LN (NL hk hv K4) rfl rfl (by simp) (by simp)
theorem Lw{tk tv:TE}{k v:Mi.E}(hk:AE M qV tk k)(hv:AE M qV tv v):AW M qN (wG [(tk,tv)]) (Mi.FT k v):=λe σ H Hv Q I h p hp=>by
 have g0:bi H Hv (upd H p (.dK [])) Hv:=.nr I.vw trivial hp;refine hk e σ _ Hv _ (I.grow g0) ((aA.mp h).mono λd hd x H1 Hv1 g1 rx=>hv e σ H1 Hv1 _ ((I.grow g0).grow g1) ((aA.mp hd).mono λc hc y H2 Hv2 g2 ry=>?_));obtain⟨z,hz,hq⟩:=gV (aA.mp hc);have hx:=uc hz (show Rep Hv1 d x from rx);subst hx;have hp2:H2 p=ab (.dK []):=g2.old.at (g1.old.at bt);have n1:Hv1 p=ac:=g1.hid p _ bt (l5 I.vw hp);have n2:Hv2 p=ac:=g2.hid p _ (g1.old.at bt) n1;have G:=g0.trans (g1.trans g2);refine⟨hp2,[(z,y)],rfl,by simp,hq (.ref p) (upd H2 p (.dK [(z,y)])) Hv2 ⟨G.old.put hp hp2,g1.vis.trans g2.vis,⟨λb u q=>?_,λb xs q=>?_,λb o u q=>?_,g2.vw.cd.put hp2 trivial trivial,g2.vw.nv⟩,G.hid⟩ ⟨p,.dK [(z,y)],rfl,hp,bt,n2,.cons ⟨rfl,show Rep Hv2 c y from ry⟩ .nil⟩⟩
 ·have hb:b≠p:=cz q n2;rw[aL hb];exact g2.vw.sub _ _ q
 ·by_cases hb:b=p
  ·subst hb;rw[bt]at q;cases q
  ·rw[aL hb]at q;exact g2.vw.tup _ _ q
 ·by_cases hb:b=p
  ·subst hb;rw[bt]at q;cases q
  ·rw[aL hb]at q;exact g2.vw.frz _ _ _ q
end
end Zp
namespace Mi
abbrev SN:=List D->List D->Env->Rs Out
end Mi
namespace Zp
open PySem PySem.Spec PyProof.Rows L2 A
open Mi (D W Rs Fin aA Out)
variable[Tb:A.bD]
end Zp
namespace A
end A
namespace A
end A
namespace Mi
open PySem
def JU(xs ys:List Str):Bool:=xs.all (λx=>decide (x∈ys))&&ys.all (λy=>decide (y∈xs))
end Mi
namespace A
end A
namespace A
end A
namespace So
end So
namespace So
end So
namespace So
end So
namespace L2
open PySem PySem.Spec PyProof.Rows
abbrev o0(qual:Str)(scope:en)(s:aw)(f c':ag)(cl:List (Str×ag)):Env:=PySem.W.envX qual scope s.heap.objs.size f (.ref c') cl
end L2
namespace So
end So
namespace L2
open PySem PySem.Spec PyProof.Rows A So
variable[Tb:bD]
def Tab(T:ag)(q:Str)(H H':Hp):Prop:=H'=H\/∃ps ps' c,H T=ab (.tbl q ps)/\H c=ac/\c≠T/\H'=upd (upd H T (.tbl q ps')) c (.ext (gn c q))/\gJ H'
theorem IA{c:ah}{p:Pos}:∀{l:List ah},qp l->qp (l++[rawInt p.line,rawInt p.col,c]):=λ{l} h=>by
 fun_induction qp l with
 |case1=>exact trivial
 |case2 a b c' d e rest ih=>exact ih h
 |case3 _ _=>exact h.elim
theorem LW{c v:ah}{p p2:Pos}:∀{l:List ah},qp l->codeAmong p2 (l++[rawInt p.line,rawInt p.col,c])=ab v->codeAmong p2 l=ab v\/v=c:=λ{l} h e=>by
 fun_induction qp l with
 |case1=>
  simp only[tE,codeAmong,rawInt]at e;split at e
  ·exact .inr (by cases e;rfl)
  ·cases e
 |case2 a b c' d e' rest ih=>
  simp only[qf,codeAmong]at e ⊢;split at e
  ·rename_i q;rw[a9 q];exact .inl e
  ·rename_i q;rw[ba q];exact ih h e
 |case3 _ _=>exact h.elim
def BM(mg:Str->Option ah)(base:aR):Prop:=∃bm o,mg "__builtins__" = ab (.ref bm)/\bm≠builtinsNs/\bm≠mainGlobals/\base.get? bm=ab o/\o.cls=.type "module" /\ o.dict=ab builtinsNs/\o.data=.plain
section
variable{X:Cx}{af:List (ag×Obj)}{σ:St}{H:Hp}{s:aw}{qual x:Str}{ps:qo}{body:aY}{sc:en}{cl:List (Str×ag)}{c T:ag}{pos:Pos}
theorem Ip(c:ag)(q:Str):∀h1 h2:aR,gn c q h1->(∀o,h1.get? c=ab o->h2.get? c=ab o)->gn c q h2:=λh1 h2 ⟨o,vs,t,e,d,r⟩ k=>⟨o,vs,t,k o e,d,r⟩
theorem KP{Q:ah->aw->Prop}{E:ah->aw->Prop}(I:Inv X af σ H s)(hc:X.env.code=.ref c)(C:iW X.base c T)(k:gJ H){tps:Array ah}(hT:H T=ab (.tbl qual tps))(hB:BM X.mg X.base)
 (hdef:defaultsOf ps X.env=([],[])) (hq:X.env.qual ++ "<lambda>" = qual) (hcl:closureFor sc X.env=pure cl)
 (h:∀f c' ctv pm s' H',Tab T qual H H'->H' c'=ab (.ext (gn c' qual))->s'.heap.get? f=ab (qh "<lambda>" qual ps body sc cl pm c' ctv)->Inv X af σ H' s'->gA X af H' f->Q (.ref f) s') :
 wpAny (model X.prog X.w) X.A (eval (.Lambda ps body sc pos) X.env) Q E s:=by
 obtain⟨ok1,ok2⟩:=k.cd T qual tps hT;have hP:s.heap.get? T=ab (vU tps):=I.hok T _ hT;have hg:s.heap.Ns mainGlobals X.mg:=I.mod.glob.keeps I.bk;have C':iW s.heap c T:=C.keeps I.bk;obtain⟨bm,bo,b1,b2,b3,b4,b5,b6,b7⟩:=hB;have nT:∀b o,X.base.get? b=ab o->b≠T:=λb o e z=>by
  have:=(I.bs b o e).2;rw[z,hT]at this;cases this
 have hb:s.heap.BuiltinsAt X.mg T:=⟨bm,bo,b1,b2,b3,nT _ _ b4,I.bk _ _ b4,b5,b6,b7⟩;have hgT:mainGlobals≠T:=by obtain⟨o,es,ep,e,_⟩:=I.mod.glob;exact nT _ _ e
 refine PySem.W.kla_eval hdef ?_;rw[hq];cases hf:codeAmong pos tps.toList with
 |some v=>
  obtain⟨c',rfl,hc'⟩:=ok2 pos v hf;refine PySem.W.kla_makeFunctionHit hcl I.ok.glob hg hc C' hP ok1 hf hb λctv h' tk kp sz=>?_;have I':Inv X af σ H { s with heap:=h'.push _,toks:=tk }:=I.kept (h':=h'.push (qh "<lambda>" qual ps body sc cl ((X.mg "__name__").getD .none) c' ctv)) λb o e=>bX _ (kp b o e);exact h _ c' ctv _ _ H (.inl rfl) hc' (cL _ rfl) I' (I.gy sz (I.hok.fresh sz))
 |none=>
  refine PySem.W.kla_makeFunction hcl I.ok.glob hg hc C' hP ok1 hf hgT hb λc' ctv h' tk kp h1 h2 hrec htb=>?_;have nc:H c'=ac:=I.hok.fresh h1;have cT:c'≠T:=λz=>by rw[z,hT]at nc;cases nc
  have hx:gn c' qual h':=by obtain⟨c2,o,vs,t,e,r⟩:=hrec;cases e;exact⟨o,vs,t,r⟩
  obtain⟨oc,hoc⟩ : ∃o,h'.get? c'=ab o:=let ⟨o,_,_,e,_⟩:=hx;⟨o,e⟩;have u1:Un X.fs [] H (upd H T (.tbl qual (tps ++ #[rawInt pos.line,rawInt pos.col,.ref c']))) s.heap h':=by
   have nn:∀b,H b=ac->b≠T:=λb n z=>by rw[z,hT]at n;cases n
   refine⟨λb o e n _ _=>kp b o (nn b n) e,λb o e n _ _=>⟨o.slots,kp b o (nn b n) e⟩,λb o e n _=>by rw[aL (nn b n)];exact n,λb o e _=>?_,λb xs e=>?_,λb o u e=>?_,λb w ps e=>?_⟩
   ·by_cases z:b=T
    ·rw[z];exact⟨_,htb⟩
    ·exact⟨o,kp b o z e⟩
   ·rw[aL (λz=>by rw[z,hT]at e;cases e)];exact e
   ·rw[aL (λz=>by rw[z,hT]at e;cases e)];exact e
   ·by_cases z:b=T
    ·subst z;rw[hT]at e;cases e;exact⟨_,bt⟩
    ·exact⟨#[],by rw[aL z,e];simp⟩
  have P9:cQ X.prog X.w (upd H T (.tbl qual (tps ++ #[rawInt pos.line,rawInt pos.col,.ref c']))) h':=λb u e=>by
   by_cases z:b=T
   ·subst z;rw[bt]at e;cases e;exact htb
   ·rw[aL z]at e;refine(I.hok b u e).stay (λy v hy q=>kp y v ?_ q) (λy q=>by rw[aL (λw=>by rw[w,hT]at q;cases q)];exact q) λy xs q=>by rw[aL (λw=>by rw[w,hT]at q;cases q)];exact q
    rcases hy with w|w
    ·rw[w];exact z
    ·exactλw2=>by rw[w2,hT]at w;cases w
  have I1:Inv X af σ (upd H T (.tbl qual (tps ++ #[rawInt pos.line,rawInt pos.col,.ref c']))) { s with heap:=h',toks:=tk }:=I.un u1 P9;have nc1:upd H T (.tbl qual (tps ++ #[rawInt pos.line,rawInt pos.col,.ref c'])) c'=ac:=by rw[aL cT];exact nc
  have I2:Inv X af σ (upd (upd H T (.tbl qual (tps ++ #[rawInt pos.line,rawInt pos.col,.ref c']))) c' (.ext (gn c' qual))) { s with heap:=h',toks:=tk }:=by
   have F:gA X af (upd H T (.tbl qual (tps ++ #[rawInt pos.line,rawInt pos.col,.ref c']))) c':=⟨nc1,(I.gy (H':=H) h1 nc).2⟩;have tX:∀b u,(upd H T (.tbl qual (tps ++ #[rawInt pos.line,rawInt pos.col,.ref c']))) b=ab u->b≠c':=λb u e=>cz e nc1;refine I1.call' (s':={ s with heap:=h',toks:=tk }) (ch:=[c']) rfl ⟨λb u e _ _ _=>e,λb u e _ _ _=>⟨u.slots,e⟩,λb u e n hb=>?_,λb u e hb=>⟨u,e⟩,λb xs e=>by rw[aL (tX _ _ e)];exact e,λb q u e=>by rw[aL (tX _ _ e)];exact e,λb w ps e=>⟨#[],by rw[aL (tX _ _ e),e];simp⟩⟩ ?_ I.bare
    λb hb=>by
     obtain rfl:b=c':=by simpa using hb
     exact⟨F.2.2.2.1,F.2.1,F.2.2.2.2.1,F.2.2.2.2.2⟩
   ·rw[aL (λz=>hb (by simp[z]))];exact n
   ·intro b u e;by_cases z:b=c'
    ·subst z;rw[bt]at e;cases e;exact⟨hx,⟨oc,hoc⟩,Ip b qual⟩
    ·rw[aL z]at e;exact(I1.hok b u e).stay (λy v hy q=>q) (λy q=>by rw[aL (tX _ _ q)];exact q) λy xs q=>by rw[aL (tX _ _ q)];exact q
  have Qa:∀b o,h'.get? b=ab o->(h'.push (qh "<lambda>" qual ps body sc cl ((X.mg "__name__").getD .none) c' ctv)).get? b=ab o:=λb o e=>bX _ e;have I3:=I2.kept (t':=tk) Qa;have szs:s.heap.objs.size<=h'.objs.size:=eK h1 (wf h2);have ck:gJ (upd (upd H T (.tbl qual (tps ++ #[rawInt pos.line,rawInt pos.col,.ref c']))) c' (.ext (gn c' qual))):=by
   have nT':∀{b:ag} {o:HO},H b=ab o->NT o->upd (upd H T (.tbl qual (tps ++ #[rawInt pos.line,rawInt pos.col,.ref c']))) c' (.ext (gn c' qual)) b=ab o:=λ{b o} e n=>by
    rw[aL (cz e nc),aL (λz=>by rw[z,hT]at e;cases e;exact n)];exact e
   refine⟨λr hr=>?_,λT2 q2 ps2 e=>?_,λa2 q2 xs2 e=>?_⟩
   rotate_left 2
   ·by_cases z:a2=c'
    ·subst z;rw[bt]at e;cases e
    ·rw[aL z]at e;by_cases z2:a2=T
     ·subst z2;rw[bt]at e;cases e
     ·rw[aL z2]at e;exact k.fz a2 q2 xs2 e
   ·obtain⟨p0,e0⟩:=k.has r hr;by_cases z:r.1=T
    ·rw[z,hT]at e0;have:qual=r.2:=by injection e0 with e0;injection e0
     exact⟨_,by rw[aL (by rw[z];exact cY cT),z,bt,this]⟩
    ·exact⟨p0,by rw[aL (cz e0 nc),aL z];exact e0⟩
   ·by_cases z:T2=c'
    ·subst z;rw[bt]at e;cases e
    ·rw[aL z]at e;by_cases z2:T2=T
     ·subst z2;rw[bt]at e;have e1:qual=q2:=by injection e with e;injection e
      have e2:tps ++ #[rawInt pos.line,rawInt pos.col,.ref c']=ps2:=by injection e with e;injection e
      subst e1 e2;refine⟨by rw[ww];exact IA ok1,λp2 v hv=>?_⟩;rw[ww]at hv;rcases LW ok1 hv with q|q
      ·obtain⟨y,y1,y2⟩:=ok2 p2 v q;exact⟨y,y1,nT' y2 trivial⟩
      ·exact⟨c',q,bt⟩
     ·rw[aL z2]at e;obtain⟨t1,t2⟩:=k.cd T2 q2 ps2 e;refine⟨t1,λp2 v hv=>?_⟩;obtain⟨y,y1,y2⟩:=t2 p2 v hv;exact⟨y,y1,nT' y2 trivial⟩
  refine h h'.objs.size c' ctv _ _ _ (.inr ⟨tps,_,c',hT,nc,cT,rfl,ck⟩) bt (cL _ rfl) I3 ?_;refine I.gy szs ?_;rw[aL (oy h2),aL (λz=>?_)]
  ·exact I.hok.fresh szs
  ·have:=I.hok.fresh szs;rw[z,hT]at this;cases this
end
end L2
namespace L2
open PySem PySem.Spec PyProof.Rows A So
variable[Tb:bD]
section
variable{X:Cx}{af:List (ag×Obj)}{σ:St}{H:Hp}{s:aw}
theorem adopt{fp:List ag}{D:ag}{o:HO}{h':aR}{t':Nat}(I:Inv X af σ H s)(hf:∀b∈fp,gA X af H b)(hD:D∈fp)(k:∀b u,b∉fp->s.heap.get? b=ab u->h'.get? b=ab u)
 (new:cH X.prog X.w (upd H D o) h' D o):Inv X af σ (upd H D o) { s with heap:=h',toks:=t' }:=by
 have hn:H D=ac:=(hf D hD).1;have nfp:∀b u,H b=ab u->b∉fp:=λb u e z=>by rw[(hf b z).1]at e;cases e
 refine I.call' (s':={ s with heap:=h',toks:=t' }) (ch:=fp) rfl ⟨λb u e _ _ hb=>k b u hb e,λb u e _ _ hb=>⟨u.slots,k b u hb e⟩,λb u e hb hx=>?_,λb u e hb=>⟨u,k b u hb e⟩,λb xs e=>?_,λb q u e=>?_,λb w ps e=>⟨#[],?_⟩⟩ ?_ I.bare
  λb hb=>⟨(hf b hb).2.2.2.1,(hf b hb).2.1,(hf b hb).2.2.2.2.1,(hf b hb).2.2.2.2.2⟩
 ·rw[aL (λz=>hx (by rw[z];exact hD))];exact hb
 ·rw[aL (cz e hn)];exact e
 ·rw[aL (cz e hn)];exact e
 ·rw[aL (cz e hn),e];simp
 ·intro b u e;by_cases hb:b=D
  ·subst hb;rw[bt]at e;cases e;exact new
  ·rw[aL hb]at e;refine(I.hok b u e).stay (λc v hc q=>k c v ?_ q) (λc q=>by rw[aL (cz q hn)];exact q) λc xs q=>by rw[aL (cz q hn)];exact q
   rcases hc with z|z
   ·rw[z];exact nfp b u e
   ·exact nfp c _ z
end
end L2
namespace Mi
open PySem
end Mi
namespace A
end A
namespace So
open PySem
end So
namespace A
open PySem L2 PyProof.Rows So
open Mi (D W Rs Fin aA Out Tg)
variable[Tb:bD]
theorem Lb{T:ag}{q:Str}{H H' Hv:Hp}(v:Vw H Hv)(t:Tab T q H H'):bi H Hv H' Hv:=by
 rcases t with rfl|⟨ps,ps',c,hT,hc,ne,rfl,ck⟩
 ·exact .refl v
 ·have get:∀{a o},H a=ab o->NT o->upd (upd H T (.tbl q ps')) c (.ext (gn c q)) a=ab o:=λ{a o} e n=>by
   rw[aL (cz e hc),aL (λz=>by rw[z,hT]at e;cases e;exact n)];exact e
  have back:∀{a o},upd (upd H T (.tbl q ps')) c (.ext (gn c q)) a=ab o->(∀w ps,o≠.tbl w ps)->(∀φ,o≠.ext φ)->H a=ab o:=λ{a o} e n1 n2=>by
   by_cases z:a=c
   ·subst z;rw[bt]at e;cases e;exact absurd rfl (n2 _)
   ·rw[aL z]at e;by_cases z2:a=T
    ·subst z2;rw[bt]at e;cases e;exact absurd rfl (n1 _ _)
    ·rw[aL z2]at e;exact e
  refine⟨⟨λa o e n=>get e n,λa e=>?_,λa w p0 e=>?_⟩,cy.refl _,⟨λa o e=>get (v.sub a o e) (v.nv a o e),λa xs e=>v.tup a xs (back e (λ_ _ z=>by cases z) (λ_ z=>by cases z)),λa o u e=>v.frz a o u (back e (λ_ _ z=>by cases z) (λ_ z=>by cases z)),ck,v.nv⟩,λ_ _ _ n=>n⟩
  ·by_cases z:a=c
   ·subst z;exact hc
   ·rw[aL z]at e;by_cases z2:a=T
    ·subst z2;rw[bt]at e;cases e
    ·rw[aL z2]at e;exact e
  ·by_cases z2:a=T
   ·subst z2;rw[hT]at e;cases e;exact⟨ps',by rw[aL (cY ne),bt]⟩
   ·exact⟨p0,by rw[aL (cz e hc),aL z2];exact e⟩
end A
namespace L2
open PySem PySem.Spec PyProof.Rows A So
structure s9(K:aP)(x qual:Str)(st:bw)(c f:ag)(fd:bG):Prop where
 ex:∃(oc:ah) (od:Option ag) (kV doc pm:ah) (an:Option ag) (ct:ah) (osl:Array (Option ah)),
  fd=jW x qual (lH st) (h9 st) (bA st) .none kV doc pm an (.ref c) ct/\K.lookup f=ab ⟨oc,od,.func fd,osl⟩/\qi K (.ref c) qual=true
section
variable{P:br}{w:bd}{K:aP}{mg:Str->Option ah}{base:aR}
theorem s9.ok{x qual:Str}{st:bw}{c f:ag}{fd:bG}{N ps:List Str}{k:Nat}{sp:Sp}(F:s9 K x qual st c f fd)(S:cg N ps (bA st))(len:∀vs H Q E,sp vs H Q E->vs.length=ps.length)
 (hbody:∀(A:bN) (outer:List Env) (s:aw) (H:Hp) (vs:List V) (Q:VK) (E:XK),cO k (A.deeper (envOfC qual (bA st) s.heap.objs.size f (.ref c)))->sp vs H Q E ->
  ∃t,fX (j7 aO P w K mg base N qual (bA st) f (.ref c) A outer s H E).km (h9 st) t/\t { nx:=λ_ H'=>Q .non H',rt:=Q } (start N vs) H):bJ P w K mg base aO (k+1) f fd ps sp:=by
 obtain⟨oc,od,kV,doc,pm,an,ct,osl,rfl,lk,hcd⟩:=F.ex;refine B5 lk hcd S len λA outer s H vs Q E hr hsp=>?_;obtain⟨t,h,q⟩:=hbody A outer s H vs Q E hr hsp;exact⟨t,h.km,q⟩
end
structure uq(K:aP)(mg:Str->Option ah)(x:Str)(st:bw)(ps:List Str)(c:ag):Prop where
 ex:∃(f:ag) (fd:bG),mg x=ab (.ref f)/\kQ K (.ref f)=true/\Binds K fd ps []/\s9 K x x st c f fd
theorem KZ{K:aP}{h:aR}{mg:Str->Option ah}{x:Str}{st:bw}{ps:List Str}{f c:ag}{oc:ah}{od an:Option ag}{osl:Array (Option ah)}{kV doc pm ct:ah}(X:K.In h)(G:h.Ns mainGlobals mg)
 (hb:∀(kV doc pm:ah) (an:Option ag) (cdv ct:ah) (us:List ah),us.length=ps.length->bindArgs (jW x x (lH st) (h9 st) (bA st) .none kV doc pm an cdv ct) ⟨us,[]⟩=pure (ps.zip us))
 (a:fG K mainGlobals x=ab (ab (.ref f))) (l:K.lookup f=ab ⟨oc,od,.func (jW x x (lH st) (h9 st) (bA st) .none kV doc pm an (.ref c) ct),osl⟩)
 (cc:qi K (.ref c) x=true) (k:kQ K (.ref f)=true):uq K mg x st ps c:=by
 have F:=Cf (st:=st) l cc k;exact⟨f,_,PySem.W.mg_of X G a,k,F.binds hb,⟨oc,od,kV,doc,pm,an,ct,osl,rfl,l,cc⟩⟩
theorem uq.cal{P:br}{w:bd}{K:aP}{mg:Str->Option ah}{base:aR}{CX:gF}{k:Nat}{x:Str}{st:bw}{ps:List Str}{c:ag}{sp:Sp}(F:uq K mg x st ps c)(h:∀f fd,s9 K x x st c f fd->bJ P w K mg base CX k f fd ps sp) :
 bK P w K mg base CX k x ps sp:=by
 obtain⟨f,fd,h1,h2,h3,h4⟩:=F.ex;exact⟨f,fd,h1,h2,h3,h f fd h4⟩
section
variable[Tb:bD]
theorem Ph{P:br}{w:bd}{K:aP}{mg mb:Str->Option ah}{k:Nat}{fa a c T:ag}{q:Str}{fd:bG}{x:Str}{s₁:aw}{vs:List ah}{ns:List Int}(hTb:Tb.l=[(T,q)])
 (KX:K.In s₁.heap) (hns:s₁.heap.Ns mainGlobals mg) (hb:s₁.heap.Ns builtinsNs mb) (hbb:∀x:Str,x ≠ "__name__" -> mb x=bootBuiltins x) (hlim:s₁.heap.NoLimit) (hg:s₁.gens = #[])
 (ha:s₁.heap.get? a=ab { cls:=.type "list", data:=.seq vs.toArray }) (hi:IntsAre vs ns) (hl:ns.length<=63) (hr:cO k callerA)
 (hKa:K.lookup a=ac) (hKT:K.lookup T=ac) (C:iW s₁.heap c T) (hT:s₁.heap.get? T=ab (vU #[])) (hB:BM mg s₁.heap)
 (F:∀base:aR,K.In base->base.Ns mainGlobals mg->BM mg base->iW base c T->bJ P w K mg base aO k fa fd [x] rZ) (hbind:∀(s:aw) (u:ah),lS s fd ⟨[u],[]⟩ [(x,u)]) :
 codeAny (model P w) callerA (.call (.ref fa) ⟨[.ref a],[]⟩) (λr s'=>r=.ok (.ret (.bool true))/\OldK s₁.heap s'.heap/\s'.os=s₁.os/\mY s'.gens) s₁:=by
 have rv:=Df hi;have lenV:=hi.length;have aT:a≠T:=λz=>by rw[z,hT]at ha;cases ha
 let H:Hp:=λb=>if b=a then ab (.frz { cls:=.type "list",data:=.seq vs.toArray } (.lst (ns.map V.int)))else if b=T then ab (.tbl q #[])else ac;have Ha:H a=ab (.frz { cls:=.type "list", data:=.seq vs.toArray } (.lst (ns.map V.int))):=a9 rfl;have HT:H T=ab (.tbl q #[]):=by show(if T=a then _ else _)=_;rw[ba (cY aT),a9 rfl]
 have Hn:∀b,b≠a->b≠T->H b=ac:=λb h1 h2=>by show(if b=a then _ else _)=_;rw[ba h1,ba h2]
 have Hd:∀{b u},H b=ab u->(b=a/\u=.frz { cls:=.type "list", data:=.seq vs.toArray } (.lst (ns.map V.int)))\/(b=T/\u=.tbl q #[]):=λ{b u} e=>by
  by_cases h1:b=a
  ·subst h1;rw[Ha]at e;cases e;exact .inl ⟨rfl,rfl⟩
  ·by_cases h2:b=T
   ·subst h2;rw[HT]at e;cases e;exact .inr ⟨rfl,rfl⟩
   ·rw[Hn b h1 h2]at e;cases e
 have hok:cQ P w H s₁.heap:=λb u e=>by
  rcases Hd e with ⟨rfl,rfl⟩|⟨rfl,rfl⟩
  ·exact⟨ha,by rw[aX,eh];omega,vs,_,rv,ha⟩
  ·exact hT
 have free:∀{b:ag} {o:Obj},s₁.heap.get? b=ab o->o.cls≠.type "list" -> o≠vU #[]->H b=ac:=λ{b o} e h1 h2=>by
  refine Hn b (λz=>?_) λz=>?_
  ·rw[z,ha]at e;cases e;exact h1 rfl
  ·rw[z,hT]at e;cases e;exact h2 rfl
 have wC:∀{b:ag} {o:Obj},s₁.heap.get? b=ab o->H b=ac->(jy s₁.heap H).get? b=ab o:=λe n=>L9 e n;have nsK:∀{b:ag} {m:Str->Option ah},s₁.heap.Ns b m->(jy s₁.heap H).Ns b m:=λ{b m} ⟨o,es,ep,e,d,r⟩=>⟨o,es,ep,wC e (Hn b (λz=>by rw[z,ha]at e;cases e;cases d) λz=>by rw[z,hT]at e;cases e;cases d),d,r⟩;have hKb:K.In (jy s₁.heap H):=λb o e=>wC (KX b o e) (Hn b (λz=>by rw[z,hKa]at e;cases e) λz=>by rw[z,hKT]at e;cases e);have hM:Mod K mg (jy s₁.heap H):=⟨hKb,nsK hns,⟨mb,nsK hb,hbb⟩,let ⟨mc,h1,h2⟩:=hlim;⟨mc,nsK h1,h2⟩⟩;have e0:mv P w K mg (jy s₁.heap H) callerA [] s₁ H:=⟨rfl,hM,λb o e=>Lz e,Nat.le_of_eq (Io _ _),trivial,λb hb=>absurd (show b∈([]:List ag)from hb) (by simp),hok,.of_eq hg⟩;have hB':BM mg (jy s₁.heap H):=by obtain⟨bm,bo,b1,b2,b3,b4,b5,b6,b7⟩:=hB;exact⟨bm,bo,b1,b2,b3,wC b4 (free b4 (by rw[b5];decide) (λz=>by rw[z]at b5;cases b5)),b5,b6,b7⟩
 have C':iW (jy s₁.heap H) c T:=by obtain⟨o,vs2,file,tf,flags,tg,inF,text,tt,e,h1,r⟩:=C;exact⟨o,vs2,file,tf,flags,tg,inF,text,tt,wC e (free e (by rw[h1];decide) (λz=>by rw[z]at h1;cases h1)),h1,r⟩
 have ck:gJ H:=⟨λr hr=>by
  rw[hTb]at hr;obtain rfl:r=(T,q):=by simpa using hr
  exact⟨#[],HT⟩,λT2 q2 ps e=>by
  rcases Hd e with ⟨_,z⟩|⟨_,z⟩
  ·cases z
  ·cases z;exact⟨trivial,λpos v hv=>by cases hv⟩,λb o xs e=>by
  rcases Hd e with ⟨_,z⟩|⟨_,z⟩
  ·cases z;intro x hx;obtain⟨i,_,rfl⟩:=ca.mp hx;exact⟨i,rfl⟩
  ·cases z⟩
 refine wa ((F _ hKb (nsK hns) hB' C').run callerA [] s₁ H ⟨[.ref a],[]⟩ [.ref a] [.ref a] (λv _=>v=.bl true) (λ_ _ _=>False) hr e0 (hbind s₁ (.ref a)) (.cons rfl .nil) ⟨a,ns,rfl,.inr ⟨_,Ha⟩,hl,ck,λ_=>rfl⟩) λr s' h=>?_;cases r with
 |error e=>exact h.elim
 |ok fl=>
  cases fl with
  |next=>exact hV h
  |brk=>exact hV h
  |cont=>exact hV h
  |ret u=>
   obtain⟨v,H',os,bare,un,hok',r',q'⟩:=h;have q':v=.bl true:=q';subst q';obtain rfl:u=jq true:=r';have old:∀b o,s₁.heap.get? b=ab o->asItWas s₁.heap s'.heap b o:=λb o e=>by
    by_cases h1:b=a
    ·subst h1;have z2:=un.kW b _ _ Ha;obtain⟨e2,_⟩:=hok' b _ z2;rw[ha]at e;cases e;exact .inl e2
    ·by_cases h2:b=T
     ·subst h2;obtain⟨more,z2⟩:=un.kY b _ _ HT;have e2:s'.heap.get? b=ab (vU (#[]++more)):=hok' b _ z2;rw[hT]at e;cases e;obtain⟨oc,vs2,_,_,_,_,_,_,_,f1,f2,f3,f4,_⟩:=C;exact .inr (.inl ⟨⟨c,oc,vs2,f1,f2,f3,f4⟩,rfl,#[],more,rfl,e2⟩)
     ·exact .inl (un.keep b o e (Hn b h1 h2) (by intro z;exact absurd (show b∈([]:List ag)from z) (by simp)) (by simp))
   exact⟨rfl,⟨old,λb o e=>un.there b o e (by simp)⟩,os,bare⟩
theorem Jw{l:z6}{k:Nat}{q:br}{loose:List Str}{XP:(Str->Option ah)->aR->Prop}{YP:bd->aR->Prop}{d:DefRec}{K:Params->aP}{x dn:Str}{c T:ag}{qn:Str}(hTb:Tb.l=[(T,qn)])
 (hn:l.most=ab 63) (hdf:d.params.defaults=[]) (hr:cO k callerA)
 (hY:∀(w:bd) (h:aR),YP w h->(K w.params).In h) (hL:∀w:bd,∀a o,(K w.params).lookup a=ab o->o.cls≠.type "list") (hK:∀w:bd,(K w.params).lookup T=ac)
 (hrec:∃d,(recsOf q).find? (λe=>e.name==dn)=ab d) (htab:∀w:bd,PySem.W.tabIn (K w.params) dn=ab (c,T))
 (F:∀(w:bd) (mg:Str->Option ah) (fa:ag) (h:aR),(K w.params).In h->h.Ns mainGlobals mg->mg d.name=ab (.ref fa) ->
  ∃fd:bG,(∀(s:aw) (u:ah),lS s fd ⟨[u],[]⟩ [(x,u)]) /\
   ∀base:aR,(K w.params).In base->base.Ns mainGlobals mg->BM mg base->iW base c T->bJ l.prog w (K w.params) mg base aO k fa fd [x] rZ) :
 PySem.W.WalkO q loose XP YP l.row.toRowW d [] (λf vs=>Ad f vs):=by
 refine Att.Nu hn hdf λw s₀ s₁ mg mb fa o pm cd doc a vs ns G Y ho hd hcd hmg hobj hints hlen hg=>?_;have KX:=hY w _ Y;obtain⟨fd,hb,hF⟩:=F w mg fa _ KX G.T.g hmg;obtain⟨dd,hdd⟩:=hrec;obtain⟨C,hT⟩:=PySem.W.tab_of G.T KX hdd (htab w);have hB:BM mg s₁.heap:=by obtain⟨bm,ob,b1,b2,b3,b4,b5,b6⟩:=G.T.bmain;refine⟨bm,ob,b1,b2,λz=>?_,b3,b4,b5,b6⟩;obtain⟨o2,es,ep,e,d2,_⟩:=G.T.g;rw[z,e]at b3;cases b3;rw[d2]at b6;cases b6
 have hKa:(K w.params).lookup a=ac:=by
  cases z:(K w.params).lookup a with
  |none=>rfl
  |some o2=>
   have e:=KX a o2 z;rw[hobj]at e;cases e;exact absurd rfl (hL w a _ z)
 exact Ph hTb KX G.T.g G.T.b G.T.builtins G.T.nolimit hg hobj hints hlen hr hKa (hK w) C hT hB hF hb
end
end L2
namespace A
open PySem L2 PyProof.Rows So
open Mi (D W Rs Fin aA Out Tg)
variable[Tb:bD]
end A
namespace Mi
end Mi
namespace A
open PySem L2 PyProof.Rows So
open Mi (D W Rs Fin aA Out Tg)
variable[Tb:bD]
end A
namespace L2
end L2
namespace L2
end L2
namespace L2
end L2
namespace Mi
open PySem
def og{α:Type}(r:Rs α)(k:α->Prop)(x:lO->Prop):Prop:=match r with
 |.ok a=>k a
 |.ex z=>x z
 |.no=>False
theorem vF{α β:Type}{r:Rs α}{f:α->Rs β}{k:β->Prop}{x:lO->Prop}:og (r.bind f) k x↔og r (λa=>og (f a) k x) x:=by cases r<;>exact Iff.rfl
end Mi
namespace A
open PySem L2 PyProof.Rows So
open Mi (D W Rs Fin og aA vF Out Tg lO)
variable[Tb:bD]
end A
namespace L2
end L2
namespace L2
end L2
namespace L2
open PySem PySem.Spec PyProof.Rows
end L2
namespace Mi
open PySem
end Mi
namespace A
open PySem L2 PyProof.Rows So
open Mi (D W Rs Fin og aA vF Out Tg lO)
variable[Tb:bD]
end A
namespace PySem.W
end PySem.W
namespace L2
open PySem PySem.Spec PyProof.Rows
open A (EK)
end L2
namespace Mi
open PySem
end Mi
namespace A
open PySem L2 PyProof.Rows So
open Mi (D W Rs Fin og aA vF Out Tg lO)
variable[Tb:bD]
end A
namespace Mi
open PySem
def iM(x:Str):Str:=⟨PySem.placed x λ_ c=>Unicode.upperOf c⟩
end Mi
namespace L2
open PySem PySem.Spec PyProof.Rows
end L2
namespace A
open PySem L2 PyProof.Rows So
open Mi (D W Rs Fin aA)
variable[Tb:bD]
end A
namespace Mi
def uW(m:S):S:=λe=>match m e with
 |.ok (.rt w)=>.ok (.rt w)
 |_=>.no
end Mi
namespace A
open PySem L2 PyProof.Rows So
open Mi (D W Rs Fin aA Out Tg)
variable[Tb:bD]
section
variable{M:Nat->Bool}{κ:Kd}{t:TS}{m:Mi.S}
theorem OK(y:Nat)(hy:M y=true)(h:AS (λj=>M j && !(j==y)) κ t m):AS M κ t (Mi.uW m):=λH0 Hv0 e σ H Hv D I f=>by
 have nb:∀{j:Nat},(M j && !(j==y))=false->M j=false\/j=y:=λ{j} z=>by
  cases q:M j with
  |false=>exact .inl rfl
  |true=>rw[q]at z;exact .inr (by simpa using z)
 have nt:∀{j:Nat},(M j && !(j==y))=true->M j=true/\j≠y:=λ{j} z=>by simpa using z
 have fin:∀Hv',bi H0 Hv0 H Hv'->R0 (λj=>M j && !(j==y)) e σ H Hv'->t D σ H:=λHv' gw R=>by
  refine h H0 Hv0 e σ H Hv' D ⟨R,gw,λi w a q1 q2 q3=>I.fresh i w a q1 (nt q2).1 q3,λi j w w' a b hij q1 q2 q3 q4 q5 q6=>I.sep i j w w' a b hij q1 q2 (nt q3).1 (nt q4).1 q5 q6⟩ ?_;unfold Mi.uW at f;cases hm:m e with
  |no=>rw[hm]at f;exact f.elim
  |ex z=>rw[hm]at f;exact f.elim
  |ok o=>
   rw[hm]at f;cases o with
   |rt w=>exact f
   |nx e2=>exact f.elim
   |bk e2=>exact f.elim
   |ct e2=>exact f.elim
 have other:(∀w0,e[y]?≠ab (ab w0))->t D σ H:=λac=>fin Hv I.gw ⟨I.vw,I.len,λj w' z q=>by
  rcases nb q with q|rfl
  ·exact I.nob j w' z q
  ·exact absurd z (ac w'),λj w' z q=>I.own j w' z (nt q).1⟩
 cases he:e[y]? with
 |none=>exact other λw0 z=>by rw[he]at z;cases z
 |some ow=>
  cases ow with
  |none=>exact other λw0 z=>by rw[he]at z;cases z
  |some w0=>
   obtain⟨p,Hv',q,I',s,r⟩:=I.Jr hy he;refine fin Hv' I'.gw ⟨I'.vw,I.len,λj w' z q2=>?_,λj w' z q2=>?_⟩
   ·by_cases hj:j=y
    ·subst hj;rw[he]at z;cases z;exact⟨_,q,r⟩
    ·exact I'.nob j w' (by rw[eE (cY hj)];exact z) ((nb q2).resolve_right hj)
   ·obtain⟨m1,hj⟩:=nt q2;exact I'.own j w' (by rw[eE (cY hj)];exact z) m1
end
end A
namespace Mi
open PySem
end Mi
namespace L2
open PySem PySem.Spec PyProof.Rows
end L2
namespace A
open PySem L2 PyProof.Rows So
open Mi (D W Rs Fin aA)
variable[Tb:bD]
end A
namespace Mi
open PySem
end Mi
namespace A
open PySem L2 PyProof.Rows So
open Mi (D W Rs Fin og aA vF Out Tg lO)
variable[Tb:bD]
end A
namespace L2
open PySem PySem.Spec PyProof.Rows
section
variable{pr:br}{wo:bd}{Ar:bN}{Ex:ah->aw->Prop}
theorem Ek{it l:ag}{zs:Array ah}(ne:l≠it):∀(k j:Nat) (z:aw) (R:List ah->aw->Prop),z.heap.IsListIter it l j->z.heap.IsList l zs->j+k<=zs.size ->
 (∀g,g.IsListIter it l (j+k)->mX it z.heap g->R ((zs.toList.drop j).take k) { z with heap:=g })->wpAny (model pr wo) Ar (draw (.ref it) k) R Ex z
 |0,j,z,R,a,_,_,q=>by
  show wpAny _ _ (pure []) R Ex z;refine bB ?_;have:=q z.heap a (Heap.SameBut.refl ..);simpa using this
 |k+1,j,z,R,a,b,c,q=>by
  have lt:j<zs.size:=by omega
  show wpAny _ _ (pyNext (.ref it) >>= _) R Ex z;refine aH (GJ a b (x:=zs[j]) (by simp[lt]) λg1 a1 b1=>aH (kR ?_));refine Ek ne k (j+1) _ _ a1 (b.extBut b1.extBut ne) (by omega) λg2 a2 b2=>bB ?_;have e:zs.toList.drop j=zs[j]::zs.toList.drop (j+1):=by simp[oh,lt]
  have r:=q g2 (by rw[show j+(k+1)=j+1+k by omega];exact a2) (b1.trans b2);rw[e,List.take_succ_cons]at r;exact r
theorem K6{l:ag}{zs:Array ah}{z:aw}{R:List ah->aw->Prop}(h0:Ar.handled=ac)(b:z.heap.IsList l zs)(q:∀g,we z.heap.objs.size z.heap g->R zs.toList { z with heap:=g }) :
 wpAny (model pr wo) Ar (unpackItems (.ref l) zs.size ac) R Ex z:=by
 have ne:l≠z.heap.objs.size:=by obtain⟨o,ho,_⟩:=b;exact fV (bZ ho)
 unfold unpackItems notIterableAtAll;refine aH (aH (qk b.typeIs PySem.F.slot_list_iter.lookup (bB ?_)));simp only[qr,jk];refine aH (kR (v4 b ?_));refine aH (kR (Ek ne zs.size 0 _ _ ⟨_,cL _ rfl,rfl,rfl⟩ (b.push _) (by omega) λg1 a1 b1=>?_));rw[show List.take zs.size (List.drop 0 zs.toList)=zs.toList by rw[mR];exact oj (by simp),ba (by simp)];have c1:g1.IsList l zs:=(b.push _).extBut b1.extBut ne;refine aH (kR (wpAny_pyNext_list_end h0 a1 c1 (by simp) λg2 b2=>?_));simp only[Option.isSome_none,qr,jk];exact bB (q g2 λd o hd e=>b2 d o hd (b1.extBut d o hd (bX _ e)))
end
end L2
namespace Mi
open PySem
def u9(is:List Nat)(a:E):S:=λe=>(a e).bind λd=>match d with
 |.lst ds=>(mF is ds e).bind λe'=>.ok (.nx e')
 |_=>.no
end Mi
namespace A
open PySem L2 PyProof.Rows So
open Mi (D W Rs Fin aA Out Tg)
variable[Tb:bD]
section
variable{X:Cx}{pos:Pos}
def Dh(n:Nat)(t:ii):TG:=λv σ H Q=>∃a xs,v=.ref a/\Lst H a xs/\xs.length=n/\t xs σ H Q
theorem Kj{es:List aY}{k:Nat}{t:ii}{n:Nat}(hc:X.calm=true)(h:L2.rn X es t)(hn:(assignEach es X.env).length=n:=by rfl)(hst:(assignEach es X.env).findIdx? (·.1)=ac:=by rfl):L2.PG X (.Tuple es k pos) (Dh n t):=by
 intro af s σ H v u Q I r hw;obtain⟨a,xs,e1,hq,hl,hw⟩:=hw;subst e1;cases r;obtain⟨aq,n0,rv,hz,ho⟩:=rR I hq;have hli:=rv.length;rw[assign_Tuple];refine aH (v8 ?_);unfold unpack;rw[hn,hst];have sz:n=aq.toArray.size:=by rw[cS];omega
 rw[sz];refine aH (kR (K6 (I.ok.hd hc) ⟨_,ho,rfl,_,rfl⟩ λg hx=>?_));have I1:Inv X af σ H { s with heap:=g }:=I.kept (t':=s.toks) λb o e=>hx b o (fV (bZ e)) e;exact h af _ σ H xs _ Q I1 (by simpa using rv) hw
end
section
variable{M:Nat->Bool}{κ:Kd}{te:TE}{a:Mi.E}
theorem PJ(is:List Nat)(hm:∀i∈is,M i=false)(ha:AE M qV te a):AS M κ (gI te (Dh is.length (t6 is))) (Mi.u9 is a):=λH0 Hv0 e σ H Hv D I h=>
 ha e σ H Hv _ I.toR0 ((aA.mp h).mono λd hd v H1 Hv1 g1 r=>by
  cases d with
  |lst ds=>
   obtain⟨p,xs,rfl,l,rr⟩:=iU.mp r;have hd:=aA.mp (show Fin (Rs.bind (Mi.mF is ds e) _) _ from hd);have I2:=I.grow g1;refine⟨p,xs,rfl,l.same g1.vw.sub,by rw[<- rr.len];exact w5 hd,?_⟩;exact wY (P:=λe1 σ1=>R1 M H0 Hv0 e1 σ1 H1 Hv1) (λi hi e1 σ1 d1 v1 p1 r1=>p1.set (hm i hi) r1) I2 rr (hd.mono λe' h' σ' p'=>h' σ' H1 Hv1 p' g1.vis)
  |_=>exact hd.elim)
end
end A
namespace Mi
open PySem
end Mi
namespace L2
open PySem PySem.Spec PyProof.Rows
end L2
namespace A
open PySem L2 PyProof.Rows
open Mi (D W Rs Fin aA)
variable[Tb:bD]
end A
namespace Mi
open PySem
end Mi
namespace L2
open PySem PySem.Spec PyProof.Rows
end L2
namespace A
open PySem L2 PyProof.Rows
open Mi (D W Rs Fin aA)
variable[Tb:bD]
end A
namespace Mi
open PySem
end Mi
namespace A
open PySem L2 PyProof.Rows So
open Mi (D W Rs Fin aA Out Tg)
variable[Tb:bD]
end A
namespace L2
open PySem PySem.Spec PyProof.Rows
def pz(h:aR)(d:ag)(es:Array DictEntry)(ep:Nat):Prop:=∃o,h.get? d=ab o/\o.ExactDict/\o.data=.dict es ep
theorem pz.ty{s:aw}{d:ag}{es:Array DictEntry}{ep:Nat}(x:pz s.heap d es ep):s.TypeIs (.ref d) "dict" := let ⟨o,e,c,_⟩:=x;⟨o,e,c.1⟩
section
variable{P:br}{w:bd}{A:bN}{E:ah->aw->Prop}{s:aw}{d it:ag}{es:Array DictEntry}{ep i:Nat}
theorem Pq{Q:ah->aw->Prop}(nd:(d==sysModules)=false)(x:pz s.heap d es ep)
 (q:Q (.ref s.heap.objs.size) { s with heap:=s.heap.push { cls:=.type "dict_keyiterator", data:=.fields #[.ref d,.int 0 0,.int es.size 0,.int ep 0] } }):wpAny (model P w) A (pyIter (.ref d)) Q E s:=by
 obtain⟨o,e,c,dt⟩:=id x;have ty:=x.ty;refine wpAny_pyIter_slot ty F.slot_dict_iter (mS F.slot_dict_iter ty F.entry_dict_iter ?_ (F.args_dict_iter_1 _));unfold Builtin.«dict.__iter__» Builtin.Dict.dictSlotNone;refine aH (aH (wpAny_notOrdered_dict ty ?_));show wpAny _ _ (pure (dL d)) _ _ s;refine bB ?_;show wpAny _ _ (He d >>= _) _ _ s;unfold He;rw[ba (by rw[nd];exact c8)];refine aH (bB (aH (z9 e dt (aH (Ac e dt ?_)))));refine aH (tH (bB ⟨_,rfl, "dict_keyiterator", _,⟨_,cL _ rfl,rfl⟩,tK.lookup,?_⟩));simpa [rawInt]using q
theorem MH{Q:Option ah->aw->Prop}(hI:s.heap.IsKeyIter it d i es.size ep)(x:pz s.heap d es ep)(lt:i<es.size)
 (q:∀h',h'.IsKeyIter it d (i+1) es.size ep->mX it s.heap h'->Q (ab es[i].key) { s with heap:=h' }):wpAny (model P w) A (pyNext (.ref it)) Q E s:=by
 obtain⟨oi,ei,ci,di⟩:=id hI;obtain⟨o,e,c,dt⟩:=id x;unfold pyNext;refine aH (v9 (qj (name:=oE "__next__") hI.typeIs tK (mS tK hI.typeIs GQ ?_ (GP _))));refine aH (bB (aH (aH ?_)))
 first|refine aH (vW hI.typeIs (bB ?_))|refine aH (vX hI.typeIs (bB ?_))
 refine aH (wpAny_fieldsOf ei di ?_);simp only[show G9 "dict_keyiterator" = false by decide,qr,jk];show wpAny _ _ (if(dL d==iZ)=true then _ else _) _ _ s;rw[ba (by exact c8)];refine aH (bB (aH (z9 e dt ?_)));rw[ba (by simp)];refine aH (bB (aH (Ac e dt ?_)));rw[ba (by simp)];refine bB ?_;simp only[show¬ ((i:Int)<0)from by omega,jk,jX,wu lt];refine aH ?_
 first|refine aH (vW hI.typeIs (bB ?_))|refine aH (vX hI.typeIs (bB ?_))
 refine aH (wpAny_isOneOf_keyiter hI.typeIs ?_);show wpAny _ _ (setField (.ref it) 1 (rawInt ((i:Int)+1)) >>= _) _ _ s;refine aH (v7 ei di (by simp) ?_);have hJ:(s.heap.update it (Obj.mapFields (·.setIfInBounds 1 (rawInt ((i:Int)+1))))).IsKeyIter it d (i+1) es.size ep:=
  ⟨_,ox _ ei (G0 (wt di _)),(Obj.cls_mapFields ..).trans ci,by rw[wt di];simp[rawInt]⟩
 refine aH (kR (aH (wpAny_isOneOf_keyiter (s:={ s with heap:=s.heap.update it (Obj.mapFields (·.setIfInBounds 1 (rawInt ((i:Int)+1)))) }) hJ.typeIs ?_)));show wpAny _ _ (pure es[i].key) _ _ _;exact bB (bB ⟨_,rfl,bB (q _ hJ (tT ..))⟩)
theorem Kg{Q:Option ah->aw->Prop}(hh:A.handled=ac)(hI:s.heap.IsKeyIter it d i es.size ep)(x:pz s.heap d es ep)(ge:es.size<=i)
 (q:∀h',we it s.heap h'->Q ac { s with heap:=h' }):wpAny (model P w) A (pyNext (.ref it)) Q E s:=by
 obtain⟨oi,ei,ci,di⟩:=id hI;obtain⟨o,e,c,dt⟩:=id x;unfold pyNext;refine aH (v9 (qj (name:=oE "__next__") hI.typeIs tK (mS tK hI.typeIs GQ ?_ (GP _))));refine aH (bB (aH (aH ?_)))
 first|refine aH (vW hI.typeIs (bB ?_))|refine aH (vX hI.typeIs (bB ?_))
 refine aH (wpAny_fieldsOf ei di ?_);simp only[show G9 "dict_keyiterator" = false by decide,qr,jk];show wpAny _ _ (if(dL d==iZ)=true then _ else _) _ _ s;rw[ba (by exact c8)];refine aH (bB (aH (z9 e dt ?_)));rw[ba (by simp)];refine aH (bB (aH (Ac e dt ?_)));rw[ba (by simp)];refine bB ?_;simp only[show¬ ((i:Int)<0)from by omega,jk,jX,Array.getElem?_eq_none ge];refine aH ?_
 first|refine aH (vW hI.typeIs (bB ?_))|refine aH (vX hI.typeIs (bB ?_))
 show wpAny _ _ (setField (.ref it) 0 .none >>= _) _ _ s;refine aH (v7 ei di (by simp) ?_);show wpAny _ _ (newExc (.type "StopIteration") [] >>= _) _ _ _;refine aH ?_;simp only[newExc,newTuple];refine aH (tH ?_ (by size_fits));refine aH (m:=firstArgMember _ _) (wpAny_of_eq (a:=iZ) (by first|rfl|(simp only[firstArgMember];rfl)) (tH ?_ (by size_fits)));simp only[raiseNew];refine aH (wpAny_handled ?_);rw[show A.in1.handled=ac from hh];refine aH (bB (wpAny_throw ?_));exact aH (Aa (b:=true) (T := "StopIteration") ⟨_,cL _ rfl,rfl⟩ isSubtype_stop (bB (q _ (((tT ..).extBut.push _).push _))))
end
end L2
namespace So
end So
namespace Mi
open PySem
def uS:Ky->D
 |.inl i=>.bl i
 |.inr x=>.str x
def Cd:W->Rs W
 |.dt ao=>.ok (.df ao)
 |_=>.no
def yL(m:EW):EW:=λe=>(m e).bind Cd
def pK(i:Nat):I:=λe=>(wV i e).bind λw=>match w with
 |.df ao=>.ok (ao.map λkv=>.tup (kv.1.map uS))
 |_=>.no
end Mi
namespace L2
open PySem PySem.Spec PyProof.Rows
theorem Inv.Jb{X:Cx}{af:List (ag×Obj)}{σ:St}{H:Hp}{s:aw}{a:ag}{kv:List (List Key×V)}(I:Inv X af σ H s)(h:H a=ab (.dT kv)):∃ob,Inv X af σ (upd H a (.frz ob (.dT kv))) s:=by
 obtain⟨z1,z2,xs,r,ob,es,ep,e,c⟩:=(show cH X.prog X.w H s.heap a (.dT kv)from I.hok a _ h);have ne:∀b u,H b=ab u->u≠.dT kv->b≠a:=λb u q n z=>by subst z;rw[h]at q;exact n (fh q).symm
 have st:∀b u,cH X.prog X.w H s.heap b u->cH X.prog X.w (upd H a (.frz ob (.dT kv))) s.heap b u:=λb u q=>
  q.stay (λ_ _ _ q=>q) (λc q=>by rw[aL (ne c _ q (by simp))];exact q) λc xs q=>by rw[aL (ne c _ q (by simp))];exact q
 refine⟨ob,I.un (t':=s.toks) ⟨λb o q _ _ _=>q,λb o q _ _ _=>⟨o.slots,q⟩,λb o q n _=>by rw[aL (λz=>by subst z;rw[h]at n;cases n)];exact n,λb o q _=>⟨o,q⟩,
  λb xs q=>by rw[aL (ne b _ q (by simp))];exact q,λb o u q=>by rw[aL (ne b _ q (by simp))];exact q,λb w ps q=>⟨#[],by rw[aL (ne b _ q (by simp)),q];simp⟩⟩ λb u q=>?_⟩
 by_cases hb:b=a
 ·subst hb;rw[bt]at q;cases q;exact⟨e,st b _ (I.hok b _ h)⟩
 ·rw[aL hb]at q;exact st b u (I.hok b u q)
def Fj(te:TE):TE:=λσ H Q=>te σ H λv H1=>∃a kv,v=.ref a/\H1 a=ab (.dT kv)/\∀ob,Q v (upd H1 a (.frz ob (.dT kv)))
theorem JQ{X:Cx}{e:aY}{te:TE}(h:PE X e te):PE X e (Fj te):=λaf s σ H Q I q=>
 aZ (h af s σ H _ I q) λv s1 ⟨x,H1,I1,r1,a,kv,e,q1,q2⟩=>by
  obtain⟨ob,I2⟩:=I1.Jb q1;exact⟨x,_,I2,r1,q2 ob⟩
def zC(a:ag)(ob:Obj)(kv:List (List Key×V)):It:=⟨λi H=>H a=ab (.frz ob (.dT kv))/\i<kv.length,λi H x H'=>H'=H/\∃b k v,kv[i]? = ab (k,v)/\x=.ref b/\H b=ab (.tup (k.map kV)),λi H=>H a=ab (.frz ob (.dT kv))/\kv.length<=i⟩
theorem FR{α β:Type}{F:α->β->Prop}:∀{l:List α} {m:List β} {i:Nat} {x:α},mW F l m->l[i]? = ab x->∃y,m[i]? = ab y/\F x y
 |_,_,_,_,.nil,e=>by simp at e
 |_,_,0,_,.cons r _,e=>by simp at e;subst e;exact⟨_,rfl,r⟩
 |_,_,i+1,x,.cons _ t,e=>by
  obtain⟨u,h1,h2⟩:=FR (i:=i) (x:=x) t (by simpa using e);exact⟨u,by simpa using h1,h2⟩
theorem xJ{X:Cx}{af:List (ag×Obj)}{σ:St}{H:Hp}{s:aw}{a:ag}{ob:Obj}{kv:List (List Key×V)}(I:Inv X af σ H s)(q:H a=ab (.frz ob (.dT kv))) :
 (a==sysModules)=false/\kv.length<=sizeLine/\∃es ep,ob.data=.dict es ep/\pz s.heap a es ep/\es.size=kv.length/\∀i k v,kv[i]? = ab (k,v)->∃(lt:i<es.size) (b:ag),es[i].key=.ref b/\H b=ab (.tup (k.map kV))/\RelV v es[i].val:=by
 obtain⟨e,z1,z2,xs,r,ob',es,ep,e',c1,c2,c3,c4⟩:=(show cH X.prog X.w H s.heap a (.frz ob (.dT kv))from I.hok a _ q);rw[e]at e';cases e';have hl:es.size=xs.length:=size_of_entries c3;have hl2:kv.length=xs.length:=tU r;refine⟨z2,z1,es,ep,c2,⟨ob,e,c1,c2⟩,by omega,λi k v hk=>?_⟩;obtain⟨x,hx,h1,h2,h3⟩:=FR r hk;have lt:i<es.size:=by rw[hl];exact(b9.mp hx).1
 have he:=entry_at c3 i;rw[hx,GW,wu lt]at he;have he:=fh he;refine⟨lt,x.2.1,by rw[he];rfl,h2,by rw[he];exact h3⟩
theorem K3{P:br}{w:bd}{K:aP}{tg:aY}(a it:ag)(ob:Obj)(es:Array DictEntry)(ep:Nat)(kv:List (List Key×V))(hd:ob.data=.dict es ep) :
 Turn P w K tg (zC a ob kv) [it] it (λi h=>h.IsKeyIter it a i es.size ep) where
 mem:=cr.mpr rfl
 obj:=λi h st b hb=>by
  cases cr.mp hb;obtain⟨o,e,c,d⟩:=st;exact⟨o,e,λv z=>by rw[d]at z;cases z⟩
 keep:=λi h h' st k=>st.at λo e=>k it (cr.mpr rfl) o e
 item:=by intro X hP hw hK hc i af s σ H E I hf st hg;subst hP hw hK;obtain⟨q,lt⟩:=hg;obtain⟨_,_,es',ep',d',R,hl,at_⟩:=xJ I q;rw[hd]at d';cases d';obtain⟨f0,f1,f2,f3,f4,f5⟩:=hf it (cr.mpr rfl);obtain⟨⟨k,v⟩,hk⟩ : ∃p,kv[i]? = ab p:=⟨kv[i],by simp[lt]⟩;obtain⟨lt',b,ek,hb,_⟩:=at_ i k v hk;refine MH st R lt' λh' st' sb=>?_;have I1:Inv X af σ H { s with heap:=h' }:=I.turned (t':=s.toks) (λb o hb e=>(sb.2 b hb).trans e) f0 f1 f3 f4 f5;obtain⟨o,e,c,d⟩:=id st';exact⟨_,rfl,qS (s:={ s with heap:=h' }) e c d (by decide) ⟨.ref b,H,I1,ek,⟨rfl,b,k,v,hk,rfl,hb⟩,st',λb hb=>(hf b hb).1⟩⟩
 done:=by intro X hP hw hK hc i af s σ H E I hf st hg;subst hP hw hK;obtain⟨q,ge⟩:=hg;obtain⟨_,_,es',ep',d',R,hl,at_⟩:=xJ I q;rw[hd]at d';cases d';obtain⟨f0,f1,f2,f3,f4,f5⟩:=hf it (cr.mpr rfl);exact Kg (I.ok.hd hc) st R (by omega) λh' eb=>⟨rfl,I.turned (t':=s.toks) (λb o hb e=>eb b o hb e) f0 f1 f3 f4 f5⟩
 self:=λ_ _ _ _ _ st h=>wpAny_pyIter_keyiter st h
def pK(tl:TE):TI:=λσ H R=>tl σ H λx H1=>∃a ob kv,x=.ref a/\H1 a=ab (.frz ob (.dT kv))/\R (zC a ob kv) H1
theorem ND{X:Cx}{tg l:aY}{tl:TE}(hl:PE X l tl):PI X tg l (pK tl):=by intro af s σ H R I h;refine aZ (hl af s σ H _ I h) λv s1 ⟨x,H1,I1,r1,a,ob,kv,e,hq,q⟩=>?_;subst e;cases r1;obtain⟨nd,_,es,ep,d,Rw,hn,_⟩:=xJ I1 hq;refine Pq nd Rw ⟨s1.heap.objs.size,[s1.heap.objs.size],_,_,H1,rfl,I1.kept (t':=s1.toks) λb o e=>bX _ e,K3 a _ ob es ep kv d,⟨_,cL _ rfl,rfl,rfl⟩,λb hb=>?_,q⟩;cases cr.mp hb;exact I1.gy (bv _) (I1.hok.fresh (bv _))
end L2
namespace A
open PySem L2 PyProof.Rows
open Mi (D W Rs Fin aA)
variable[Tb:bD]{M:Nat->Bool}
theorem xX{H:Hp}:∀(k:List Key),P2 (Rep H) (k.map Mi.uS) (k.map kV)
 |[]=>.nil
 |.inl i::r=>.cons (o1.mpr rfl) (xX r)
 |.inr x::r=>.cons (nC.mpr rfl) (xX r)
theorem Ni{H Hv H' Hv':Hp}(g:bi H Hv H' Hv'){a:ag}{kv:List (List Key×V)}{ao:List (List Mi.Ky×D)}(n:H a=ac)(q:H' a=ab (.dT kv))(nv:Hv' a=ac)(c:eI Hv' ao kv)(ob:Obj) :
 ∃j0,bi H Hv (upd H' a (.frz ob (.dT kv))) j0/\fL j0 (.df ao) (.ref a):=by
 have ne:∀b u,H b=ab u->b≠a:=λb u e z=>by subst z;rw[n]at e;cases e
 have sm:cy Hv' (upd Hv' a (.frz ob (.dT kv))):=rP nv;refine⟨upd Hv' a (.frz ob (.dT kv)),⟨?_,g.vis.trans sm,⟨λb u e=>?_,λb xs e=>?_,λb o u e=>?_,g.vw.cd.put q trivial trivial,λb u e=>?_⟩,λb u e m=>?_⟩,a,ob,kv,rfl,bt,c.same sm⟩
 ·exact g.old.put n q
 ·by_cases hb:b=a
  ·subst hb;rw[bt]at e ⊢;exact e
  ·rw[aL hb]at e ⊢;exact g.vw.sub b u e
 ·by_cases hb:b=a
  ·subst hb;rw[bt]at e;cases e
  ·rw[aL hb]at e ⊢;exact g.vw.tup b xs e
 ·by_cases hb:b=a
  ·subst hb;rw[bt]at e ⊢;exact e
  ·rw[aL hb]at e ⊢;exact g.vw.frz b o u e
 ·by_cases hb:b=a
  ·subst hb;rw[bt]at e;cases e;trivial
  ·rw[aL hb]at e;exact g.vw.nv b u e
 ·rw[aL (ne b u e)];exact g.hid b u e m
theorem MC{t:TE}{m:Mi.EW}(h:AW M qN t m):AW M qV (Fj t) (Mi.yL m):=λe σ H Hv Q I q=>
 h e σ H Hv _ I ((aA.mp q).mono λw z v H' Hv' g k=>by
  obtain⟨a,o,rfl,n,q1,nv,c⟩:=k;cases w with
  | dt ao=>cases o with
   |dT kv=>
    refine⟨a,kv,rfl,q1,λob=>?_⟩;obtain⟨j0,g',r⟩:=Ni g n q1 nv c ob;exact z (.ref a) _ j0 g' r
   |_=>exact c.elim
  |_=>exact z.elim)
theorem LJ(i:Nat)(hm:M i=false):fm M (pK (dB i)) (Mi.pK i):=λe σ H Hv R I h=>by
 obtain⟨w,he,h⟩:=nk (aA.mp h);obtain⟨v,hv,r⟩:=I.nob i w he hm;cases w with
 |df ao=>
  obtain⟨a,ob,kv,rfl,q,c⟩:=r;refine⟨.ref a,hv,a,ob,kv,rfl,I.vw.sub _ _ q,h (zC a ob kv) H Hv (λH Hv=>Hv a=ab (.frz ob (.dT kv))/\eI Hv ao kv) (.refl I.vw) ⟨λi H Hv p v hi=>?_,λi H Hv x H' p v hi y=>?_,λH Hv p v=>?_⟩ ⟨q,c⟩ λH1 Hv1 H2 Hv2 z s v=>⟨s _ _ z.1,z.2.same s⟩⟩
  ·exact⟨v.sub _ _ p.1,by rw[<- P2.len p.2];simpa using hi⟩
  ·obtain⟨rfl,b,k,v',hk,rfl,hb⟩:=y;obtain⟨kd,hkd,e1,_⟩:=P2.yb p.2 hk;refine⟨Hv,.tup (kd.1.map Mi.uS),.refl v,by rw[cX,hkd];rfl,ia.mpr ⟨b,_,rfl,v.tup _ _ hb,?_⟩⟩;have e1:kd.1=k:=e1;rw[e1];exact xX k
  ·exact⟨v.sub _ _ p.1,by rw[<- P2.len p.2];simp⟩
 |_=>exact h.elim
end A
namespace L2
end L2
namespace A
end A
namespace L2
end L2
namespace Rv
end Rv
namespace L2
open PySem PySem.Spec PyProof.Rows
open PySem.AutoSeq1 (wpAny_loadPart')
section
variable{P:br}{w:bd}{A:bN}{E:ah->aw->Prop}{s:aw}{t I:ag}{aq:Array ah}
theorem MP{acc:Array ah}(h:ItemsOf (λi v=>aq[aq.size-1-i]? = ab v) acc aq.size):acc.toList=aq.toList.reverse:=by
 have hl:acc.size=aq.size:=h.1;refine List.ext_getElem? λi=>?_;rcases Ah i aq.size with lt|ge
 ·have lt':i<acc.size:=by omega
  have:=h.2 i acc[i] (wu lt');rw[tQ,wu lt',List.getElem?_reverse (by simpa using lt),tR,tQ];exact this.symm
 ·rw[zN (by rw[tR];omega),zN (by rw[tq,tR];omega)]
end
section
variable{X:Cx}
def lE(H:Hp)(p:ag):Hp:=λb=>if b=p then ac else H b
theorem mG{H:Hp}{p b:ag}(h:b≠p):lE H p b=H b:=by unfold lE;rw[ba h]
theorem Fk:∀{xs:List V} {us:List ah},Vals xs us->Vals xs.reverse us.reverse
 |_,_,.nil=>.nil
 |_,_,.cons r t=>by rw[mL,mL];exact(Fk t).append (.cons r .nil)
end
end L2
namespace A
open PySem L2 PyProof.Rows
open Mi (D W Rs Fin aA)
variable[Tb:bD]{M:Nat->Bool}
end A
namespace So
end So
namespace L2
end L2
namespace A
end A
namespace Mi
open PySem
end Mi
namespace L2
open PySem PySem.Spec PyProof.Rows
open PySem.Builtin PySem.Builtin.Str
end L2
namespace A
open PySem L2 PyProof.Rows So
open Mi (D W Rs Fin aA)
variable[Tb:bD]
end A
namespace Mi
open PySem
def LD(ys:List Str):Str:=ys.foldl (· ++ ·) m3
end Mi
namespace L2
open PySem PySem.Spec PyProof.Rows
end L2
namespace A
open PySem L2 PyProof.Rows So
open Mi (D W Rs Fin aA)
variable[Tb:bD]
end A
namespace Mi
end Mi
namespace A
open PySem L2 PyProof.Rows
open Mi (D W Rs Fin aA)
variable[Tb:bD]
end A
namespace Mi
end Mi
namespace A
open PySem L2 PyProof.Rows
open Mi (D W Rs Fin aA)
variable[Tb:bD]{M:Nat->Bool}{κ:Kd}{tr:TA}{a b:Mi.E}
end A
namespace A
open PySem L2 PyProof.Rows
section
variable[Tb:bD]
def tv(Hv:Hp):Hp:=λa=>match Hv a with
 |some (.tup xs)=>ab (.tup xs)
 |some (.frz o u)=>ab (.frz o u)
 |_=>ac
theorem CQ{Hv:Hp}{a:ag}{o:HO}(h:tv Hv a=ab o):Hv a=ab o:=by
 unfold tv at h;cases q:Hv a with
 |none=>rw[q]at h;cases h
 |some u=>
  rw[q]at h;cases u<;>first|exact h|cases h
theorem M1{Hv:Hp}{a:ag}{xs:List V}(h:Hv a=ab (.tup xs)):tv Hv a=ab (.tup xs):=by unfold tv;rw[h]
theorem Ms{Hv:Hp}{a:ag}{o:Obj}{u:HO}(h:Hv a=ab (.frz o u)):tv Hv a=ab (.frz o u):=by unfold tv;rw[h]
theorem Dw{Hv:Hp}{a:ag}{o:HO}(h:tv Hv a=ab o):(∃xs,o=.tup xs)\/∃b u,o=.frz b u:=by
 unfold tv at h;cases q:Hv a with
 |none=>rw[q]at h;cases h
 |some u=>
  rw[q]at h;cases u<;>first|(cases h;exact .inl ⟨_,rfl⟩)|(cases h;exact .inr ⟨_,_,rfl⟩)|cases h
end
end A
namespace A
open PySem L2 PyProof.Rows
open Mi (D)
section
variable[Tb:bD]
def kp(Hv H:Hp):Hp:=λa=>match Hv a with
 |some o=>ab o
 |none=>tv H a
theorem sD{Hv H:Hp}{a:ag}{o:HO}(h:Hv a=ab o):kp Hv H a=ab o:=by unfold kp;rw[h]
theorem sN{Hv H:Hp}{a:ag}(h:Hv a=ac):kp Hv H a=tv H a:=by unfold kp;rw[h]
def gY(H H1 H2:Hp):Prop:=∀a,H2 a=H1 a\/(H a=ac/\(∃xs,H1 a=ab (.lst xs))/\∃ys,H2 a=ab (.lst ys))
theorem gY.refl{H H1:Hp}:gY H H1 H1:=λ_=>.inl rfl
theorem gY.put{H H1 H2:Hp}(e:gY H H1 H2){p:ag}{xs ys:List V}(h:H p=ac)(q:H2 p=ab (.lst xs)):gY H H1 (upd H2 p (.lst ys)):=λa=>by
 by_cases z:a=p
 ·subst z;refine .inr ⟨h,?_,_,bt⟩;rcases e a with k|⟨_,k,_⟩
  ·exact⟨xs,by rw[<- k];exact q⟩
  ·exact k
 ·rw[aL z];exact e a
theorem bi.emptied{H Hv H1 Hv1 H2:Hp}(v:Vw H Hv)(g:bi H Hv H1 Hv1)(e:gY H H1 H2):bi H Hv H2 (kp Hv H2):=by
 have keep:∀{a o},H a=ab o->H2 a=H1 a:=λ{a o} h=>by
  rcases e a with k|⟨k,_⟩
  ·exact k
  ·rw[h]at k;cases k
 have same:∀{a o},H1 a=ab o->(∀xs,o≠.lst xs)->H2 a=ab o:=λ{a o} h n=>by
  rcases e a with k|⟨_,⟨xs,k⟩,_⟩
  ·rw[k];exact h
  ·rw[h]at k;cases k;exact absurd rfl (n xs)
 have back:∀{a o},H2 a=ab o->(∀xs,o≠.lst xs)->H1 a=ab o:=λ{a o} h n=>by
  rcases e a with k|⟨_,_,ys,k⟩
  ·rw[<- k];exact h
  ·rw[h]at k;cases k;exact absurd rfl (n ys)
 have up:∀{a o},Hv a=ab o->H2 a=ab o:=λ{a o} h=>by
  rw[keep (v.sub a o h)];exact g.old.nt a o (v.sub a o h) (v.nv a o h)
 refine⟨⟨λa o h n=>?_,λa h=>?_,λa w ps h=>?_⟩,λa o h=>sD h,⟨λa o h=>?_,λa xs h=>?_,λa o u h=>?_,⟨λr hr=>?_,λT q ps h=>?_,λa o xs h=>?_⟩,λa o h=>?_⟩,λa o h n=>?_⟩
 ·rw[keep h];exact g.old.nt a o h n
 ·rcases e a with k|⟨k,_⟩
  ·rw[k]at h;exact g.old.dom a h
  ·exact k
 ·rw[keep h];exact g.old.tb a w ps h
 ·cases q:Hv a with
  |none=>rw[sN q]at h;exact CQ h
  |some u=>rw[sD q]at h;cases h;exact up q
 ·cases q:Hv a with
  |none=>rw[sN q];exact M1 h
  |some u=>rw[sD q];have:=up q;rw[h]at this;exact this.symm
 ·cases q:Hv a with
  |none=>rw[sN q];exact Ms h
  |some w=>rw[sD q];have:=up q;rw[h]at this;exact this.symm
 ·obtain⟨ps,k⟩:=g.vw.cd.has r hr;exact⟨ps,same k (λ_ z=>by cases z)⟩
 ·obtain⟨t,k⟩:=g.vw.cd.cd T q ps (back h (λ_ z=>by cases z));refine⟨t,λpos x z=>?_⟩;obtain⟨c,c1,c2⟩:=k pos x z;exact⟨c,c1,same c2 (λ_ z=>by cases z)⟩
 ·exact g.vw.cd.fz a o xs (back h (λ_ z=>by cases z))
 ·cases q:Hv a with
  |none=>
   rw[sN q]at h;rcases Dw h with ⟨_,k⟩|⟨_,_,k⟩<;>subst k<;>trivial
  |some u=>rw[sD q]at h;cases h;exact v.nv a o q
 ·rw[sN n];cases z:tv H2 a with
  |none=>rfl
  |some u=>
   exfalso;have e1:=CQ z;rw[keep h]at e1;rcases Dw z with ⟨xs,k⟩|⟨b,w,k⟩
   ·subst k;by_cases t:NT o
    ·have:=g.old.nt a o h t;rw[e1]at this;cases this;rw[v.tup a xs h]at n;cases n
    ·cases o<;>first|exact t trivial|skip
     obtain⟨_,y⟩:=g.old.tb a _ _ h;rw[e1]at y;cases y
   ·subst k;by_cases t:NT o
    ·have:=g.old.nt a o h t;rw[e1]at this;cases this;rw[v.frz a b w h]at n;cases n
    ·cases o<;>first|exact t trivial|skip
     obtain⟨_,y⟩:=g.old.tb a _ _ h;rw[e1]at y;cases y
end
end A
namespace A
open PySem L2 PyProof.Rows
section
variable{K:aP}{i j:Nat}{D:Ends}{Hc:Hp}[Tb:bD]
def r6(Hc H:Hp)(l:ag)(x:V):Prop:=∃q ys,x=.ref q/\H q=ab (.lst ys)/\q≠l/\Hc q=ac
theorem r6.put{H:Hp}{l q:ag}{x:V}{ys:List V}(h:r6 Hc H l x):r6 Hc (upd H q (.lst ys)) l x:=by
 obtain⟨p,zs,e,h1,h2,h3⟩:=h;by_cases z:p=q
 ·subst z;exact⟨p,ys,e,bt,h2,h3⟩
 ·exact⟨p,zs,e,by rw[aL z];exact h1,h2,h3⟩
end
end A
namespace Mi
end Mi
namespace A
open PySem L2 PyProof.Rows
open Mi (D W Rs Fin aA Out)
section
variable[Tb:bD]{M:Nat->Bool}{κ:Kd}
theorem rV{e:Mi.Env}{i j k:Nat}{w:W}(h:((e.set i ac).set j ac)[k]? = ab (ab w)):k≠i/\k≠j/\e[k]? = ab (ab w):=by
 have a:k≠j:=λz=>by
  subst z;rw[tw]at h;rw[a9 rfl]at h;split at h<;>cases h
 rw[eE (cY a)]at h;have b:k≠i:=λz=>by
  subst z;rw[tw]at h;rw[a9 rfl]at h;split at h<;>cases h
 rw[eE (cY b)]at h;exact⟨b,a,h⟩
theorem R1.I9{H0 Hv0:Hp}{e:Mi.Env}{σ σ':L2.St}{H Hv:Hp}{i j:Nat}(I:R1 M H0 Hv0 e σ H Hv)(hl:σ'.length = σ.length)(h:∀k,k≠i->k≠j->σ'[k]? = σ[k]?):R1 M H0 Hv0 ((e.set i ac).set j ac) σ' H Hv:=by
 refine⟨⟨I.vw,by rw[hl,I.len,gH,gH],λk w q m=>?_,λk w q m=>?_⟩,I.gw,λk w a q m z=>?_,λk k' w w' a b n q q' m m' z z'=>?_⟩
 ·obtain⟨n1,n2,q⟩:=rV q;rw[h k n1 n2];exact I.nob k w q m
 ·obtain⟨n1,n2,q⟩:=rV q;rw[h k n1 n2];exact I.own k w q m
 ·obtain⟨n1,n2,q⟩:=rV q;rw[h k n1 n2]at z;exact I.fresh k w a q m z
 ·obtain⟨n1,n2,q⟩:=rV q;obtain⟨n3,n4,q'⟩:=rV q';rw[h k n1 n2]at z;rw[h k' n3 n4]at z';exact I.sep k k' w w' a b n q q' m m' z z'
end
end A
namespace A
end A
namespace L2
open PySem PySem.Spec PyProof.Rows A So
variable[Tb:bD]
def rS(P:br)(w:bd)(K:aP)(mg:Str->Option ah)(base:aR)(A:bN)(N':List Str)(env:Env)(s:aw)(H:Hp)(outer:List Env):Cx:={ prog:=P,w:=w,K:=K,mg:=mg,base:=base,A:=A.deeper env,N:=N',s₀:=s,H₀:=H,env:=env,outer:=outer,stack:=env::outer,ex:=[],fn:=λ_=>false,calm:=true,pn:=[],xe:=λ_ _=>False }
def Kept(us:List (ag×Obj))(outer:List Env)(H:Hp)(h:aR):Prop:=∀p∈us,h.get? p.1=ab p.2/\H p.1=ac/\p.1∉frs outer
structure yO(x:Str)(ys:List Str)(gs:List V)(sc:en)(cl:List (Str×ag))(us:List (ag×Obj)):Prop where
 kind:sc.kind=.function
 co:sc.isCoroutine=false
 gen:sc.isGenerator=false
 lW:∀y∈sc.names,y.2≠.cell
 par:sc.names.lookup x=ab .local
 has:∀y,sc.names.lookup y=ab .free->∃c,cl.lookup y=ab c
 inj:∀y z c,cl.lookup y=ab c->cl.lookup z=ab c->y=z
 len:ys.length=gs.length
 cell:∀y c,cl.lookup y=ab c->∃o v,(c,o)∈us/\o.data=.cell v
 val:∀(i:Nat) y g,ys[i]? = ab y->gs[i]? = ab g->sc.names.lookup y=ab .free/\∃c o u,cl.lookup y=ab c/\(c,o)∈us/\o.data=.cell (ab u)/\RelV g u
section
variable{P:br}{w:bd}{K:aP}{mg:Str->Option ah}{base:aR}{outer:List Env}{H:Hp}{s:aw}{A:bN}{k:Nat}{qual x:Str}{ps:qo}{body:aY}{sc:en}{cl:List (Str×ag)}{pm ctv:ah}{f c':ag}{ys:List Str}{gs:List V}{us:List (ag×Obj)}
theorem Kq{h1:aR}{tk:Nat}{v:V}{u:ah}(e0:mv P w K mg base A outer s H)(hd:A.handled=ac)(S:yO x ys gs sc cl us)(kp:Kept us outer H s.heap)(rv:RelV v u)
 (hns:h1.Ns s.heap.objs.size λy=>[(x,u)].reverse.lookup y) (hk:∀b o,s.heap.get? b=ab o->h1.get? b=ab o) :
 Inv (rS P w K mg base A (x::ys) (o0 qual sc s f c' cl) s H outer) [] (ab v::gs.map ab) H { s with heap:=h1,toks:=tk }:=by
 have noA:∀b:ag,b∉([]:List ag):=λb z=>absurd z (by simp);refine⟨⟨e0.mod,S.kind,rfl,rfl,bv _,S.inj,λy hy=>?_,λy c z=>(nomatch z),λ_=>hd,Hm e0.frames,.inr ⟨rfl,rfl⟩,λb z=>absurd z (noA b),e0.bs,e0.bsz,λb _ _=>noA b,λb z=>absurd z (noA b),e0.iS,e0.frf⟩,
  rfl,e0.bare,Un.kept hk,⟨_,hns,λi y w h2 h3 h4=>?_⟩,λy c e=>?_,e0.hok.fresh (bv _),λy c e=>?_,λp hp=>absurd (show p∈([]:List (ag×Obj))from hp) (by simp),e0.hok.kept hk,?_⟩
 ·have hy:sc.names.lookup y=ab .cell\/sc.names.lookup y=ab .free:=hy;rcases hy with hy|hy
  ·exact absurd rfl (S.lW _ (lR hy))
  ·exact S.has y hy
 ·have h2:(x::ys)[i]? = ab y:=h2;cases i with
  |zero=>
   have e:x=y:=by simpa using h2
   subst e;have e2:v=w:=by simpa using h3
   subst e2;exact⟨u,rv,.inl ⟨S.par,by simp⟩⟩
  |succ i=>
   have hy:ys[i]? = ab y:=by simpa using h2
   have h3:(gs.map ab)[i]? = ab (ab w):=by simpa using h3
   rw[cX]at h3;obtain⟨g,hg,e⟩:=iY.mp h3;cases e;obtain⟨n1,c,o,u2,n2,n3,n4,n5⟩:=S.val i y w hy hg;exact⟨u2,n5,.inr ⟨.inr n1,c,n2,o,hk _ _ (kp _ n3).1,n4⟩⟩
 ·obtain⟨o,v2,n1,n2⟩:=S.cell y c e;exact⟨v2,o,hk _ _ (kp _ n1).1,n2⟩
 ·obtain⟨o,v2,n1,n2⟩:=S.cell y c e;exact(kp _ n1).2.1
 ·show(ab v::gs.map ab).length=(x::ys).length;simp[S.len]
theorem Lx{u:ah}{v:V}{tb:TE}{Q:VK}(e0:mv P w K mg base A outer s H)(hr:cO (k+1) A)(S:yO x ys gs sc cl us)(kp:Kept us outer H s.heap)
 (ho:(f,qh "<lambda>" qual ps body sc cl pm c' ctv)∈us) (hcd:s.heap.CodeRec (.ref c') qual)
 (hbind:bindArgs (vV "<lambda>" qual ps body sc cl pm (.ref c') ctv) ⟨[u],[]⟩=pure [(x,u)]) (rv:RelV v u)
 (hb:∀env:Env,cO k (A.deeper env)->env=o0 qual sc s f c' cl->PE (rS P w K mg base A (x::ys) env s H outer) body tb) (h:tb (ab v::gs.map ab) H Q) :
 wpAny (model P w) A (call (.ref f) [u]) (CE outer P w H s Q) (λ_ _=>False) s:=by
 refine wpAny_call (PySem.W.kla_callFunE hr.depth (kp _ ho).1 rfl S.co S.gen rfl hcd ?_);rw[hbind];have lim:s.heap.NoLimit:=e0.mod.nolimit.keeps λb o e=>(e0.bs b o e).1;refine bB (wpAny_newFunctionEnv S.lW (λy hy=>by
  have e:y=(x,u):=by simpa using hy
  rw[e];exact S.par) (λh1 hns hsb=>⟨lim.fresh _ hsb,?_⟩) S.kind)
 show codeAny _ _ (.expr body (o0 qual sc s f c' cl)) _ _;have hk:∀b o,s.heap.get? b=ab o->h1.get? b=ab o:=λb o e=>hsb.extBut b o (fV (bZ e)) (bX _ e);have J:=Kq (tk:=s.toks+[(x,u)].length) (qual:=qual) (f:=f) (c':=c') e0 hr.hd S kp rv hns hk;refine PySem.W.kla_codeExpr (iX (hb _ (hr.deeper _) rfl [] _ (ab v::gs.map ab) H Q J h) (λk' s' hq=>?_) λ_ _ z=>z.elim);obtain⟨v2,H2,I2,r2,q⟩:=hq;exact⟨v2,H2,I2.os,I2.bare,I2.base,I2.hok,r2,q⟩
end
structure vL(P:br)(w:bd)(K:aP)(mg:Str->Option ah)(base:aR)(k:Nat)(f:ag)(us:List (ag×Obj))(c':ag)(q:Str)(sp:V->Hp->VK->Prop):Prop where
 fn:∃oc od fd sl,(f,(⟨oc,od,.func fd,sl⟩ : Obj))∈us
 run:∀(A:bN) (outer:List Env) (s:aw) (H:Hp) (u:ah) (v:V) (Q:VK),cO k A->mv P w K mg base A outer s H->Kept us outer H s.heap->H c'=ab (.ext (gn c' q))->RelV v u->sp v H Q ->
  wpAny (model P w) A (call (.ref f) [u]) (CE outer P w H s Q) (λ_ _=>False) s
section
variable{X:Cx}{x:Str}{e:aY}{p pos:Pos}{k i:Nat}{f c':ag}{q:Str}{us:List (ag×Obj)}{te:TE}{sp:V->Hp->VK->Prop}
theorem Kept.inv{af:List (ag×Obj)}{σ:St}{H:Hp}{s:aw}(I:Inv X af σ H s)(hx:X.ex=[])(kp:Kept us X.outer X.H₀ X.s₀.heap):Kept us X.stack H s.heap:=λp hp=>by
 obtain⟨h1,h2,h3⟩:=kp p hp;have nx:p.1∉X.ex:=by rw[hx];simp
 refine⟨I.base.keep _ _ h1 h2 h3 nx,I.base.free _ _ h1 h2 nx,λz=>?_⟩;rcases bL.mp (I.sX p.1 z)with y|y
 ·have:=bZ h1;have:=I.ok.above;rw[y]at *;exact absurd (fU ‹_› this) (jp _)
 ·exact h3 y
def BA(i:Nat)(f c':ag)(q:Str)(te:TE)(sp:V->Hp->VK->Prop):TE:=λσ H Q=>σ[i]? = ab (ab (.ref f))/\te σ H λv H1=>H1 c'=ab (.ext (gn c' q))/\sp v H1 Q
theorem NF(L:vL X.prog X.w X.K X.mg X.base k f us c' q sp)(kp:Kept us X.outer X.H₀ X.s₀.heap)(hx:X.ex=[])(hr:cO k X.A)(hv:PE X (.Name x p) (dB i))(he:PE X e te)
 (hs:starEach [e] X.env=(false,eval e X.env)::starEach [] X.env:=by rfl) (hpl:(backTo pos (starEach [] X.env)).any (·.1)=false:=by rfl) :
 PE X (.Call (.Name x p) [e] [] pos) (BA i f c' q te sp):=by
 intro af s σ H Q I ⟨h1,h2⟩;have fnAt:∀{af:List (ag×Obj)} {σ:St} {H:Hp} {s:aw},Inv X af σ H s->PySem.W.FnAt f s.heap:=λI=>by
  obtain⟨oc,od,fd,sl,m⟩:=L.fn;exact⟨oc,od,fd,sl,((kp.inv I hx) _ m).1⟩
 refine tG (aZ (hv af s σ H (λv H1=>v=.ref f/\te σ H1 λv H1=>H1 c'=ab (.ext (gn c' q))/\sp v H1 Q) I ⟨_,h1,rfl,h2⟩) λu s1 ⟨v,H1,I1,r,e1,q1⟩=>?_);subst e1;cases r;refine PySem.W.callWith_F (fnAt I1) ?_ hs hpl;rw[hs];show wpAny _ _ (spliced ((false,eval e X.env)::backTo pos (starEach [] X.env))) _ _ s1;refine wy (aZ (he af s1 σ H1 _ I1 q1) λu2 s2 ⟨v2,H2,I2,r2,q2,q3⟩=>At ⟨fnAt I2,?_⟩);refine iX (L.run X.A X.stack s2 H2 u2 v2 Q hr I2.env0 (kp.inv I2 hx) q2 r2 q3) (λk' s' hq=>I2.after hq) λ_ _ z=>z.elim
end
open Mi (Kp)
abbrev _root_.Mi.Kp.vs(κ:Kp):List V:=κ.ga.map V.ref
structure sn(P:br)(w:bd)(K:aP)(mg:Str->Option ah)(base:aR)(k:Nat)(f:ag)(fd:bG)(ps:List Str)(kl:Nat)(spl:List V->V->Hp->VK->Prop)(sp:Kp->Sp):Prop where
 len:∀κ vs H Q E,sp κ vs H Q E->vs.length=ps.length
 run:∀(A:bN) (outer:List Env) (s:aw) (H:Hp) (args:Args) (us:List ah) (vs:List V) (Q:VK) (κ:Kp) (us':List (ag×Obj)),cO k A->mv P w K mg base A outer s H->lS s fd args (ps.zip us)->Vals vs us ->
  vL P w K mg base kl κ.a us' κ.c κ.q (spl κ.vs)->Kept us' outer H s.heap->sp κ vs H Q E0->codeAny (model P w) A (.call (.ref f) args) (CR aO outer P w H s Q E0) s
theorem Pe{P:br}{w:bd}{K:aP}{mg:Str->Option ah}{base:aR}{k kl:Nat}{f:ag}{x qual:Str}{st:bw}{fd:bG}{N ps:List Str}{spl:List V->V->Hp->VK->Prop}{sp:Kp->Sp}(F:b8 K x qual st f fd)(S:cg N ps (bA st))
 (len:∀κ vs H Q E,sp κ vs H Q E->vs.length=ps.length)
 (hbody:∀(cdv:ah) (A:bN) (outer:List Env) (s:aw) (H:Hp) (vs:List V) (Q:VK) (κ:Kp) (us':List (ag×Obj)),cO k (A.deeper (envOfC qual (bA st) s.heap.objs.size f cdv)) ->
  vL P w K mg base kl κ.a us' κ.c κ.q (spl κ.vs)->Kept us' outer H s.heap->sp κ vs H Q E0 ->
  ∃t,fX (j7 aO P w K mg base N qual (bA st) f cdv A outer s H E0).km (h9 st) t/\t { nx:=λ_ H'=>Q .non H',rt:=Q } (start N vs) H) :
 sn P w K mg base (k+1) f fd ps kl spl sp:=by
 obtain⟨oc,od,kV,doc,pm,an,cdv,ct,osl,rfl,lk,hcd⟩:=F.ex;refine⟨len,λA outer s H args us vs Q κ us' hr e0 hb r L kp h=>?_⟩;obtain⟨t,ht,hq⟩:=hbody cdv A outer s H vs Q κ us' (hr.deeper _) L kp h;have old:∀b o,base.get? b=ab o->s.heap.get? b=ab o:=λb o e=>(e0.bs b o e).1;have kx:K.In s.heap:=e0.mod.kin.keeps old;refine codeAny_call_function hr.depth (kx _ _ lk) rfl S.co S.gen rfl (GC kx hcd) (hb _ _ _ _ (GI S.kind (λy hy=>?_) λenv he s1 x1=>?_))
 ·rcases S.par y.1 (vR (a:=y.1) (b:=y.2) hy).1 with z|z
  ·exact .inl z
  ·exact .inr ⟨z,zX _ _ _ (.inl z)⟩
 ·subst he;refine⟨(e0.mod.nolimit.keeps old).keeps x1.toInCall.keep,codeAny_func ?_⟩;refine iX (ht.km [] s1 (start N vs) H _ (Ep S hr.hd e0 (len _ _ _ _ _ h) r x1) hq) (λfl s' hs=>?_) λe s' hs=>hs;cases fl with
  |ret u=>obtain⟨v,σ',H',J,rv,q⟩:=hs;exact⟨v,H',J.os,J.bare,J.base,J.hok,rv,q⟩
  |next=>obtain⟨σ',H',J,q⟩:=hs;exact⟨.non,H',J.os,J.bare,J.base,J.hok,rfl,q⟩
  |brk=>obtain⟨_,_,_,q⟩:=hs;exact hV q
  |cont=>obtain⟨_,_,_,q⟩:=hs;exact hV q
structure pc(X:Cx)(x:Str)(ρ:List Nat)(ys:List Str)(sc:en)(cl:List (Str×ag)):Prop where
 kind:sc.kind=.function
 co:sc.isCoroutine=false
 gen:sc.isGenerator=false
 lW:∀y∈sc.names,y.2≠.cell
 par:sc.names.lookup x=ab .local
 clo:∀p∈cl,X.env.cells.lookup p.1=ab p.2
 has:∀y,sc.names.lookup y=ab .free->∃c,cl.lookup y=ab c
 len:ys.length = ρ.length
 ix:∀(i j:Nat) y,ρ[i]? = ab j->ys[i]? = ab y->X.N[j]? = ab y/\sc.names.lookup y=ab .free/\(X.env.kindOf y=ab .cell\/X.env.kindOf y=ab .free)
section
variable{X:Cx}{fx lx qual:Str}{e:aY}{ps:qo}{body:aY}{sc:en}{cl:List (Str×ag)}{c T fa:ag}{p pos hW:Pos}{k kl:Nat}{ρ:List Nat}{ys pps:List Str}{te tb:TE}{fd:bG}{spl:List V->V->Hp->VK->Prop}{sp:Kp->Sp}
def wQ(T:ag)(q:Str)(ρ:List Nat)(te:TE)(sp:Kp->Sp):TE:=λσ H Q=>te σ H λv H1=>∃(tps:Array ah) (ga:List ag),H1 T=ab (.tbl q tps)/\gJ H1/\(∀(i:Nat) (j:Nat),ρ[i]? = ab j->∃a:ag,ga[i]? = ab a/\σ[j]? = ab (ab (V.ref a)))/\ga.length = ρ.length /\
 ∀H2 f c',Tab T q H1 H2->H2 c'=ab (.ext (gn c' q))->H2 f=ac->sp ⟨f,c',q,ga⟩ [v,.ref f] H2 Q E0
theorem OS{af:List (ag×Obj)}{σ:St}{H:Hp}{s:aw}{f c':ag}{pm ctv:ah}{ga:List ag}(I:Inv X af σ H s)(hfn:∀x,X.fn x=true)(S:pc X lx ρ ys sc cl)(hf:s.heap.get? f=ab (qh "<lambda>" qual ps body sc cl pm c' ctv))(fp:gA X af H f)
 (hga:∀(i:Nat) (j:Nat),ρ[i]? = ab j->∃a:ag,ga[i]? = ab a/\σ[j]? = ab (ab (V.ref a))) (hgl:ga.length = ρ.length)
 (hbind:∀(pm:ah) (c':ag) (ctv u:ah),bindArgs (vV "<lambda>" qual ps body sc cl pm (.ref c') ctv) ⟨[u],[]⟩=pure [(lx,u)])
 (hb:∀(A:bN) (f c':ag) (s:aw) (H:Hp) (env:Env) (outer:List Env),cO kl (A.deeper env)->env=o0 qual sc s f c' cl->PE (rS X.prog X.w X.K X.mg X.base A (lx::ys) env s H outer) body tb)
 (hsp:∀gs v H Q,spl gs v H Q->tb (ab v::gs.map ab) H Q) :
 ∃us,vL X.prog X.w X.K X.mg X.base (kl+1) f us c' qual (spl (ga.map V.ref))/\Kept us X.stack H s.heap:=by
 have Hs:∀b,b≠X.env.locals->b∉X.fs->b∉frs X.stack:=λb h1 h2 z=>by
  rcases bL.mp (I.sX b z)with y|y
  ·exact h1 y
  ·exact h2 y
 have cfs:∀y c,X.env.cells.lookup y=ab c->c∉X.fs:=λy c e z=>by
  obtain⟨_,o,ho,_⟩:=I.ok.iS.mem z;exact absurd (fU (bZ ho) (I.ok.cab y c (hfn y) e)) (jp _)
 let us:List (ag×Obj):=(f,qh "<lambda>" qual ps body sc cl pm c' ctv)::cl.filterMap λyc=>(s.heap.get? yc.2).map λo=>(yc.2,o);have mem:∀y c o,cl.lookup y=ab c->s.heap.get? c=ab o->(c,o)∈us:=λy c o h1 h2=>by
  refine ff _ (vP.mpr ⟨(y,c),lR h1,?_⟩);simp[h2]
 have kp:Kept us X.stack H s.heap:=λp hp=>by
  rcases bL.mp hp with rfl|hp
  ·exact⟨hf,fp.1,Hs f fp.2.1 fp.2.2.1⟩
  ·obtain⟨⟨y,c2⟩,h1,h2⟩:=vP.mp hp;obtain⟨o,h3,rfl⟩:=iY.mp h2;have hc:X.env.cells.lookup y=ab c2:=S.clo _ h1;exact⟨h3,I.i5 y c2 hc,Hs c2 (I.l9 y c2 hc) (cfs y c2 hc)⟩
 have clo:∀y c,cl.lookup y=ab c->X.env.cells.lookup y=ab c:=λy c e=>S.clo (y,c) (lR e);have SC:yO lx ys (ga.map V.ref) sc cl us:=by
  refine⟨S.kind,S.co,S.gen,S.lW,S.par,S.has,λy z c h1 h2=>I.ok.inj y z c (clo y c h1) (clo z c h2),by rw[S.len,aX,hgl],λy c e=>?_,λi y g h1 h2=>?_⟩
  ·obtain⟨v,o,ho,hd⟩:=I.cell y c (clo y c e);exact⟨o,v,mem y c o e ho,hd⟩
  ·have hi:i < ρ.length:=by rw[<- S.len];exact(b9.mp h1).1
   have hj:ρ[i]? = ab ρ[i]:=by simp[hi]
   obtain⟨n1,n2,n3⟩:=S.ix i _ y hj h1;obtain⟨a,h3,h4⟩:=hga i _ hj;rw[cX,h3]at h2;cases h2;obtain⟨m,hm,hl⟩:=I.loc;have vis:rQ X.env.scope y:=by
    rcases n3 with z|z
    ·exact .inr (.inl z)
    ·exact .inr (.inr z)
   obtain⟨u2,r2,lk⟩:=hl _ y _ n1 h4 vis;obtain⟨c2,hc2⟩:=S.has y n2;refine⟨n2,?_⟩;rcases lk with ⟨z,_⟩|⟨_,c3,e3,o,ho,hd⟩
   ·rcases n3 with y1|y1
    ·rw[z]at y1;cases y1
    ·rw[z]at y1;cases y1
   ·rw[clo y c2 hc2]at e3;cases e3;exact⟨c2,o,u2,hc2,mem y c2 o hc2 ho,hd,r2⟩
 refine⟨us,⟨⟨_,_,_,_,dA⟩,λA outer s3 H3 u v Q hr e0 kp3 hc3 rv h=>?_⟩,kp⟩;have hrec:s3.heap.CodeRec (.ref c') qual:=by obtain⟨⟨o,vs,t,e1,e2,e3⟩,_⟩:=e0.hok c' _ hc3;exact⟨c',o,vs,t,rfl,e1,e2,e3⟩
 exact Lx e0 hr SC kp3 dA hrec (hbind pm c' ctv u) rv (λenv h1 h2=>hb A f c' s3 H3 env outer h1 h2) (hsp _ _ _ _ h)
theorem NS(F:sn X.prog X.w X.K X.mg X.base k fa fd pps (kl+1) spl sp)(hr:cO k X.A)(hg:Gl X fx)(hm:X.mg fx=ab (.ref fa))(hkp:kQ X.K (.ref fa)=true)(hbd:Binds X.K fd pps [])(he:PE X e te)
 (hc:X.env.code=.ref c) (C:iW X.base c T) (hB:BM X.mg X.base) (hdef:defaultsOf ps X.env=([],[])) (hq:X.env.qual ++ "<lambda>" = qual) (hcl:closureFor sc X.env=pure cl) (hfn:∀x,X.fn x=true) (S:pc X lx ρ ys sc cl)
 (hbind:∀(pm:ah) (c':ag) (ctv u:ah),bindArgs (vV "<lambda>" qual ps body sc cl pm (.ref c') ctv) ⟨[u],[]⟩=pure [(lx,u)])
 (hb:∀(A:bN) (f c':ag) (s:aw) (H:Hp) (env:Env) (outer:List Env),cO kl (A.deeper env)->env=o0 qual sc s f c' cl->PE (rS X.prog X.w X.K X.mg X.base A (lx::ys) env s H outer) body tb)
 (hsp:∀gs v H Q,spl gs v H Q->tb (ab v::gs.map ab) H Q)
 (hdb:(fx==("__debug__" : Str))=false:=by decide) (hs1:starEach [e,.Lambda ps body sc hW] X.env=(false,eval e X.env)::starEach [.Lambda ps body sc hW] X.env:=by rfl)
 (hs2:starEach [.Lambda ps body sc hW] X.env=(false,eval (.Lambda ps body sc hW) X.env)::starEach [] X.env:=by rfl) (hpl:(backTo pos (starEach [.Lambda ps body sc hW] X.env)).any (·.1)=false:=by rfl) :
 PE X (.Call (.Name fx p) [e,.Lambda ps body sc hW] [] pos) (wQ T qual ρ te sp):=by
 intro af s σ H Q I h;refine tG (EJ I hg hm ?_ hdb);refine GB (h₀:=X.base) I.ok.mod.kin hkp ?_ hs1 hpl;rw[hs1];show wpAny _ _ (spliced ((false,eval e X.env)::backTo pos (starEach [.Lambda ps body sc hW] X.env))) _ _ s;refine wy (aZ (he af s σ H _ I h) λu s1 ⟨v,H1,I1,r1,q1⟩=>?_);obtain⟨tps,ga,hT,ck,hga,hgl,q2⟩:=q1;rw[hs2];show wpAny _ _ (spliced ((false,eval (.Lambda ps body sc hW) X.env)::backTo pos (starEach [] X.env))) _ _ s1;refine wy (KP I1 hc C ck hT hB hdef hq hcl λf c' ctv pm s2 H2 tab hc' hf I2 fpf=>At ⟨I2.fj,?_⟩);obtain⟨us,L,kp⟩:=OS (spl:=spl) (qual:=qual) I2 hfn S hf fpf hga hgl hbind hb hsp;have q3:=q2 H2 f c' tab hc' fpf.1;have r2:Vals [v,.ref f] ([u,.ref f]++[]):=.cons r1 (.cons rfl .nil);have hl:([u,.ref f]++[]:List ah).length=pps.length:=by rw[<- r2.length];exact F.len _ _ _ _ _ q3
 show wpAny _ _ (call (.ref fa) [u,.ref f]) _ _ s2;refine wpAny_call (wa (F.run X.A X.stack s2 H2 ⟨[u,.ref f],[]⟩ _ _ Q ⟨f,c',qual,ga⟩ us hr I2.env0 (hbd s2 [u,.ref f] I2.fj hl) r2 L kp q3) λr s' hq=>?_);cases r with
 |error e=>exact hq.elim
 |ok fl=>
  cases fl with
  |ret u=>exact I2.after hq
  |next=>exact hV hq
  |brk=>exact hV hq
  |cont=>exact hV hq
end
end L2
namespace Mi
def nP(κ:Kp)(i:Nat)(f:Fn)(a:E):E:=λe=>match e[i]? with
 |some (ab (.fn κ' aK))=>if κ' = κ then(a e).bind λx=>(f (.d x::aK.map W.d)).bind lG else .no
 |_=>.no
def isRef:D->Bool
 |.lst _=>true
 |.tup _=>true
 |_=>false
def vz:List Nat->Env->Rs (List D)
 |[],_=>.ok []
 | j::r,e=>match e[j]? with
  |some (ab (.d d))=>if isRef d=true then(vz r e).bind λds=>.ok (d::ds)else .no
  |_=>.no
def Gk:W->Rs W
 |.dt ao=>if jc (ao.map (·.2))=true then .ok (.dt ao)else .no
 |_=>.no
def yj(F:D->List D->Rs W)(ρ:List Nat)(a:E):EW:=λe=>(a e).bind λx=>(vz ρ e).bind λaK=>(F x aK).bind Gk
def BG(a:E):Fn:=λws=>(a (ws.map ab)).bind λd=>.ok (.d d)
end Mi
namespace A
open PySem L2 PyProof.Rows So
open Mi (D W Rs Fin aA Out Kp)
variable[Tb:bD]
section
variable{M:Nat->Bool}{te:TE}{a:Mi.E}{fn:Mi.Fn}{κ:Kp}{i:Nat}{ρ:List Nat}{T:ag}{q:Str}{F:Kp->Mi.Fn}{F0:D->List D->Rs W}
def vK(fn:Mi.Fn)(gs:List V)(v:V)(H:Hp)(Q:VK):Prop:=aI fn (v::gs) H Q E0
theorem ET{H:Hp}:∀{aK:List D} {ga:List ag},P2 (λd a=>Rep H d (.ref a)) aK ga->P2 (fL H) (aK.map W.d) (ga.map V.ref)
 |_,_,.nil=>.nil
 |_,_,.cons h t=>.cons h (ET t)
theorem P0(hM:M i=false)(ha:AE M qV te a):AE M qV (BA i κ.a κ.c κ.q te (vK fn κ.vs)) (Mi.nP κ i fn a):=λe σ H Hv Q I h=>by
 unfold Mi.nP at h;cases he:e[i]? with
 |none=>rw[he]at h;exact h.elim
 |some o=>
  cases o with
  |none=>rw[he]at h;exact h.elim
  |some w=>
   cases w with
   |fn κ' aK=>
    rw[he]at h;by_cases hk:κ' = κ
    ·subst hk;simp only[kr]at h;obtain⟨v,q,rfl,hc,rc⟩:=I.nob i _ he hM;refine⟨q,ha e σ H Hv _ I ((aA.mp h).mono λx hx v H1 Hv1 g1 rx=>⟨g1.vw.sub _ _ (g1.vis _ _ hc),Hv1,_,g1.vw,.cons rx (ET (rc.imp λ_ _ z=>gC g1.vis z)),(aA.mp hx).mono λw hw v2 H2 Hv2 g2 k=>?_⟩)⟩;cases w with
     |d y=>exact hw v2 H2 Hv2 (g1.trans g2) (KM.mono (κ:=qV) g1.old k)
     |_=>exact hw.elim
    ·simp only[hk,jk]at h;exact h.elim
   |_=>rw[he]at h;exact h.elim
theorem Bw{e:Mi.Env}{σ:L2.St}{H Hv:Hp}(I:R0 M e σ H Hv):∀{ρ:List Nat} (_:∀j∈ρ,M j=false) {Q:List D->Prop},Fin (Mi.vz ρ e) Q->∃aK ga,P2 (λd a=>Rep Hv d (V.ref a)) aK ga/\(∀(i j:Nat),ρ[i]? = ab j->∃a:ag,ga[i]? = ab a/\σ[j]? = ab (ab (V.ref a)))/\ga.length = ρ.length/\Q aK
 |[],_,Q,h=>⟨[],[],.nil,λi j z=>by simp at z,rfl,h⟩
 |j::r,hM,Q,h=>by
  unfold Mi.vz at h;cases he:e[j]? with
  |none=>rw[he]at h;exact h.elim
  |some o=>
   cases o with
   |none=>rw[he]at h;exact h.elim
   |some w=>
    cases w with
    |d d=>
     rw[he]at h;by_cases hd:Mi.isRef d=true
     ·simp only[hd,kr]at h;obtain⟨aK,ga,h1,h2,h3,h4⟩:=Bw I (λk hk=>hM k (ff _ hk)) (aA.mp h);obtain⟨v,hv,rv⟩:=I.nob j _ he (hM j dA);have rv:Rep Hv d v:=rv;obtain⟨b,rfl⟩ : ∃b,v=V.ref b:=by
       cases d with
       |lst ds=>obtain⟨b,_,e,_⟩:=iU.mp rv;exact⟨b,e⟩
       |tup ds=>obtain⟨b,_,e,_⟩:=ia.mp rv;exact⟨b,e⟩
       |_=>cases hd
      refine⟨d::aK,b::ga,.cons rv h1,λi k hk=>?_,by simp[h3],h4⟩;cases i with
      |zero=>
       have:j=k:=by simpa using hk
       subst this;exact⟨b,rfl,hv⟩
      |succ i=>exact h2 i k (by simpa using hk)
     ·simp only[hd,jk]at h;exact h.elim
    |_=>rw[he]at h;exact h.elim
theorem IC{H Hv H' Hv':Hp}{b:ag}{kv:List (List Key×V)}(v:Vw H Hv)(g:bi H Hv H' Hv')(hn:H b=ac)(ho:H' b=ab (.dT kv)):bi H Hv H' (λc=>if c=b then ac else Hv' c):=by
 have ne:∀{c o},Hv c=ab o->c≠b:=λ{c o} e z=>by subst z;have:=v.sub _ _ e;rw[hn]at this;cases this
 have get:∀{c o},(if c=b then ac else Hv' c)=ab o->Hv' c=ab o:=λ{c o} e=>by
  split at e
  ·cases e
  ·exact e
 refine⟨g.old,λc o e=>?_,⟨λc o e=>g.vw.sub c o (get e),λc xs e=>?_,λc q u e=>?_,g.vw.cd,λc o e=>g.vw.nv c o (get e)⟩,λc o e n=>?_⟩
 ·show(if c=b then ac else Hv' c)=ab o;rw[ba (ne e)];exact g.vis c o e
 ·show(if c=b then ac else Hv' c)=_;rw[ba (λz=>by subst z;rw[ho]at e;cases e)];exact g.vw.tup c xs e
 ·show(if c=b then ac else Hv' c)=_;rw[ba (λz=>by subst z;rw[ho]at e;cases e)];exact g.vw.frz c q u e
 ·show(if c=b then ac else Hv' c)=ac;split
  ·rfl
  ·exact g.hid c o e n
theorem F7{H H':Hp}(t:∀a xs,H a=ab (.tup xs)->H' a=ab (.tup xs)):∀{ao:List (List Key×D)} {kv:List (List Key×V)},Mi.jc (ao.map (·.2))=true->eI H ao kv->eI H' ao kv
 |_,_,_,.nil=>.nil
 |p::r,_,hi,.cons h k=>by
  rw[cG,Mi.jc,lU]at hi;exact .cons ⟨h.1,CN t hi.1 h.2⟩ (F7 t hi.2 k)
theorem Nd(hM:∀j∈ρ,M j=false)(hTb:(T,q)∈Tb.l)(Qb:∀(κ:Kp) (x:D) (aK:List D),F κ [.d x,.fn κ aK]=F0 x aK)(ha:AE M qP te a):AW M qN (wQ T q ρ te λκ=>cI (F κ)) (Mi.yj F0 ρ a):=λe σ H Hv Q I h=>
 ha e σ H Hv _ I ((aA.mp h).mono λx hx v H1 Hv1 g1 rx=>by
  have I1:=I.grow g1;obtain⟨aK,ga,rc,hga,hgl,hq⟩:=Bw I1 hM (aA.mp hx);obtain⟨tps,hT⟩:=g1.vw.cd.has (T,q) hTb;refine⟨tps,ga,hT,g1.vw.cd,hga,hgl,λH2 f c' tab hc' hf=>?_⟩;have g2:=Lb g1.vw tab;have rx2:qP H H2 Hv1 (.d x) v:=KG.go g2 rx;have full:cy Hv1 (iL H2):=λb o z=>jQ (g2.vw.sub b o z) (g2.vw.nv b o z);refine⟨iL H2,[.d x,.fn ⟨f,c',q,ga⟩ aK],.all g2.vw.cd,.cons (RB.Ox g2.vw rx2) (.cons ⟨rfl,jQ hc' trivial,rc.imp λ_ _ z=>gC full z⟩ .nil),?_⟩;show Fin (F ⟨f,c',q,ga⟩ [.d x,.fn ⟨f,c',q,ga⟩ aK]) _;rw[Qb];refine(aA.mp hq).mono λw hd v3 H3 Hv3 g3 k=>?_;cases w with
  |dt ao=>
   have hd:Fin (if Mi.jc (ao.map (·.2))=true then Rs.ok (W.dt ao)else Rs.no) _:=hd;by_cases hi:Mi.jc (ao.map (·.2))=true
   ·rw[a9 hi]at hd;obtain⟨b,o,rfl,n,q3,nv,c⟩:=k;cases o with
    |dT kv=>
     have g4:=IC g2.vw (NZ g2.vw g3.old g3.vw.cd) n q3;have c:eI Hv3 ao kv:=c;refine hd (.ref b) H3 _ (g1.trans (g2.trans g4)) ⟨b,.dT kv,rfl,g1.old.free (g2.old.free n),q3,a9 rfl,?_⟩;exact F7 g4.vw.tup hi (c.same g3.vw.sub)
    |_=>exact c.elim
   ·rw[ba hi]at hd;exact hd.elim
  |_=>exact hd.elim)
end
end A
namespace L2
open PySem PySem.Spec PyProof.Rows A So
theorem pc.of{X:Cx}{x:Str}{ρ:List Nat}{ys:List Str}{sc:en}{cl:List (Str×ag)}(kind:sc.kind=.function)(co:sc.isCoroutine=false)(gen:sc.isGenerator=false)(par:sc.names.lookup x=ab .local)(lW:∀y∈sc.names,y.2≠.cell)
 (clo:∀p∈cl,X.env.cells.lookup p.1=ab p.2) (has:sc.names.all (λp=>!(decide (p.2=.free))||(cl.map (·.1)).contains p.1)=true) (len:ys.length = ρ.length)
 (ix:(cj ρ.length).all (λi=>match ρ[i]?,ys[i]? with
  |some j,ab y=>decide (X.N[j]? = ab y)&&(decide (sc.names.lookup y=ab .free)&&decide (X.env.kindOf y=ab .cell))
  |_,_=>false)=true):pc X x ρ ys sc cl:=by
 refine⟨kind,co,gen,lW,par,clo,λy hy=>?_,len,λi j y h1 h2=>?_⟩
 ·have:=tz.mp has _ (lR hy);simp only[decide_true,Am,wj,List.contains_iff_mem]at this;obtain⟨⟨z,c⟩,hm,e⟩:=ca.mp this;have e:z=y:=e;subst e;cases q:cl.lookup z with
  |some c2=>exact⟨c2,rfl⟩
  |none=>
   have key:∀l:List (Str×ag),(z,c)∈l->l.lookup z≠ac:=λl=>by
    induction l with
    |nil=>intro h;cases h
    |cons p r ih=>
     obtain⟨u,v⟩:=p;intro h;rw[zW];split
     ·exactλz=>by cases z
     ·rename_i hb;rcases bL.mp h with w|w
      ·cases w;rw[rj]at hb;cases hb
      ·exact ih w
   exact absurd q (key cl hm)
 ·have hi:i < ρ.length:=(b9.mp h1).1;have:=tz.mp ix i (fT.mpr hi);rw[h1,h2]at this;simp only[lU,qD]at this;exact⟨this.1,this.2.1,.inl this.2.2⟩
theorem MI{cs:List (Str×ag)}{y z:Str}{c d:ag}(h1:cs.lookup y=ab c)(h2:cs.lookup z=ab d):∀p∈[(y,c),(z,d)],cs.lookup p.1=ab p.2:=λp hp=>by
 rcases bL.mp hp with rfl|hp
 ·exact h1
 ·rw[cr.mp hp];exact h2
end L2
namespace A
open PySem L2 PyProof.Rows So
open Mi (D W Rs Fin aA Out Kp)
variable[Tb:bD]
theorem J8{tb:TE}{a:Mi.E}(ha:AE (λ_=>false) qV tb a):∀(gs:List V) (v:V) (H:Hp) (Q:VK),vK (Mi.BG a) gs v H Q->tb (ab v::gs.map ab) H Q:=λgs v H Q ⟨Hv,ws,vw,p,h⟩=>by
 have get:∀(i:Nat) (w:W),(ws.map ab)[i]? = ab (ab w)->ws[i]? = ab w:=λi w e=>by
  rw[cX]at e;obtain⟨z,e1,e2⟩:=iY.mp e;cases e2;exact e1
 have:=ha (ws.map ab) ((v::gs).map ab) H Hv Q ⟨vw,by rw[aX,aX,p.len],λi w e _=>?_,λi w e z=>by cases z⟩ ((aA.mp h).mono λd z v H' Hv' g k=>z v H' Hv' g k)
 ·exact this
 ·obtain⟨u,h1,h2⟩:=p.getL (get i w e);exact⟨u,by rw[cX,h1];rfl,h2⟩
end A
namespace L2
open PySem PySem.Spec PyProof.Rows A So
variable[Tb:bD]
structure yx(P:br)(w:bd)(K:aP)(mg:Str->Option ah)(base:aR)(k:Nat)(x:Str)(ps:List Str)(kl:Nat)(spl:List V->V->Hp->VK->Prop)(sp:Mi.Kp->Sp):Prop where
 ex:∃(f:ag) (fd:bG),mg x=ab (.ref f)/\kQ K (.ref f)=true/\Binds K fd ps []/\sn P w K mg base k f fd ps kl spl sp
theorem cn.No{K:aP}{mg:Str->Option ah}{k kl:Nat}{x:Str}{st:bw}{ps:List Str}{spl:List V->V->Hp->VK->Prop}{sp:Mi.Kp->Sp}(F:cn K mg x st ps)(P:br)(w:bd)(base:aR)
 (h:∀f fd,b8 K x x st f fd->sn P w K mg base k f fd ps kl spl sp):yx P w K mg base k x ps kl spl sp:=by
 obtain⟨f,fd,h1,h2,h3,_,h4⟩:=F.ex;exact⟨f,fd,h1,h2,h3,h f fd h4⟩
theorem Oq{X:Cx}{fx lx qual:Str}{e:aY}{ps:qo}{body:aY}{sc:en}{cl:List (Str×ag)}{c T:ag}{p pos hW:Pos}{k kl:Nat}{ρ:List Nat}{ys pps:List Str}{te tb:TE}{spl:List V->V->Hp->VK->Prop}{sp:Mi.Kp->Sp}
 (C':yx X.prog X.w X.K X.mg X.base k fx pps (kl+1) spl sp) (hr:cO k X.A) (hg:Gl X fx) (he:PE X e te)
 (hc:X.env.code=.ref c) (C:iW X.base c T) (hB:BM X.mg X.base) (hdef:defaultsOf ps X.env=([],[])) (hq:X.env.qual ++ "<lambda>" = qual) (hcl:closureFor sc X.env=pure cl) (hfn:∀x,X.fn x=true) (S:pc X lx ρ ys sc cl)
 (hbind:∀(pm:ah) (c':ag) (ctv u:ah),bindArgs (vV "<lambda>" qual ps body sc cl pm (.ref c') ctv) ⟨[u],[]⟩=pure [(lx,u)])
 (hb:∀(A:bN) (f c':ag) (s:aw) (H:Hp) (env:Env) (outer:List Env),cO kl (A.deeper env)->env=o0 qual sc s f c' cl->PE (rS X.prog X.w X.K X.mg X.base A (lx::ys) env s H outer) body tb)
 (hsp:∀gs v H Q,spl gs v H Q->tb (ab v::gs.map ab) H Q)
 (hdb:(fx==("__debug__" : Str))=false:=by decide) (hs1:starEach [e,.Lambda ps body sc hW] X.env=(false,eval e X.env)::starEach [.Lambda ps body sc hW] X.env:=by rfl)
 (hs2:starEach [.Lambda ps body sc hW] X.env=(false,eval (.Lambda ps body sc hW) X.env)::starEach [] X.env:=by rfl) (hpl:(backTo pos (starEach [.Lambda ps body sc hW] X.env)).any (·.1)=false:=by rfl) :
 PE X (.Call (.Name fx p) [e,.Lambda ps body sc hW] [] pos) (wQ T qual ρ te sp):=by
 obtain⟨f,fd,h1,h2,h3,F⟩:=C'.ex;exact NS F hr hg h1 h2 h3 he hc C hB hdef hq hcl hfn S hbind hb hsp hdb hs1 hs2 hpl
end L2
namespace Mi
end Mi
namespace L2
open PySem PySem.Spec PyProof.Rows
end L2
namespace A
open PySem L2 PyProof.Rows
open Mi (D W Rs Fin aA Tg)
variable[Tb:bD]{M:Nat->Bool}{κ:Kd}{K:aP}
end A
namespace Mi
def K2(b:Bool):Int:=if b=true then 1 else 0
end Mi
namespace So
open PySem PySem.W PyProof.Rows
open Mi (K2)
end So
namespace L2
end L2
namespace A
end A
namespace L2
open PySem PySem.Spec PyProof.Rows
section
variable{P:br}{w:bd}{A:bN}{E:ah->aw->Prop}{s:aw}{l I:ag}{aq:Array ah}
theorem Ir:typeLookup (.type "list_reverseiterator") "__len__" = pure ac:=by rw[typeLookup_type,builtinLookup_eq_fast];kernel_rfl
theorem M2:typeLookup (.type "list_reverseiterator") "__length_hint__" = pure (ab (.builtin "list_reverseiterator.__length_hint__")):=by rw[typeLookup_type,builtinLookup_eq_fast];kernel_rfl
theorem OU:isSubtype (.type "list_reverseiterator") (.type "list_reverseiterator")=pure true:=by rw[isSubtype_type];kernel_rfl
theorem Ow{i:Int}{Q:Bool->aw->Prop}(x:s.heap.IsRevIter I l i)(h:Q false s):wpAny (model P w) A (G4 (.ref I)) Q E s:=by
 unfold G4;refine aH (qk x.typeIs Ir ?_);show wpAny _ A (specialOf (dL I) (oE "__length_hint__") >>= _) _ _ _;refine aH (qk x.typeIs M2 ?_);generalize hid:("list_reverseiterator.__length_hint__" : String)=id0
 (fail_if_success (clear hid id0))
 wp_delta
 rw[show splitId id0=ab ("list_reverseiterator","__length_hint__")from by subst hid;decide +kernel];subst hid;refine aH (Aa (b:=true) x.typeIs OU ?_);rw[ba (by decide)];dsimp only;rw[a9 (by decide +kernel)]
 first
 |exact bB h
 |(rw[ba (by decide +kernel)];exact bB h)
theorem IU{R:Result->aw->Prop}(hh:A.handled=ac)(x:s.heap.IsRevIter I l ((aq.size:Int)-1))(hl:s.heap.IsList l aq)(hne:l≠I)(S:ag)(hSI:S≠I)(hSl:S≠l)(hS:s.heap.get? S=ab { cls:=.type "list", data:=.seq #[] })
 (hR:∀h' tk acc' c',(∀b o,b≠S->b≠I->s.heap.get? b=ab o->h'.get? b=ab o)->h'.get? S=ab { cls:=.type "list", dict:=ac,data:=.seq acc' c',slots:=#[] }->ItemsOf (λi v=>aq[aq.size-1-i]? = ab v) acc' aq.size->R (.ok (.ret .none)) { s with heap:=h',toks:=tk }) (hn:aq.size<=sizeLine) :
 wpAny (model P w) A.in1 (Builtin.«list.__init__» ⟨[.ref S,.ref I],[]⟩)
  (λfin s'=>match fin with|.done f=>R (.ok f) s'|.again c'=>c'.quiet=true/\codeAny (model P w) A c' R s') (λe s'=>R (.error e) s') s:=by
 show wpAny _ _ (do let old <- G6 (.ref S);Builtin.List.listUpdate (.ref S) (λ_=>#[]);letGo old.toList.reverse;As (.ref S) (.ref I) .none) _ _ s;refine aH ?_;unfold G6;refine aH (qm hS rfl (bB ?_));show wpAny _ _ (updateSeq S (λ_=>#[]) >>= λ_=>letGo (#[]:Array ah).toList.reverse >>= λ_=>As (.ref S) (.ref I) .none) _ _ s;refine aH (v6 hS rfl ?_);have hS₂:=ox (i4 (λ_=>(#[]:Array ah))) hS rfl;have oth:∀b o,b≠S->s.heap.get? b=ab o->(s.heap.update S (i4 (λ_=>(#[]:Array ah)))).get? b=ab o:=
  λb o hb e=>(ou _ _ (cY hb)).trans e
 refine aH (wpAny_letGo ?_);generalize hh2:s.heap.update S (i4 (λ_=>(#[]:Array ah)))=h2 at hS₂ oth ⊢;have x2:h2.IsRevIter I l ((aq.size:Int)-1):=x.at λo e=>oth I o (cY hSI) e;have l2:h2.IsList l aq:=hl.at λo e=>oth l o (cY hSl) e;have W:=(Walks.listRev (prog:=P) (w:=w) (A:=A.in1) hh I l hne aq);have hSf:S∉[I,l]:=by simp only[bL,List.not_mem_nil,or_false,not_or];exact⟨hSI,hSl⟩
 have st0:(λi (h:aR)=>i<=aq.size/\h.IsRevIter I l ((aq.size:Int)-1-(i:Int))/\h.IsList l aq) 0 h2:=⟨fI _,by rw[show(aq.size:Int)-1-((0:Nat):Int)=(aq.size:Int)-1 by omega];exact x2,l2⟩;unfold As;refine aH (wpAny_typeOf (s:={ s with heap:=h2 }) x2.typeIs ?_);have h1:G5 (.ref S) (.ref I)=false:=by simp[G5,hSI]
 rw[ba (by rw[h1];decide)];refine aH (wpAny_pyIter_revIter (s:={ s with heap:=h2 }) x2 ?_);refine aH (kR (Ow (s:={ s with heap:=h2 }) x2 ?_));have key:∀(h:aR) (c₁ tk:Nat),(λi (h:aR)=>i<=aq.size/\h.IsRevIter I l ((aq.size:Int)-1-(i:Int))/\h.IsList l aq) 0 h->(∀b o,b≠S->s.heap.get? b=ab o->h.get? b=ab o) ->
  h.get? S=ab { cls:=.type "list",data:=.seq #[] c₁ }->codeAny (model P w) A (.builtin "list.extend.loop" ⟨[.ref S,.ref I,.none],[]⟩) R { s with heap:=h,toks:=tk }:=by
  intro h c₁ tk hst hk hS₁;refine codeAny_extend_loopS W.toS hn S hSf .none aq.size 0 _ #[] c₁ rfl (fI _) hst hS₁ (ItemsOf.nil _) λs' acc' c' hm hS' hacc=>?_;rw[Moved.eq_with hm];refine hR s'.heap s'.toks acc' c' (λb o hb hb2 e=>hm.heap b o (λhmem=>?_) (hk b o hb e)) hS' hacc;rcases bL.mp hmem with e'|hmem
  ·exact hb e'
  ·exact hb2 (cr.mp hmem)
 refine wpAny_ite_split (λ_=>?_) (λ_=>bB ⟨plainId_quiet GO _,key _ _ _ st0 oth hS₂⟩);refine aH (wpAny_rule ?_);refine aH ?_;show wpAny _ _ (updateSeq S (·.push .none) >>= λ_=>updateSeq S (·.pop)) _ _ _;refine aH (v6 (s:={ s with heap:=h2 }) hS₂ rfl ?_);have hS₃:=ox (i4 (·.push iZ)) hS₂ rfl;refine v6 (hz:=by seq_fits) hS₃ rfl ?_;have hS₄:=ox (i4 (·.pop)) hS₃ rfl;refine bB ⟨plainId_quiet GO _,key _ _ _ ?_ (λb o hb e=>?_) hS₄⟩
 ·refine W.frame 0 _ _ st0 λb hb o e=>?_;have hbS:b≠S:=λh=>hSf (h ▸ hb);exact(ou _ _ (cY hbS)).trans ((ou _ _ (cY hbS)).trans e)
 ·exact(ou _ _ (cY hb)).trans ((ou _ _ (cY hb)).trans (oth b o hb e))
theorem Mn{Q:ah->aw->Prop}(hh:A.handled=ac)(x:s.heap.IsRevIter I l ((aq.size:Int)-1))(hl:s.heap.IsList l aq)(hne:l≠I)(hn:aq.size<=sizeLine)
 (hQ:∀h' tk acc' c',(∀b o,b≠I->s.heap.get? b=ab o->h'.get? b=ab o)->h'.get? s.heap.objs.size=ab { cls:=.type "list", dict:=ac,data:=.seq acc' c',slots:=#[] }->acc'.toList=aq.toList.reverse->Q (.ref s.heap.objs.size) { s with heap:=h',toks:=tk }) :
 wpAny (model P w) A (call (.type "list") [.ref I]) Q E s:=by
 refine callType_codes (Q₁:=λobj s₁=>obj=.ref s.heap.objs.size/\s₁={ s with heap:=s.heap.push { cls:=.type "list", data:=.seq #[] } }) PySem.F.called_list (PySem.F.typeCall_list_1 _) PySem.F.entry_list_init
  (code_list_new _ ⟨rfl,rfl⟩) λobj s₁ h₁=>?_
 obtain⟨rfl,rfl⟩:=h₁;have hS:(s.heap.push { cls:=.type "list",data:=.seq #[] }).get? s.heap.objs.size=ab { cls:=.type "list", data:=.seq #[] }:=cL _ rfl;have ltI:I<s.heap.objs.size:=let ⟨o,e,_⟩:=x;bZ e;have ltl:l<s.heap.objs.size:=let ⟨o,e,_⟩:=hl;bZ e;refine⟨⟨_,hS,rfl⟩,PySem.F.args_list_init_2 _ _,IU (A:=A.in1) hh (x.at λo e=>bX _ e) (hl.at λo e=>bX _ e) hne _ (oy ltI) (oy ltl) hS (λh' tk acc' c' hk hS' hacc=>?_) hn⟩;exact⟨rfl,hQ h' tk acc' c' (λb o hb e=>hk b o (fV (bZ e)) hb (bX _ e)) hS' (MP hacc)⟩
end
end L2
namespace Mi
def w9:D->Rs D
 |.lst ds=>bf (ds.length<=1000) (.ok (.lst ds.reverse))
 |_=>.no
end Mi
namespace L2
open PySem PySem.Spec PyProof.Rows A
variable[Tb:bD]
section
variable{X:Cx}
def oT(p a:ag)(n:Nat):aR->Prop:=λh=>h.IsRevIter p a ((n:Int)-1)
def EU(X:Cx):List V->Hp->VK->Prop:=λxs H Q=>∃a ys,xs=[V.ref a]/\Lst H a ys/\ys.length<=1000/\∀p,H p=ac->X.s₀.heap.objs.size<=p->Q (.ref p) (upd H p (.ext (oT p a ys.length)))
theorem O2:fP X (.type "reversed") (EU X):=by intro af s σ H xs us Q I r h;obtain⟨a,ys,rfl,ha,hl,q⟩:=h;obtain⟨u,rfl,ru⟩:=vals1 r;cases ru;obtain⟨aq,n,rv,hz,ho⟩:=rR I ha;have e:=rv.length;refine call_reversed_list (items:=aq.toArray) ⟨_,ho,rfl,_,rfl⟩ ?_;refine⟨.ref s.heap.objs.size,_,I.laid (a:=s.heap.objs.size) (o:=.ext (oT s.heap.objs.size a ys.length)) (t':=s.toks) (λ_ _ q=>bX _ q) (bv _) ⟨⟨_,cL _ rfl,rfl,?_⟩,⟨_,cL _ rfl⟩,λh1 h2 z k=>z.at k⟩,rfl,q _ I.fresh I.sz⟩;show Data.fields _=_;rw[cS,e]
def FK(X:Cx):List V->Hp->VK->Prop:=λxs H Q=>∃p a ys,xs=[V.ref p]/\H p=ab (.ext (oT p a ys.length))/\X.s₀.heap.objs.size<=p/\Lst H a ys/\ys.length<=1000/\∀r,lE H p r=ac->Q (.ref r) (upd (lE H p) r (.lst ys.reverse))
theorem Kv(hc:X.calm=true):fP X (.type "list") (FK X):=by
 intro af s σ H xs us Q I r h;obtain⟨p,a,ys,rfl,hp,hs0,ha,hl,q⟩:=h;obtain⟨u,rfl,ru⟩:=vals1 r;cases ru;obtain⟨aq,n,rv,hz,ho⟩:=rR I ha;obtain⟨x,_,_⟩:=(show cH X.prog X.w H s.heap p (.ext (oT p a ys.length))from I.hok p _ hp);have e:=rv.length;have x:s.heap.IsRevIter p a ((aq.toArray.size:Int)-1):=by rw[cS,<- e];exact x
 have hne:a≠p:=λz=>by
  subst z;rcases ha with ha|⟨o,ha⟩<;>rw[ha]at hp<;>cases hp
 have np:∀b,H b=ac->b≠p:=λb n z=>by subst z;rw[hp]at n;cases n
 have nt:∀b u,H b=ab u->u≠.ext (oT p a ys.length)->b≠p:=λb u n m z=>by subst z;rw[hp]at n;exact m (fh n).symm
 refine Mn (I.ok.hd hc) x ⟨_,ho,rfl,_,rfl⟩ hne (by rw[cS];omega) λh' tk acc' c' hk hD hacc=>?_;have I1:Inv X af σ (lE H p) { s with heap:=h',toks:=tk }:=by
  refine I.step (g':=s.gens) (d':=s.drawn) (ch:=[p]) (λb hb=>?_) (λb o _ _ hc e _=>hk b o (λz=>hc (by simp[z])) e) (λb o _ _ hc e _=>⟨o.slots,hk b o (λz=>hc (by simp[z])) e⟩) (λb o hc e n=>by rw[mG (λz=>hc (by simp[z]))];exact n)
   (λb o hc e=>⟨o,hk b o (λz=>hc (by simp[z])) e⟩) (λb xs e=>by rw[mG (nt b _ e (by simp))];exact e) (λb o u e=>by rw[mG (nt b _ e (by simp))];exact e) (λb w ps e=>⟨#[],by rw[mG (nt b _ e (by simp)),e];simp⟩) (λm hm=>?_) (λb u e=>?_) I.bare
  ·cases cr.mp hb;exact⟨.inr hs0,(np _ I.free).symm,λx c e=>np c (I.i5 x c e),λy hy=>np y.1 (I.pin y hy).2.1⟩
  ·obtain⟨o,es,ep,ho,r⟩:=hm;exact⟨o,es,ep,hk _ o (np _ I.free) ho,r⟩
  ·have hb:b≠p:=λz=>by subst z;unfold lE at e;rw[a9 rfl]at e;cases e
   rw[mG hb]at e;refine(I.hok b u e).stay (λc v hc z=>hk c v ?_ z) (λc z=>by rw[mG (nt c _ z (by simp))];exact z) λc xs z=>by rw[mG (nt c _ z (by simp))];exact z
   rcases hc with rfl|hc
   ·exact hb
   ·exact nt c _ hc (by simp)
 have fr:lE H p s.heap.objs.size=ac:=by rw[mG (np _ I.fresh)];exact I.fresh
 have ea:acc'=aq.reverse.toArray:=by rw[<- G1];rw[hacc]
 rw[ea]at hD;exact⟨.ref s.heap.objs.size,_,adopt (s:={ s with heap:=h',toks:=tk }) (h':=h') (t':=tk) (o:=.lst ys.reverse) I1 (fp:=[s.heap.objs.size]) (λb hb=>by rw[cr.mp hb];exact I.gy (bv _) fr) (cr.mpr rfl) (λb u _ e=>e) ⟨by rw[tq];exact hz,aq.reverse,c',Fk rv,hD⟩,rfl,q _ fr⟩
end
end L2
namespace A
open PySem L2 PyProof.Rows
open Mi (D W Rs Fin aA)
variable[Tb:bD]{M:Nat->Bool}
theorem Lu{X:Cx}{ta:TE}{a:Mi.E}(ha:AE M qP ta a):AE M qN (pM (FK X) (fR (pM (EU X) (fR ta gU)) gU)) (Mi.m1 Mi.w9 a):=λe σ H Hv Q I h=>
 ha e σ H Hv _ I ((aA.mp h).mono λd hd v H1 Hv1 g1 r=>by
  cases d with
  |lst ds=>
   obtain⟨hl,hd⟩:=Mi.cq hd;obtain⟨a,xs,rfl,ha,c⟩:=RD.lst g1.vw r;have e:=c.len;refine⟨a,xs,rfl,ha,by omega,λp hp hs=>⟨p,a,xs,rfl,bt,hs,?_,by omega,λr hr=>?_⟩⟩
   ·rcases ha with ha|⟨o,ha⟩
    ·exact .inl (by rw[aL (cz ha hp)];exact ha)
    ·exact .inr ⟨o,by rw[aL (cz ha hp)];exact ha⟩
   have ed:lE (upd H1 p (.ext (oT p a xs.length))) p=H1:=by
    funext b;unfold lE;split
    ·rename_i z;rw[z,hp]
    ·rename_i z;exact aL z
   rw[ed]at hr ⊢;obtain⟨g2,k⟩:=uA g1.vw c.rev hr;exact hd (.ref r) _ _ (g1.trans g2) (KM.mono (κ:=qN) g1.old k)
  |_=>exact hd.elim)
end A
namespace A
end A
namespace Mi
def Ny:D->Bool
 |.tup _=>true
 |_=>false
def t9:Out->Rs Out
 |.rt w=>.ok (.rt w)
 |_=>.no
end Mi
namespace A
open PySem L2 PyProof.Rows
open Mi (D W Rs Fin aA Out)
section
variable[Tb:bD]{M:Nat->Bool}{κ:Kd}
theorem zx{H0 Hv0:Hp}{Dn Dm:Ends}{Hv Hv':Hp}{r:Rs Out}(h:Fin (r.bind Mi.t9) (iK M κ H0 Hv0 Dn Hv))(e:Dm.rt=Dn.rt):Fin r (iK M κ H0 Hv0 Dm Hv'):=(aA.mp h).mono λo ho=>by
 cases o with
 |rt w=>exactλv H' Hv' g q=>by rw[e];exact ho v H' Hv' g q
 |_=>exact ho.elim
end
end A
namespace Mi
end Mi
namespace L2
open PySem PySem.Spec PyProof.Rows
variable{X:Cx}
end L2
namespace A
open PySem L2 PyProof.Rows
variable[Tb:bD]
end A
namespace Mi
def xD(i j:Nat)(fn:Fn)(ws:List EW)(c1:C)(f1:S)(c2:C)(f2:S)(c3:C)(f3 r:S):S:=λe=>
 (cW ws e).bind λvs=>(fn vs).bind λw=>(lG w).bind λd=>bf (i<e.length/\j<e.length)
  ((c1 (e.set i (ab (.d d)))).bind λb1=>if b1=true then(f1 (e.set i (ab (.d d)))).bind t9 else
   (c2 (e.set i (ab (.d d)))).bind λb2=>if b2=true then(f2 (e.set i (ab (.d d)))).bind t9 else
    bf (Ny d=true) ((c3 (e.set i (ab (.d d)))).bind λb3=>if b3=true then(f3 (e.set i (ab (.d d)))).bind t9 else r ((e.set i ac).set j ac)))
end Mi
namespace A
open PySem L2 PyProof.Rows
open Mi (D W Rs Fin aA Out Tg)
section
variable[Tb:bD]{M:Nat->Bool}{κ:Kd}
def pZ(H Hv:Hp)(x:V):Prop:=∃q ys,x=.ref q/\Hv q=ab (.lst ys)/\H q=ac
theorem pZ.same{H Hv Hv':Hp}(s:cy Hv Hv'){x:V}(h:pZ H Hv x):pZ H Hv' x:=by obtain⟨q,ys,e,h1,h2⟩:=h;exact⟨q,ys,e,s _ _ h1,h2⟩
def qL:Kd:=λH H' Hv' w v=>∃a xs,v=.ref a/\H a=ac/\H' a=ab (.lst xs)/\Hv' a=ac/\dW Hv' w (.lst xs)/\∀x∈xs,pZ H Hv' x
theorem JR{K:aP}{ρ:List (Option Nat)}{wi:TI}{it:Mi.I}{tg:Tg}{tc:TT}{c:Mi.C}{te:TE}{a:Mi.E}(hi:vI M wi it)(hm:∀i∈oQ tg,js ρ M i=false)(hc:AT (js ρ M) tc c)(he:AE (js ρ M) qN te a) :
 AE M qL (rJ wi ρ (sF K tg) tc te) (Mi.dj ρ it tg c a):=λe σ H Hv Q I h=>
 hi e σ H Hv _ I ((aA.mp h).mono λds h1 J H1 Hv1 P g1 O p1 per=>by
  obtain⟨hz,h1⟩:=Mi.cq h1;have h1:=aA.mp h1;have I1:=I.grow g1;refine⟨λi m acc H'=>m=ds.length-i/\i<=ds.length/\∃Hv',bi H1 Hv1 H' Hv'/\P H' Hv'/\acc.length<=i/\(∀x∈acc,pZ H Hv' x)/\∃done,P2 (Rep Hv') done acc/\Fin (Mi.dE tg c a (Mi.iF ρ e) (ds.drop i)) λys=>∀v H2 Hv2,bi H Hv H2 Hv2->qL H H2 Hv2 (.d (.lst (done++ys))) v->Q v H2,
   ⟨ds.length,by simp,fI _,Hv1,.refl g1.vw,p1,bv _,λ_ z=>absurd z List.not_mem_nil,[],.nil,by rw[mR];exact h1.mono λys z=>z⟩,?_⟩
  rintro i m acc H' ⟨rfl,hle,Hv',g,pp,l,nw,done,pd,hf⟩;by_cases hlt:i<ds.length
  ·refine .inr ⟨O.go i H' Hv' pp g.vw hlt,by rw[eh];omega,λacc' H2=>∃Hv2,bi H1 Hv1 H2 Hv2/\P H2 Hv2/\acc'.length<=i+1/\(∀x∈acc',pZ H Hv2 x)/\∃done,P2 (Rep Hv2) done acc'/\Fin (Mi.dE tg c a (Mi.iF ρ e) (ds.drop (i+1))) λys=>∀v H3 Hv3,bi H Hv H3 Hv3->qL H H3 Hv3 (.d (.lst (done++ys))) v->Q v H3,
    λacc' H2 z=>⟨ds.length-(i+1),by omega,rfl,hlt,z⟩,λx H2 y=>?_⟩
   obtain⟨Hv2,d,g2,hd,rx⟩:=O.yld i H' Hv' x H2 pp g.vw hlt y;have g12:=g.trans g2;have hdr:ds.drop i=d::ds.drop (i+1):=by obtain⟨hl,e1⟩:=b9.mp hd;rw[oh hl,e1]
   rw[hdr]at hf;have hf:=FH hf;refine u0 (P:=λe1 σ1=>R0 (js ρ M) e1 σ1 H2 Hv2) g2.vw (λj hj e1 σ1 d1 v1 r1 z=>r1.set (hm j hj) z) ((I1.grow g12).pick ρ) rx (hf.mono λe1 hf1 σ1 r1=>?_);refine hc e1 σ1 H2 Hv2 _ r1 (hf1.mono λb hb H3 Hv3 g3=>?_);cases b with
   |true=>
    refine kA (he e1 σ1 H3 Hv3 _ (r1.grow g3) (Fin.mono (by simpa using hb) λy hy v H4 Qy g4' ry'=>?_));obtain⟨Hv4,g4,ry⟩:=vh g4' ry';obtain⟨q,o,rfl,hn,hq,_,hcell⟩:=ry';have gg:=g12.trans (g3.trans g4);refine⟨Hv4,gg,per _ _ _ _ pp (g2.trans (g3.trans g4)),by rw[cF,gc];omega,λz hz=>?_,done++[y],(d9 (g2.trans (g3.trans g4)).vis pd).append (.cons ry .nil),hy.mono λys z v H5 Hv5 g5 k=>z v H5 Hv5 g5 (by rw[mM]at k;exact k)⟩;rcases dI.mp hz with hz|hz
    ·exact(nw z hz).same (g2.trans (g3.trans g4)).vis
    ·rw[cr]at hz;subst hz;cases y with
     |lst dl=>
      cases o with
      |lst xs=>
       obtain⟨q',ys,e2,lq,_⟩:=iU.mp (show Rep Hv4 (.lst dl) (.ref q)from ry);cases e2;refine⟨q,ys,rfl,?_,(g1.old.trans (g12.old.trans g3.old)).free hn⟩;rcases lq with lq|⟨ob,lq⟩
       ·exact lq
       ·have:=g4.vw.sub _ _ lq;rw[hq]at this;cases this
      |_=>exact(show False from hcell).elim
     |_=>cases o<;>exact(show False from hcell).elim
   |false=>exact kn ⟨Hv3,g12.trans g3,per _ _ _ _ pp (g2.trans g3),by omega,λz hz=>(nw z hz).same (g2.trans g3).vis,done,d9 (g2.trans g3).vis pd,by simpa using hb⟩
  ·have hi:i=ds.length:=by omega
   subst hi;refine .inl ⟨O.stop H' Hv' pp g.vw,λp hp=>?_⟩;rw[qc (bv _)]at hf;have g2:bi H' Hv' (upd H' p (.lst acc)) Hv':=.nr g.vw trivial hp;refine hf _ _ _ (g1.trans (g.trans g2)) ⟨p,acc,rfl,(g1.old.trans g.old).free hp,bt,l5 g.vw hp,?_,nw⟩;show P2 (Rep Hv') (done++[]) acc;rw[qg];exact pd)
def qU:Kd:=λH H' Hv' w v=>qV H H' Hv' w v/\∀ds,w=.d (.tup ds)->∃p a b xs ys,v=.ref p/\Hv' p=ab (.tup [.ref a,.ref b])/\Hv' a=ab (.lst xs)/\H a=ac/\Hv' b=ab (.lst ys)/\H b=ac/\∀y∈ys,∃q zs,y=.ref q/\Hv' q=ab (.lst zs)/\q≠b/\H q=ac
def mj(f:Mi.Fn):Sp:=λvs H Q _=>∃Hv ws,Vw H Hv/\P2 (fL Hv) ws vs/\Fin (f ws) (λw=>∀v H' Hv',bi H Hv H' Hv'->qU H H' Hv' w v->Q v H')
theorem OW{f:Mi.Fn}{vs:List V}{H:Hp}{Q:VK}{E:XK}(h:aI f vs H Q E):mj f vs H Q E:=by obtain⟨Hv,ws,v,p,q⟩:=h;exact⟨Hv,ws,v,p,q.mono λw z v H' Hv' g k=>z v H' Hv' g k.1⟩
theorem _root_.L2.bK.ud{P:br}{w:bd}{K:aP}{mg:Str->Option ah}{base:aR}{CX:gF}{k:Nat}{x:Str}{ps:List Str}{f:Mi.Fn}(C:bK P w K mg base CX k x ps (mj f)):bK P w K mg base CX k x ps (aI f):=by obtain⟨a,fd,h1,h2,h3,h4⟩:=C.ex;exact⟨a,fd,h1,h2,h3,h4.imp λvs H Q E z=>OW z⟩
theorem NA{f:Mi.S}{k n:Nat}{vs:List V}{H:Hp}{Q:VK}{E:XK}(h:mj (Mi.dm k n f) vs H Q E):vs.length=k:=by obtain⟨Hv,ws,_,p,q⟩:=h;rw[<- p.len];exact(Mi.cq q).1
theorem IY{N:List Str}{k:Nat}{t:TS}{m:Mi.S}(hA:AS M qU t m)(hM:∀i,i<k->M i=false){vs:List V}{H:Hp}{Q:VK}{E:XK}(h:mj (Mi.dm k N.length m) vs H Q E) :
 t { nx:=λ_ H'=>Q .non H',rt:=Q } (start N vs) H:=by
 obtain⟨Hv,ws,vw,p,q⟩:=h;obtain⟨hk,q⟩:=Mi.cq q;refine hA H Hv _ _ H Hv _ (xV vw p hk hM) ((aA.mp q).mono λo ho=>?_);cases o with
 |nx e=>exactλσ H' Hv' I s=>ho _ H' Hv' I.gw ⟨vm,λds z=>by cases z⟩
 |rt w=>exactλv H' Hv' g r=>ho v H' Hv' g r
 |bk e=>exact ho.elim
 |ct e=>exact ho.elim
theorem Ot:AS M qU (pJ (tC .non)) (Mi.bp (Mi.wD (Mi.mC .non))):=λH0 Hv0 e σ H Hv D I h=>h _ H Hv I.gw ⟨vm,λds z=>by cases z⟩
theorem Jj{ta te:TE}{a b:Mi.E}(i:Nat)(hmi:M i=false)(ha:AE M qN ta a)(hb:AE M qL te b) :
 AS M qU (ku (gI ta (eS i)) (pJ (yK (fR (dB i) (fR te gU))))) (Mi.aM (Mi.bF i a) (Mi.bp (Mi.wD (Mi.mN Mi.dTup [Mi.mV i,b])))):=λH0 Hv0 e σ H Hv Dn I h=>by
 refine ha e σ H Hv _ I.toR0 ((aA.mp (aA.mp h)).mono λd hd v H1 Qz g1' k=>?_);obtain⟨Hv1,g1,rep⟩:=vh g1' k;obtain⟨q,o,rfl,hn,hq,_,hcell⟩:=k;have hd:=aA.mp (aA.mp (aA.mp (aA.mp hd)));obtain⟨d',hd',hd⟩:=xi hd;have hi:i<e.length:=by
  rcases Ah i e.length with z|z
  ·exact z
  ·rw[zN (by rw[gH];exact z)]at hd';cases hd'
 rw[jo hi]at hd';cases hd';have I1:=(I.grow g1).set hmi rep;refine⟨.ref q,jo (by rw[I.len];exact hi),?_⟩;refine hb _ _ H1 Hv1 _ I1.toR0 ((aA.mp (show Fin ((b (e.set i (ab (.d d)))).bind _) _ from aA.mp hd)).mono λd2 hd2 v2 H2 Hv2 g2 k2=>?_);obtain⟨b2,ys,rfl,hbn,hbq,hbz,hbc,hnew⟩:=k2;obtain⟨vw3,sm⟩:=g2.vw.show hbq hbz trivial;have g3:bi H1 Hv1 H2 (upd Hv2 b2 (.lst ys)):=⟨g2.old,g2.vis.trans sm,vw3,λc o z n=>by
  rw[aL (λy=>by subst y;rw[hbn]at z;cases z)];exact g2.hid c o z n⟩
 cases d2 with
 |lst d2=>
  have hbc:P2 (Rep Hv2) d2 ys:=hbc;obtain⟨hz,hd2⟩:=Mi.cq (show Fin (Mi.dTup [d,.lst d2]) (λa=>iK M qU H0 Hv0 Dn Hv (.rt (.d a)))from hd2);have gw:=(I.gw.trans g1).trans g3;refine⟨by rw[eh];exact tJ rfl,λp hp=>?_⟩;have g4:bi H2 (upd Hv2 b2 (.lst ys)) (upd H2 p (.tup [.ref q,.ref b2])) (upd (upd Hv2 b2 (.lst ys)) p (.tup [.ref q,.ref b2])):=.new vw3 hp;have rq:Rep (upd Hv2 b2 (.lst ys)) d (.ref q):=gC g3.vis rep;cases d with
  |lst dl=>
   cases o with
   |lst xs=>
    have hqv:Hv1 q=ab (.lst xs):=by
     obtain⟨q',xs',e2,lq,_⟩:=iU.mp (show Rep Hv1 (.lst dl) (.ref q)from rep);cases e2;rcases lq with lq|⟨ob,lq⟩
     ·have:=g1.vw.sub _ _ lq;rw[hq]at this;cases this;exact lq
     ·have:=g1.vw.sub _ _ lq;rw[hq]at this;cases this
    have nq:∀{x:ag} {o:HO},H2 x=ab o->x≠p:=λ{x o} z y=>by subst y;rw[hp]at z;cases z
    refine hd2 (.ref p) _ _ (gw.trans g4) ⟨ia.mpr ⟨p,_,rfl,bt,d9 g4.vis (.cons rq (.cons (iU.mpr ⟨b2,ys,rfl,.inl bt,d9 sm hbc⟩) .nil))⟩,λ_ _=>⟨p,q,b2,xs,ys,rfl,bt,g4.vis _ _ (g3.vis _ _ hqv),I.gw.old.free hn,g4.vis _ _ bt,(I.gw.old.trans g1.old).free hbn,λy hy=>?_⟩⟩;obtain⟨c,zs,e3,h3,h4⟩:=hnew y hy;exact⟨c,zs,e3,g4.vis _ _ (sm _ _ h3),λz=>(by rw[z,hbz]at h3;cases h3),(I.gw.old.trans g1.old).free h4⟩
   |_=>exact(show False from hcell).elim
  |_=>cases o<;>exact(show False from hcell).elim
 |_=>exact(show False from hbc).elim
theorem IL{K:aP}{Hc:Hp}{D:Ends}{i j:Nat}{te:TE}{xs:List V}{l:ag}{σ:L2.St}{H:Hp}(run:∀Q:VK,Q (.ref l) H->te σ H Q)(hj:j < σ.length)(hl:H l=ab (.lst xs))(hx:∀x∈xs,r6 Hc H l x)
 (h:∀(σ':L2.St) H',σ'.length = σ.length->(∀k,k≠j->σ'[k]? = σ[k]?)->gY Hc H H'->H' l=ab (.lst xs)->D.nx σ' H') :
 uT (rY K te) (eS j) (lw (ny K "list" sg (dB j))) D σ H:=by
 refine .inl (run _ ⟨l,rfl,⟨xs,.inl (.inl hl)⟩,?_⟩);let W:Nat->Nat->L2.St->Hp->Prop:=λn m σ' H'=>m=xs.length-n/\n<=xs.length/\σ'.length = σ.length/\(∀k,k≠j->σ'[k]? = σ[k]?)/\gY Hc H H'/\H' l=ab (.lst xs)/\∀x∈xs,r6 Hc H' l x;refine⟨W,⟨xs.length,rfl,fI _,rfl,λ_ _=>rfl,gY.refl,hl,hx⟩,?_⟩;rintro n m σ' H' ⟨rfl,hn,e1,e2,e3,e4,e5⟩;by_cases c:n<xs.length
 ·refine .inr ⟨⟨xs,xs[n],.inl (.inl e4),dR c⟩,λσ2 H2=>W (n+1) (xs.length-(n+1)) σ2 H2,λσ2 H2 w=>⟨_,by omega,w⟩,?_⟩;rintro x H2 ⟨rfl,y⟩;have hxn:=y xs (.inl (.inl e4));obtain⟨q,ys,rfl,q1,q2,q3⟩:=e5 x (gG hxn);refine⟨.ref q,by rw[jo (by rw[e1];exact hj)],.inl ⟨rfl,ys,.inl (.inl q1)⟩,q,ys,rfl,rfl,q1,rfl,c,?_,?_,e3.put q3 q1,?_,λz hz=>(e5 z hz).put⟩
  ·rw[gH];exact e1
  ·intro k hk;rw[eE (cY hk)];exact e2 k hk
  ·rw[aL (cY q2)];exact e4
 ·exact .inl ⟨⟨xs,.inl (.inl e4),by omega⟩,h σ' H' e1 e2 e3 e4⟩
theorem gY.lst{H H1 H2:Hp}(e:gY H H1 H2){a:ag}{xs:List V}(h:H1 a=ab (.lst xs)):∃ys,H2 a=ab (.lst ys):=by
 rcases e a with k|⟨_,_,k⟩
 ·exact⟨xs,by rw[k];exact h⟩
 ·exact k
theorem gY.tup{H H1 H2:Hp}(e:gY H H1 H2){a:ag}{xs:List V}(h:H1 a=ab (.tup xs)):H2 a=ab (.tup xs):=by
 rcases e a with k|⟨_,⟨ys,k⟩,_⟩
 ·rw[k];exact h
 ·rw[h]at k;cases k
theorem KW{K:aP}{fn:Mi.Fn}{E:XK}{tr:TA}{ws:List Mi.EW}{tc1 tc2 vo:TT}{c1 c2 c3:Mi.C}{tf1 tf2 tf3 tt:TS}{f1 f2 f3 r:Mi.S}(i j:Nat)(ij:i≠j)(hmi:M i=false)
 (ha:AAW M qV tr (Mi.cW ws)) (h1:AT M tc1 c1) (hf1:AS M κ tf1 f1) (h2:AT M tc2 c2) (hf2:AS M κ tf2 f2) (h3:AT M vo c3) (hf3:AS M κ tf3 f3) (hr:AS M κ tt r) :
 AS M κ (ku (gI (mJ (mj fn) [] E tr) (eS i)) (ku (qX tc1 tf1 tp) (ku (qX tc2 tf2 tp) (ku (qX vo tf3 tp) (ku (uT (rY K (kj (nS K) (dB i) (tC (.int 1)))) (eS j) (lw (ny K "list" sg (dB j)))) (ku (lw (ny K "list" sg (kj (nS K) (dB i) (tC (.int 0))))) (ku (lw (ny K "list" sg (kj (nS K) (dB i) (tC (.int 1))))) tt))))))) (Mi.xD i j fn ws c1 f1 c2 f2 c3 f3 r):=λH0 Hv0 e σ H Hv Dn I h=>by
 refine ha e σ H Hv _ I.toR0 ((aA.mp h).mono λwv hw vs H1 Hv1 g1 rx=>?_);rw[qg];refine⟨Hv1,wv,g1.vw,rx,(aA.mp hw).mono λw hw v H2 Hv2 g k=>?_⟩;obtain⟨d,rfl,hw⟩:=Cg (aA.mp hw);obtain⟨⟨hi,hj⟩,hw⟩:=Mi.cq hw;have I1:=((I.grow g1).grow g).set hmi k.1;refine h1 _ _ _ _ _ I1.toR0 ((aA.mp hw).mono λb1 hb H3 Hv3 g3=>?_);have g13:=g.trans g3;cases b1 with
 |true=>exact hf1 H0 Hv0 _ _ H3 Hv3 _ (I1.grow g3) (zx (Dn:=Dn) (Mi.jO hb) rfl)
 |false=>
  have hb:=Mi.jG hb;refine h2 _ _ _ _ _ (I1.grow g3).toR0 ((aA.mp hb).mono λb2 hb2 H4 Hv4 g4=>?_);have g14:=g13.trans g4;cases b2 with
  |true=>exact hf2 H0 Hv0 _ _ H4 Hv4 _ ((I1.grow g3).grow g4) (zx (Dn:=Dn) (Mi.jO hb2) rfl)
  |false=>
   obtain⟨ht,hb2⟩:=Mi.cq (Mi.jG hb2);refine h3 _ _ _ _ _ ((I1.grow g3).grow g4).toR0 ((aA.mp hb2).mono λb3 hb3 H5 Hv5 g5=>?_);have g15:=g14.trans g5;cases b3 with
   |true=>exact hf3 H0 Hv0 _ _ H5 Hv5 _ (((I1.grow g3).grow g4).grow g5) (zx (Dn:=Dn) (Mi.jO hb3) rfl)
   |false=>
    have hb3:=Mi.jG hb3;cases d with
    |tup ds=>
     obtain⟨p,a,b,xs,ys,rfl,hp,hax,han,hbx,hbn,hnew⟩:=k.2 ds rfl;have at5:∀{x:ag} {o:HO},Hv2 x=ab o->NT o->H5 x=ab o:=λ{x o} q n=>g5.old.at (g4.old.at (g3.old.at (g.vw.sub _ _ q) n) n) n;have p5:=at5 hp trivial;have a5:=at5 hax trivial;have b5:=at5 hbx trivial;have si:(σ.set i (ab (.ref p)))[i]? = ab (ab (.ref p)):=jo (by rw[I.len];exact hi);have i0:cK [V.ref a,V.ref b] 0=ab (.ref a):=rfl;have i1:cK [V.ref a,V.ref b] 1=ab (.ref b):=rfl;have ix:∀{σ':L2.St} {H':Hp} {n:Int} {c:ag} {Q:VK},σ'[i]? = ab (ab (.ref p))->H' p=ab (.tup [.ref a,.ref b])->cK [V.ref a,V.ref b] n=ab (.ref c)->Q (.ref c) H'->kj (nS K) (dB i) (tC (.int n)) σ' H' Q:=λ{σ' H' n c Q} h1 h2 h3 q=>⟨.ref p,h1,.inr (.inl ⟨p,_,n,.ref c,rfl,rfl,.inl (.inl h2),h3,q⟩)⟩;refine IL (Hc:=H1) (i:=i) (l:=b) (xs:=ys) (λQ q=>ix si p5 i1 q) (by rw[gH,I.len];exact hj) b5 (λx hx=>?_) λσ' H6 e1 e2 em e4=>?_
     ·obtain⟨q,zs,q1,q2,q3,q4⟩:=hnew x hx;exact⟨q,zs,q1,at5 q2 trivial,q3,q4⟩
     ·have si':σ'[i]? = ab (ab (.ref p)):=by rw[e2 i ij];exact si
      obtain⟨xs',a6⟩:=em.lst a5;have em2:gY H1 H5 (upd H6 a (.lst [])):=em.put han a6;obtain⟨ys',b7⟩:=em2.lst b5;have em3:gY H1 H5 (upd (upd H6 a (.lst [])) b (.lst [])):=em2.put hbn b7;refine ix si' (em.tup p5) i0 ?_;refine⟨.inl ⟨rfl,xs',.inl (.inl a6)⟩,a,xs',rfl,rfl,a6,?_⟩;refine ix si' (em2.tup p5) i1 ?_;refine⟨.inl ⟨rfl,ys',.inl (.inl b7)⟩,b,ys',rfl,rfl,b7,?_⟩;have gk:=bi.emptied g1.vw g15 em3;refine hr H0 Hv0 _ σ' _ _ Dn (((I.grow g1).grow gk).I9 (by rw[e1,gH]) λk n1 n2=>?_) (Fin.mono hb3 λo z=>z.up (g1.vis.trans gk.vis));rw[e2 k n2,eE (cY n1)]
    |_=>cases ht
end
end A
namespace Mi
end Mi
namespace Zp
open PySem PySem.Spec PyProof.Rows L2 A
open Mi (D W Rs Fin aA Out)
variable[Tb:A.bD]{M:Nat->Bool}{i:Nat}{u s1:TS}{r m:Mi.SN}
end Zp
namespace Mr
open PySem Mi
def EV:S:=
 (dY (de (mV 1)) (.n 2)
 (bI (cB (m2 f9 (mV 2) (mV 0)))
 rf
 bU))
def g7:Fn:=dm 2 3 EV
def D9:S:=
 (aM (fZ (a8 g7 [(wD (m2 aE (mV 0) (mC (.int 0)))),(wD (mN cZ [(mV 1)]))]))
 (bp (wD (mN oZ [(dj [ab 1,ac,ac] (de (m2 aE (mV 0) (mC (.int 1)))) (.t [1,2]) (cB (m2 dP (mV 2) (mV 0))) (mV 1))]))))
def qZ:Fn:=dm 2 2 D9
def DU:S:=
 (aM (bF 2 (mC (.str "etaoinshrdlucmfwypvbgkqjxz")))
 (aM (bI (cB (m2 d6 (m2 bg (mV 0) (mC (.int 4))) (mC (.int 2))))
 (aM (bF 3 (m2 u6 (mC (.str "")) (dj [ab 2,ab 0,ac] (h6 (mC (.int 8))) (.n 2) el (m2 aE (mV 0) (m2 bg (m2 cx (mV 1) (m2 bn (mC (.int 4)) (m2 bV (mC (.int 3)) (mV 2)))) (mC (.int 26)))))))
 (aM (bI (cB (m2 dP (m2 bg (mV 0) (mC (.int 4))) (mC (.int 0))))
 (bp (wD (dj [ab 3,ac] (h6 (mV 1)) (.n 1) el (eD eJ (mV 0) ac (ab (m2 bn (mV 1) (mC (.int 1))))))))
 bU)
 (bp (wD (dj [ab 3,ac] (h6 (mV 1)) (.n 1) el (eD eJ (mV 0) (ab (m2 dZ (mC (.int 7)) (mV 1))) ac))))))
 bU)
 (aM (bF 4 (m2 bg (m2 cx (mV 0) (mC (.int 4))) (mC (.int 8))))
 (aM (bF 5 (m2 u6 (mC (.str "")) (dj [ab 2,ab 0,ac] (h6 (mV 4)) (.n 2) el (m2 aE (mV 0) (m2 bg (m2 bn (m2 bn (m2 cx (mV 1) (mC (.int 32))) (m2 bV (mC (.int 5)) (mV 2))) (m2 bV (mV 2) (mV 2))) (mC (.int 26)))))))
 (aM (bF 6 (m2 bg (m2 cx (mV 0) (mC (.int 256))) (m2 bn (mV 4) (mC (.int 1)))))
 (bp (wD (dj [ab 5,ab 2,ab 6,ab 0,ac] (h6 (mV 1)) (.n 4) el (m2 bn (m2 bn (eD eJ (mV 0) ac (ab (mV 2))) (m2 aE (mV 1) (m2 bg (m2 bn (m2 cx (mV 3) (mC (.int 7))) (m2 bV (mC (.int 5)) (mV 4))) (mC (.int 26))))) (eD eJ (mV 0) (ab (mV 2)) ac))))))))))
def qY:Fn:=fc 2 7 DU
def BJ:S:=
 (aM (jt 3 (FT (mV 2) (mC (.bl true))))
 (aM (bF 4 (mN cZ [(mV 2)]))
 (aM (iI 20 (fw (mV 4))
 (aM (vy 5 4)
 (dY (de (mV 1)) (.t [6,7])
 (bI (eA (cB (m2 dP (mV 6) (mV 5))) (cB (hG 3 (mV 7))))
 (aM (eB 3 (mV 7) (mC (.bl true)))
 (c5 4 (mV 7)))
 bU))))
 (bp (wD (dj [ab 3,ac] (de (mV 0)) (.n 1) (cB (nA 0 (mV 1))) (mV 1)))))))
def sM:Fn:=fc 3 8 BJ
def Fg:S:=
 (aM (fZ (a8 g7 [(wD (m2 aE (mV 0) (mC (.int 0)))),(wD (mN cZ [(mV 1)]))]))
 (bp (wD (a8 sM [(wD (m2 aE (mV 0) (mC (.int 0)))),(wD (m2 aE (mV 0) (mC (.int 1)))),(wD (mV 1))]))))
def rE:Fn:=fc 2 2 Fg
def BY:S:=
 (aM (jt 1 (λ_=>.ok (.dk [])))
 (dY (de (mV 0)) (.n 2)
 (aM (bI (cB (nA 1 (mV 2)))
 rf
 bU)
 (eB 1 (mV 2) (mC (.bl true))))))
def sA:Fn:=dm 1 3 BY
def Fx:S:=
 (aM (fZ (a8 g7 [(wD (m2 aE (mV 0) (mC (.int 0)))),(wD (mV 1))]))
 (aM (bF 2 (mN cZ []))
 (aM (dY (xQ (mV 1) (eD eJ (mV 1) (ab (mC (.int 1))) ac) (eD eJ (mV 1) (ab (mC (.int 2))) ac)) (.t [3,4,5])
 (bI (eA (cB (m2 cC (mN dTup [(mV 3),(mV 4)]) (m2 aE (mV 0) (mC (.int 1))))) (cB (m2 cC (mN dTup [(mV 5),(mV 4)]) (m2 aE (mV 0) (mC (.int 1))))))
 (c5 2 (mV 4))
 bU))
 (bp (wV 2)))))
def oX:Fn:=fc 2 6 Fx
def FW:S:=(bp (wD (mN zq [(dj [ab 2,ac] (de (a8 rE [(wD (mV 0)),(wD (mV 1))])) (.n 1) el (m2 cC (mV 1) (mV 0)))])))
def kh:Fn:=dm 3 3 FW
def yJ:S:=
 (aM (bI (cB (m2 d6 (mV 1) (mN bS [(mV 0)])))
 (bp (wD (m2 aE (mV 0) (mV 1))))
 bU)
 (aM (bF 2 (m2 bn (mC (.int 30011)) (m2 bV (m2 bV (mC (.int 709)) (mV 1)) (mV 1))))
 (aM (bI (cB (m2 pe (mN bS [(mV 0)]) (mC (.int 0))))
 (bF 2 (m2 bn (mV 2) (m2 bV (m2 bg (m2 aE (mV 0) (mC (.int 0))) (mC (.int 99991))) (m2 bn (m2 bn (m2 bV (mV 1) (mV 1)) (m2 bV (mC (.int 2)) (mV 1))) (mC (.int 5))))))
 bU)
 (bp (wD (mV 2))))))
def eY:Fn:=dm 2 3 yJ
def Bv:S:=
 (aM (bF 2 (dj [ac] (h6 (mV 1)) (.n 0) el (mV 0)))
 (aM (bF 3 (mN cZ []))
 (aM (bF 4 (m2 bg (mV 0) (mC (.int 2147483647))))
 (aM (dY (h6 (mV 1)) (.n 5)
 (aM (bF 4 (m2 bg (m2 bn (m2 bn (m2 bV (mV 4) (mC (.int 48271))) (m2 bV (mC (.int 7)) (mV 5))) (mC (.int 1))) (mC (.int 2147483647))))
 (uo 3 2 (m2 bg (m2 cx (mV 4) (mC (.int 32))) (mN bS [(mV 2)])))))
 (bp (wV 3))))))
def q8:Fn:=fc 2 6 Bv
def BE:S:=
 (aM (bF 2 (m2 bn (mC (.int 1)) (m2 bg (a8 eY [(wD (mV 0)),(wD (mC (.int 0)))]) (mV 1))))
 (aM (bF 3 (a8 qY [(wD (a8 eY [(wD (mV 0)),(wD (mC (.int 1)))])),(wD (mV 2))]))
 (aM (bF 4 (a8 q8 [(wD (a8 eY [(wD (mV 0)),(wD (mC (.int 2)))])),(wD (mV 2))]))
 (aM (bF 5 (m2 aE (mN cZ [(mC (.int 4)),(mC (.int 1)),(mC (.int 2)),(mC (.int 3)),(mC (.int 2)),(mC (.int 3))]) (m2 bg (a8 eY [(wD (mV 0)),(wD (mC (.int 3)))]) (mC (.int 6)))))
 (aM (bF 6 (mN cZ []))
 (aM (dY (h6 (mV 2)) (.n 7)
 (dY (h6 (mV 2)) (.n 8)
 (aM (bF 9 (a8 eY [(wD (mV 0)),(wD (m2 bn (m2 bn (mC (.int 4)) (m2 cx (m2 bV (mN iH [(mV 7),(mV 8)]) (m2 dZ (mN iH [(mV 7),(mV 8)]) (mC (.int 1)))) (mC (.int 2)))) (mN mm [(mV 7),(mV 8)])))]))
 (bI (eA (cB (m2 d6 (m2 aE (mV 4) (mV 7)) (m2 aE (mV 4) (mV 8)))) (cB (m2 d6 (m2 bg (m2 cx (m2 bg (m2 bV (mV 9) (mC (.int 48271))) (mC (.int 2147483647))) (mC (.int 16))) (mC (.int 4))) (mV 5))))
 (c5 6 (mN dTup [(m2 aE (mV 3) (mV 7)),(m2 aE (mV 3) (mV 8))]))
 bU))))
 (bp (wD (mN dTup [(mN oZ [(mV 3)]),(mN oZ [(mV 6)])])))))))))
def sE:Fn:=dm 2 10 BE
def Ei:S:=
 (aM (bF 2 (a8 eY [(wD (mV 0)),(wD (mC (.int 0)))]))
 (aM (bF 3 (m2 bg (m2 cx (mV 2) (m2 dZ (mV 1) (mC (.int 1)))) (m2 zy (mC (.int 10)) (mC (.int 9)))))
 (aM (bF 4 (m2 bn (m2 bn (mC (.int 1)) (m2 bg (mV 2) (m2 dZ (mV 1) (mC (.int 1))))) (m2 bV (mV 1) (mV 3))))
 (bp (wD (a8 sE [(wD (m2 bn (mN cZ [(mV 4)]) (eD eJ (mV 0) (ab (mC (.int 1))) ac))),(wD (mV 1))]))))))
def r9:Fn:=dm 2 5 Ei
def F1:S:=
 (aM (bF 2 (mN cZ [(m2 bg (a8 eY [(wD (mV 0)),(wD (mC (.int 39)))]) (mC (.int 2147483647)))]))
 (aM (dY (xH (eD eJ (mV 0) (ab (mC (.int 40))) (ab (mC (.int 63))))) (.t [3,4])
 (bI (cB (m2 d6 (m2 bn (mV 3) (mC (.int 1))) (mV 1)))
 (c5 2 (m2 bg (mV 4) (mC (.int 2147483647))))
 (sH 2 (m2 bg (mV 3) (mV 1)) (m2 bg (m2 bn (m2 bV (m2 aE (mV 2) (m2 bg (mV 3) (mV 1))) (mC (.int 69621))) (mV 4)) (mC (.int 2147483647))))))
 (bp (wV 2))))
def qG:Fn:=fc 2 5 F1
def EI:S:=(bp (wD (vt (m2 cC (mN dTup [(mV 1),(mV 2)]) (m2 aE (mV 0) (mC (.int 1)))) (m2 cC (mN dTup [(mV 2),(mV 1)]) (m2 aE (mV 0) (mC (.int 1)))))))
def nG:Fn:=dm 3 3 EI
def Dd:S:=(bp (wD (nN (m2 cC (mN dTup [(m2 aE (mV 1) (m2 dZ (mV 2) (mC (.int 1)))),(m2 aE (mV 1) (mV 2))]) (m2 aE (mV 0) (mC (.int 1)))) (m2 cC (mN dTup [(m2 aE (mV 1) (m2 bn (mV 2) (mC (.int 1)))),(m2 aE (mV 1) (mV 2))]) (m2 aE (mV 0) (mC (.int 1)))))))
def pN:Fn:=dm 3 3 Dd
def Dq:S:=(bp (wD (nN (uh oP oP (mC (.int 1)) (mN bS [(mV 0)]) (mC (.int 8))) (mN xc [(dj [ac] (de (mV 0)) (.n 0) el (m2 cC (mV 0) (mC (.str "abcdefghijklmnopqrstuvwxyz"))))]))))
def qO:Fn:=dm 1 1 Dq
def BL:S:=
 (aM (fZ (a8 g7 [(wD (m2 aE (mV 0) (mC (.int 0)))),(wD (mN cZ [(mV 1)]))]))
 (bp (wD (mN oZ [(dj [ab 1,ac,ac] (de (m2 aE (mV 0) (mC (.int 1)))) (.t [1,2]) (cB (m2 dP (mV 1) (mV 0))) (mV 2))]))))
def lB:Fn:=dm 2 2 BL
def Fe:S:=
 (aM (fZ (a8 g7 [(wD (mV 0)),(wD (mV 1))]))
 (fZ (a8 sA [(wD (mV 1))])))
def qM:Fn:=dm 2 2 Fe
def CO:S:=(bp (wD (dj [ac] (de (a8 lB [(wD (mV 0)),(wD (mV 1))])) (.n 0) el (mN dTup [(mV 0),(mC (.bl true))]))))
def lF:Fn:=fc 2 2 CO
def Di:S:=(bp (wD (dj [ac] (de (a8 qZ [(wD (mV 0)),(wD (mV 1))])) (.n 0) el (mN dTup [(mV 0),(mC (.bl false))]))))
def lM:Fn:=fc 2 2 Di
def Em:S:=
 (aM (nH (.t [3,4]) (mV 1))
 (aM (bF 5 (m2 f9 (mV 3) (mV 2)))
 (aM (bF 6 (lC (fw (mV 4)) (a8 kh [(wD (mV 0)),(wD (mV 3)),(wD (mV 2))]) (mV 5)))
 (aM (bF 7 (lC (fw (mV 5)) (a8 lF [(wD (mV 0)),(wD (mV 3))]) (mN cZ [])))
 (aM (bF 8 (lC (fw (mV 6)) (a8 lM [(wD (mV 0)),(wD (mV 3))]) (mN cZ [])))
 (bp (wD (m2 bn (mV 7) (mV 8)))))))))
def pR:Fn:=dm 3 9 Em
def t0:Fn:=BG (a8 pR [(wD (mV 1)),(wD (mV 0)),(wD (mV 2))])
def xu(κ:Kp):S:=
 (aM (jt 2 (λ_=>.ok (.dt [])))
 (aM (bF 3 (mN cZ []))
 (aM (dY (de (mV 0)) (.n 4)
 (aM (eB 2 (mV 4) (mC .non))
 (c5 3 (mV 4))))
 (aM (iI 40 (fw (mV 3))
 (aM (iu 5 3 (mC (.int 0)))
 (dY (de (nP κ 1 t0 (mV 5))) (.n 4)
 (bI (cB (hG 2 (mV 4)))
 (aM (eB 2 (mV 4) (mV 5))
 (c5 3 (mV 4)))
 bU))))
 (bp (wV 2))))))
def uw(κ:Kp):Fn:=fc 2 6 (xu κ)
def sT(x:D)(aK:List D):Rs W:=uw ⟨0,0, "",[]⟩ [.d x,.fn ⟨0,0, "", []⟩ aK]
def F6:S:=
 (aM (bF 3 (m2 bn (a8 lF [(wD (mV 0)),(wD (mV 1))]) (a8 lM [(wD (mV 0)),(wD (mV 1))])))
 (bp (yj sT [0,2] (mV 3))))
def nJ:Fn:=fc 3 4 F6
def FD:S:=(bp (wD (dj [ab 0,ac] (pK 1) (.n 1) (cB (m2 dP (m2 aE (mV 1) (mC (.int 0))) (mV 0))) (mV 1))))
def sI:Fn:=fc 2 2 FD
def EX:S:=
 (aM (bF 2 (mN rA [(m2 aE (mV 0) (mC (.int 0)))]))
 (aM (iu 3 2 (m2 bg (mV 1) (mN bS [(mV 2)])))
 (aM (iu 4 2 (m2 bg (m2 cx (mV 1) (mC (.int 8))) (mN bS [(mV 2)])))
 (aM (bF 5 (mN cZ []))
 (aM (dY (h6 (mN bS [(mV 2)])) (.n 6)
 (bI (cB (m2 dP (m2 bg (m2 cx (m2 bg (m2 bV (mV 1) (m2 bn (mC (.int 48271)) (m2 bV (m2 bV (mC (.int 614)) (mV 6)) (mV 6)))) (mC (.int 2147483647))) (mC (.int 16))) (m2 bn (mC (.int 2)) (m2 bg (m2 cx (mV 1) (mC (.int 64))) (mC (.int 2))))) (mC (.int 0))))
 (c5 5 (m2 aE (mV 2) (mV 6)))
 bU))
 (aM (bI (cB (m2 dP (m2 bg (m2 cx (mV 1) (mC (.int 128))) (mC (.int 2))) (mC (.int 1))))
 (xC 5)
 bU)
 (uW (bp (wD (mN cZ [(mV 3),(mV 4),(mV 5)]))))))))))
def pW:Fn:=fc 2 7 EX
def Gf:S:=
 (aM (bF 2 (mN cZ []))
 (aM (iI 40 (cB (m2 rT (mV 0) (mC .non)))
 (aM (c5 2 (m2 aE (mV 0) (mC (.int 0))))
 (bF 0 (rp 1 (mV 0)))))
 (bp (wD (m1 w9 (mV 2))))))
def pI:Fn:=fc 2 3 Gf
def Bx:S:=
 (aM (bF 3 (mN cZ [(mV 1)]))
 (aM (iI 20 (cB (m2 f9 (m2 aE (mV 3) (m1 i7 (mC (.int 1)))) (mV 2)))
 (aM (bF 4 (dj [ab 0,ab 2,ac] (de (a8 lB [(wD (mV 0)),(wD (m2 aE (mV 3) (m1 i7 (mC (.int 1)))))])) (.n 2) (cB (a8 kh [(wD (mV 0)),(wD (mV 2)),(wD (mV 1))])) (mV 2)))
 (c5 3 (m2 aE (mV 4) (mC (.int 0))))))
 (bp (wV 3))))
def mD:Fn:=fc 3 5 Bx
def Bp:S:=
 (aM (fZ (a8 qM [(wD (m2 aE (mV 0) (mC (.int 0)))),(wD (m2 bn (mN cZ [(mV 1),(mV 2)]) (mN rA [(mV 3)])))]))
 (aM (jt 4 (yL (jv nJ [(wD (mV 0)),(wD (mV 1)),(wD (mV 3))])))
 (aM (bF 5 (a8 sI [(wD (mV 2)),(wV 4)]))
 (aM (bI (cV (fw (mV 5)))
 (bp (wD (mC .non)))
 bU)
 (aM (bF 6 (m2 dCat (mN cZ [(mV 1)]) (a8 pI [(wD (m2 aE (mV 5) (mC (.int 0)))),(wV 4)])))
 (bp (wD (mN dTup [(mV 6),(dj [ab 0,ab 3,ac] (de (a8 oX [(wD (mV 0)),(wD (mV 6))])) (.n 2) el (a8 mD [(wD (mV 0)),(wD (mV 2)),(wD (mV 1))]))]))))))))
def jh:Fn:=dm 4 7 Bp
def CL:S:=
 (aM (bI (dO (cV (cB (m1 (gL ["list"]) (mV 1)))) (dO (cB (m2 d6 (mN bS [(mV 1)]) (mC (.int 1)))) (cB (m2 eV (m2 aE (mV 1) (mC (.int 0))) (mV 2)))))
 (bp (wD (mC (.bl false))))
 bU)
 (aM (dY (lJ (mC (.int 1)) (mN bS [(mV 1)])) (.n 4)
 (bI (dO (cV (cB (m1 (gL ["str"]) (m2 aE (mV 1) (mV 4))))) (cB (m2 f9 (mN dTup [(m2 aE (mV 1) (m2 dZ (mV 4) (mC (.int 1)))),(m2 aE (mV 1) (mV 4))]) (m2 aE (mV 0) (mC (.int 1))))))
 (bp (wD (mC (.bl false))))
 bU))
 (aM (bI (cB (m2 cC (mV 2) (mV 3)))
 (bp (wD (m2 dP (mN bS [(mV 1)]) (mC (.int 1)))))
 bU)
 (bp (wD (m2 cC (m2 aE (mV 1) (m1 i7 (mC (.int 1)))) (mV 3)))))))
def nU:Fn:=dm 4 5 CL
def El:S:=
 (aM (bI (dO (cV (cB (m1 (gL ["list"]) (mV 1)))) (dO (cB (m2 d6 (mN bS [(mV 1)]) (mC (.int 2)))) (dO (cB (m2 eV (m2 aE (mV 1) (mC (.int 0))) (mV 2))) (cB (m2 eV (m2 aE (mV 1) (m1 i7 (mC (.int 1)))) (mV 3))))))
 (bp (wD (mC (.bl false))))
 bU)
 (aM (dY (lJ (mC (.int 1)) (mN bS [(mV 1)])) (.n 4)
 (bI (dO (cV (cB (m1 (gL ["str"]) (m2 aE (mV 1) (mV 4))))) (dO (cB (m2 cC (m2 aE (mV 1) (mV 4)) (eD eJ (mV 1) ac (ab (mV 4))))) (cV (cB (a8 nG [(wD (mV 0)),(wD (m2 aE (mV 1) (m2 dZ (mV 4) (mC (.int 1))))),(wD (m2 aE (mV 1) (mV 4)))])))))
 (bp (wD (mC (.bl false))))
 bU))
 (bp (wD (mC (.bl true))))))
def pj:Fn:=dm 4 5 El
def Fm:S:=
 (aM (bI (dO (cV (cB (m1 (gL ["tuple"]) (mV 1)))) (dO (cB (m2 eV (mN bS [(mV 1)]) (mC (.int 2)))) (cV (cB (m1 (gL ["list"]) (m2 aE (mV 1) (mC (.int 1))))))))
 (bp (wD (mC (.bl false))))
 bU)
 (aM (nH (.t [5,6]) (mV 1))
 (aM (bI (cV (cB (a8 pj [(wD (mV 0)),(wD (mV 5)),(wD (mV 2)),(wD (mV 3))])))
 (bp (wD (mC (.bl false))))
 bU)
 (aM (bF 7 (dj [ab 0,ab 5,ac] (lJ (mC (.int 1)) (m2 dZ (mN bS [(mV 5)]) (mC (.int 1)))) (.n 2) (cB (a8 pN [(wD (mV 0)),(wD (mV 1)),(wD (mV 2))])) (mV 2)))
 (aM (bI (cB (m2 eV (mN bS [(mV 6)]) (mN bS [(mV 7)])))
 (bp (wD (mC (.bl false))))
 bU)
 (aM (bI (cB (m2 pe (mN bS [(dj [ab 7,ab 4,ab 5,ac] (lJ (mC (.int 1)) (m2 dZ (mN bS [(mV 5)]) (mC (.int 1)))) (.n 3) (eA (cB (m2 f9 (mV 3) (mV 0))) (cB (m2 cC (m2 aE (mV 2) (mV 3)) (mV 1)))) (mV 3))]) (mC (.int 0))))
 (bp (wD (mC (.bl false))))
 bU)
 (aM (dY (wL (mV 7) (mV 6)) (.t [8,9])
 (bI (cV (cB (a8 nU [(wD (mV 0)),(wD (mV 9)),(wD (m2 aE (mV 5) (mV 8))),(wD (mV 4))])))
 (bp (wD (mC (.bl false))))
 bU))
 (bp (wD (mC (.bl true)))))))))))
def jD:Fn:=dm 5 10 Fm
def Cs:S:=
 (aM (bI (cB (m2 dP (mN bS [(m2 aE (mV 0) (mC (.int 1)))]) (mC (.int 0))))
 (bp (wD (mC (.bl true))))
 bU)
 (aM (nH (.t [2,3]) (m2 aE (m2 aE (mV 0) (mC (.int 1))) (m2 bg (m2 cx (mV 1) (mC (.int 3))) (mN bS [(m2 aE (mV 0) (mC (.int 1)))]))))
 (aM (bF 4 (dj [ab 2,ab 3,ac] (de (m2 aE (mV 0) (mC (.int 0)))) (.n 2) (eA (cB (m2 eV (mV 2) (mV 0))) (cB (m2 eV (mV 2) (mV 1)))) (mV 2)))
 (aM (bI (cB (m2 dP (m2 bg (mV 1) (mC (.int 2))) (mC (.int 1))))
 (nH (.t [2,3]) (mN dTup [(mV 3),(mV 2)]))
 bU)
 (bp (wD (a8 jD [(wD (mV 0)),(wD (a8 jh [(wD (mV 0)),(wD (mV 2)),(wD (mV 3)),(wD (mV 4))])),(wD (mV 2)),(wD (mV 3)),(wD (mV 4))])))))))
def oR:Fn:=dm 2 5 Cs
def FI:S:=
 (aM (u9 [2,3,4] (a8 pW [(wD (mV 0)),(wD (mV 1))]))
 (aM (bF 5 (mN rA [(mV 4)]))
 (xD 6 7 jh [(wD (mV 0)),(wD (mV 2)),(wD (mV 3)),(wD (mV 5))]
 (dO (cB (m2 eV (mV 5) (mV 4))) (cV (cB (a8 oR [(wD (mV 0)),(wD (mV 1))])))) (bp (wD (mC (.bl false))))
 (cB (m2 rG (mV 6) (mC .non))) (bp (wD (m2 rG (a8 jh [(wD (mV 0)),(wD (mV 3)),(wD (mV 2)),(wD (mV 5))]) (mC .non))))
 (cV (cB (a8 jD [(wD (mV 0)),(wD (mV 6)),(wD (mV 2)),(wD (mV 3)),(wD (mV 4))]))) (bp (wD (mC (.bl false))))
 (bp (wD (a8 jD [(wD (mV 0)),(wD (a8 jh [(wD (mV 0)),(wD (mV 2)),(wD (mV 3)),(wD (mV 5))])),(wD (mV 2)),(wD (mV 3)),(wD (mV 4))]))))))
def nE:Fn:=dm 2 8 FI
def CA:S:=
 (aM (bF 1 (a8 r9 [(wD (mV 0)),(wD (mC (.int 8)))]))
 (aM (dY (de (a8 qG [(wD (mV 0)),(wD (mC (.int 4)))])) (.n 2)
 (bI (cV (cB (a8 nE [(wD (mV 1)),(wD (mV 2))])))
 (bp (wD (mC (.bl false))))
 bU))
 (bp (wD (mC (.bl true))))))
def xL:Fn:=dm 1 3 CA
end Mr
namespace Hp2
open Mi
def ER(κ κ':Kp)(aK:List D)(e e':Mi.Env):Prop:=e[1]? = ab (ab (.fn κ aK))/\e'=e.set 1 (ab (.fn κ' aK))
section
variable{κ κ':Kp}{aK:List D}{e e':Mi.Env}
theorem ER.get(h:ER κ κ' aK e e'){i:Nat}(hi:1≠i):e'[i]? = e[i]?:=by rw[h.2,eE hi]
theorem ER.one(h:ER κ κ' aK e e'):e'[1]? = ab (ab (.fn κ' aK)):=by rw[h.2,jo (b9.mp h.1).1]
theorem ER.set(h:ER κ κ' aK e e'){i:Nat}(hi:1≠i)(w:Option W):ER κ κ' aK (e.set i w) (e'.set i w):=⟨by rw[eE (cY hi)];exact h.1,by rw[h.2,List.set_comm _ _ hi]⟩
end
variable(κ κ':Kp)(aK:List D)
inductive OR:Rs Out->Rs Out->Prop
 |nx {e e':Mi.Env}:ER κ κ' aK e e'->OR (.ok (.nx e)) (.ok (.nx e'))
 |ct {e e':Mi.Env}:ER κ κ' aK e e'->OR (.ok (.ct e)) (.ok (.ct e'))
 |bk {e e':Mi.Env}:ER κ κ' aK e e'->OR (.ok (.bk e)) (.ok (.bk e'))
 |rt (w:W):OR (.ok (.rt w)) (.ok (.rt w))
 |ex (x:lO):OR (.ex x) (.ex x)
 |no:OR .no .no
def Sr(s s':S):Prop:=∀e e',ER κ κ' aK e e'->OR κ κ' aK (s e) (s' e')
def Ar{α:Type}(a a':Mi.Env->Rs α):Prop:=∀e e',ER κ κ' aK e e'->a' e'=a e
variable{κ κ' aK}
theorem gE{α:Type}{r:Rs α}{f g:α->Rs Out}(h:∀x,r=.ok x->OR κ κ' aK (f x) (g x)):OR κ κ' aK (r.bind f) (r.bind g):=by
 cases r with
 |ok x=>exact h x rfl
 |ex x=>exact .ex x
 |no=>exact .no
theorem nM{s s' t t':S}(h:Sr κ κ' aK s s')(k:Sr κ κ' aK t t'):Sr κ κ' aK (aM s t) (aM s' t'):=λe e' r=>by
 unfold aM;have q:=h e e' r;generalize s e=a at q ⊢;generalize s' e'=b at q ⊢;cases q with
 |nx z=>exact k _ _ z
 |ct z=>exact .ct z
 |bk z=>exact .bk z
 |rt w=>exact .rt w
 |ex x=>exact .ex x
 |no=>exact .no
theorem D1{it it':I}{i:Nat}{s s':S}(hi:1≠i)(ha:Ar κ κ' aK it it')(h:Sr κ κ' aK s s'):Sr κ κ' aK (dY it (.n i) s) (dY it' (.n i) s'):=λe e' r=>by
 unfold dY;rw[ha e e' r];refine gE λxs hxs=>?_;clear hxs
 induction xs generalizing e e' with
 |nil=>exact .nx r
 |cons x t ih=>
  show OR κ κ' aK ((s (e.set i (ab (.d x)))).bind _) ((s' (e'.set i (ab (.d x)))).bind _);have q:=h _ _ (r.set hi (ab (.d x)));generalize s (e.set i (ab (.d x)))=a at q ⊢;generalize s' (e'.set i (ab (.d x)))=b at q ⊢;cases q with
  |nx z=>exact ih _ _ z
  |ct z=>exact ih _ _ z
  |bk z=>exact .nx z
  |rt w=>exact .rt w
  |ex x=>exact .ex x
  |no=>exact .no
theorem L4{c c':C}{n:Nat}{s s':S}(ha:Ar κ κ' aK c c')(h:Sr κ κ' aK s s'):Sr κ κ' aK (iI n c s) (iI n c' s'):=by
 unfold iI
 induction n with
 |zero=>exactλe e' r=>.no
 |succ n ih=>
  intro e e' r;unfold gp;rw[ha e e' r];refine gE λb _=>?_;cases b with
  |false=>exact .nx r
  |true=>
   simp only[kr];have q:=h _ _ r;generalize s e=a at q ⊢;generalize s' e'=b at q ⊢;cases q with
   |nx z=>exact ih _ _ z
   |ct z=>exact ih _ _ z
   |bk z=>exact .nx z
   |rt w=>exact .rt w
   |ex x=>exact .ex x
   |no=>exact .no
theorem MB{c c':C}{s s' t t':S}(ha:Ar κ κ' aK c c')(h:Sr κ κ' aK s s')(k:Sr κ κ' aK t t'):Sr κ κ' aK (bI c s t) (bI c' s' t'):=λe e' r=>by
 unfold bI;rw[ha e e' r];refine gE λb _=>?_;cases b with
 |true=>exact h _ _ r
 |false=>exact k _ _ r
theorem P1:Sr κ κ' aK bU bU:=λe e' r=>.nx r
theorem M5{a a':EW}(ha:Ar κ κ' aK a a'):Sr κ κ' aK (bp a) (bp a'):=λe e' r=>by
 unfold bp;rw[ha e e' r];exact gE λw _=>.rt w
theorem OZ{i:Nat}{a a':EW}(hi:1≠i)(ha:Ar κ κ' aK a a'):Sr κ κ' aK (jt i a) (jt i a'):=λe e' r=>by
 unfold jt;rw[ha e e' r];exact gE λw _=>.nx (r.set hi _)
theorem N8{i:Nat}{a a':E}(hi:1≠i)(ha:Ar κ κ' aK a a'):Sr κ κ' aK (bF i a) (bF i a'):=λe e' r=>by
 unfold bF;rw[ha e e' r];exact gE λw _=>.nx (r.set hi _)
theorem lb{i:Nat}(hi:1≠i):Ar κ κ' aK (mV i) (mV i):=λe e' r=>by unfold mV;rw[r.get hi]
theorem x6{i:Nat}(hi:1≠i):Ar κ κ' aK (wV i) (wV i):=λe e' r=>by unfold wV;rw[r.get hi]
theorem DD{i:Nat}(hi:1≠i):Ar κ κ' aK (λe=>getL e i) (λe=>getL e i):=λe e' r=>by show getL e' i=getL e i;unfold getL;rw[r.get hi]
theorem ug{α:Type}{x:Rs α}:Ar κ κ' aK (λ_=>x) (λ_=>x):=λe e' r=>rfl
theorem uZ{α β:Type}{a a':Mi.Env->Rs α}{f:α->Rs β}(ha:Ar κ κ' aK a a'):Ar κ κ' aK (λe=>(a e).bind f) (λe=>(a' e).bind f):=λe e' r=>by
 show(a' e').bind f=(a e).bind f;rw[ha e e' r]
theorem D4{i:Nat}{a a' b b':E}(hi:1≠i)(ha:Ar κ κ' aK a a')(hb:Ar κ κ' aK b b'):Sr κ κ' aK (eB i a b) (eB i a' b'):=λe e' r=>by
 unfold eB;rw[hb e e' r,ha e e' r,x6 hi e e' r];exact gE λx _=>gE λy _=>gE λz _=>gE λw _=>.nx (r.set hi _)
theorem Oy{p:Prop}[Decidable p]{x y:Rs Out}(h:OR κ κ' aK x y):OR κ κ' aK (bf p x) (bf p y):=by
 unfold bf;split
 ·exact h
 ·exact .no
theorem B7{i:Nat}{a a':E}(hi:1≠i)(ha:Ar κ κ' aK a a'):Sr κ κ' aK (c5 i a) (c5 i a'):=λe e' r=>by
 unfold c5;rw[ha e e' r,show getL e' i=getL e i from DD hi e e' r];exact gE λx _=>gE λy _=>Oy (.nx (r.set hi _))
theorem Pz{i j:Nat}{a a':E}(hi:1≠i)(hj:1≠j)(ha:Ar κ κ' aK a a'):Sr κ κ' aK (iu i j a) (iu i j a'):=λe e' r=>by
 unfold iu;rw[ha e e' r,show getL e' j=getL e j from DD hj e e' r];exact gE λx _=>gE λy _=>gE λz _=>gE λw _=>.nx ((r.set hj _).set hi _)
theorem LL{i:Nat}{a a':E}(hi:1≠i)(ha:Ar κ κ' aK a a'):Ar κ κ' aK (hG i a) (hG i a'):=λe e' r=>by
 unfold hG;rw[ha e e' r,x6 hi e e' r]
theorem Lr{f:Fn}{a a':E}(ha:Ar κ κ' aK a a'):Ar κ κ' aK (nP κ 1 f a) (nP κ' 1 f a'):=λe e' r=>by
 unfold nP;rw[r.1,r.one,ha e e' r];simp
theorem KD{a b:Rs Out}(h:OR κ κ' aK a b):a.bind jH=b.bind jH:=by cases h<;>rfl
theorem _root_.Mr.L3(κ:Kp)(x:D)(aK:List D):Mr.uw κ [.d x,.fn κ aK]=Mr.sT x aK:=by
 have h:Sr κ ⟨0,0, "",[]⟩ aK (Mr.xu κ) (Mr.xu ⟨0,0, "", []⟩):=by refine nM (OZ (by decide) ug) (nM (N8 (by decide) ug) (nM (D1 (by decide) (uZ (lb (by decide))) (nM (D4 (by decide) (lb (by decide)) ug) (B7 (by decide) (lb (by decide))))) (nM (L4 (uZ (lb (by decide))) (nM (Pz (by decide) (by decide) ug) (D1 (by decide) (uZ (Lr (lb (by decide)))) (MB (uZ (LL (by decide) (lb (by decide)))) (nM (D4 (by decide) (lb (by decide)) (lb (by decide))) (B7 (by decide) (lb (by decide)))) P1)))) (M5 (x6 (by decide))))))
 have r:ER κ ⟨0,0, "",[]⟩ aK [ab (.d x),ab (.fn κ aK),ac,ac,ac,ac] [ab (.d x),ab (.fn ⟨0,0, "", []⟩ aK),ac,ac,ac,ac]:=⟨rfl,rfl⟩;have q:=h _ _ r;exact congrArg (bf ((2:Nat)=2)) (KD q)
end Hp2
namespace A
open PySem L2 PyProof.Rows
section
variable{P:br}{w:bd}{K:aP}{mg:Str->Option ah}{base:aR}[Tb:bD]
variable{x qual:Str}{st:bw}{f:ag}{fd:bG}{N ps:List Str}{k:Nat}{m:Mi.S}
theorem fN(M:Nat->Bool)(F:b8 K x qual st f fd)(S:cg N ps (bA st))
 (hb:∀(cdv:ah) (A:bN) (outer:List Env) (s:aw) (H:Hp) (E:XK),cO k (A.deeper (envOfC qual (bA st) s.heap.objs.size f cdv))->N.Nodup->(A.deeper (envOfC qual (bA st) s.heap.objs.size f cdv)).units+1<cLine->(A.deeper (envOfC qual (bA st) s.heap.objs.size f cdv)).units+64<cLine ->
  ∃t,fX (j7 aO P w K mg base N qual (bA st) f cdv A outer s H E).km (h9 st) t/\AS M qV t m)
 (hM:∀i,i<ps.length->M i=false:=by decide):bJ P w K mg base aO (k+1) f fd ps (aI (Mi.dm ps.length N.length m)):=
 F.ok S (λvs H Q E h=>JF h) λcdv A outer s H vs Q E hr h=>
  let ⟨t,a,b⟩:=hb cdv A outer s H E hr S.nd (qJ hr) hr.units
  ⟨t,a,OT b hM h⟩
theorem okN(M:Nat->Bool)(F:b8 K x qual st f fd)(S:cg N ps (bA st))
 (hb:∀(cdv:ah) (A:bN) (outer:List Env) (s:aw) (H:Hp) (E:XK),cO k (A.deeper (envOfC qual (bA st) s.heap.objs.size f cdv))->N.Nodup->(A.deeper (envOfC qual (bA st) s.heap.objs.size f cdv)).units+1<cLine->(A.deeper (envOfC qual (bA st) s.heap.objs.size f cdv)).units+64<cLine ->
  ∃t,fX (j7 aO P w K mg base N qual (bA st) f cdv A outer s H E).km (h9 st) t/\AS M qN t m)
 (hM:∀i,i<ps.length->M i=false:=by decide):bJ P w K mg base aO (k+1) f fd ps (cI (Mi.fc ps.length N.length m)):=
 F.ok S (λvs H Q E h=>yf h) λcdv A outer s H vs Q E hr h=>
  let ⟨t,a,b⟩:=hb cdv A outer s H E hr S.nd (qJ hr) hr.units
  ⟨t,a,runN b hM h⟩
end
theorem cU{N P:List Str}{sc:en}(a:sc.kind=.function:=by rfl)(b:sc.isCoroutine=false:=by rfl)(c:sc.isGenerator=false:=by rfl)(d:N.Nodup:=by decide +kernel)(e:N.take P.length=P:=by rfl)
 (f:∀x∈P,sc.names.lookup x=ab .local\/sc.names.lookup x=ab .cell:=by decide +kernel) (g:∀y∈sc.names,y.2≠.free:=by decide +kernel):cg N P sc:=⟨a,b,c,d,e,f,g⟩
section
variable{M:Nat->Bool}[Tb:bD]
theorem bC(i:Nat)(hm:M i=false:=by rfl):AE M qV (dB i) (Mi.mV i):=Gi i hm
theorem aW(i:Nat)(hm:M i=false:=by rfl):AW M qV (dB i) (Mi.wD (Mi.mV i)):=AE.w (Gi i hm)
end
section
variable{X:Cx}{e:aY}{te:TE}{pos pos':Pos}{x:Str}
theorem pS(i:Nat)(he:PE X e te)(hN:X.N.Nodup:=by assumption)(hi:X.N[i]? = ab x:=by rfl)(hx:Loc X.env.scope x:=by exact dM rfl)(hs:swapsWith e (ab (.Name x pos')) pos.line X.env=pure false:=by rfl)
 (hf:X.fn x=true\/X.env.scope.names.lookup x=ab .local:=by first|exact .inl rfl|exact .inr rfl|assumption):PS X (.Assign [.Name x pos'] e pos) (gI te (eS i)):=nQ hN hi hx he hs hf
theorem pG(i:Nat)(hN:X.N.Nodup:=by assumption)(hi:X.N[i]? = ab x:=by rfl)(hx:Loc X.env.scope x:=by exact dM rfl)
 (hf:X.fn x=true\/X.env.scope.names.lookup x=ab .local:=by first|exact .inl rfl|exact .inr rfl|assumption):L2.PG X (.Name x pos) (eS i):=d5 hN hi hx hf
theorem nV{a:Str}:[a].Nodup:=kP.mpr ⟨(λh=>nomatch h),List.nodup_nil⟩
theorem na{a b:Str}(h:a≠b:=by decide):[a,b].Nodup:=kP.mpr ⟨λz=>h (cr.mp z),nV⟩
theorem pC{k k':Nat}{ps:List Str}{sp:Sp}{es:List aY}{t:TA}(C:bK X.prog X.w X.K X.mg X.base aO k x ps sp)(hr:cO k' X.A)(ha:PA X (e::es) t)(hle:k<=k':=by decide)(hg:Gl X x:=by rfl)
 (hdb:(x==("__debug__" : Str))=false:=by decide) (he:starEach (e::es) X.env=(false,eval e X.env)::starEach es X.env:=by rfl) (hpl:(backTo pos (starEach es X.env)).any (·.1)=false:=by rfl) :
 PE X (.Call (.Name x pos') (e::es) [] pos) (mJ sp [] E0 t):=rg C (hr.mono hle) hg sJ ha hdb he hpl
theorem bb(i:Nat)(hN:X.N[i]? = ab x:=by rfl)(hv:rQ X.env.scope x:=by first|exact dM rfl|exact gj (dM rfl)|exact gj (gj rfl))(hd:(x==("__debug__" : Str))=false:=by decide)
 (hcd:(x==("__classdict__" : Str))=false:=by decide) (hs:starEach [Expr.Name x pos] X.env=(false,eval (.Name x pos) X.env)::starEach [] X.env:=by rfl):PA X [.Name x pos] (fR (dB i) gU):=aD (pv i hN hv hd hcd) bj hs
theorem pX{a b:aY}{ta tb:TE}(ha:PE X a ta)(hb:PE X b tb)(hs:Eb b:=by exactλ_ _=>rfl):PE X (.Subscript a b pos) (kj (nS X.K) ta tb):=wZ zv ha hb hs
end
end A
namespace oG
open PySem L2 PyProof.Rows A
open Mr
def vd(x:Str):Str:=x ++ ".<locals>." ++ "<lambda>"
def top(i:Nat):bw:=PySem.Challenge.pw_arrowfind_k13_open_roads_walked.main.body.getD i (.Pass ⟨0,0,0,0⟩)
structure Txt(mg:Str->Option ah):Prop where
 cv:mg "len" = ac
 iD:mg "range" = ac
 rH:mg "max" = ac
 zD:mg "min" = ac
 kw:mg "tuple" = ac
 jM:mg "list" = ac
 qx:mg "isinstance" = ac
 QA:mg "all" = ac
 yV:mg "any" = ac
 QB:mg "bool" = ac
 Ht:mg "str" = ac
 QC:mg "int" = ac
 Hu:mg "zip" = ac
 Qc:mg "enumerate" = ac
 QD:mg "sorted" = ac
 Qd:mg "reversed" = ac
 QE:mg "set" = ac
section
variable{P:br}{w:bd}{K:aP}{mg:Str->Option ah}{base:aR}[Tb:bD]
abbrev xE:bw:=top 26
theorem Jz:cg ["_law_script","_law_k","_law_spare"] ["_law_script","_law_k"] (bA xE):=cU
theorem Og{f:ag}{fd:bG}(F:b8 K "_law_cell" "_law_cell" xE f fd)(T:Txt mg):bJ P w K mg base aO 1 f fd ["_law_script","_law_k"] (aI eY):=
 fN (Mo []) F Jz (λcdv A outer s H E hr nd hu bu=>by
  exact⟨_,(aV (dy (cA nL (pv 1) (dF fB rfl T.cv fH (bb 0)) (du _))
 (bc (bT (pX (pv 0) (pv 1))))
 dD)
 (aV (pS 2 (aS dQ aF (aS fQ (aS fQ aF (pv 1)) (pv 1))))
 (aV (dy (cA Er (dF fB rfl T.cv fH (bb 0)) aF (du _))
 (bc (pS 2 (aS dQ (pv 2) (aS fQ (aS dw (pX (pv 0) aF) aF) (aS dQ (aS dQ (aS fQ (pv 1) (pv 1)) (aS fQ aF (pv 1))) aF)))))
 dD)
 (bc (bT (pv 2)))))),
  (a7 (dX (cD (AE.p (ax n6 (av 1) (AE.p (dq cv (be (av 0) bx))))))
 (dh (AE.w (ax bE (av 0) (av 1))))
 d8)
 (a7 (dG 2 rfl (ax dN (AE.p aG) (AE.p (ax fK (AE.p (ax fK (AE.p aG) (av 1))) (av 1)))))
 (a7 (dX (cD (AE.p (ax F8 (AE.p (dq cv (be (av 0) bx))) (AE.p aG))))
 (dG 2 rfl (ax dN (av 2) (AE.p (ax fK (AE.p (ax dv (AE.p (ax bE (av 0) (AE.p aG))) (AE.p aG))) (AE.p (ax dN (AE.p (ax dN (AE.p (ax fK (av 1) (av 1))) (AE.p (ax fK (AE.p aG) (av 1))))) (AE.p aG)))))))
 d8)
 (dh (aW 2)))))⟩)
abbrev yq:bw:=top 27
theorem N0:cg ["_law_cell_here","_law_many","_law_letters","_law_long","_law_size","_law_stem","_law_at"] ["_law_cell_here","_law_many"] (bA yq):=cU
theorem Lf{f:ag}{fd:bG}(F:b8 K "_law_words" "_law_words" yq f fd)(T:Txt mg):bJ P w K mg base aO 1 f fd ["_law_cell_here","_law_many"] (cI qY):=
 okN (Mo []) F N0 (λcdv A outer s H E hr nd hu bu=>by
  exact⟨_,(aV (nQ (i:=2) nd rfl (gj rfl) xI)
 (aV (dy (cA nL (aS dw (pv 0) aF) aF (du _))
 (aV (nQ (i:=3) nd rfl (gj rfl) (gD GR GS GU CD xI (aD (gN (N':=["_law_letters","_law_cell_here","_law_k"]) (ρ:=[ab 2,ab 0,ac]) rfl (eF.of rfl (by kernel_rfl)) (j6 rfl T.iD (aD aF bj)) (λ_ _ _ _ _=>(d5 (i:=2) (by show(["_law_letters","_law_cell_here","_law_k"]:List Str).Nodup;decide +kernel) rfl (dM rfl))) (gr rfl) (λ_ _ _ _ _=>kF) (λ_ _ _ _ _=>(pX (pv 0) (aS dw (aS iz (pv 1) (aS dQ aF (aS fQ aF (pv 2)))) aF)))) bj)))
 (aV (dy (cA (ke bu) (aS dw (pv 0) aF) aF (du _))
 (bc (bT (gN (N':=["_law_long","_law_k"]) (ρ:=[ab 3,ac]) rfl (eF.of rfl (by kernel_rfl)) (j6 rfl T.iD (bb 1)) (λ_ _ _ _ _=>(d5 (i:=1) na rfl (dM rfl))) (gr rfl) (λ_ _ _ _ _=>kF) (λ_ _ _ _ _=>(lc ll (pv 0) mo (kI (aS dQ (pv 1) aF)))))))
 dD)
 (bc (bT (gN (N':=["_law_long","_law_k"]) (ρ:=[ab 3,ac]) rfl (eF.of rfl (by kernel_rfl)) (j6 rfl T.iD (bb 1)) (λ_ _ _ _ _=>(d5 (i:=1) na rfl (dM rfl))) (gr rfl) (λ_ _ _ _ _=>kF) (λ_ _ _ _ _=>(lc ll (pv 0) (kI (aS lv aF (pv 1))) mo)))))))
 dD)
 (aV (pS 4 (aS dw (aS iz (pv 0) aF) aF))
 (aV (nQ (i:=5) nd rfl (gj rfl) (gD GR GS GU CD xI (aD (gN (N':=["_law_letters","_law_cell_here","_law_k"]) (ρ:=[ab 2,ab 0,ac]) rfl (eF.of rfl (by kernel_rfl)) (j6 rfl T.iD (bb 4)) (λ_ _ _ _ _=>(d5 (i:=2) (by show(["_law_letters","_law_cell_here","_law_k"]:List Str).Nodup;decide +kernel) rfl (dM rfl))) (gr rfl) (λ_ _ _ _ _=>kF) (λ_ _ _ _ _=>(pX (pv 0) (aS dw (aS dQ (aS dQ (aS iz (pv 1) aF) (aS fQ aF (pv 2))) (aS fQ (pv 2) (pv 2))) aF)))) bj)))
 (aV (nQ (i:=6) nd rfl (gj rfl) (aS dw (aS iz (pv 0) aF) (aS dQ (pv 4) aF)))
 (bc (bT (gN (N':=["_law_stem","_law_letters","_law_at","_law_cell_here","_law_k"]) (ρ:=[ab 5,ab 2,ab 6,ab 0,ac]) rfl (eF.of rfl (by kernel_rfl)) (j6 rfl T.iD (bb 1)) (λ_ _ _ _ _=>(d5 (i:=4) (by show(["_law_stem","_law_letters","_law_at","_law_cell_here","_law_k"]:List Str).Nodup;decide +kernel) rfl (dM rfl))) (gr rfl) (λ_ _ _ _ _=>kF) (λ_ _ _ _ _=>(aS dQ (aS dQ (lc ll (pv 0) mo (kI (pv 2))) (pX (pv 1) (aS dw (aS dQ (aS iz (pv 3) aF) (aS fQ aF (pv 4))) aF))) (lc ll (pv 0) (kI (pv 2)) mo))))))))))),
  (a7 (dG 2 rfl wT)
 (a7 (dX (cD (AE.p (ax n6 (AE.p (ax dv (av 0) (AE.p aG))) (AE.p aG))))
 (a7 (dG 3 rfl (D8 (AE.p wT) (AE.np (fY (K:=K) (tg:=(.n 2)) (fm.c (j5 (AE.p aG))) (by decide) kg (ax bE (av 0) (AE.p (ax dv (AE.p (ax ik (av 1) (AE.p (ax dN (AE.p aG) (AE.p (ax fK (AE.p aG) (av 2))))))) (AE.p aG))))))))
 (a7 (dX (cD (AE.p (ax kK (AE.p (ax dv (av 0) (AE.p aG))) (AE.p aG))))
 (jA (AE.w (fY (K:=K) (tg:=(.n 1)) (fm.c (j5 (av 1))) (by decide) kg (lj k9 (av 0) mx (kH (AE.p (ax dN (av 1) (AE.p aG))))))))
 d8)
 (jA (AE.w (fY (K:=K) (tg:=(.n 1)) (fm.c (j5 (av 1))) (by decide) kg (lj k9 (av 0) (kH (AE.p (ax li (AE.p aG) (av 1)))) mx))))))
 d8)
 (a7 (dG 4 rfl (ax dv (AE.p (ax ik (av 0) (AE.p aG))) (AE.p aG)))
 (a7 (dG 5 rfl (D8 (AE.p wT) (AE.np (fY (K:=K) (tg:=(.n 2)) (fm.c (j5 (av 4))) (by decide) kg (ax bE (av 0) (AE.p (ax dv (AE.p (ax dN (AE.p (ax dN (AE.p (ax ik (av 1) (AE.p aG))) (AE.p (ax fK (AE.p aG) (av 2))))) (AE.p (ax fK (av 2) (av 2))))) (AE.p aG))))))))
 (a7 (dG 6 rfl (ax dv (AE.p (ax ik (av 0) (AE.p aG))) (AE.p (ax dN (av 4) (AE.p aG)))))
 (jA (AE.w (fY (K:=K) (tg:=(.n 4)) (fm.c (j5 (av 1))) (by decide) kg (ax dN (AE.p (ax dN (AE.p (lj k9 (av 0) mx (kH (av 2)))) (AE.p (ax bE (av 1) (AE.p (ax dv (AE.p (ax dN (AE.p (ax ik (av 3) (AE.p aG))) (AE.p (ax fK (AE.p aG) (av 4))))) (AE.p aG))))))) (AE.p (lj k9 (av 0) (kH (av 2)) mx)))))))))))⟩)
abbrev yZ:bw:=top 28
theorem MU:cg ["_law_cell_here","_law_many","_law_left","_law_ranks_here","_law_draw","_law_k"] ["_law_cell_here","_law_many"] (bA yZ):=cU
theorem JH{f:ag}{fd:bG}(F:b8 K "_law_ranks" "_law_ranks" yZ f fd)(T:Txt mg):bJ P w K mg base aO 1 f fd ["_law_cell_here","_law_many"] (cI q8):=
 okN (Mo [2,3]) F MU (λcdv A outer s H E hr nd hu bu=>by
  exact⟨_,(aV (xW (i:=2) (N':=["_law_k"]) (ρ:=[ac]) rfl nd rfl (dM rfl) (eF.of rfl (by kernel_rfl)) (j6 rfl T.iD (bb 1)) (λ_ _ _ _ _=>(d5 (i:=0) nV rfl (dM rfl))) (gr rfl) (λ_ _ _ _ _=>kF) (λ_ _ _ _ _=>(pv 0)))
 (aV (pS 3 (fF bj))
 (aV (pS 4 (aS dw (pv 0) aF))
 (aV (gB fi rfl (j6 rfl T.iD (bb 1)) (pG 5)
 (aV (pS 4 (aS dw (aS dQ (aS dQ (aS fQ (pv 4) aF) (aS fQ aF (pv 5))) aF) aF))
 (bc (eR (gD fJ kT kU j9 (pv 3) (aD (gD fJ tL tM ux (pv 2) (aD (aS dw (aS iz (pv 4) aF) (dF fB rfl T.cv fH (bb 2))) bj)) bj))))))
 (bc (bT (pv 3))))))),
  (a7 (jw 2 rfl (fY (K:=K) (tg:=(.n 0)) (fm.c (j5 (av 1))) (by decide) kg (bC 0)))
 (a7 (jw 3 rfl (ft bx))
 (a7 (dG 4 rfl (ax dv (av 0) (AE.p aG)))
 (a7 (gX (K:=K) (tg:=(.n 5)) (j5 (av 1)) (by decide)
 (a7 (dG 4 rfl (ax dv (AE.p (ax dN (AE.p (ax dN (AE.p (ax fK (av 4) (AE.p aG))) (AE.p (ax fK (AE.p aG) (av 5))))) (AE.p aG))) (AE.p aG)))
 (Ov 3 2 (by decide) rfl rfl (AE.p (ax dv (AE.p (ax ik (av 4) (AE.p aG))) (AE.p (dq cv (be (av 2) bx))))))))
 (sr 3 rfl)))))⟩)
abbrev xZ:bw:=top 29
theorem O1:cg ["_law_script","_law_most","_law_many","_law_names","_law_ranks_here","_law_thick","_law_arrows","_law_j","_law_k","_law_cell_here"] ["_law_script","_law_most"] (bA xZ):=cU
theorem O3{f:ag}{fd:bG}(F:b8 K "_law_net" "_law_net" xZ f fd)(T:Txt mg)(i6:bK P w K mg base aO 1 "_law_cell" ["_law_script","_law_k"] (aI eY))(Av:bK P w K mg base aO 1 "_law_words" ["_law_cell_here","_law_many"] (cI qY))(Aw:bK P w K mg base aO 1 "_law_ranks" ["_law_cell_here","_law_many"] (cI q8)):bJ P w K mg base aO 2 f fd ["_law_script","_law_most"] (aI sE):=
 fN (Mo [6]) F O1 (λcdv A outer s H E hr nd hu bu=>by
  exact⟨_,(aV (pS 2 (aS dQ aF (aS dw (pC i6 hr (aD (pv 0) (aD aF bj))) (pv 1))))
 (aV (pS 3 (pC Av hr (aD (pC i6 hr (aD (pv 0) (aD aF bj))) (bb 2))))
 (aV (pS 4 (pC Aw hr (aD (pC i6 hr (aD (pv 0) (aD aF bj))) (bb 2))))
 (aV (pS 5 (wZ zv (fF (aD aF (aD aF (aD aF (aD aF (aD aF (aD aF bj))))))) (aS dw (pC i6 hr (aD (pv 0) (aD aF bj))) aF) (λ_ _=>rfl)))
 (aV (pS 6 (fF bj))
 (aV (gB fi rfl (j6 rfl T.iD (bb 2)) (pG 7)
 (bc (gB fi rfl (j6 rfl T.iD (bb 2)) (pG 8)
 (aV (pS 9 (pC i6 hr (aD (pv 0) (aD (aS dQ (aS dQ aF (aS iz (aS fQ (dF (Ew rfl) rfl T.rH boot_max (aD (pv 7) (bb 8))) (aS lv (dF (Ew rfl) rfl T.rH boot_max (aD (pv 7) (bb 8))) aF)) aF)) (dF (Kr rfl) rfl T.zD boot_min (aD (pv 7) (bb 8)))) bj))))
 (bc (dy (PW.pt (pw_and (cA nL (pX (pv 4) (pv 7)) (pX (pv 4) (pv 8)) (du _)) (pw_and1 (cA nL (aS dw (aS iz (aS dw (aS fQ (pv 9) aF) aF) aF) aF) (pv 5) (du _)))))
 (bc (eR (gD fJ kT kU j9 (pv 6) (aD (iG (aD (pX (pv 3) (pv 7)) (aD (pX (pv 3) (pv 8)) bj))) bj))))
 dD))))))
 (bc (bT (iG (aD (lA uf rfl T.kw tP (bb 3)) (aD (lA uf rfl T.kw tP (bb 6)) bj))))))))))),
  (a7 (dG 2 rfl (ax dN (AE.p aG) (AE.p (ax dv (AE.p (cR (aJ (aW 0) (aJ (AE.w aG) bQ)))) (av 1)))))
 (a7 (dG 3 rfl (AE.nv (ip (aJ (AE.w (cR (aJ (aW 0) (aJ (AE.w aG) bQ)))) (aJ (aW 2) bQ)))))
 (a7 (dG 4 rfl (AE.nv (ip (aJ (AE.w (cR (aJ (aW 0) (aJ (AE.w aG) bQ)))) (aJ (aW 2) bQ)))))
 (a7 (dG 5 rfl (ax bE (AE.np (ft (be aG (be aG (be aG (be aG (be aG (be aG bx)))))))) (AE.p (ax dv (AE.p (cR (aJ (aW 0) (aJ (AE.w aG) bQ)))) (AE.p aG)))))
 (a7 (jw 6 rfl (ft bx))
 (a7 (gX (K:=K) (tg:=(.n 7)) (j5 (av 2)) (by decide)
 (gX (K:=K) (tg:=(.n 8)) (j5 (av 2)) (by decide)
 (a7 (dG 9 rfl (cR (aJ (aW 0) (aJ (AE.w (ax dN (AE.p (ax dN (AE.p aG) (AE.p (ax ik (AE.p (ax fK (AE.p (dq rH (be (av 7) (be (av 8) bx)))) (AE.p (ax li (AE.p (dq rH (be (av 7) (be (av 8) bx)))) (AE.p aG))))) (AE.p aG))))) (AE.p (dq zD (be (av 7) (be (av 8) bx)))))) bQ))))
 (dX (sW (cD (AE.p (ax n6 (AE.p (ax bE (av 4) (av 7))) (AE.p (ax bE (av 4) (av 8)))))) (cD (AE.p (ax n6 (AE.p (ax dv (AE.p (ax ik (AE.p (ax dv (AE.p (ax fK (av 9) (AE.p aG))) (AE.p aG))) (AE.p aG))) (AE.p aG))) (av 5)))))
 (lI 6 rfl (jb (be (ax bE (av 3) (av 7)) (be (ax bE (av 3) (av 8)) bx))))
 d8))))
 (dh (AE.w (jb (be (dq kw (be (av 3) bx)) (be (dq kw (be (av 6) bx)) bx)))))))))))⟩)
abbrev x5:bw:=top 30
theorem PX:cg ["_law_script","_law_most","_law_cell_here","_law_more","_law_first"] ["_law_script","_law_most"] (bA x5):=cU
theorem NO{f:ag}{fd:bG}(F:b8 K "_law_two" "_law_two" x5 f fd)(T:Txt mg)(i6:bK P w K mg base aO 1 "_law_cell" ["_law_script","_law_k"] (aI eY))(Ax:bK P w K mg base aO 2 "_law_net" ["_law_script","_law_most"] (aI sE)):bJ P w K mg base aO 3 f fd ["_law_script","_law_most"] (aI r9):=
 fN (Mo []) F PX (λcdv A outer s H E hr nd hu bu=>by
  exact⟨_,(aV (pS 2 (pC i6 hr (aD (pv 0) (aD aF bj))))
 (aV (pS 3 (aS dw (aS iz (pv 2) (aS lv (pv 1) aF)) (aS Lj aF aF)))
 (aV (pS 4 (aS dQ (aS dQ aF (aS dw (pv 2) (aS lv (pv 1) aF))) (aS fQ (pv 1) (pv 3))))
 (bc (bT (pC Ax hr (aD (aS dQ (fF (bb 4)) (lc ll (pv 0) (kI aF) mo)) (bb 1)))))))),
  (a7 (dG 2 rfl (cR (aJ (aW 0) (aJ (AE.w aG) bQ))))
 (a7 (dG 3 rfl (ax dv (AE.p (ax ik (av 2) (AE.p (ax li (av 1) (AE.p aG))))) (AE.p (ax Kb (AE.p aG) (AE.p aG)))))
 (a7 (dG 4 rfl (ax dN (AE.p (ax dN (AE.p aG) (AE.p (ax dv (av 2) (AE.p (ax li (av 1) (AE.p aG))))))) (AE.p (ax fK (av 1) (av 3)))))
 (dh (AE.w (cR (aJ (AE.w (ax dN (AE.np (ft (be (bC 4) bx))) (AE.p (lj k9 (av 0) (kH (AE.p aG)) mx)))) (aJ (aW 1) bQ))))))))⟩)
abbrev x9:bw:=top 31
theorem Jm:cg ["_law_script","_law_many","_law_found","_law_k","_law_cell_here"] ["_law_script","_law_many"] (bA x9):=cU
theorem LZ{f:ag}{fd:bG}(F:b8 K "_law_questions" "_law_questions" x9 f fd)(T:Txt mg)(i6:bK P w K mg base aO 1 "_law_cell" ["_law_script","_law_k"] (aI eY)):bJ P w K mg base aO 2 f fd ["_law_script","_law_many"] (cI qG):=
 okN (Mo [2]) F Jm (λcdv A outer s H E hr nd hu bu=>by
  exact⟨_,(aV (pS 2 (fF (aD (aS dw (pC i6 hr (aD (pv 0) (aD aF bj))) aF) bj)))
 (aV (gB fi rfl (IM rfl T.Qc (lc ll (pv 0) (kI aF) (kI aF))) (kD rfl (eo (pG 3) (eo (pG 4) jx)))
 (bc (dy (cA nL (aS dQ (pv 3) aF) (pv 1) (du _))
 (bc (eR (gD fJ kT kU j9 (pv 2) (aD (aS dw (pv 4) aF) bj))))
 (bc (oJ (aS dw (aS dQ (aS fQ (pX (pv 2) (aS dw (pv 3) (pv 1))) aF) (pv 4)) aF) (Iq (pv 2) (aS dw (pv 3) (pv 1)) set_list))))))
 (bc (bT (pv 2))))),
  (a7 (jw 2 rfl (ft (be (ax dv (AE.p (cR (aJ (aW 0) (aJ (AE.w aG) bQ)))) (AE.p aG)) bx)))
 (a7 (gX (K:=K) (tg:=(.t [3,4])) (LX (lj k9 (av 0) (kH (AE.p aG)) (kH (AE.p aG)))) (by decide)
 (dX (cD (AE.p (ax n6 (AE.p (ax dN (av 3) (AE.p aG))) (av 1))))
 (lI 2 rfl (ax dv (av 4) (AE.p aG)))
 (Kl 2 rfl (ax dv (AE.p (ax dN (AE.p (ax fK (AE.p (ax bE (av 2) (AE.p (ax dv (av 3) (av 1))))) (AE.p aG))) (av 4))) (AE.p aG)) (AE.p (ax dv (av 3) (av 1))))))
 (sr 2 rfl)))⟩)
abbrev ze:bw:=top 8
theorem NR:cg ["names","asked","name"] ["names","asked"] (bA ze):=cU
theorem OI{f:ag}{fd:bG}(F:b8 K "refuse_strangers" "refuse_strangers" ze f fd)(T:Txt mg):bJ P w K mg base aO 1 f fd ["names","asked"] (aI g7):=
 fN (Mo []) F NR (λcdv A outer s H E hr nd hu bu=>by
  exact⟨_,(bc (gB fi rfl (gt (pv 1)) (pG 2)
 (bc (dy (cA (rN bu) (pv 2) (pv 0) rfl)
 (bc Ge)
 dD)))),
  (gX (K:=K) (tg:=(.n 2)) (qb (bC 1)) (by decide)
 (dX (cD (AE.p (ax sR (av 2) (av 0))))
 Es
 d8))⟩)
abbrev xK:bw:=top 9
theorem Mm:cg ["asked","stood","name"] ["asked"] (bA xK):=cU
theorem M7{f:ag}{fd:bG}(F:b8 K "refuse_repeats" "refuse_repeats" xK f fd)(T:Txt mg):bJ P w K mg base aO 1 f fd ["asked"] (aI sA):=
 fN (Mo [1]) F Mm (λcdv A outer s H E hr nd hu bu=>by
  exact⟨_,(aV (pS 1 Nv)
 (bc (gB fi rfl (gt (pv 0)) (pG 2)
 (aV (dy (vp (D6 hu (pv 2) (pv 1)) rfl)
 (bc Ge)
 dD)
 (bc (ua hu (pv 1) (pv 2) eP rfl)))))),
  (a7 (yB 1 rfl Py)
 (gX (K:=K) (tg:=(.n 2)) (qb (bC 0)) (by decide)
 (a7 (dX (fo (AE.p (EF 1 (bC 2))))
 Es
 d8)
 (vD 1 rfl (bC 2) eW))))⟩)
abbrev wU:bw:=top 10
theorem OV:cg ["names","asked"] ["names","asked"] (bA wU):=cU
theorem NE{f:ag}{fd:bG}(F:b8 K "refuse_wrong_asks" "refuse_wrong_asks" wU f fd)(T:Txt mg)(hX:bK P w K mg base aO 1 "refuse_strangers" ["names","asked"] (aI g7))(Ay:bK P w K mg base aO 1 "refuse_repeats" ["asked"] (aI sA)):bJ P w K mg base aO 2 f fd ["names","asked"] (aI qM):=
 fN (Mo []) F OV (λcdv A outer s H E hr nd hu bu=>by
  exact⟨_,(aV (eR (pC hX hr (aD (pv 0) (bb 1))))
 (bc (eR (pC Ay hr (bb 1))))),
  (a7 (nF (AE.p (cR (aJ (aW 0) (aJ (aW 1) bQ)))))
 (nF (AE.p (cR (aJ (aW 1) bQ)))))⟩)
abbrev yX:bw:=top 13
theorem Ln:cg ["net","road","meetings","before","name","behind"] ["net","road"] (bA yX):=cU
theorem Mv{f:ag}{fd:bG}(F:b8 K "meetings_of" "meetings_of" yX f fd)(T:Txt mg)(hX:bK P w K mg base aO 1 "refuse_strangers" ["names","asked"] (aI g7)):bJ P w K mg base aO 2 f fd ["net","road"] (cI oX):=
 okN (Mo [2]) F Ln (λcdv A outer s H E hr nd hu bu=>by
  exact⟨_,(aV (eR (pC hX hr (aD (pX (pv 0) aF) (bb 1))))
 (aV (pS 2 (fF bj))
 (aV (gB fi rfl (Zp.Iw rfl T.Hu (pv 1) (lc ll (pv 1) (kI aF) mo) (lc ll (pv 1) (kI aF) mo)) (kD rfl (eo (pG 3) (eo (pG 4) (eo (pG 5) jx))))
 (bc (dy (PW.pt (pw_and (cA (jI bu) (iG (aD (pv 3) (bb 4))) (pX (pv 0) aF) rfl) (pw_and1 (cA (jI bu) (iG (aD (pv 5) (bb 4))) (pX (pv 0) aF) rfl))))
 (bc (eR (gD fJ kT kU j9 (pv 2) (bb 4))))
 dD)))
 (bc (bT (pv 2)))))),
  (a7 (nF (AE.p (cR (aJ (AE.w (ax bE (av 0) (AE.p aG))) (aJ (aW 1) bQ)))))
 (a7 (jw 2 rfl (ft bx))
 (a7 (gX (K:=K) (tg:=(.t [3,4,5])) (Zp.Mq (bC 1) (lj k9 (av 1) (kH (AE.p aG)) mx) (lj k9 (av 1) (kH (AE.p aG)) mx)) (by decide)
 (dX (sW (cD (AE.p (ax jN (AE.p (jb (be (bC 3) (be (bC 4) bx)))) (AE.p (ax bE (av 0) (AE.p aG)))))) (cD (AE.p (ax jN (AE.p (jb (be (bC 5) (be (bC 4) bx)))) (AE.p (ax bE (av 0) (AE.p aG)))))))
 (lI 2 rfl (bC 4))
 d8))
 (sr 2 rfl))))⟩)
abbrev y3:bw:=top 11
theorem L8:cg ["names","steps","name","found","waiting","here","start","end"] ["names","steps","name"] (bA y3):=cU
theorem OL{f:ag}{fd:bG}(F:b8 K "names_along" "names_along" y3 f fd)(T:Txt mg):bJ P w K mg base aO 1 f fd ["names","steps","name"] (cI sM):=
 okN (Mo [3,4]) F L8 (λcdv A outer s H E hr nd hu bu=>by
  exact⟨_,(aV (nQ (i:=3) nd rfl (gj rfl) (Zp.Px (pv 2) eP))
 (aV (pS 4 (fF (bb 2)))
 (aV (uC fi (pP (pv 4) (by intro _;rfl))
 (aV (pS 5 (sG fJ tL tM Ja (pv 4)))
 (bc (gB fi rfl (gt (pv 1)) (kD rfl (eo (pG 6) (eo (pG 7) jx)))
 (bc (dy (PW.pt (pw_and (cA (ke bu) (pv 6) (pv 5) (du _)) (pw_and1 (vp (E5 hu (pv 7) (pv 3)) rfl))))
 (aV (ua hu (pv 3) (pv 7) eP rfl)
 (bc (eR (gD fJ kT kU j9 (pv 4) (bb 7)))))
 dD))))))
 (bc (bT (gN (N':=["found","each"]) (ρ:=[ab 3,ac]) rfl (eF.of rfl (by kernel_rfl)) (gt (pv 0)) (λ_ _ _ _ _=>(d5 (i:=1) na rfl (dM rfl))) (gr rfl) (λ_ _ _ _ _=>(ma (vp (D6 hu (pv 1) (pv 0)) rfl))) (λ_ _ _ _ _=>(pv 1)))))))),
  (a7 (yB 3 rfl (Zp.Lw (bC 2) eW))
 (a7 (jw 4 rfl (ft (be (bC 2) bx)))
 (a7 (t5 20 (pO (av 4))
 (a7 (Pt 5 4 rfl rfl)
 (gX (K:=K) (tg:=(.t [6,7])) (qb (bC 1)) (by decide)
 (dX (sW (cD (AE.p (ax kK (av 6) (av 5)))) (fo (AE.p (Dr 3 (bC 7)))))
 (a7 (vD 3 rfl (bC 7) eW)
 (lI 4 rfl (bC 7)))
 d8))))
 (jA (AE.w (fY (K:=K) (tg:=(.n 1)) (k4 (av 0)) (by decide) (fo (AE.p (EF 0 (bC 1)))) (bC 1)))))))⟩)
abbrev wW:bw:=top 7
theorem OP:cg ["net","name"] ["net","name"] (bA wW):=cU
theorem N5{f:ag}{fd:bG}(F:b8 K "names_below" "names_below" wW f fd)(T:Txt mg)(hX:bK P w K mg base aO 1 "refuse_strangers" ["names","asked"] (aI g7))(Az:bK P w K mg base aO 1 "names_along" ["names","steps","name"] (cI sM)):bJ P w K mg base aO 2 f fd ["net","name"] (cI rE):=
 okN (Mo []) F OP (λcdv A outer s H E hr nd hu bu=>by
  exact⟨_,(aV (eR (pC hX hr (aD (pX (pv 0) aF) (aD (fF (bb 1)) bj))))
 (bc (bT (pC Az hr (aD (pX (pv 0) aF) (aD (pX (pv 0) aF) (bb 1))))))),
  (a7 (nF (AE.p (cR (aJ (AE.w (ax bE (av 0) (AE.p aG))) (aJ (AW.nv (AE.w (ft (be (bC 1) bx)))) bQ)))))
 (jA (AE.w (ip (aJ (AE.w (ax bE (av 0) (AE.p aG))) (aJ (AE.w (ax bE (av 0) (AE.p aG))) (aJ (aW 1) bQ)))))))⟩)
abbrev zo:bw:=top 14
theorem Iu:cg ["net","name","held"] ["net","name","held"] (bA zo):=cU
theorem K0{f:ag}{fd:bG}(F:b8 K "has_held_below" "has_held_below" zo f fd)(T:Txt mg)(AB:bK P w K mg base aO 2 "names_below" ["net","name"] (cI rE)):bJ P w K mg base aO 3 f fd ["net","name","held"] (aI kh):=
 fN (Mo []) F Iu (λcdv A outer s H E hr nd hu bu=>by
  exact⟨_,(bc (bT (dF (MK rfl) rfl T.yV boot_any (aD (gN (N':=["held","below"]) (ρ:=[ab 2,ac]) rfl (eF.of rfl (by kernel_rfl)) (gt (pC AB hr (aD (pv 0) (bb 1)))) (λ_ _ _ _ _=>(d5 (i:=1) na rfl (dM rfl))) (gr rfl) (λ_ _ _ _ _=>kF) (λ_ _ _ _ _=>(lf (jI bu) (pv 1) (pv 0) rfl))) bj)))),
  (dh (AE.w (dq yV (be (AE.np (fY (K:=K) (tg:=(.n 1)) (k4 (AE.np (ip (aJ (aW 0) (aJ (aW 1) bQ))))) (by decide) kg (ax jN (av 1) (av 0)))) bx))))⟩)
abbrev yA:bw:=top 6
theorem MJ:cg ["net","name"] ["net","name"] (bA yA):=cU
theorem NY{f:ag}{fd:bG}(F:b8 K "heirs_of" "heirs_of" yA f fd)(T:Txt mg)(hX:bK P w K mg base aO 1 "refuse_strangers" ["names","asked"] (aI g7)):bJ P w K mg base aO 2 f fd ["net","name"] (aI lB):=
 fN (Mo []) F MJ (λcdv A outer s H E hr nd hu bu=>by
  exact⟨_,(aV (eR (pC hX hr (aD (pX (pv 0) aF) (aD (fF (bb 1)) bj))))
 (bc (bT (lA uf rfl T.kw tP (aD (gN (N':=["name","tail","head"]) (ρ:=[ab 1,ac,ac]) rfl (eF.of rfl (by kernel_rfl)) (gt (pX (pv 0) aF)) (λ_ _ _ _ _=>(kD rfl (eo (d5 (i:=1) (by show(["name","tail","head"]:List Str).Nodup;decide +kernel) rfl (dM rfl)) (eo (d5 (i:=2) (by show(["name","tail","head"]:List Str).Nodup;decide +kernel) rfl (dM rfl)) jx)))) (BZ (uK rfl (uK rfl ES vG) (Ff vG))) (λ_ _ _ _ _=>(ma (cA (ke bu) (pv 1) (pv 0) (du _)))) (λ_ _ _ _ _=>(pv 2))) bj))))),
  (a7 (nF (AE.p (cR (aJ (AE.w (ax bE (av 0) (AE.p aG))) (aJ (AW.nv (AE.w (ft (be (bC 1) bx)))) bQ)))))
 (dh (AE.w (dq kw (be (AE.np (fY (K:=K) (tg:=(.t [1,2])) (k4 (AE.p (ax bE (av 0) (AE.p aG)))) (by decide) (cD (AE.p (ax kK (av 1) (av 0)))) (bC 2))) bx)))))⟩)
abbrev y6:bw:=top 20
theorem MT:cg ["net","name"] ["net","name"] (bA y6):=cU
theorem ML{f:ag}{fd:bG}(F:b8 K "heir_spots" "heir_spots" y6 f fd)(T:Txt mg)(qy:bK P w K mg base aO 2 "heirs_of" ["net","name"] (aI lB)):bJ P w K mg base aO 3 f fd ["net","name"] (cI lF):=
 okN (Mo []) F MT (λcdv A outer s H E hr nd hu bu=>by
  exact⟨_,(bc (bT (gN (N':=["heir"]) (ρ:=[ac]) rfl (eF.of rfl (by kernel_rfl)) (gt (pC qy hr (aD (pv 0) (bb 1)))) (λ_ _ _ _ _=>(d5 (i:=0) nV rfl (dM rfl))) (gr rfl) (λ_ _ _ _ _=>kF) (λ_ _ _ _ _=>(iG (aD (pv 0) (aD eP bj))))))),
  (jA (AE.w (fY (K:=K) (tg:=(.n 0)) (k4 (AE.p (cR (aJ (aW 0) (aJ (aW 1) bQ))))) (by decide) kg (jb (be (bC 0) (be eW bx))))))⟩)
abbrev ym:bw:=top 5
theorem Oc:cg ["net","name"] ["net","name"] (bA ym):=cU
theorem JX{f:ag}{fd:bG}(F:b8 K "elders_of" "elders_of" ym f fd)(T:Txt mg)(hX:bK P w K mg base aO 1 "refuse_strangers" ["names","asked"] (aI g7)):bJ P w K mg base aO 2 f fd ["net","name"] (aI qZ):=
 fN (Mo []) F Oc (λcdv A outer s H E hr nd hu bu=>by
  exact⟨_,(aV (eR (pC hX hr (aD (pX (pv 0) aF) (aD (fF (bb 1)) bj))))
 (bc (bT (lA uf rfl T.kw tP (aD (gN (N':=["name","tail","head"]) (ρ:=[ab 1,ac,ac]) rfl (eF.of rfl (by kernel_rfl)) (gt (pX (pv 0) aF)) (λ_ _ _ _ _=>(kD rfl (eo (d5 (i:=1) (by show(["name","tail","head"]:List Str).Nodup;decide +kernel) rfl (dM rfl)) (eo (d5 (i:=2) (by show(["name","tail","head"]:List Str).Nodup;decide +kernel) rfl (dM rfl)) jx)))) (BZ (uK rfl (uK rfl ES vG) (Ff vG))) (λ_ _ _ _ _=>(ma (cA (ke bu) (pv 2) (pv 0) (du _)))) (λ_ _ _ _ _=>(pv 1))) bj))))),
  (a7 (nF (AE.p (cR (aJ (AE.w (ax bE (av 0) (AE.p aG))) (aJ (AW.nv (AE.w (ft (be (bC 1) bx)))) bQ)))))
 (dh (AE.w (dq kw (be (AE.np (fY (K:=K) (tg:=(.t [1,2])) (k4 (AE.p (ax bE (av 0) (AE.p aG)))) (by decide) (cD (AE.p (ax kK (av 2) (av 0)))) (bC 1))) bx)))))⟩)
abbrev y0:bw:=top 21
theorem KJ:cg ["net","name"] ["net","name"] (bA y0):=cU
theorem MF{f:ag}{fd:bG}(F:b8 K "elder_spots" "elder_spots" y0 f fd)(T:Txt mg)(AC:bK P w K mg base aO 2 "elders_of" ["net","name"] (aI qZ)):bJ P w K mg base aO 3 f fd ["net","name"] (cI lM):=
 okN (Mo []) F KJ (λcdv A outer s H E hr nd hu bu=>by
  exact⟨_,(bc (bT (gN (N':=["elder"]) (ρ:=[ac]) rfl (eF.of rfl (by kernel_rfl)) (gt (pC AC hr (aD (pv 0) (bb 1)))) (λ_ _ _ _ _=>(d5 (i:=0) nV rfl (dM rfl))) (gr rfl) (λ_ _ _ _ _=>kF) (λ_ _ _ _ _=>(iG (aD (pv 0) (aD eP bj))))))),
  (jA (AE.w (fY (K:=K) (tg:=(.n 0)) (k4 (AE.p (cR (aJ (aW 0) (aJ (aW 1) bQ))))) (by decide) kg (jb (be (bC 0) (be eW bx))))))⟩)
abbrev wN:bw:=top 19
theorem J0:cg ["net","spot","held","name","came_down","passes","goes_up","downs","ups"] ["net","spot","held"] (bA wN):=cU
theorem N9{f:ag}{fd:bG}(F:b8 K "spots_from" "spots_from" wN f fd)(T:Txt mg)(qz:bK P w K mg base aO 3 "has_held_below" ["net","name","held"] (aI kh))(qA:bK P w K mg base aO 3 "heir_spots" ["net","name"] (cI lF))(qB:bK P w K mg base aO 3 "elder_spots" ["net","name"] (cI lM)):bJ P w K mg base aO 4 f fd ["net","spot","held"] (aI pR):=
 fN (Mo []) F J0 (λcdv A outer s H E hr nd hu bu=>by
  exact⟨_,(aV (oJ (pv 1) (kD rfl (eo (pG 3) (eo (pG 4) jx))))
 (aV (pS 5 (lf (rN bu) (pv 3) (pv 2) rfl))
 (aV (pS 6 (y4 (pP (pv 4) (by intro _;rfl)) (pC qz hr (aD (pv 0) (aD (pv 3) (bb 2)))) (pv 5)))
 (aV (pS 7 (y4 (pP (pv 5) (by intro _;rfl)) (pC qA hr (aD (pv 0) (bb 3))) (fF bj)))
 (aV (pS 8 (y4 (pP (pv 6) (by intro _;rfl)) (pC qB hr (aD (pv 0) (bb 3))) (fF bj)))
 (bc (bT (aS dQ (pv 7) (pv 8))))))))),
  (a7 (u7 (K:=K) (.t [3,4]) (by decide) (bC 1))
 (a7 (dG 5 rfl (ax sR (av 3) (av 2)))
 (a7 (dG 6 rfl (y9 (pO (av 4)) (cR (aJ (aW 0) (aJ (aW 3) (aJ (aW 2) bQ)))) (bC 5)))
 (a7 (dG 7 rfl (y9 (pO (av 5)) (AE.nv (ip (aJ (aW 0) (aJ (aW 3) bQ)))) (AE.nv (ft bx))))
 (a7 (dG 8 rfl (y9 (pO (av 6)) (AE.nv (ip (aJ (aW 0) (aJ (aW 3) bQ)))) (AE.nv (ft bx))))
 (dh (AE.w (ax dN (av 7) (av 8)))))))))⟩)
abbrev wK:bw:=top 18
theorem B0:cg ["starts","onward","before","waiting","spot","here"] ["starts","onward"] (bA wK):=cU
theorem PR{f:ag}{fd:bG}(F:b8 K "spots_walked" "spots_walked" wK f fd)(T:Txt mg):sn P w K mg base 6 f fd ["starts","onward"] 5 (vK t0) (λκ=>cI (uw κ)):=
 Pe F B0 (λκ vs H Q E h=>yf h) (λcdv A outer s H vs Q κ us hr L kp h=>by
  have nd:=B0.nd;have hu:=qJ hr;have bu:=hr.units;exact⟨_,(aV (pS 2 OG)
 (aV (pS 3 (fF bj))
 (aV (gB fi rfl (gt (pv 0)) (pG 4)
 (aV (ua hu (pv 2) (pv 4) sZ rfl)
 (bc (eR (gD fJ kT kU j9 (pv 3) (bb 4))))))
 (aV (uC fi (pP (pv 3) (by intro _;rfl))
 (aV (pS 5 (gD fJ tL tM ux (pv 3) (aD aF bj)))
 (bc (gB fi rfl (gt (NF L kp rfl (hr.mono (by decide)) (pv 1) (pv 5))) (pG 4)
 (bc (dy (vp (E5 hu (pv 4) (pv 2)) rfl)
 (aV (ua hu (pv 2) (pv 4) (pv 5) rfl)
 (bc (eR (gD fJ kT kU j9 (pv 3) (bb 4)))))
 dD))))))
 (bc (bT (pv 2))))))),
  _root_.A.runN (N:=["starts","onward","before","waiting","spot","here"]) (M:=Mo [2,3]) (a7 (yB 2 rfl NM)
 (a7 (jw 3 rfl (ft bx))
 (a7 (gX (K:=K) (tg:=(.n 4)) (qb (bC 0)) (by decide)
 (a7 (vD 2 rfl (bC 4) uV)
 (lI 3 rfl (bC 4))))
 (a7 (t5 40 (pO (av 3))
 (a7 (za 5 3 rfl rfl (AE.p aG))
 (gX (K:=K) (tg:=(.n 4)) (qb (P0 rfl (bC 5))) (by decide)
 (dX (fo (AE.p (Dr 2 (bC 4))))
 (a7 (vD 2 rfl (bC 4) (bC 5))
 (lI 3 rfl (bC 4)))
 d8))))
 (sr 2 rfl))))) (by decide) h⟩)
abbrev xS:bw:=top 17
theorem Cv:cg ["net","one","held","starts"] ["net","one","held"] (bA xS):=cU
theorem O4{f:ag}{fd:bG}{cc TT:ag}(F:s9 K "spots_before" "spots_before" xS cc f fd)(T:Txt mg)(hB:BM mg base)(hC:iW base cc TT)(hTb:(TT,vd "spots_before")∈Tb.l)(AD:yx P w K mg base 6 "spots_walked" ["starts","onward"] 5 (vK t0) (λκ=>cI (uw κ)))(AF:bK P w K mg base aO 4 "spots_from" ["net","spot","held"] (aI pR))(qA:bK P w K mg base aO 3 "heir_spots" ["net","name"] (cI lF))(qB:bK P w K mg base aO 3 "elder_spots" ["net","name"] (cI lM)):bJ P w K mg base aO 10 f fd ["net","one","held"] (cI nJ):=
 F.ok Cv (λvs H Q E h=>yf h) (λA outer s H vs Q E hr h=>by
  have nd:=Cv.nd;have hu:=qJ hr;have bu:=hr.units;have Qe:=hr.mono (show 6<=_ by decide);have Hw:=hr.mono (show 4<=_ by decide);exact⟨_,(aV (pS 3 (aS dQ (pC qA hr (aD (pv 0) (bb 1))) (pC qB hr (aD (pv 0) (bb 1)))))
 (bc (bT (Oq (lx := "spot") (ρ:=[0,2]) (ys:=["net","held"]) (kl:=4) (qual:=vd "spots_before") AD Qe rfl (pv 3) rfl hC hB rfl rfl rfl (λ_=>rfl) (pc.of rfl rfl rfl rfl (by decide +kernel) (MI rfl rfl) (by kernel_rfl) rfl (by kernel_rfl)) (λpm c' ctv u=>rfl) (λA f c' s H env outer hrl he=>by subst he;have Hw:=hrl.mono (show 4<=_ by decide);exact(rg AF Hw rfl sJ (aD (pv 1) (aD (pv 0) (bb 2))))) (J8 (cR (aJ (aW 1) (aJ (aW 0) (aJ (aW 2) bQ))))))))),
  _root_.A.runN (N:=["net","one","held","starts"]) (M:=Mo []) (a7 (dG 3 rfl (ax dN (AE.np (ip (aJ (aW 0) (aJ (aW 1) bQ)))) (AE.np (ip (aJ (aW 0) (aJ (aW 1) bQ))))))
 (jA (Nd (by decide) hTb L3 (av 3)))) (by decide) h⟩)
abbrev xj:bw:=top 22
theorem MZ:cg ["name","before"] ["name","before"] (bA xj):=cU
theorem PB{f:ag}{fd:bG}(F:b8 K "spots_of" "spots_of" xj f fd)(T:Txt mg):bJ P w K mg base aO 1 f fd ["name","before"] (cI sI):=
 okN (Mo []) F MZ (λcdv A outer s H E hr nd hu bu=>by
  exact⟨_,(bc (bT (gN (N':=["name","spot"]) (ρ:=[ab 0,ac]) rfl (eF.of rfl (by kernel_rfl)) (ND (pv 1)) (λ_ _ _ _ _=>(d5 (i:=1) na rfl (dM rfl))) (gr rfl) (λ_ _ _ _ _=>(ma (cA (ke bu) (pX (pv 1) aF) (pv 0) (du _)))) (λ_ _ _ _ _=>(pv 1))))),
  (jA (AE.w (fY (K:=K) (tg:=(.n 1)) (fm.c (LJ 1 rfl)) (by decide) (cD (AE.p (ax kK (AE.p (ax bE (av 1) (AE.p aG))) (av 0)))) (bC 1))))⟩)
abbrev yr:bw:=top 23
theorem Jt:cg ["spot","before","names"] ["spot","before"] (bA yr):=cU
theorem J4{f:ag}{fd:bG}(F:b8 K "names_up_to" "names_up_to" yr f fd)(T:Txt mg):bJ P w K mg base aO 1 f fd ["spot","before"] (cI pI):=
 okN (Mo [2]) F Jt (λcdv A outer s H E hr nd hu bu=>by
  exact⟨_,(aV (pS 2 (fF bj))
 (aV (uC fi (cA IZ (pv 0) sZ (du _))
 (aV (eR (gD fJ kT kU j9 (pv 2) (aD (pX (pv 0) aF) bj)))
 (bc (pS 0 (L5 hu (pv 1) (pv 0) (λ_ _=>rfl))))))
 (bc (bT (lA (Kv rfl) rfl T.jM oC (aD (lA O2 rfl T.Qd boot_reversed (bb 2)) bj)))))),
  (a7 (jw 2 rfl (ft bx))
 (a7 (t5 40 (cD (AE.p (ax MM (av 0) (AE.p uV))))
 (a7 (lI 2 rfl (ax bE (av 0) (AE.p aG)))
 (dG 0 rfl (Nl 1 (bC 0)))))
 (jA (AE.w (Lu (av 2))))))⟩)
abbrev xf:bw:=top 24
theorem IR:cg ["net","name","held","way","heirs"] ["net","name","held"] (bA xf):=cU
theorem OD{f:ag}{fd:bG}(F:b8 K "way_down" "way_down" xf f fd)(T:Txt mg)(qy:bK P w K mg base aO 2 "heirs_of" ["net","name"] (aI lB))(qz:bK P w K mg base aO 3 "has_held_below" ["net","name","held"] (aI kh)):bJ P w K mg base aO 4 f fd ["net","name","held"] (cI mD):=
 okN (Mo [3]) F IR (λcdv A outer s H E hr nd hu bu=>by
  exact⟨_,(aV (pS 3 (fF (bb 1)))
 (aV (uC fi (cA (rN bu) (pX (pv 3) (uQ vM aF)) (pv 2) rfl)
 (aV (xW (i:=4) (N':=["net","held","heir"]) (ρ:=[ab 0,ab 2,ac]) rfl nd rfl (dM rfl) (eF.of rfl (by kernel_rfl)) (gt (pC qy hr (aD (pv 0) (aD (pX (pv 3) (uQ vM aF)) bj)))) (λ_ _ _ _ _=>(d5 (i:=2) (by show(["net","held","heir"]:List Str).Nodup;decide +kernel) rfl (dM rfl))) (gr rfl) (λ_ _ _ _ _=>(ma (iw (pC qz hr (aD (pv 0) (aD (pv 2) (bb 1))))))) (λ_ _ _ _ _=>(pv 2)))
 (bc (eR (gD fJ kT kU j9 (pv 3) (aD (pX (pv 4) aF) bj))))))
 (bc (bT (pv 3))))),
  (a7 (jw 3 rfl (ft (be (bC 1) bx)))
 (a7 (t5 20 (cD (AE.p (ax sR (AE.p (ax bE (av 3) (AE.p (uX vk (AE.p aG))))) (av 2))))
 (a7 (dG 4 rfl (AE.nv (fY (K:=K) (tg:=(.n 2)) (k4 (AE.p (cR (aJ (aW 0) (aJ (AE.w (ax bE (av 3) (AE.p (uX vk (AE.p aG))))) bQ))))) (by decide) (fo (AE.p (cR (aJ (aW 0) (aJ (aW 2) (aJ (aW 1) bQ)))))) (bC 2))))
 (lI 3 rfl (ax bE (av 4) (AE.p aG)))))
 (sr 3 rfl)))⟩)
abbrev yt:bw:=top 16
theorem EZ:cg ["net","one","other","held","before","ends","road"] ["net","one","other","held"] (bA yt):=cU
theorem Lg{f:ag}{fd:bG}(F:b8 K "open_road" "open_road" yt f fd)(T:Txt mg)(AG:bK P w K mg base aO 2 "refuse_wrong_asks" ["names","asked"] (aI qM))(AH:bK P w K mg base aO 2 "meetings_of" ["net","road"] (cI oX))(AI:bK P w K mg base aO 10 "spots_before" ["net","one","held"] (cI nJ))(AJ:bK P w K mg base aO 1 "spots_of" ["name","before"] (cI sI))(AK:bK P w K mg base aO 1 "names_up_to" ["spot","before"] (cI pI))(AL:bK P w K mg base aO 4 "way_down" ["net","name","held"] (cI mD)):bJ P w K mg base aO 11 f fd ["net","one","other","held"] (mj jh):=
 F.ok EZ (λvs H Q E h=>NA h) (λcdv A outer s H vs Q E hr h=>by
  have nd:=EZ.nd;have hu:=qJ hr;have bu:=hr.units;exact⟨_,(aV (eR (pC AG hr (aD (pX (pv 0) aF) (aD (aS dQ (fF (aD (pv 1) (bb 2))) (lA yT rfl T.jM oC (bb 3))) bj))))
 (aV (pS 4 (JQ (pC AI hr (aD (pv 0) (aD (pv 1) (bb 3))))))
 (aV (pS 5 (pC AJ hr (aD (pv 2) (bb 4))))
 (aV (dy (iQ (pP (pv 5) (by intro _;rfl)))
 (bc (bT sZ))
 dD)
 (aV (pS 6 (aS Ef (fF (bb 1)) (pC AK hr (aD (pX (pv 5) aF) (bb 4)))))
 (bc (bT (iG (aD (pv 6) (aD (gN (N':=["net","held","name"]) (ρ:=[ab 0,ab 3,ac]) rfl (eF.of rfl (by kernel_rfl)) (gt (pC AH hr (aD (pv 0) (bb 6)))) (λ_ _ _ _ _=>(d5 (i:=2) (by show(["net","held","name"]:List Str).Nodup;decide +kernel) rfl (dM rfl))) (gr rfl) (λ_ _ _ _ _=>kF) (λ_ _ _ _ _=>(pC AL hr (aD (pv 0) (aD (pv 2) (bb 1)))))) bj)))))))))),
  _root_.A.IY (N:=["net","one","other","held","before","ends","road"]) (M:=Mo []) (a7 (nF (AE.p (cR (aJ (AE.w (ax bE (av 0) (AE.p aG))) (aJ (AE.w (ax dN (AE.np (ft (be (bC 1) (be (bC 2) bx)))) (AE.np (dq jM (be (av 3) bx))))) bQ)))))
 (a7 (Kt 4 rfl (MC (Gb (aJ (aW 0) (aJ (aW 1) (aJ (aW 3) bQ))))))
 (a7 (dG 5 rfl (AE.nv (ip (aJ (aW 2) (aJ (EG 4 rfl) bQ)))))
 (a7 (dX (iN (pO (av 5)))
 Ot
 d8)
 (Jj 6 rfl (ax KO (AE.np (ft (be (bC 1) bx))) (AE.np (ip (aJ (AE.w (ax bE (av 5) (AE.p aG))) (aJ (EG 4 rfl) bQ))))) (JR (K:=K) (tg:=(.n 2)) (k4 (AE.np (ip (aJ (aW 0) (aJ (aW 6) bQ))))) (by decide) kg (ip (aJ (aW 0) (aJ (aW 2) (aJ (aW 1) bQ)))))))))) (by decide) h⟩)
abbrev zG:bw:=top 32
theorem Pw:cg ["_law_net_here","_law_draw","_law_names","_law_one","_law_other","_law_held","_law_k"] ["_law_net_here","_law_draw"] (bA zG):=cU
theorem JT{f:ag}{fd:bG}(F:b8 K "_law_asked" "_law_asked" zG f fd)(T:Txt mg):bJ P w K mg base aO 1 f fd ["_law_net_here","_law_draw"] (cI pW):=
 okN (Mo [2,5]) F Pw (λcdv A outer s H E hr nd hu bu=>by
  exact⟨_,(aV (pS 2 (lA yT rfl T.jM oC (aD (pX (pv 0) aF) bj)))
 (aV (pS 3 (gD fJ tL tM ux (pv 2) (aD (aS dw (pv 1) (dF fB rfl T.cv fH (bb 2))) bj)))
 (aV (pS 4 (gD fJ tL tM ux (pv 2) (aD (aS dw (aS iz (pv 1) aF) (dF fB rfl T.cv fH (bb 2))) bj)))
 (aV (pS 5 (fF bj))
 (aV (gB fi rfl (j6 rfl T.iD (aD (dF fB rfl T.cv fH (bb 2)) bj)) (pG 6)
 (bc (dy (cA (ke bu) (aS dw (aS iz (aS dw (aS fQ (pv 1) (aS dQ aF (aS fQ (aS fQ aF (pv 6)) (pv 6)))) aF) aF) (aS dQ aF (aS dw (aS iz (pv 1) aF) aF))) aF (du _))
 (bc (eR (gD fJ kT kU j9 (pv 5) (aD (pX (pv 2) (pv 6)) bj))))
 dD)))
 (aV (dy (cA (ke bu) (aS dw (aS iz (pv 1) aF) aF) aF (du _))
 (bc (eR (sG fJ PySem.F.slot_list_reverse PySem.F.type_list_reverse PU (pv 5))))
 dD)
 (bc (bT (fF (aD (pv 3) (aD (pv 4) (bb 5)))))))))))),
  (a7 (jw 2 rfl (dq jM (be (AE.p (ax bE (av 0) (AE.p aG))) bx)))
 (a7 (za 3 2 rfl rfl (AE.p (ax dv (av 1) (AE.p (dq cv (be (av 2) bx))))))
 (a7 (za 4 2 rfl rfl (AE.p (ax dv (AE.p (ax ik (av 1) (AE.p aG))) (AE.p (dq cv (be (av 2) bx))))))
 (a7 (jw 5 rfl (ft bx))
 (a7 (gX (K:=K) (tg:=(.n 6)) (j5 (AE.p (dq cv (be (av 2) bx)))) (by decide)
 (dX (cD (AE.p (ax kK (AE.p (ax dv (AE.p (ax ik (AE.p (ax dv (AE.p (ax fK (av 1) (AE.p (ax dN (AE.p aG) (AE.p (ax fK (AE.p (ax fK (AE.p aG) (av 6))) (av 6))))))) (AE.p aG))) (AE.p aG))) (AE.p (ax dN (AE.p aG) (AE.p (ax dv (AE.p (ax ik (av 1) (AE.p aG))) (AE.p aG))))))) (AE.p aG))))
 (lI 5 rfl (ax bE (av 2) (av 6)))
 d8))
 (a7 (dX (cD (AE.p (ax kK (AE.p (ax dv (AE.p (ax ik (av 1) (AE.p aG))) (AE.p aG))) (AE.p aG))))
 (JY 5 rfl)
 d8)
 (OK 5 rfl (jA (AE.w (ft (be (bC 3) (be (bC 4) (be (bC 5) bx)))))))))))))⟩)
abbrev zu:bw:=top 34
theorem MN:cg ["_law_net_here","_law_road_here","_law_k"] ["_law_net_here","_law_road_here","_law_k"] (bA zu):=cU
theorem Nj{f:ag}{fd:bG}(F:b8 K "_law_meets" "_law_meets" zu f fd)(T:Txt mg):bJ P w K mg base aO 1 f fd ["_law_net_here","_law_road_here","_law_k"] (aI pN):=
 fN (Mo []) F MN (λcdv A outer s H E hr nd hu bu=>by
  exact⟨_,(bc (bT (Ko (lf (jI bu) (iG (aD (pX (pv 1) (aS lv (pv 2) aF)) (aD (pX (pv 1) (pv 2)) bj))) (pX (pv 0) aF) rfl) (DZ (lf (jI bu) (iG (aD (pX (pv 1) (aS dQ (pv 2) aF)) (aD (pX (pv 1) (pv 2)) bj))) (pX (pv 0) aF) rfl))))),
  (dh (AE.w (LR (AE.p (ax jN (AE.p (jb (be (ax bE (av 1) (AE.p (ax li (av 2) (AE.p aG)))) (be (ax bE (av 1) (av 2)) bx)))) (AE.p (ax bE (av 0) (AE.p aG))))) (ax jN (AE.p (jb (be (ax bE (av 1) (AE.p (ax dN (av 2) (AE.p aG)))) (be (ax bE (av 1) (av 2)) bx)))) (AE.p (ax bE (av 0) (AE.p aG)))))))⟩)
abbrev xU:bw:=top 35
theorem Pm:cg ["_law_net_here","_law_down_here","_law_first","_law_held","_law_k"] ["_law_net_here","_law_down_here","_law_first","_law_held"] (bA xU):=cU
theorem K7{f:ag}{fd:bG}(F:b8 K "_law_down" "_law_down" xU f fd)(T:Txt mg):bJ P w K mg base aO 1 f fd ["_law_net_here","_law_down_here","_law_first","_law_held"] (aI nU):=
 fN (Mo []) F Pm (λcdv A outer s H E hr nd hu bu=>by
  exact⟨_,(aV (dy (PW.pt (pw_or (iQ (iw (dF ph rfl T.qx qu (aD (pv 1) (aD (oW rfl T.jM oC) bj))))) (pw_or (cA nL (dF fB rfl T.cv fH (bb 1)) aF (du _)) (pw_or1 (cA (mf bu) (pX (pv 1) aF) (pv 2) (du _))))))
 (bc (bT eP))
 dD)
 (aV (gB fi rfl (uk rfl T.iD (aD aF (aD (dF fB rfl T.cv fH (bb 1)) bj))) (pG 4)
 (bc (dy (PW.pt (pw_or (iQ (iw (dF ph rfl T.qx qu (aD (pX (pv 1) (pv 4)) (aD (oW rfl T.Ht boot_str) bj))))) (pw_or1 (cA (rN bu) (iG (aD (pX (pv 1) (aS lv (pv 4) aF)) (aD (pX (pv 1) (pv 4)) bj))) (pX (pv 0) aF) rfl))))
 (bc (bT eP))
 dD)))
 (aV (dy (cA (jI bu) (pv 2) (pv 3) rfl)
 (bc (bT (lf (ke bu) (dF fB rfl T.cv fH (bb 1)) aF (du _))))
 dD)
 (bc (bT (lf (jI bu) (pX (pv 1) (uQ vM aF)) (pv 3) rfl)))))),
  (a7 (dX (jB (iN (fo (AE.p (oI (ty_list K) (av 1))))) (jB (cD (AE.p (ax n6 (AE.p (dq cv (be (av 1) bx))) (AE.p aG)))) (cD (AE.p (ax mH (AE.p (ax bE (av 1) (AE.p aG))) (av 2))))))
 (dh (AE.w eW))
 d8)
 (a7 (gX (K:=K) (tg:=(.n 4)) (uJ (AE.p aG) (AE.p (dq cv (be (av 1) bx)))) (by decide)
 (dX (jB (iN (fo (AE.p (oI (ty_str K) (AE.p (ax bE (av 1) (av 4))))))) (cD (AE.p (ax sR (AE.p (jb (be (ax bE (av 1) (AE.p (ax li (av 4) (AE.p aG)))) (be (ax bE (av 1) (av 4)) bx)))) (AE.p (ax bE (av 0) (AE.p aG)))))))
 (dh (AE.w eW))
 d8))
 (a7 (dX (cD (AE.p (ax jN (av 2) (av 3))))
 (dh (AE.w (ax kK (AE.p (dq cv (be (av 1) bx))) (AE.p aG))))
 d8)
 (dh (AE.w (ax jN (AE.p (ax bE (av 1) (AE.p (uX vk (AE.p aG))))) (av 3)))))))⟩)
abbrev yI:bw:=top 33
theorem NC:cg ["_law_net_here","_law_one","_law_other"] ["_law_net_here","_law_one","_law_other"] (bA yI):=cU
theorem Jg{f:ag}{fd:bG}(F:b8 K "_law_tied" "_law_tied" yI f fd)(T:Txt mg):bJ P w K mg base aO 1 f fd ["_law_net_here","_law_one","_law_other"] (aI nG):=
 fN (Mo []) F NC (λcdv A outer s H E hr nd hu bu=>by
  exact⟨_,(bc (bT (MR (lf (jI bu) (iG (aD (pv 1) (bb 2))) (pX (pv 0) aF) rfl) (DZ (lf (jI bu) (iG (aD (pv 2) (bb 1))) (pX (pv 0) aF) rfl))))),
  (dh (AE.w (Kc (AE.p (ax jN (AE.p (jb (be (bC 1) (be (bC 2) bx)))) (AE.p (ax bE (av 0) (AE.p aG))))) (ax jN (AE.p (jb (be (bC 2) (be (bC 1) bx)))) (AE.p (ax bE (av 0) (AE.p aG)))))))⟩)
abbrev xA:bw:=top 36
theorem Jf:cg ["_law_net_here","_law_road_here","_law_one","_law_other","_law_k"] ["_law_net_here","_law_road_here","_law_one","_law_other"] (bA xA):=cU
theorem JG{f:ag}{fd:bG}(F:b8 K "_law_road" "_law_road" xA f fd)(T:Txt mg)(AM:bK P w K mg base aO 1 "_law_tied" ["_law_net_here","_law_one","_law_other"] (aI nG)):bJ P w K mg base aO 2 f fd ["_law_net_here","_law_road_here","_law_one","_law_other"] (aI pj):=
 fN (Mo []) F Jf (λcdv A outer s H E hr nd hu bu=>by
  exact⟨_,(aV (dy (PW.pt (pw_or (iQ (iw (dF ph rfl T.qx qu (aD (pv 1) (aD (oW rfl T.jM oC) bj))))) (pw_or (cA nL (dF fB rfl T.cv fH (bb 1)) aF (du _)) (pw_or (cA (mf bu) (pX (pv 1) aF) (pv 2) (du _)) (pw_or1 (cA (mf bu) (pX (pv 1) (uQ vM aF)) (pv 3) (du _)))))))
 (bc (bT eP))
 dD)
 (aV (gB fi rfl (uk rfl T.iD (aD aF (aD (dF fB rfl T.cv fH (bb 1)) bj))) (pG 4)
 (bc (dy (PW.pt (pw_or (iQ (iw (dF ph rfl T.qx qu (aD (pX (pv 1) (pv 4)) (aD (oW rfl T.Ht boot_str) bj))))) (pw_or (cA (jI bu) (pX (pv 1) (pv 4)) (lc ll (pv 1) mo (kI (pv 4))) rfl) (pw_or1 (iQ (iw (pC AM hr (aD (pv 0) (aD (pX (pv 1) (aS lv (pv 4) aF)) (aD (pX (pv 1) (pv 4)) bj))))))))))
 (bc (bT eP))
 dD)))
 (bc (bT eP)))),
  (a7 (dX (jB (iN (fo (AE.p (oI (ty_list K) (av 1))))) (jB (cD (AE.p (ax n6 (AE.p (dq cv (be (av 1) bx))) (AE.p aG)))) (jB (cD (AE.p (ax mH (AE.p (ax bE (av 1) (AE.p aG))) (av 2)))) (cD (AE.p (ax mH (AE.p (ax bE (av 1) (AE.p (uX vk (AE.p aG))))) (av 3)))))))
 (dh (AE.w eW))
 d8)
 (a7 (gX (K:=K) (tg:=(.n 4)) (uJ (AE.p aG) (AE.p (dq cv (be (av 1) bx)))) (by decide)
 (dX (jB (iN (fo (AE.p (oI (ty_str K) (AE.p (ax bE (av 1) (av 4))))))) (jB (cD (AE.p (ax jN (AE.p (ax bE (av 1) (av 4))) (AE.p (lj k9 (av 1) mx (kH (av 4))))))) (iN (fo (AE.p (cR (aJ (aW 0) (aJ (AE.w (ax bE (av 1) (AE.p (ax li (av 4) (AE.p aG))))) (aJ (AE.w (ax bE (av 1) (av 4))) bQ)))))))))
 (dh (AE.w eW))
 d8))
 (dh (AE.w eW))))⟩)
abbrev zj:bw:=top 37
theorem MS:cg ["_law_net_here","_law_found","_law_one","_law_other","_law_held","_law_road_here","_law_downs","_law_inner","_law_k","_law_down_here"] ["_law_net_here","_law_found","_law_one","_law_other","_law_held"] (bA zj):=cU
theorem Me{f:ag}{fd:bG}(F:b8 K "_law_open_told" "_law_open_told" zj f fd)(T:Txt mg)(AN:bK P w K mg base aO 1 "_law_meets" ["_law_net_here","_law_road_here","_law_k"] (aI pN))(AQ:bK P w K mg base aO 1 "_law_down" ["_law_net_here","_law_down_here","_law_first","_law_held"] (aI nU))(AR:bK P w K mg base aO 2 "_law_road" ["_law_net_here","_law_road_here","_law_one","_law_other"] (aI pj)):bJ P w K mg base aO 3 f fd ["_law_net_here","_law_found","_law_one","_law_other","_law_held"] (aI jD):=
 fN (Mo []) F MS (λcdv A outer s H E hr nd hu bu=>by
  exact⟨_,(aV (dy (PW.pt (pw_or (iQ (iw (dF ph rfl T.qx qu (aD (pv 1) (aD (oW rfl T.kw tP) bj))))) (pw_or (cA (mf bu) (dF fB rfl T.cv fH (bb 1)) aF (du _)) (pw_or1 (iQ (iw (dF ph rfl T.qx qu (aD (pX (pv 1) aF) (aD (oW rfl T.jM oC) bj)))))))))
 (bc (bT eP))
 dD)
 (aV (oJ (pv 1) (kD rfl (eo (d5 (i:=5) nd rfl (gj rfl)) (eo (pG 6) jx))))
 (aV (dy (iQ (iw (pC AR hr (aD (pv 0) (aD (pv 5) (aD (pv 2) (bb 3)))))))
 (bc (bT eP))
 dD)
 (aV (nQ (i:=7) nd rfl (gj rfl) (gN (N':=["_law_net_here","_law_road_here","_law_k"]) (ρ:=[ab 0,ab 5,ac]) rfl (eF.of rfl (by kernel_rfl)) (uk rfl T.iD (aD aF (aD (aS lv (dF fB rfl T.cv fH (bb 5)) aF) bj))) (λ_ _ _ _ _=>(d5 (i:=2) (by show(["_law_net_here","_law_road_here","_law_k"]:List Str).Nodup;decide +kernel) rfl (dM rfl))) (gr rfl) (λ_ _ _ _ _=>(ma (iw (pC AN hr (aD (pv 0) (aD (pv 1) (bb 2))))))) (λ_ _ _ _ _=>(pv 2))))
 (aV (dy (cA (mf bu) (dF fB rfl T.cv fH (bb 6)) (dF fB rfl T.cv fH (bb 7)) (du _))
 (bc (bT eP))
 dD)
 (aV (dy (cA Er (dF fB rfl T.cv fH (aD (gN (N':=["_law_inner","_law_held","_law_road_here","_law_k"]) (ρ:=[ab 7,ab 4,ab 5,ac]) rfl (eF.of rfl (by kernel_rfl)) (uk rfl T.iD (aD aF (aD (aS lv (dF fB rfl T.cv fH (bb 5)) aF) bj))) (λ_ _ _ _ _=>(d5 (i:=3) (by show(["_law_inner","_law_held","_law_road_here","_law_k"]:List Str).Nodup;decide +kernel) rfl (dM rfl))) (gr rfl) (λ_ _ _ _ _=>(ma (PW.pt (pw_and (cA (rN bu) (pv 3) (pv 0) rfl) (pw_and1 (cA (jI bu) (pX (pv 2) (pv 3)) (pv 1) rfl)))))) (λ_ _ _ _ _=>(pv 3))) bj)) aF (du _))
 (bc (bT eP))
 dD)
 (aV (gB fi rfl (Zp.Nx rfl T.Hu (pv 7) (pv 6)) (kD rfl (eo (pG 8) (eo (pG 9) jx)))
 (bc (dy (iQ (iw (pC AQ hr (aD (pv 0) (aD (pv 9) (aD (pX (pv 5) (pv 8)) (bb 4)))))))
 (bc (bT eP))
 dD)))
 (bc (bT eP))))))))),
  (a7 (dX (jB (iN (fo (AE.p (oI (ty_tuple K) (av 1))))) (jB (cD (AE.p (ax mH (AE.p (dq cv (be (av 1) bx))) (AE.p aG)))) (iN (fo (AE.p (oI (ty_list K) (AE.p (ax bE (av 1) (AE.p aG)))))))))
 (dh (AE.w eW))
 d8)
 (a7 (u7 (K:=K) (.t [5,6]) (by decide) (bC 1))
 (a7 (dX (iN (fo (AE.p (cR (aJ (aW 0) (aJ (aW 5) (aJ (aW 2) (aJ (aW 3) bQ))))))))
 (dh (AE.w eW))
 d8)
 (a7 (dG 7 rfl (AE.nv (fY (K:=K) (tg:=(.n 2)) (fm.c (uJ (AE.p aG) (AE.p (ax li (AE.p (dq cv (be (av 5) bx))) (AE.p aG))))) (by decide) (fo (AE.p (cR (aJ (aW 0) (aJ (aW 1) (aJ (aW 2) bQ)))))) (bC 2))))
 (a7 (dX (cD (AE.p (ax mH (AE.p (dq cv (be (av 6) bx))) (AE.p (dq cv (be (av 7) bx))))))
 (dh (AE.w eW))
 d8)
 (a7 (dX (cD (AE.p (ax F8 (AE.p (dq cv (be (AE.np (fY (K:=K) (tg:=(.n 3)) (fm.c (uJ (AE.p aG) (AE.p (ax li (AE.p (dq cv (be (av 5) bx))) (AE.p aG))))) (by decide) (sW (cD (AE.p (ax sR (av 3) (av 0)))) (cD (AE.p (ax jN (AE.p (ax bE (av 2) (av 3))) (av 1))))) (bC 3))) bx))) (AE.p aG))))
 (dh (AE.w eW))
 d8)
 (a7 (gX (K:=K) (tg:=(.t [8,9])) (Zp.OB (bC 7) (bC 6)) (by decide)
 (dX (iN (fo (AE.p (cR (aJ (aW 0) (aJ (aW 9) (aJ (AE.w (ax bE (av 5) (av 8))) (aJ (aW 4) bQ))))))))
 (dh (AE.w eW))
 d8))
 (dh (AE.w eW)))))))))⟩)
abbrev zl:bw:=top 38
theorem J9:cg ["_law_net_here","_law_draw","_law_tail","_law_head","_law_held"] ["_law_net_here","_law_draw"] (bA zl):=cU
theorem Ki{f:ag}{fd:bG}(F:b8 K "_law_beside" "_law_beside" zl f fd)(T:Txt mg)(m4:bK P w K mg base aO 11 "open_road" ["net","one","other","held"] (mj jh))(oH:bK P w K mg base aO 3 "_law_open_told" ["_law_net_here","_law_found","_law_one","_law_other","_law_held"] (aI jD)):bJ P w K mg base aO 12 f fd ["_law_net_here","_law_draw"] (aI oR):=
 fN (Mo []) F J9 (λcdv A outer s H E hr nd hu bu=>by
  have wE:=hr.mono (show 11<=_ by decide);exact⟨_,(aV (dy (cA (ke bu) (dF fB rfl T.cv fH (aD (pX (pv 0) aF) bj)) aF (du _))
 (bc (bT eP))
 dD)
 (aV (oJ (wZ zv (pX (pv 0) aF) (aS dw (aS iz (pv 1) aF) (dF fB rfl T.cv fH (aD (pX (pv 0) aF) bj))) (λ_ _=>rfl)) (kD rfl (eo (d5 (i:=2) nd rfl (gj rfl)) (eo (d5 (i:=3) nd rfl (gj rfl)) jx))))
 (aV (xW (i:=4) (N':=["_law_tail","_law_head","_law_name"]) (ρ:=[ab 2,ab 3,ac]) rfl nd rfl (dM rfl) (eF.of rfl (by kernel_rfl)) (gt (pX (pv 0) aF)) (λ_ _ _ _ _=>(d5 (i:=2) (by show(["_law_tail","_law_head","_law_name"]:List Str).Nodup;decide +kernel) rfl (dM rfl))) (gr rfl) (λ_ _ _ _ _=>(ma (PW.pt (pw_and (cA (mf bu) (pv 2) (pv 0) (du _)) (pw_and1 (cA (mf bu) (pv 2) (pv 1) (du _))))))) (λ_ _ _ _ _=>(pv 2)))
 (aV (dy (cA (ke bu) (aS dw (pv 1) aF) aF (du _))
 (bc (oJ (iG (aD (pv 3) (bb 2))) (kD rfl (eo (d5 (i:=2) nd rfl (gj rfl)) (eo (d5 (i:=3) nd rfl (gj rfl)) jx)))))
 dD)
 (bc (bT (pC oH hr (aD (pv 0) (aD (rg (bK.ud m4) wE rfl sJ (aD (pv 0) (aD (pv 2) (aD (pv 3) (bb 4))))) (aD (pv 2) (aD (pv 3) (bb 4)))))))))))),
  (a7 (dX (cD (AE.p (ax kK (AE.p (dq cv (be (AE.p (ax bE (av 0) (AE.p aG))) bx))) (AE.p aG))))
 (dh (AE.w eW))
 d8)
 (a7 (u7 (K:=K) (.t [2,3]) (by decide) (ax bE (AE.p (ax bE (av 0) (AE.p aG))) (AE.p (ax dv (AE.p (ax ik (av 1) (AE.p aG))) (AE.p (dq cv (be (AE.p (ax bE (av 0) (AE.p aG))) bx)))))))
 (a7 (dG 4 rfl (AE.nv (fY (K:=K) (tg:=(.n 2)) (k4 (AE.p (ax bE (av 0) (AE.p aG)))) (by decide) (sW (cD (AE.p (ax mH (av 2) (av 0)))) (cD (AE.p (ax mH (av 2) (av 1))))) (bC 2))))
 (a7 (dX (cD (AE.p (ax kK (AE.p (ax dv (av 1) (AE.p aG))) (AE.p aG))))
 (u7 (K:=K) (.t [2,3]) (by decide) (jb (be (bC 3) (be (bC 2) bx))))
 d8)
 (dh (AE.w (cR (aJ (aW 0) (aJ (AE.w (cR (aJ (aW 0) (aJ (aW 2) (aJ (aW 3) (aJ (aW 4) bQ)))))) (aJ (aW 2) (aJ (aW 3) (aJ (aW 4) bQ))))))))))))⟩)
abbrev ye:bw:=top 39
theorem OQ:cg ["_law_net_here","_law_draw","_law_one","_law_other","_law_held","_law_handed","_law_found","_law_down_here"] ["_law_net_here","_law_draw"] (bA ye):=cU
theorem PQ{f:ag}{fd:bG}(F:b8 K "_law_question" "_law_question" ye f fd)(T:Txt mg)(m4:bK P w K mg base aO 11 "open_road" ["net","one","other","held"] (mj jh))(AU:bK P w K mg base aO 1 "_law_asked" ["_law_net_here","_law_draw"] (cI pW))(oH:bK P w K mg base aO 3 "_law_open_told" ["_law_net_here","_law_found","_law_one","_law_other","_law_held"] (aI jD))(AV:bK P w K mg base aO 12 "_law_beside" ["_law_net_here","_law_draw"] (aI oR)):bJ P w K mg base aO 13 f fd ["_law_net_here","_law_draw"] (aI nE):=
 fN (Mo []) F OQ (λcdv A outer s H E hr nd hu bu=>by
  have wE:=hr.mono (show 11<=_ by decide);exact⟨_,(aV (oJ (pC AU hr (aD (pv 0) (bb 1))) (Kj rfl (eo (pG 2) (eo (pG 3) (eo (pG 4) jx)))))
 (aV (pS 5 (lA yT rfl T.jM oC (bb 4)))
 (aV (pS 6 (pC m4 hr (aD (pv 0) (aD (pv 2) (aD (pv 3) (bb 5))))))
 (aV (dy (PW.pt (pw_or (cA (mf bu) (pv 5) (pv 4) (du _)) (pw_or1 (iQ (iw (pC AV hr (aD (pv 0) (bb 1))))))))
 (bc (bT eP))
 dD)
 (aV (dy (cA By (pv 6) sZ (du _))
 (bc (bT (lf By (rg (bK.ud m4) wE rfl sJ (aD (pv 0) (aD (pv 3) (aD (pv 2) (bb 5))))) sZ (du _))))
 dD)
 (aV (dy (iQ (iw (pC oH hr (aD (pv 0) (aD (pv 6) (aD (pv 2) (aD (pv 3) (bb 4))))))))
 (bc (bT eP))
 dD)
 (aV (gB fi rfl (gt (pX (pv 6) aF)) (pG 7)
 (bc (eR (sG fJ An Ao yy (pv 7)))))
 (aV (eR (sG fJ An Ao yy (pX (pv 6) aF)))
 (aV (eR (sG fJ An Ao yy (pX (pv 6) aF)))
 (bc (bT (pC oH hr (aD (pv 0) (aD (rg (bK.ud m4) wE rfl sJ (aD (pv 0) (aD (pv 2) (aD (pv 3) (bb 5))))) (aD (pv 2) (aD (pv 3) (bb 4))))))))))))))))),
  (a7 (PJ [2,3,4] (by decide) (AE.nv (ip (aJ (aW 0) (aJ (aW 1) bQ)))))
 (a7 (dG 5 rfl (AE.nv (dq jM (be (av 4) bx))))
 (KW (K:=K) 6 7 (by decide) rfl (aJ (aW 0) (aJ (aW 2) (aJ (aW 3) (aJ (aW 5) bQ))))
 (jB (cD (AE.p (ax mH (av 5) (av 4)))) (iN (fo (AE.p (cR (aJ (aW 0) (aJ (aW 1) bQ))))))) (dh (AE.w eW))
 (cD (AE.p (ax FN (av 6) (AE.p uV)))) (dh (AE.w (ax FN (AE.p (cR (aJ (aW 0) (aJ (aW 3) (aJ (aW 2) (aJ (aW 5) bQ)))))) (AE.p uV))))
 (iN (fo (AE.p (cR (aJ (aW 0) (aJ (aW 6) (aJ (aW 2) (aJ (aW 3) (aJ (aW 4) bQ))))))))) (dh (AE.w eW))
 (dh (AE.w (cR (aJ (aW 0) (aJ (AE.w (cR (aJ (aW 0) (aJ (aW 2) (aJ (aW 3) (aJ (aW 5) bQ)))))) (aJ (aW 2) (aJ (aW 3) (aJ (aW 4) bQ)))))))))))⟩)
abbrev yi:bw:=top 40
theorem IK:cg ["_law_script","_law_net_here","_law_draw"] ["_law_script"] (bA yi):=cU
theorem PN{f:ag}{fd:bG}(F:b8 K "law" "law" yi f fd)(T:Txt mg)(AX:bK P w K mg base aO 3 "_law_two" ["_law_script","_law_most"] (aI r9))(AY:bK P w K mg base aO 2 "_law_questions" ["_law_script","_law_many"] (cI qG))(AZ:bK P w K mg base aO 13 "_law_question" ["_law_net_here","_law_draw"] (aI nE)):bJ P w K mg base aO 14 f fd ["_law_script"] (aI xL):=
 fN (Mo []) F IK (λcdv A outer s H E hr nd hu bu=>by
  exact⟨_,(aV (pS 1 (pC AX hr (aD (pv 0) (aD aF bj))))
 (aV (gB fi rfl (gt (pC AY hr (aD (pv 0) (aD aF bj)))) (pG 2)
 (bc (dy (iQ (iw (pC AZ hr (aD (pv 1) (bb 2)))))
 (bc (bT eP))
 dD)))
 (bc (bT eP)))),
  (a7 (dG 1 rfl (cR (aJ (aW 0) (aJ (AE.w aG) bQ))))
 (a7 (gX (K:=K) (tg:=(.n 2)) (qb (AE.nv (ip (aJ (aW 0) (aJ (AE.w aG) bQ))))) (by decide)
 (dX (iN (fo (AE.p (cR (aJ (aW 1) (aJ (aW 2) bQ))))))
 (dh (AE.w eW))
 d8))
 (dh (AE.w eW))))⟩)
end
end oG
namespace L2
open PySem PySem.Spec PyProof.Rows
theorem cn.Jo{P:br}{w:bd}{K:aP}{mg:Str->Option ah}{CX:gF}{k:Nat}{x p:Str}{st:bw}{sp:Sp}{fa c T:ag}(F:cn K mg x st [p])(hm:mg x=ab (.ref fa))(h:∀base,K.In base->base.Ns mainGlobals mg->BM mg base->iW base c T->∀f fd,b8 K x x st f fd->bJ P w K mg base CX k f fd [p] sp) :
 ∃fd:bG,(∀(s:aw) (u:ah),lS s fd ⟨[u],[]⟩ [(p,u)])/\∀base:aR,K.In base->base.Ns mainGlobals mg->BM mg base->iW base c T->bJ P w K mg base CX k fa fd [p] sp:=by
 obtain⟨f,fd,h1,h2,h3,h5,h4⟩:=F.ex;rw[h1]at hm;cases hm;exact⟨fd,λs u=>h5 s [u] rfl,λbase kb nb b1 b2=>h base kb nb b1 b2 _ fd h4⟩
def E2(K:aP):Bool:=K.all λp=>match p.2.cls with|.type "list" => false|_=>true
theorem Jc{K:aP}(h:E2 K=true){a:ag}{o:Obj}(e:K.lookup a=ab o)(c:o.cls=.type "list"):False:=by
 have hm:(a,o)∈K:=by
  clear h
  induction K with
  |nil=>cases e
  |cons p r ih=>
   obtain⟨b,x⟩:=p;simp only[zW]at e;split at e
   ·rename_i q;cases e;rw[beq_iff_eq.mp q];exact List.Mem.head _
   ·exact List.Mem.tail _ (ih e)
 have h2:=tz.mp h _ hm;simp only[c]at h2;cases h2
end L2
namespace Mi
open PySem
@[simp] theorem j1 {α:Type} (a:α):cJ (ab a)=.ok a:=rfl
@[simp] theorem Qs {α:Type} {c:Prop} [Decidable c] (h:c) (r:Rs α):bf c r=r:=a9 h
@[simp] theorem pU (a b:Str):bH (.str a) (.str b)=decide (a=b):=by rw[bH];by_cases h:a=b<;>simp[h]
@[simp] theorem wF (a b:Int):bH (.int a) (.int b)=decide (a=b):=by rw[bH];by_cases h:a=b<;>simp[h]
@[simp] theorem ON (x:Str):(D.str x).dep=0:=by simp[D.dep]
@[simp] theorem Qu (x:Int):(D.int x).dep=0:=by simp[D.dep]
@[simp] theorem Qk (x:Bool):(D.bl x).dep=0:=by simp[D.dep]
@[simp] theorem Qr:D.non.dep=0:=by simp[D.dep]
@[simp] theorem Ql (ds:List D):(D.lst ds).dep=dr ds+1:=by simp[D.dep]
@[simp] theorem Qp (ds:List D):(D.tup ds).dep=dr ds+1:=by simp[D.dep]
@[simp] theorem Qo:dr []=0:=rfl
@[simp] theorem xY (d:D) (r:List D):dr (d::r)=max d.dep (dr r):=by rw[dr]
@[simp] theorem ur:∀xs:List Str,dr (xs.map D.str)=0
 |[]=>rfl
 |x::r=>by rw[cG,xY,ON,ur r];rfl
theorem zi(xs:List Str)(x:Str):((xs.map D.str).any λe=>bH e (.str x))=decide (x∈xs):=by
 induction xs with
 |nil=>rfl
 |cons y r ih=>
  rw[cG,iV,ih,pU];by_cases h:y=x
  ·simp[h]
  ·have h2:¬ x=y:=λz=>h z.symm;simp[h,h2]
theorem rC(xs:List Str)(x:Str):cC (.str x) (.lst (xs.map D.str))=.ok (.bl (decide (x∈xs))):=by show bf _ _=_;rw[aQ (by rw[ur];omega),zi]
theorem Fz(xs:List Str)(x:Str):f9 (.str x) (.lst (xs.map D.str))=.ok (.bl (!decide (x∈xs))):=by show bf _ _=_;rw[aQ (by rw[ur];omega),zi]
theorem N4(xs:List Str)(x:Str):f9 (.str x) (.tup (xs.map D.str))=.ok (.bl (!decide (x∈xs))):=by show bf _ _=_;rw[aQ (by rw[ur];omega),zi]
theorem uy(x y:Str):dP (.str x) (.str y)=.ok (.bl (decide (x=y))):=by show bf _ _=_;rw[aQ (by simp),pU]
theorem re(x y:Str):eV (.str x) (.str y)=.ok (.bl (!decide (x=y))):=by show bf _ _=_;rw[aQ (by simp),pU]
theorem nW(x y:Int):dP (.int x) (.int y)=.ok (.bl (decide (x=y))):=by show bf _ _=_;rw[aQ (by simp),wF]
theorem Nz(x y:Int):eV (.int x) (.int y)=.ok (.bl (!decide (x=y))):=by show bf _ _=_;rw[aQ (by simp),wF]
theorem Eo{α:Type}(f:α->Bool)(xs:List α):jC (xs.map λx=>D.bl (f x))=ab (xs.map f):=by
 induction xs with
 |nil=>rfl
 |cons a r ih=>rw[cG,jC,ih];rfl
theorem Md(xs:List Str):lh (xs.map D.str)=ab xs:=by
 induction xs with
 |nil=>rfl
 |cons a r ih=>rw[cG,lh,ih];rfl
theorem xr(n:Nat)(b:S)(a0:W):dm 1 n b [a0]=(b ([ab a0]++c7 (n-1) ac)).bind kC:=aQ rfl
theorem j4(n:Nat)(b:S)(a0 a1:W):dm 2 n b [a0,a1]=(b ([ab a0,ab a1]++c7 (n-2) ac)).bind kC:=aQ rfl
theorem tZ(n:Nat)(b:S)(a0 a1 a2:W):dm 3 n b [a0,a1,a2]=(b ([ab a0,ab a1,ab a2]++c7 (n-3) ac)).bind kC:=aQ rfl
theorem zE(n:Nat)(b:S)(a0 a1 a2 a3:W):dm 4 n b [a0,a1,a2,a3]=(b ([ab a0,ab a1,ab a2,ab a3]++c7 (n-4) ac)).bind kC:=aQ rfl
theorem jK(n:Nat)(b:S)(a0 a1:W):fc 2 n b [a0,a1]=(b ([ab a0,ab a1]++c7 (n-2) ac)).bind jH:=aQ rfl
theorem yD(n:Nat)(b:S)(a0 a1 a2:W):fc 3 n b [a0,a1,a2]=(b ([ab a0,ab a1,ab a2]++c7 (n-3) ac)).bind jH:=aQ rfl
theorem Fa{α:Type}(r:Rs α):bf (1<=16777216) r=r:=aQ (by decide)
theorem n9(i j:Int):bn (.int i) (.int j)=.ok (.int (i+j)):=rfl
theorem DG(i j:Str):bn (.str i) (.str j)=bf (i.length+j.length<=16777216) (.ok (.str (i++j))):=rfl
theorem vE(i j:List D):bn (.lst i) (.lst j)=bf (i.length+j.length<=16777216) (.ok (.lst (i++j))):=rfl
theorem NJ(i j:Int):dZ (.int i) (.int j)=.ok (.int (i-j)):=rfl
theorem sV(i j:Int):bV (.int i) (.int j)=bf (lr i j) (.ok (.int (i*j))):=rfl
theorem div_ii(i j:Int):cx (.int i) (.int j)=bf (la j) (.ok (.int (i/j))):=rfl
theorem kB(i j:Int):bg (.int i) (.int j)=bf (0<j) (.ok (.int (i%j))):=rfl
theorem pT(i j:Int):d6 (.int i) (.int j)=.ok (.bl (decide (i<j))):=rfl
theorem Lm(i j:Int):pe (.int i) (.int j)=.ok (.bl (decide (j<i))):=rfl
theorem nD(ds:List D):bS [.lst ds]=.ok (.int ds.length):=rfl
theorem N7(ds:List D):bS [.tup ds]=.ok (.int ds.length):=rfl
theorem JI(z:Str):bS [.str z]=bf (z.length<=16777216) (.ok (.int z.length)):=rfl
theorem O6(i j:Int):iH [.int i,.int j]=.ok (.int (max i j)):=rfl
theorem Kf(i j:Int):mm [.int i,.int j]=.ok (.int (min i j)):=rfl
theorem Ob(ds:List D):xc [.lst ds]=(cJ (jC ds)).bind λbs=>.ok (.bl (bs.all id)):=rfl
theorem Je(ds:List D):zq [.lst ds]=(cJ (jC ds)).bind λbs=>.ok (.bl (bs.any id)):=rfl
theorem Ld(ds:List D):oZ [.lst ds]=.ok (.tup ds):=rfl
theorem y8(z:Str)(lo hi:Option Int):eJ (.str z) lo hi=bf (z.length<=16777216) (.ok (.str (lX z lo hi))):=rfl
theorem Kx(ds:List D):ul (.lst ds)=.ok ds:=rfl
theorem Nw(ds:List D):ul (.tup ds)=.ok ds:=rfl
theorem pk(b:Bool):mB (.bl b)=.ok b:=rfl
theorem ko(b:Int):lm (.int b)=.ok b:=rfl
theorem q9(x:D):lG (.d x)=.ok x:=rfl
theorem Oa(i:Nat)(d:D)(e:Mi.Env):(Tg.n i).put d e=.ok (e.set i (ab (.d d))):=rfl
theorem all_cons(i:Nat)(is:List Nat)(d:D)(ds:List D)(e:Mi.Env):mF (i::is) (d::ds) e=mF is ds (e.set i (ab (.d d))):=rfl
theorem Nh(w:W):kC (.rt w)=.ok w:=rfl
theorem PK(e:Mi.Env):kC (.nx e)=.ok (.d .non):=rfl
theorem Lq(w:W):jH (.rt w)=.ok w:=rfl
theorem aC{f:D->D->Rs D}{a b:E}{e:Mi.Env}{x y:D}{z:Rs D}(ha:a e=.ok x)(hb:b e=.ok y)(h:f x y=z):m2 f a b e=z:=by unfold m2;rw[ha,aN,hb,aN,h]
theorem aU{s t:S}{e e':Mi.Env}(h:s e=.ok (.nx e')):aM s t e=t e':=by unfold aM;rw[h];rfl
theorem mq{s t:S}{e:Mi.Env}{w:W}(h:s e=.ok (.rt w)):aM s t e=.ok (.rt w):=by unfold aM;rw[h];rfl
theorem bY{i:Nat}{a:E}{e:Mi.Env}{d:D}(h:a e=.ok d):bF i a e=.ok (.nx (e.set i (ab (.d d)))):=by unfold bF;rw[h];rfl
theorem c9{a:EW}{e:Mi.Env}{w:W}(h:a e=.ok w):bp a e=.ok (.rt w):=by unfold bp;rw[h];rfl
theorem bO{a:E}{e:Mi.Env}{d:D}(h:a e=.ok d):wD a e=.ok (.d d):=by unfold wD;rw[h];rfl
theorem f8{c:C}{s t:S}{e:Mi.Env}(h:c e=.ok true):bI c s t e=s e:=by unfold bI;rw[h];rfl
theorem dU{c:C}{s t:S}{e:Mi.Env}(h:c e=.ok false):bI c s t e=t e:=by unfold bI;rw[h];rfl
theorem bR{a:E}{e:Mi.Env}{b:Bool}(h:a e=.ok (.bl b)):cB a e=.ok b:=by unfold cB;rw[h];rfl
theorem fE{ρ:List (Option Nat)}{it:I}{tg:Tg}{c:C}{a:E}{e:Mi.Env}{xs ys:List D}(h:it e=.ok xs)(hl:xs.length<=16777216)(hc:dE tg c a (iF ρ e) xs=.ok ys):dj ρ it tg c a e=.ok (.lst ys):=by unfold dj;rw[h,aN,aQ hl,hc,aN]
theorem jR{a:E}{e:Mi.Env}{n:Int}(h:a e=.ok (.int n))(hr:okR n):h6 a e=.ok (cM 0 n):=by unfold h6;rw[h,aN,ko,aN,aQ hr]
theorem ic{it:I}{tg:Tg}{b:S}{e:Mi.Env}{xs:List D}(h:it e=.ok xs):dY it tg b e=jj tg b xs e:=by unfold dY;rw[h];rfl
theorem iA{a:E}{e:Mi.Env}{x:D}{xs:List D}(h:a e=.ok x)(hx:ul x=.ok xs):de a e=.ok xs:=by unfold de;rw[h,aN,hx]
theorem lg{i:Nat}{a:E}{e:Mi.Env}{d:D}{ds:List D}(h:a e=.ok d)(hg:getL e i=.ok ds)(hl:ds.length<16777216):c5 i a e=.ok (.nx (putL e i (ds++[d]))):=by unfold c5;rw[h,aN,hg,aN,aQ hl]
theorem fv{f:List D->Rs D}{a:E}{e:Mi.Env}{x:D}(h:a e=.ok x):mN f [a] e=f [x]:=by unfold mN;rw[f7,h];rfl
theorem yd{f:List D->Rs D}{a b:E}{e:Mi.Env}{x y:D}(h:a e=.ok x)(h':b e=.ok y):mN f [a,b] e=f [x,y]:=by unfold mN;rw[f7,h,aN,f7,h'];rfl
theorem nK{a:E}{e:Mi.Env}{x:D}(h:a e=.ok x):mN cZ [a] e=.ok (.lst [x]):=by rw[fv h];exact aQ (by simp)
theorem ja{a b:E}{e:Mi.Env}{x y:D}(h:a e=.ok x)(h':b e=.ok y):mN dTup [a,b] e=.ok (.tup [x,y]):=by rw[yd h h'];exact aQ (by simp)
theorem LI{f:Fn}{a:EW}{e:Mi.Env}{x:W}{d:D}(h:a e=.ok x)(hf:f [x]=.ok (.d d)):a8 f [a] e=.ok d:=by unfold a8 jv;rw[cW,h];simp only[aN,cW,hf,q9]
theorem call2{f:Fn}{a b:EW}{e:Mi.Env}{x y:W}{d:D}(h:a e=.ok x)(h':b e=.ok y)(hf:f [x,y]=.ok (.d d)):a8 f [a,b] e=.ok d:=by unfold a8 jv;rw[cW,h,aN,cW,h'];simp only[aN,cW,hf,q9]
theorem lN{f:Fn}{a b c:EW}{e:Mi.Env}{x y z:W}{d:D}(h:a e=.ok x)(h':b e=.ok y)(h'':c e=.ok z)(hf:f [x,y,z]=.ok (.d d)):a8 f [a,b,c] e=.ok d:=by unfold a8 jv;rw[cW,h,aN,cW,h',aN,cW,h''];simp only[aN,cW,hf,q9]
theorem gW{α:Type}{tg:Tg}{c:C}{a:E}{e:Mi.Env}(f g:α->D)(p:α->Bool):∀(xs:List α),(∀x∈xs,∃e1,tg.put (f x) e=.ok e1/\c e1=.ok (p x)/\(p x=true->a e1=.ok (g x)))->dE tg c a e (xs.map f)=.ok ((xs.filter p).map g)
 |[],_=>rfl
 |x::r,h=>by
  obtain⟨e1,h1,h2,h3⟩:=h x dA;have ih:=gW (tg:=tg) (c:=c) (a:=a) (e:=e) f g p r λy hy=>h y (ff _ hy);rw[cG,dE,h1,aN,h2,aN];cases hp:p x with
  |true=>rw[a9 rfl,h3 hp,aN,ih,aN,List.filter_cons_of_pos hp];rfl
  |false=>rw[ba c8,ih,List.filter_cons_of_neg (by rw[hp];exact c8)]
theorem gR{tg:Tg}{body:S}(Inv:Nat->Mi.Env->Prop):∀(xs:List D) (k:Nat),(∀i x e,xs[i]? = ab x->Inv (k+i) e->∃e1 e2,tg.put x e=.ok e1/\body e1=.ok (.nx e2)/\Inv (k+i+1) e2)->∀e,Inv k e->∃e',jj tg body xs e=.ok (.nx e')/\Inv (k+xs.length) e'
 |[],k,_,e,h=>⟨e,rfl,h⟩
 |x::r,k,hs,e,h=>by
  obtain⟨e1,e2,h1,h2,h3⟩:=hs 0 x e rfl h;obtain⟨e',h4,h5⟩:=gR Inv r (k+1) (λi y e hy hi=>by
   have:=hs (i+1) y e (by simpa using hy) (by rw[show k+(i+1)=k+1+i by omega];exact hi);rw[show k+(i+1)+1=k+1+i+1 by omega]at this;exact this) e2 h3
  refine⟨e',?_,by rw[c6,show k+(r.length+1)=k+1+r.length by omega];exact h5⟩;rw[jj,h1,aN,h2,aN];exact h4
end Mi
namespace Mr
open PySem Mi
abbrev Ar:=Str×Str
def pairD(p:Ar):D:=.tup [.str p.1,.str p.2]
def dC(ae:List Str):D:=.tup (ae.map D.str)
def ee(ak:List Ar):D:=.tup (ak.map pairD)
def aB(ae:List Str)(ak:List Ar):D:=.tup [dC ae,ee ak]
def ai(xs:List Str):D:=.lst (xs.map D.str)
theorem at0{α:Type}(a:α)(r:List α):cK (a::r) 0=ab a:=by simp[cK,eg]
theorem at1{α:Type}(a b:α)(r:List α):cK (a::b::r) 1=ab b:=by unfold cK eg;rw[a9 (by decide),a9 (by simp only[c6];omega)];rfl
theorem ki(ae:List Str)(ak:List Ar):aE (aB ae ak) (.int 0)=.ok (dC ae):=by unfold aB aE;simp[at0]
theorem i9(ae:List Str)(ak:List Ar):aE (aB ae ak) (.int 1)=.ok (ee ak):=by unfold aB aE;simp[at1]
theorem sY{ae asked:List Str}(h:∀x∈asked,x∈ae):g7 [.d (dC ae),.d (ai asked)]=.ok (.d .non):=by
 have key:∀(xs:List Str) (o:Option W),(∀x∈xs,x∈ae)->∃o',jj (.n 2) (bI (cB (m2 f9 (mV 2) (mV 0))) rf bU) (xs.map D.str) [ab (.d (dC ae)),ab (.d (ai asked)),o]=.ok (.nx [ab (.d (dC ae)),ab (.d (ai asked)),o']):=by
  intro xs
  induction xs with
  |nil=>exactλo _=>⟨o,rfl⟩
  |cons x r ih=>
   intro o hx;obtain⟨o',e⟩:=ih (ab (.d (.str x))) λy hy=>hx y (ff _ hy);refine⟨o',?_⟩;rw[cG,jj];have:x∈ae:=hx x dA;simp only[dC,Oa,Gx,Gy,bI,cB,m2,mV,bU,aN,jn,jT,N4,this,decide_true,Am,pk,qr,jk];exact e
 obtain⟨o',e⟩:=key asked ac h;unfold ai at e;unfold g7 EV;rw[j4];simp only[dY,de,mV,ai,Nat.reduceSub,List.replicate_succ,Gw,qf,tE,jn,jT,aN,Kx,e,PK]
def io(ak:List Ar)(x:Str):List Str:=(ak.filter λp=>decide (p.2=x)).map (·.1)
theorem Ps{ae:List Str}{ak:List Ar}{x:Str}(hx:x∈ae)(hl:ak.length<=64):qZ [.d (aB ae ak),.d (.str x)]=.ok (.d (.tup ((io ak x).map D.str))):=by
 have hr:=sY (ae:=ae) (asked:=[x]) (by simpa using hx);unfold qZ D9;rw[j4];have hc:dE (.t [1,2]) (cB (m2 dP (mV 2) (mV 0))) (mV 1) [ab (.d (.str x)),ac,ac] (ak.map pairD)=.ok ((ak.filter λp=>decide (p.2=x)).map λp=>D.str p.1):=gW pairD (λp=>D.str p.1) (λp=>decide (p.2=x)) ak λp _=>⟨[ab (.d (.str x)),ab (.d (.str p.1)),ab (.d (.str p.2))],rfl,by simp only[cB,m2,mV,jn,jT,aN,uy,pk],λ_=>by simp only[mV,jn,jT]⟩
 have hg:bf (([D.str x]:List D).length<=16777216) (Rs.ok (D.lst [D.str x]))=.ok (.lst [.str x]):=aQ (by simp);unfold ai at hr;have hp:iF [ab 1,ac,ac] [ab (W.d (aB ae ak)),ab (W.d (D.str x))]=[ab (.d (.str x)),ac,ac]:=rfl;simp only[c6,lQ,eM,Fa]at hg;simp only[cG,tF,aM,fZ,a8,jv,cW,wD,m2,mV,Nat.reduceSub,Gw,qf,tE,jT,mC,aN,ki,mN,f7,jn,cZ,c6,lQ,eM,Fa,bp]at hr ⊢;rw[hr];simp only[aN,q9,dj,de,m2,mV,mC,jT,i9,ee,Nw,hp];rw[aQ (by rw[aX];omega),hc];simp only[aN,Ld,Nh,io,dJ];rfl
def ready(ak:List Ar)(told:List Str)(x:Str):Bool:=!decide (x∈told)&&(io ak x).all λy=>decide (y∈told)
def nxt(ae:List Str)(ak:List Ar)(told:List Str):Option Str:=ae.find? (ready ak told)
theorem Fy{ak:List Ar}{x:Str}(hl:ak.length<=64):(io ak x).length<=64:=by unfold io;rw[aX];exact eK (om _ _) hl
structure mh(ae:List Str)(ak:List Ar):Prop where
 nd:ae.Nodup
 pos:1<=ae.length
 le:ae.length<=8
 al:ak.length<=64
 tl:∀p∈ak,p.1∈ae
 rk:∃r:Str->Int,∀p∈ak,r p.1<r p.2
theorem BW{ak:List Ar}{x y:Str}:y∈io ak x↔(y,x)∈ak:=by
 unfold io;constructor
 ·intro h;obtain⟨p,hp,rfl⟩:=ca.mp h;obtain⟨h1,h2⟩:=dH.mp hp;have:p.2=x:=by simpa using h2
  rw[<- this];exact h1
 ·intro h;exact ca.mpr ⟨(y,x),dH.mpr ⟨h,by simp⟩,rfl⟩
def ord(ae:List Str)(ak:List Ar):Nat->List Str
 |0=>[]
 | k+1=>match nxt ae ak (ord ae ak k)with
  |some x=>ord ae ak k++[x]
  |none=>ord ae ak k
theorem ig{α:Type}[DecidableEq α]:∀{l m:List α},l.Nodup->(∀x∈l,x∈m)->l.length<=m.length
 |[],_,_,_=>fI _
 |a::l,m,nd,h=>by
  have nd:=kP.mp nd;have:l.length<=(m.erase a).length:=ig nd.2 λx hx=>(List.mem_erase_of_ne (λz:x=a=>nd.1 (z ▸ hx))).mpr (h x (ff _ hx));have hm:=h a dA;rw[List.length_erase_of_mem hm]at this;have:0<m.length:=zL hm;rw[c6];omega
end Mr
namespace Mr
open PySem Mi
theorem Po{α:Type}(xs:List α)(k:Nat):gq xs ac (ab (k:Int))=xs.take k:=by
 show(xs.drop 0).take ((if(k:Int)<0 then((k:Int)+(xs.length:Int)).toNat else min (k:Int).toNat xs.length)-0)=_;rw[ba (by omega),mR,Nat.sub_zero,jX];rcases Ai k xs.length with h|h
 ·rw[Ag h]
 ·rw[Af h,oj (bv _),oj h]
theorem Br:∀xs ys:List Str,gZ (xs.map D.str) (ys.map D.str)=decide (xs=ys)
 |[],[]=>rfl
 |[],_::_=>rfl
 |_::_,[]=>rfl
 |x::xs,y::ys=>by
  rw[cG,cG,gZ,pU,Br xs ys];by_cases h1:x=y<;>by_cases h2:xs=ys<;>simp[h1,h2]
theorem PP(xs ys:List Str):eV (ai xs) (ai ys)=.ok (.bl (!decide (xs=ys))):=by unfold eV ai;rw[aQ (by simp),bH,Br]
end Mr
namespace My
def wl:List Nat:=[101,116,97,111,105,110,115,104,114,100,108,117,99,109,102,119,121,112,118,98,103,107,113,106,120,122]
def fq(n:Int):Nat:=wl.getD (n%26).toNat 0
def fk(c:Int):List Nat:=(cj 8).map λ(k:Nat)=>fq (c/(4+3*(k:Int)))
def fM(c:Int)(n:Nat):List Nat:=(cj n).map λ(k:Nat)=>fq (c/32+5*(k:Int)+(k:Int)*(k:Int))
def words(c:Int)(many:Nat):List (List Nat):=
 if c%4<2 then
  if c%4=0 then(cj many).map λ(k:Nat)=>(fk c).take (k+1)
  else(cj many).map λ(k:Nat)=>(fk c).drop (7-k)
 else
  (cj many).map λ(k:Nat)=>(fM c (c/4%8).toNat).take (c/256%(c/4%8+1)).toNat++[fq (c/7+5*(k:Int))]++(fM c (c/4%8).toNat).drop (c/256%(c/4%8+1)).toNat
def eQ(x:List Nat):Prop:=1<=x.length/\x.length<=8/\∀c∈x,97<=c/\c<=122
theorem xR:∀c∈wl,97<=c/\c<=122:=by decide
theorem MQ:wl.Nodup:=by decide
theorem uB:wl.length=26:=by decide
theorem zp(n:Int):fq n∈wl:=by
 unfold fq;have h1:=fW n (b:=26) (by decide);have h2:=gi n (b:=26) (by decide);have h3:(n%26).toNat<wl.length:=by rw[uB];omega
 rw[fS,dR h3];exact tD h3
theorem Im{n m:Int}(h:fq n=fq m):n%26=m%26:=by
 unfold fq at h;have h1:=fW n (b:=26) (by decide);have h2:=gi n (b:=26) (by decide);have h3:(n%26).toNat<wl.length:=by rw[uB];omega
 have h1':=fW m (b:=26) (by decide);have h2':=gi m (b:=26) (by decide);have h3':(m%26).toNat<wl.length:=by rw[uB];omega
 rw[fS,dR h3,fS,dR h3']at h;have:=(mP MQ).mp h;omega
theorem j8(c:Int):(fk c).length=8:=by simp[fk]
theorem py(c:Int)(n:Nat):(fM c n).length=n:=by simp[fM]
theorem DV(c:Int):∀x∈fk c,97<=x/\x<=122:=λx hx=>by
 obtain⟨k,_,rfl⟩:=ca.mp hx;exact xR _ (zp _)
theorem E7(c:Int)(n:Nat):∀x∈fM c n,97<=x/\x<=122:=λx hx=>by
 obtain⟨k,_,rfl⟩:=ca.mp hx;exact xR _ (zp _)
theorem rO(c:Int)(many:Nat):(words c many).length=many:=by unfold words;split<;>(try split)<;>simp
theorem xz{α:Type}(f:Nat->α)(n:Nat)(h:∀i j,i<n->j<n->f i=f j->i=j):((cj n).map f).Nodup:=by
 induction n with
 |zero=>simp
 |succ n ih=>
  rw[List.range_succ,fg,List.map_singleton];rw[kN];refine⟨ih λi j hi hj=>h i j (by omega) (by omega),by simp,λa ha b hb=>?_⟩;obtain⟨i,hi,rfl⟩:=ca.mp ha;have hi:=fT.mp hi;have hb:b=f n:=by simpa using hb
  subst hb;intro e;have:=h i n (by omega) (by omega) e;omega
theorem sC(c:Int)(many:Nat)(hm:many<=8):(words c many).Nodup:=by
 unfold words;split
 ·split
  ·refine xz _ _ λi j hi hj e=>?_;have:=congrArg zV e;rw[iC,iC,j8]at this;omega
  ·refine xz _ _ λi j hi hj e=>?_;have:=congrArg zV e;rw[kO,kO,j8]at this;omega
 ·refine xz _ _ λi j hi hj e=>?_;rw[mM,mM]at e;have e1:=List.append_cancel_left e;have e2:=List.append_cancel_right e1;have e3:fq (c/7+5*(i:Int))=fq (c/7+5*(j:Int)):=by simpa using e2
  have:=Im e3;omega
theorem fb(c:Int)(many:Nat)(hm:many<=8):∀x∈words c many,eQ x:=by
 unfold words;split
 ·split
  ·intro x hx;obtain⟨k,hk,rfl⟩:=ca.mp hx;have hk:=fT.mp hk;refine⟨by rw[iC,j8];omega,by rw[iC,j8];omega,λy hy=>DV c y (vO hy)⟩
  ·intro x hx;obtain⟨k,hk,rfl⟩:=ca.mp hx;have hk:=fT.mp hk;refine⟨by rw[kO,j8];omega,by rw[kO,j8];omega,λy hy=>DV c y (Gr hy)⟩
 ·intro x hx;obtain⟨k,hk,rfl⟩:=ca.mp hx;have h1:=fW (c/4) (b:=8) (by decide);have h2:=gi (c/4) (b:=8) (by decide);have h3:=fW (c/256) (b:=c/4%8+1) (by omega);have h4:=gi (c/256) (b:=c/4%8+1) (by omega);have hl:((fM c (c/4%8).toNat).take (c/256%(c/4%8+1)).toNat++[fq (c/7+5*(k:Int))]++(fM c (c/4%8).toNat).drop (c/256%(c/4%8+1)).toNat).length=(c/4%8).toNat+1:=by
   rw[cF,cF,iC,kO,py];simp;omega
  refine⟨by rw[hl];omega,by rw[hl];omega,λy hy=>?_⟩;rcases dI.mp hy with hy|hy
  ·rcases dI.mp hy with hy|hy
   ·exact E7 c _ y (vO hy)
   ·have:y=fq (c/7+5*(k:Int)):=by simpa using hy
    subst this;exact xR _ (zp _)
  ·exact E7 c _ y (Gr hy)
end My
namespace Mi
open PySem
def S'(l:List Nat):Str:=⟨l.toArray⟩
theorem u4(l:List Nat):(S' l).cps.toList=l:=rfl
theorem jL(l:List Nat):(S' l).length=l.length:=by simp[S',oF]
theorem Pg{x y:Str}(h:x.cps.toList=y.cps.toList):x=y:=by obtain⟨a⟩:=x;obtain⟨b⟩:=y;have h:a.toList=b.toList:=h;rw[G1.mp h]
theorem Kk{l m:List Nat}(h:S' l=S' m):l=m:=by have:=congrArg (λx:Str=>x.cps.toList) h;simpa [S']using this
theorem Lp(l m:List Nat):S' l++S' m=S' (l++m):=by show(⟨l.toArray++m.toArray⟩ : Str)=⟨(l++m).toArray⟩;simp
theorem D5:∀l:List Str,(jZ "" l).cps.toList=l.flatMap (·.cps.toList)
 |[]=>by simp[jZ,m3]
 |[x]=>by simp[jZ]
 |x::y::r=>by
  have ih:=D5 (y::r);have e:jZ "" (x::y::r)=x ++ "" ++ jZ "" (y::r):=rfl;have e2:("" : Str).cps.toList=[]:=by decide +kernel
  rw[e];show((x.cps++("" : Str).cps)++(jZ "" (y::r)).cps).toList=_;rw[ww,ww,e2,ih];simp
theorem join_ones(l:List Nat):jZ "" (l.map λx=>S' [x])=S' l:=by
 refine Pg ?_;rw[D5,u4]
 induction l with
 |nil=>rfl
 |cons a r ih=>rw[cG,qe,ih];rfl
theorem PM{α:Type}(xs:List α)(k:Nat):gq xs ac (ab (k:Int))=xs.take k:=by
 show(xs.drop 0).take ((if(k:Int)<0 then((k:Int)+(xs.length:Int)).toNat else min (k:Int).toNat xs.length)-0)=_;rw[ba (by omega),mR,Nat.sub_zero,jX];rcases Ai k xs.length with h|h
 ·rw[Ag h]
 ·rw[Af h,oj (bv _),oj h]
theorem vn{α:Type}(xs:List α)(k:Nat):gq xs (ab (k:Int)) ac=xs.drop k:=by
 show(xs.drop (if(k:Int)<0 then((k:Int)+(xs.length:Int)).toNat else min (k:Int).toNat xs.length)).take (xs.length-(if(k:Int)<0 then((k:Int)+(xs.length:Int)).toNat else min (k:Int).toNat xs.length))=_;rw[ba (by omega),jX];rcases Ai k xs.length with h|h
 ·rw[Ag h];exact oj (by rw[kO];exact bv _)
 ·rw[Af h,qc (bv _),qc h];simp
theorem CS(l:List Nat)(k:Nat):lX (S' l) ac (ab (k:Int))=S' (l.take k):=by unfold lX;rw[u4,PM];rfl
theorem Ca(l:List Nat)(k:Nat):lX (S' l) (ab (k:Int)) ac=S' (l.drop k):=by unfold lX;rw[u4,vn];rfl
def cP:Str := "etaoinshrdlucmfwypvbgkqjxz"
theorem Ou:cP.cps.toList=My.wl:=by decide +kernel
theorem Js:cP.length<=16777216:=by decide +kernel
theorem zc{α:Type}{xs:List α}{i:Int}(h0:0<=i)(h1:i<xs.length)(d:α):cK xs i=ab (xs.getD i.toNat d):=by
 unfold cK eg;rw[a9 h0,a9 h1];have h3:i.toNat<xs.length:=by omega
 show xs[i.toNat]? = _;rw[fS,dR h3];rfl
theorem NQ(n:Int):cK cP.cps.toList (n%26)=ab (My.fq n):=by rw[Ou];have h1:=fW n (b:=26) (by decide);have h2:=gi n (b:=26) (by decide);exact zc h1 (by rw[My.uB];omega) 0
theorem qK{cs:List Int}{i:Int}(h0:0<=i)(h1:i<cs.length):aE (.lst (cs.map D.int)) (.int i)=.ok (.int (cs.getD i.toNat 0)):=by
 show cJ (cK (cs.map D.int) i)=_;rw[zc h0 (by rw[aX];exact h1) (.int 0),j1];have h3:i.toNat<cs.length:=by omega
 rw[fS,cX,fS,dR h3];rfl
theorem zg{cs:List Str}{i:Int}(h0:0<=i)(h1:i<cs.length):aE (.lst (cs.map D.str)) (.int i)=.ok (.str (cs.getD i.toNat m3)):=by
 show cJ (cK (cs.map D.str) i)=_;rw[zc h0 (by rw[aX];exact h1) (.str m3),j1];have h3:i.toNat<cs.length:=by omega
 rw[fS,cX,fS,dR h3];rfl
theorem xN(n:Nat):cM 0 (n:Int)=(cj n).map λ(k:Nat)=>D.int (k:Int):=by unfold cM;rw[show((n:Int)-0).toNat=n by omega];exact Gv λk _=>by rw[Int.zero_add]
theorem mr(n:Nat):(cM 0 (n:Int)).length=n:=by rw[xN];simp
theorem vj{n i:Nat}{x:D}(h:(cM 0 (n:Int))[i]? = ab x):i<n/\x=.int (i:Int):=by
 rw[xN,cX]at h;cases hr:(cj n)[i]? with
 |none=>rw[hr]at h;cases h
 |some k=>
  rw[hr]at h;obtain⟨h1,h2⟩:=b9.mp hr;rw[zQ]at h2;subst h2;rw[tu]at h1;exact⟨h1,(fh h).symm⟩
theorem oN{tg:Tg}{a:E}{e:Mi.Env}(g:Nat->D)(n:Nat)(h:∀k<n,∃e1,tg.put (.int (k:Int)) e=.ok e1/\a e1=.ok (g k)):dE tg el a e (cM 0 (n:Int))=.ok ((cj n).map g):=by
 rw[xN,gW (λ(k:Nat)=>D.int (k:Int)) g (λ_=>true) (cj n) λk hk=>?_]
 ·rw[qd.mpr λ_ _=>rfl]
 ·obtain⟨e1,h1,h2⟩:=h k (fT.mp hk);exact⟨e1,h1,rfl,λ_=>h2⟩
theorem je{i:Int}(h0:-1000<=i)(h1:i<=1000):okR i:=by unfold okR;omega
theorem i8{i j:Int}(h0:-(2 ^ 64)<i)(h1:i<2 ^ 64):lr i j:=.inl ⟨h0,h1⟩
theorem pD{i j:Int}(h0:-(2 ^ 64)<j)(h1:j<2 ^ 64):lr i j:=.inr ⟨h0,h1⟩
theorem ie{j:Int}(h0:0<j)(h1:j<2 ^ 64):la j:=by
 refine⟨h0,?_⟩;have h2:j.natAbs<2 ^ 64:=by omega
 have h3:j.natAbs≠0:=by omega
 have:=(Nat.log2_lt h3).mpr h2;omega
end Mi
namespace Mr
open PySem Mi
open My (words fk fM fq j8 py rO sC)
theorem yw(n:Int):aE (.str cP) (.int (n%26))=.ok (.str (S' [fq n])):=by show bf _ _=_;rw[aQ Js,NQ];rfl
theorem Ch(l:List Nat)(h:l.length<=8):u6 (.str "") (.lst (l.map λx=>D.str (S' [x])))=.ok (.str (S' l)):=by
 show(cJ (lh (l.map λx=>D.str (S' [x])))).bind _=_;have e:l.map (λx=>D.str (S' [x]))=(l.map λx=>S' [x]).map D.str:=by rw[dJ];rfl
 rw[e,Md,j1,aN,aQ ?_,join_ones];have h1:((l.map λx=>S' [x]).map (·.length)).sum=l.length:=by
  clear h e
  induction l with
  |nil=>rfl
  |cons a r ih=>rw[cG,cG,List.sum_cons,ih,jL,c6];simp;omega
 have h2:("" : Str).length=0:=by decide +kernel
 rw[h1,h2];omega
theorem st1(c:Int)(k:Nat)(d32:la 32)(m5:lr 5 (k:Int))(mk:lr (k:Int) k):(m2 bn (m2 bn (m2 cx (mV 1) (mC (.int 32))) (m2 bV (mC (.int 5)) (mV 2))) (m2 bV (mV 2) (mV 2))) [ab (.d (.str cP)),ab (.d (.int c)),ab (.d (.int k))]=.ok (.int (c/32+5*(k:Int)+(k:Int)*(k:Int))):=(aC (aC (aC rfl rfl (aQ d32)) (aC rfl rfl (aQ m5)) rfl) (aC rfl rfl (aQ mk)) rfl)
theorem st2(c:Int)(e:Mi.Env)(a:E)(h:a e=.ok (.int c))(h0:e[0]? = ab (ab (.d (.str cP)))):m2 aE (mV 0) (m2 bg a (mC (.int 26))) e=.ok (.str (S' [fq c])):=aC (x:=.str cP) (by unfold mV;rw[h0]) (aC h rfl (aQ (by decide))) (yw _)
theorem M6{k n:Nat}(h:k<n)(h8:n<8):lr (k:Int) k:=i8 (by omega) (by omega)
theorem size_of(c:Int):∃n:Nat,c/4%8=(n:Int)/\n<8:=by have z1:=fW (c/4) (b:=8) (by decide);have z2:=gi (c/4) (b:=8) (by decide);exact⟨(c/4%8).toNat,by omega,by omega⟩
theorem at_of(c:Int)(n:Nat):∃t:Nat,c/256%((n:Int)+1)=(t:Int)/\t<=n:=by have z3:=fW (c/256) (b:=(n:Int)+1) (by omega);have z4:=gi (c/256) (b:=(n:Int)+1) (by omega);exact⟨(c/256%((n:Int)+1)).toNat,by omega,by omega⟩
theorem Om(c:Int)(m:Nat)(hm:m<=8):qY [.d (.int c),.d (.int (m:Int))]=.ok (.d (ai ((words c m).map S'))):=by
 unfold qY DU;rw[jK];have hr8:okR 8:=je (by decide) (by decide);have hrm:okR (m:Int):=je (by omega) (by omega);have hl0:(PySem.Str.ofString "etaoinshrdlucmfwypvbgkqjxz")=cP:=rfl;have g4:∀r:Rs D,bf ((0:Int)<4) r=r:=λr=>aQ (by decide);have g26:∀r:Rs D,bf ((0:Int)<26) r=r:=λr=>aQ (by decide);have g8:∀r:Rs D,bf ((0:Int)<8) r=r:=λr=>aQ (by decide);by_cases c1:c%4<2
 ·have Hx:dE (.n 2) el (m2 aE (mV 0) (m2 bg (m2 cx (mV 1) (m2 bn (mC (.int 4)) (m2 bV (mC (.int 3)) (mV 2)))) (mC (.int 26)))) [ab (.d (.str cP)),ab (.d (.int c)),ac] (cM 0 8)=.ok ((fk c).map λx=>D.str (S' [x])):=by
   have:=oN (tg:=.n 2) (a:=m2 aE (mV 0) (m2 bg (m2 cx (mV 1) (m2 bn (mC (.int 4)) (m2 bV (mC (.int 3)) (mV 2)))) (mC (.int 26)))) (e:=[ab (.d (.str cP)),ab (.d (.int c)),ac]) (λk=>D.str (S' [fq (c/(4+3*(k:Int)))])) 8 λk hk=>⟨[ab (.d (.str cP)),ab (.d (.int c)),ab (.d (.int k))],rfl,by
    simp only[m2,mV,jT,jn,mC,aN,sV];rw[aQ (i8 (by decide) (by decide))];simp only[aN,n9,div_ii];rw[aQ (ie (by omega) (by omega))];simp only[aN,kB,g26,yw]⟩
   rw[show((8:Nat):Int)=8 from rfl]at this;rw[this];unfold fk;rw[dJ];rfl
  have hp:iF [ab 2,ab 0,ac] [ab (.d (.int c)),ab (.d (.int (m:Int))),ab (.d (.str cP)),ac,ac,ac,ac]=[ab (.d (.str cP)),ab (.d (.int c)),ac]:=rfl;have hj:=Ch (fk c) (by rw[j8];omega);have hw8:(cM 0 8).length<=16777216:=by rw[show(8:Int)=((8:Nat):Int)from rfl,mr];omega
  have hwm:(cM 0 (m:Int)).length<=16777216:=by rw[mr];omega
  by_cases c2:c%4=0
  ·have hc:dE (.n 1) el (eD eJ (mV 0) ac (ab (m2 bn (mV 1) (mC (.int 1))))) [ab (.d (.str (S' (fk c)))),ac] (cM 0 (m:Int))=.ok ((words c m).map λl=>D.str (S' l)):=by
    rw[oN (λk=>D.str (S' ((fk c).take (k+1)))) m λk hk=>⟨[ab (.d (.str (S' (fk c)))),ab (.d (.int k))],rfl,by
     simp only[eD,mV,jT,k7,m2,jn,mC,aN,n9,ko,y8];rw[aQ (by rw[jL,j8];omega),show(k:Int)+1=((k+1:Nat):Int)by omega,CS]⟩]
    unfold words;rw[a9 c1,a9 c2,dJ];rfl
   have hp2:∀z,iF [ab 3,ac] [ab (.d (.int c)),ab (.d (.int (m:Int))),ab (.d (.str cP)),ab z,ac,ac,ac]=[ab z,ac]:=λ_=>rfl;have hmod:cB (m2 d6 (m2 bg (mV 0) (mC (.int 4))) (mC (.int 2))) [ab (.d (.int c)),ab (.d (.int (m:Int))),ab (.d (.str cP)),ac,ac,ac,ac]=.ok true:=bR ((aC (aC rfl rfl (g4 _)) rfl rfl).trans (by rw[pT,bW c1]))
   have A1:cB (m2 dP (m2 bg (mV 0) (mC (.int 4))) (mC (.int 0))) [ab (.d (.int c)),ab (.d (.int (m:Int))),ab (.d (.str cP)),ab (.d (.str (S' (fk c)))),ac,ac,ac]=.ok true:=bR ((aC (aC rfl rfl (g4 _)) rfl rfl).trans (by rw[nW,bW c2]))
   show Rs.bind _ jH=_;rw[aU (e':=[ab (.d (.int c)),ab (.d (.int (m:Int))),ab (.d (.str cP)),ac,ac,ac,ac]) (bY rfl)];refine(congrArg (λr=>Rs.bind r jH) (mq (w:=.d (ai ((words c m).map S'))) ?_)).trans rfl;rw[f8 hmod,aU (e':=[ab (.d (.int c)),ab (.d (.int (m:Int))),ab (.d (.str cP)),ab (.d (.str (S' (fk c)))),ac,ac,ac]) (bY (aC rfl (fE (jR rfl hr8) hw8 Hx) hj))];rw[mq ((f8 A1).trans (c9 (bO (fE (jR rfl hrm) hwm hc))))];rw[ai,dJ];rfl
  ·have hc:dE (.n 1) el (eD eJ (mV 0) (ab (m2 dZ (mC (.int 7)) (mV 1))) ac) [ab (.d (.str (S' (fk c)))),ac] (cM 0 (m:Int))=.ok ((words c m).map λl=>D.str (S' l)):=by
    rw[oN (λk=>D.str (S' ((fk c).drop (7-k)))) m λk hk=>⟨[ab (.d (.str (S' (fk c)))),ab (.d (.int k))],rfl,by
     simp only[eD,mV,jT,k7,m2,mC,jn,aN,NJ,ko,y8];rw[aQ (by rw[jL,j8];omega),show(7:Int)-(k:Int)=((7-k:Nat):Int)by omega,Ca]⟩]
    unfold words;rw[a9 c1,ba c2,dJ];rfl
   have hp2:∀z,iF [ab 3,ac] [ab (.d (.int c)),ab (.d (.int (m:Int))),ab (.d (.str cP)),ab z,ac,ac,ac]=[ab z,ac]:=λ_=>rfl;have hmod:cB (m2 d6 (m2 bg (mV 0) (mC (.int 4))) (mC (.int 2))) [ab (.d (.int c)),ab (.d (.int (m:Int))),ab (.d (.str cP)),ac,ac,ac,ac]=.ok true:=bR ((aC (aC rfl rfl (g4 _)) rfl rfl).trans (by rw[pT,bW c1]))
   have A1:cB (m2 dP (m2 bg (mV 0) (mC (.int 4))) (mC (.int 0))) [ab (.d (.int c)),ab (.d (.int (m:Int))),ab (.d (.str cP)),ab (.d (.str (S' (fk c)))),ac,ac,ac]=.ok false:=bR ((aC (aC rfl rfl (g4 _)) rfl rfl).trans (by rw[nW,cE c2]))
   show Rs.bind _ jH=_;rw[aU (e':=[ab (.d (.int c)),ab (.d (.int (m:Int))),ab (.d (.str cP)),ac,ac,ac,ac]) (bY rfl)];refine(congrArg (λr=>Rs.bind r jH) (mq (w:=.d (ai ((words c m).map S'))) ?_)).trans rfl;rw[f8 hmod,aU (e':=[ab (.d (.int c)),ab (.d (.int (m:Int))),ab (.d (.str cP)),ab (.d (.str (S' (fk c)))),ac,ac,ac]) (bY (aC rfl (fE (jR rfl hr8) hw8 Hx) hj))];rw[aU (dU A1),c9 (bO (fE (jR rfl hrm) hwm hc))];rw[ai,dJ];rfl
 ·obtain⟨n,hn,hn8⟩:=size_of c;obtain⟨t,ht,ht8⟩:=at_of c n;have hrn:okR (n:Int):=je (by omega) (by omega);have d4:la 4:=ie (by decide) (by decide);have d32:la 32:=ie (by decide) (by decide);have Qf:la 256:=ie (by decide) (by decide);have d7:la 7:=ie (by decide) (by decide);have Qg:dE (.n 2) el (m2 aE (mV 0) (m2 bg (m2 bn (m2 bn (m2 cx (mV 1) (mC (.int 32))) (m2 bV (mC (.int 5)) (mV 2))) (m2 bV (mV 2) (mV 2))) (mC (.int 26)))) [ab (.d (.str cP)),ab (.d (.int c)),ac] (cM 0 (n:Int))=.ok ((fM c n).map λx=>D.str (S' [x])):=by
   rw[oN (λk=>D.str (S' [fq (c/32+5*(k:Int)+(k:Int)*(k:Int))])) n λk hk=>⟨[ab (.d (.str cP)),ab (.d (.int c)),ab (.d (.int k))],rfl,by
    exact st2 _ _ _ (st1 c k d32 (i8 (by decide) (by decide)) (M6 hk hn8)) rfl⟩]
   unfold fM;rw[dJ];rfl
  have hp:iF [ab 2,ab 0,ac] [ab (.d (.int c)),ab (.d (.int (m:Int))),ab (.d (.str cP)),ac,ab (.d (.int (n:Int))),ac,ac]=[ab (.d (.str cP)),ab (.d (.int c)),ac]:=rfl;have hj:=Ch (fM c n) (by rw[py];omega);have hwn:(cM 0 (n:Int)).length<=16777216:=by rw[mr];omega
  have hwm:(cM 0 (m:Int)).length<=16777216:=by rw[mr];omega
  have hc:dE (.n 4) el (m2 bn (m2 bn (eD eJ (mV 0) ac (ab (mV 2))) (m2 aE (mV 1) (m2 bg (m2 bn (m2 cx (mV 3) (mC (.int 7))) (m2 bV (mC (.int 5)) (mV 4))) (mC (.int 26))))) (eD eJ (mV 0) (ab (mV 2)) ac))
   [ab (.d (.str (S' (fM c n)))),ab (.d (.str cP)),ab (.d (.int (t:Int))),ab (.d (.int c)),ac] (cM 0 (m:Int))=.ok ((words c m).map λl=>D.str (S' l)):=by
   rw[oN (λk=>D.str (S' ((fM c n).take t++[fq (c/7+5*(k:Int))]++(fM c n).drop t))) m λk hk=>⟨[ab (.d (.str (S' (fM c n)))),ab (.d (.str cP)),ab (.d (.int (t:Int))),ab (.d (.int c)),ab (.d (.int k))],rfl,by
    have gS:∀r:Rs D,bf ((S' (fM c n)).length<=16777216) r=r:=λr=>aQ (by rw[jL,py];omega);have gM:∀r:Rs D,bf (lr 5 (k:Int)) r=r:=λr=>aQ (i8 (by decide) (by decide));simp only[m2,eD,mV,jT,k7,jn,aN,ko,y8,CS,gS,mC,div_ii,aQ d7,sV,gM,n9,kB,g26,yw,DG,Ca];rw[aQ (by rw[jL,jL,iC,py];simp;omega)];simp only[Lp,aN,DG];rw[aQ (by rw[jL,jL,cF,iC,kO,py];simp;omega)]⟩]
   unfold words;rw[ba c1,dJ,hn,ht];rfl
  have hmod:cB (m2 d6 (m2 bg (mV 0) (mC (.int 4))) (mC (.int 2))) [ab (.d (.int c)),ab (.d (.int (m:Int))),ab (.d (.str cP)),ac,ac,ac,ac]=.ok false:=bR ((aC (aC rfl rfl (g4 _)) rfl rfl).trans (by rw[pT,cE c1]))
  show Rs.bind _ jH=_;rw[aU (e':=[ab (.d (.int c)),ab (.d (.int (m:Int))),ab (.d (.str cP)),ac,ac,ac,ac]) (bY rfl)];rw[aU (dU hmod)];rw[aU (e':=[ab (.d (.int c)),ab (.d (.int (m:Int))),ab (.d (.str cP)),ac,ab (.d (.int (n:Int))),ac,ac]) (bY (d:=.int (n:Int)) ((aC (aC rfl rfl (aQ d4)) rfl (g8 _)).trans (by rw[hn])))];rw[aU (e':=[ab (.d (.int c)),ab (.d (.int (m:Int))),ab (.d (.str cP)),ac,ab (.d (.int (n:Int))),ab (.d (.str (S' (fM c n)))),ac]) (bY (aC rfl (fE (jR rfl hrn) hwn Qg) hj))];rw[aU (e':=[ab (.d (.int c)),ab (.d (.int (m:Int))),ab (.d (.str cP)),ac,ab (.d (.int (n:Int))),ab (.d (.str (S' (fM c n)))),ab (.d (.int (t:Int)))]) (bY (d:=.int (t:Int)) ((aC (aC rfl rfl (aQ Qf)) (aC rfl rfl rfl) (aQ (by omega))).trans (by rw[ht])))];rw[c9 (bO (fE (jR rfl hrm) hwm hc))];simp only[aN,Lq,ai,dJ];rfl
end Mr
namespace Mr
open PySem Mi
open My (words rO sC eQ)
theorem qW(n:Nat)(h:n<=8):okR (n:Int):=je (by omega) (by omega)
theorem PD{ls:List Int}{z:Int}(h0:0<=z)(h1:z<ls.length)(hl:ls.length<=100):jz (ls.map D.int) z=.ok (.int (ls.getD z.toNat 0),(ls.eraseIdx z.toNat).map D.int):=by
 have h3:z.toNat<ls.length:=by omega
 unfold jz;rw[aQ (by omega),show eg (ls.map D.int).length z=ab z.toNat by
  unfold eg;rw[a9 h0,a9 (by rw[aX];exact h1)],j1,aN,cX,dR h3,fS,dR h3]
 show Rs.ok (D.int ls[z.toNat],(ls.map D.int).eraseIdx z.toNat)=_;have:∀(l:List Int) (k:Nat),(l.map D.int).eraseIdx k=(l.eraseIdx k).map D.int:=by
  intro l
  induction l with
  |nil=>intro k;rfl
  |cons a r ih=>
   intro k;cases k with
   |zero=>rfl
   |succ k=>rw[cG,zJ,ih k];rfl
 rw[this];rfl
theorem me(e:Mi.Env):mN cZ [] e=.ok (.lst []):=by show bf (([]:List D).length<=16777216) (Rs.ok (D.lst []))=_;exact aQ (by simp)
end Mr
namespace Mr
open PySem Mi
theorem LQ{ls:List Int}{z v:Int}(h0:0<=z)(h1:z<ls.length):∃j,eg (ls.map D.int).length z=ab j/\(ls.map D.int).set j (.int v)=(ls.set j v).map D.int:=by
 refine⟨z.toNat,?_,?_⟩
 ·unfold eg;rw[a9 h0,a9 (by rw[aX];exact h1)]
 ·rw[List.map_set]
theorem Mj{i:Nat}{k a:E}{e:Mi.Env}{ls:List Int}{z v:Int}(ha:a e=.ok (.int v))(hk:k e=.ok (.int z))(hg:getL e i=.ok (ls.map D.int))(h0:0<=z)(h1:z<ls.length):∃ls':List Int,ls'.length=ls.length/\sH i k a e=.ok (.nx (putL e i (ls'.map D.int))):=by obtain⟨j,hj,hs⟩:=LQ (v:=v) h0 h1;refine⟨ls.set j v,by simp,?_⟩;unfold sH;rw[ha,aN,hk,aN,ko,aN,hg,aN,hj,j1,aN,hs]
end Mr
namespace Mr
open PySem Mi
abbrev Ix:=Nat×Nat
def wS(p q:Ix):Prop:=p.1<q.1\/(p.1=q.1/\p.2<q.2)
def nth(ae:List Str)(i:Nat):Str:=ae.getD i m3
def arrOf(ae:List Str)(p:Ix):Ar:=(nth ae p.1,nth ae p.2)
structure oS(ae:List Str)(A:List Ix)(r:Nat->Int):Prop where
 nd:ae.Nodup
 pos:1<=ae.length
 le:ae.length<=8
 gP:A.Pairwise wS
 all:∀p∈A,p.1<ae.length/\p.2<ae.length/\r p.1<r p.2
 al:A.length<=64
theorem Dl{ae:List Str}{i:Nat}(h:i<ae.length):nth ae i∈ae:=by unfold nth;rw[fS,dR h];exact tD h
theorem rh{ae:List Str}(nd:ae.Nodup){i j:Nat}(hi:i<ae.length)(hj:j<ae.length)(h:nth ae i=nth ae j):i=j:=by unfold nth at h;rw[fS,dR hi,fS,dR hj]at h;exact(mP nd).mp h
theorem oS.bh{ae:List Str}{A:List Ix}{r:Nat->Int}(N:oS ae A r):mh ae (A.map (arrOf ae)):=by
 refine⟨N.nd,N.pos,N.le,by rw[aX];exact N.al,λp hp=>?_,λx=>r (ae.idxOf x),λp hp=>?_⟩
 ·obtain⟨q,hq,rfl⟩:=ca.mp hp;exact Dl (N.all q hq).1
 ·obtain⟨q,hq,rfl⟩:=ca.mp hp;obtain⟨h1,h2,h3⟩:=N.all q hq;have key:∀i,i<ae.length->ae.idxOf (nth ae i)=i:=λi hi=>by
   have hm:=Dl hi;have hl:ae.idxOf (nth ae i)<ae.length:=List.idxOf_lt_length_of_mem hm;refine rh N.nd hl hi ?_;have h4:ae[ae.idxOf (nth ae i)]=nth ae i:=List.getElem_idxOf hl;show ae.getD (ae.idxOf (nth ae i)) m3=_;rw[fS,dR hl];exact h4
  show r (ae.idxOf (nth ae q.1))<r (ae.idxOf (nth ae q.2));rw[key _ h1,key _ h2];exact h3
def good(m:Nat)(r:Nat->Int)(A:List Ix)(j k:Nat):Prop:=A.Pairwise wS/\(∀p∈A,p.1<m/\p.2<m/\r p.1<r p.2/\(p.1<j\/(p.1=j/\p.2<k)))/\A.length<=8*j+k
theorem good.skip{m:Nat}{r:Nat->Int}{A:List Ix}{j k:Nat}(h:good m r A j k):good m r A j (k+1):=⟨h.1,λp hp=>⟨(h.2.1 p hp).1,(h.2.1 p hp).2.1,(h.2.1 p hp).2.2.1,by have:=(h.2.1 p hp).2.2.2;omega⟩,by have:=h.2.2;omega⟩
theorem good.add{m:Nat}{r:Nat->Int}{A:List Ix}{j k:Nat}(h:good m r A j k)(hj:j<m)(hk:k<m)(hr:r j<r k):good m r (A++[(j,k)]) j (k+1):=by
 refine⟨List.pairwise_append.mpr ⟨h.1,List.pairwise_singleton _ _,λp hp q hq=>?_⟩,λp hp=>?_,by rw[cF];have:=h.2.2;simp;omega⟩
 ·have:q=(j,k):=by simpa using hq
  subst this;have:=(h.2.1 p hp).2.2.2;exact this
 ·rcases dI.mp hp with hp|hp
  ·exact(h.skip.2.1 p hp)
  ·have:p=(j,k):=by simpa using hp
   subst this;exact⟨hj,hk,hr,.inr ⟨rfl,by omega⟩⟩
theorem good.next{m:Nat}{r:Nat->Int}{A:List Ix}{j k:Nat}(h:good m r A j k)(hk:k<=8):good m r A (j+1) 0:=⟨h.1,λp hp=>⟨(h.2.1 p hp).1,(h.2.1 p hp).2.1,(h.2.1 p hp).2.2.1,by have:=(h.2.1 p hp).2.2.2;omega⟩,by have:=h.2.2;omega⟩
def gT(ae:List Str)(A:List Ix):D:=.lst ((A.map (arrOf ae)).map pairD)
theorem N3{a:Int}(h0:0<=a)(h1:a<8):-(2 ^ 64)<a/\a<2 ^ 64/\0<=a*(a-1)/2/\a*(a-1)/2<=21:=by
 have:a=0\/a=1\/a=2\/a=3\/a=4\/a=5\/a=6\/a=7:=by omega
 rcases this with h|h|h|h|h|h|h|h<;>subst h<;>decide
end Mr
namespace Mr
open PySem Mi
open My (words rO sC)
theorem m9(ns:List Int)(k:Nat)(hk:k<=100):∃c:Int,eY [.d (.lst (ns.map D.int)),.d (.int (k:Int))]=.ok (.d (.int c)):=by
 unfold eY yJ;rw[j4];have hl:mN bS [mV 0] [ab (.d (.lst (ns.map D.int))),ab (.d (.int (k:Int))),ac]=.ok (.int (ns.length:Int)):=by show Rs.ok (D.int ((ns.map D.int).length:Int))=_;rw[aX]
 have c1:cB (m2 d6 (mV 1) (mN bS [(mV 0)])) [ab (.d (.lst (ns.map D.int))),ab (.d (.int (k:Int))),ac]=.ok (decide ((k:Int)<(ns.length:Int))):=bR (aC rfl hl rfl);by_cases h:(k:Int)<(ns.length:Int)
 ·rw[bW h]at c1;exact⟨_,by
   rw[show([ab (W.d (.lst (ns.map D.int))),ab (.d (.int (k:Int)))]++c7 (3-2) ac)=[ab (.d (.lst (ns.map D.int))),ab (.d (.int (k:Int))),ac]from rfl];rw[mq ((f8 c1).trans (c9 (bO (aC rfl rfl (qK (by omega) h)))))];rfl⟩
 ·rw[cE h]at c1;have s1:bF 2 (m2 bn (mC (.int 30011)) (m2 bV (m2 bV (mC (.int 709)) (mV 1)) (mV 1))) [ab (.d (.lst (ns.map D.int))),ab (.d (.int (k:Int))),ac]=.ok (.nx [ab (.d (.lst (ns.map D.int))),ab (.d (.int (k:Int))),ab (.d (.int (30011+709*(k:Int)*(k:Int))))]):=
   bY (aC rfl (aC (aC rfl rfl (aQ (i8 (by decide) (by decide)))) rfl (aQ (pD (by omega) (by omega)))) rfl)
  have hl2:mN bS [mV 0] [ab (.d (.lst (ns.map D.int))),ab (.d (.int (k:Int))),ab (.d (.int (30011+709*(k:Int)*(k:Int))))]=.ok (.int (ns.length:Int)):=by show Rs.ok (D.int ((ns.map D.int).length:Int))=_;rw[aX]
  have c2:cB (m2 pe (mN bS [(mV 0)]) (mC (.int 0))) [ab (.d (.lst (ns.map D.int))),ab (.d (.int (k:Int))),ab (.d (.int (30011+709*(k:Int)*(k:Int))))]=.ok (decide ((0:Int)<(ns.length:Int))):=bR (aC hl2 rfl rfl);by_cases h0:(0:Int)<(ns.length:Int)
  ·rw[bW h0]at c2;refine⟨_,by
    rw[show([ab (W.d (.lst (ns.map D.int))),ab (.d (.int (k:Int)))]++c7 (3-2) ac)=[ab (.d (.lst (ns.map D.int))),ab (.d (.int (k:Int))),ac]from rfl];rw[aU ((dU c1).trans rfl),aU s1,aU ((f8 c2).trans (bY (aC rfl (aC (aC (aC rfl rfl (qK (by decide) h0)) rfl (aQ (by decide))) (aC (aC (aC rfl rfl (aQ (i8 (by omega) (by omega)))) (aC rfl rfl (aQ (i8 (by decide) (by decide)))) rfl) rfl rfl) (aQ (i8 ?_ ?_))) rfl)))];rfl⟩
   ·have:=fW (ns.getD (0:Int).toNat 0) (b:=99991) (by decide);omega
   ·have:=gi (ns.getD (0:Int).toNat 0) (b:=99991) (by decide);omega
  ·rw[cE h0]at c2;exact⟨_,by
    rw[show([ab (W.d (.lst (ns.map D.int))),ab (.d (.int (k:Int)))]++c7 (3-2) ac)=[ab (.d (.lst (ns.map D.int))),ab (.d (.int (k:Int))),ac]from rfl];rw[aU ((dU c1).trans rfl),aU s1,aU ((dU c2).trans rfl)];rfl⟩
theorem PY(d:Int)(m:Nat)(hm:m<=8):∃rs:List Int,q8 [.d (.int d),.d (.int (m:Int))]=.ok (.d (.lst (rs.map D.int)))/\rs.length=m:=by
 unfold q8 Bv;rw[jK];have hw:(cM 0 (m:Int)).length<=16777216:=by rw[mr];omega
 have hc:dE (.n 0) el (mV 0) [ac] (cM 0 (m:Int))=.ok ((cj m).map λ(k:Nat)=>D.int (k:Int)):=oN (λk=>D.int (k:Int)) m λk _=>⟨[ab (.d (.int k))],rfl,rfl⟩
 have hr:((cj m).map λ(k:Nat)=>D.int (k:Int))=((cj m).map λ(k:Nat)=>(k:Int)).map D.int:=by rw[dJ];rfl
 rw[hr]at hc;obtain⟨e',h1,h2⟩:=gR (tg:=.n 5) (body:=aM (bF 4 (m2 bg (m2 bn (m2 bn (m2 bV (mV 4) (mC (.int 48271))) (m2 bV (mC (.int 7)) (mV 5))) (mC (.int 1))) (mC (.int 2147483647)))) (uo 3 2 (m2 bg (m2 cx (mV 4) (mC (.int 32))) (mN bS [(mV 2)]))))
  (λi e=>∃(x:Int) (ls rs:List Int) (o:Option W),e=[ab (.d (.int d)),ab (.d (.int (m:Int))),ab (.d (.lst (ls.map D.int))),ab (.d (.lst (rs.map D.int))),ab (.d (.int x)),o]/\ls.length+i=m/\rs.length=i) (cM 0 (m:Int)) 0 (λi x e hx ⟨x0,ls,rs,o,he,hl,hrs⟩=>by
   obtain⟨hi,rfl⟩:=vj hx;subst he;rw[eM]at hl hrs;have hpos:(0:Int)<(ls.length:Int):=by omega
   obtain⟨y,hy⟩ : ∃y,y=(x0*48271+7*(i:Int)+1)%2147483647:=⟨_,rfl⟩;have z1:=fW (y/32) (b:=(ls.length:Int)) (by omega);have z2:=gi (y/32) hpos;refine⟨[ab (.d (.int d)),ab (.d (.int (m:Int))),ab (.d (.lst (ls.map D.int))),ab (.d (.lst (rs.map D.int))),ab (.d (.int x0)),ab (.d (.int (i:Int)))],[ab (.d (.int d)),ab (.d (.int (m:Int))),ab (.d (.lst ((ls.eraseIdx (y/32%(ls.length:Int)).toNat).map D.int))),ab (.d (.lst ((rs++[ls.getD (y/32%(ls.length:Int)).toNat 0]).map D.int))),ab (.d (.int y)),ab (.d (.int (i:Int)))],rfl,?_,y,ls.eraseIdx (y/32%(ls.length:Int)).toNat,rs++[ls.getD (y/32%(ls.length:Int)).toNat 0],ab (.d (.int (i:Int))),rfl,?_,?_⟩
   ·have h0:m2 bg (m2 cx (mV 4) (mC (.int 32))) (mN bS [(mV 2)]) [ab (.d (.int d)),ab (.d (.int (m:Int))),ab (.d (.lst (ls.map D.int))),ab (.d (.lst (rs.map D.int))),ab (.d (.int y)),ab (.d (.int (i:Int)))]=.ok (.int (y/32%(ls.length:Int))):=
     aC (x:=.int (y/32)) (y:=.int (ls.length:Int)) (aC rfl rfl (aQ (ie (by decide) (by decide)))) (by show Rs.ok (D.int ((ls.map D.int).length:Int))=_;rw[aX]) (aQ hpos)
    rw[aU (e':=[ab (.d (.int d)),ab (.d (.int (m:Int))),ab (.d (.lst (ls.map D.int))),ab (.d (.lst (rs.map D.int))),ab (.d (.int y)),ab (.d (.int (i:Int)))])]
    ·unfold uo;rw[h0];simp only[aN,ko,getL,jn,jT,PD z1 z2 (by omega),putL,Gx,Gy];rw[aQ (by rw[aX];omega),fg];rfl
    ·rw[hy];exact bY (aC (aC (aC (aC rfl rfl (aQ (pD (by decide) (by decide)))) (aC rfl rfl (aQ (i8 (by decide) (by decide)))) rfl) rfl rfl) rfl (aQ (by decide)))
   ·rw[List.length_eraseIdx_of_lt (by omega)];omega
   ·rw[cF,hrs];simp) [ab (.d (.int d)),ab (.d (.int (m:Int))),ab (.d (.lst (((cj m).map λ(k:Nat)=>(k:Int)).map D.int))),ab (.d (.lst [])),ab (.d (.int (d%2147483647))),ac] ⟨_,_,[],ac,rfl,by simp,rfl⟩
 obtain⟨d2,ls,rs,o,he,hl,hrs⟩:=h2;subst he;rw[mr,eM]at hl hrs;refine⟨rs,?_,hrs⟩;rw[aU (e':=[ab (.d (.int d)),ab (.d (.int (m:Int))),ab (.d (.lst (((cj m).map λ(k:Nat)=>(k:Int)).map D.int))),ac,ac,ac]) (bY (fE (jR rfl (qW m hm)) hw hc))];rw[aU (e':=[ab (.d (.int d)),ab (.d (.int (m:Int))),ab (.d (.lst (((cj m).map λ(k:Nat)=>(k:Int)).map D.int))),ab (.d (.lst [])),ac,ac]) (bY (me _))];rw[aU (e':=[ab (.d (.int d)),ab (.d (.int (m:Int))),ab (.d (.lst (((cj m).map λ(k:Nat)=>(k:Int)).map D.int))),ab (.d (.lst [])),ab (.d (.int (d%2147483647))),ac]) (bY (aC rfl rfl (aQ (by decide))))];rw[aU ((ic (jR rfl (qW m hm))).trans h1)];rfl
end Mr
namespace Mr
open PySem Mi
open My (words rO sC)
theorem JD(ns:List Int){e:Mi.Env}{j k:Nat}(hj:j<8)(hk:k<8)(e0:mV 0 e=.ok (.lst (ns.map D.int)))(e7:mV 7 e=.ok (.int (j:Int)))(e8:mV 8 e=.ok (.int (k:Int))):∃c:Int,(a8 eY [(wD (mV 0)),(wD (m2 bn (m2 bn (mC (.int 4)) (m2 cx (m2 bV (mN iH [(mV 7),(mV 8)]) (m2 dZ (mN iH [(mV 7),(mV 8)]) (mC (.int 1)))) (mC (.int 2)))) (mN mm [(mV 7),(mV 8)])))]) e=.ok (.int c):=by have hx:mN iH [(mV 7),(mV 8)] e=.ok (.int (max (j:Int) (k:Int))):=(yd e7 e8).trans (O6 _ _);have hn:mN mm [(mV 7),(mV 8)] e=.ok (.int (min (j:Int) (k:Int))):=(yd e7 e8).trans (Kf _ _);obtain⟨t1,t2,t3,t4⟩:=N3 (a:=max (j:Int) (k:Int)) (by omega) (by omega);obtain⟨z,hz⟩ : ∃z:Nat,4+max (j:Int) (k:Int)*(max (j:Int) (k:Int)-1)/2+min (j:Int) (k:Int)=(z:Int):=⟨(4+max (j:Int) (k:Int)*(max (j:Int) (k:Int)-1)/2+min (j:Int) (k:Int)).toNat,by omega⟩;obtain⟨c,hc⟩:=m9 ns z (by omega);refine⟨c,call2 (bO e0) (bO (aC (aC rfl (aC (aC hx (aC hx rfl rfl) (aQ (i8 t1 t2))) rfl (aQ (ie (by decide) (by decide)))) rfl) hn rfl)) ?_⟩;rw[hz];exact hc
theorem NX(ns:List Int)(hi:Nat)(h0:1<=hi)(h2:hi<=8) :
 ∃ae A r,sE [.d (.lst (ns.map D.int)),.d (.int (hi:Int))]=.ok (.d (aB ae (A.map (arrOf ae))))/\oS ae A r/\(∃(c:Int) (m:Nat),m<=8/\ae=(words c m).map S')/\∃c0:Int,eY [.d (.lst (ns.map D.int)),.d (.int 0)]=.ok (.d (.int c0))/\(ae.length:Int)=1+c0%(hi:Int):=by
 obtain⟨c0,hc0⟩:=m9 ns 0 (by decide);obtain⟨c1,hc1⟩:=m9 ns 1 (by decide);obtain⟨c2,hc2⟩:=m9 ns 2 (by decide);obtain⟨c3,hc3⟩:=m9 ns 3 (by decide);have hw:(0:Int)<(hi:Int):=by omega
 have q1:=fW c0 (b:=(hi:Int)) (by omega);have q2:=gi c0 hw;obtain⟨m,hm⟩ : ∃m:Nat,1+c0%(hi:Int)=(m:Int):=⟨(1+c0%(hi:Int)).toNat,by omega⟩;have hm1:1<=m:=by omega
 have hm2:m<=hi:=by omega
 have hm8:m<=8:=by omega
 obtain⟨ae,hnm⟩ : ∃ae,ae=(words c1 m).map S':=⟨_,rfl⟩;have hn:=Om c1 m hm8;rw[<- hnm]at hn;have hnl:ae.length=m:=by rw[hnm,aX];exact rO c1 m
 have hnd:ae.Nodup:=by rw[hnm];exact List.Pairwise.map _ (λa b h z=>h (Kk z)) (sC _ _ hm8)
 obtain⟨rs,hr,hrl⟩:=PY c2 m hm8;have q3:=fW c3 (b:=6) (by decide);have q4:=gi c3 (b:=6) (by decide);obtain⟨th,hth⟩ : ∃th,aE (.lst ([4,1,2,3,2,3].map D.int)) (.int (c3%6))=.ok (.int th):=⟨_,qK q3 (by simp;omega)⟩;have hrx:∀i:Nat,i<m->aE (.lst (rs.map D.int)) (.int (i:Int))=.ok (.int (rs.getD i 0)):=λi hi=>by
  have:=qK (cs:=rs) (i:=(i:Int)) (by omega) (by omega)
  rwa [jX]at this
 have hnx:∀i:Nat,i<m->aE (ai ae) (.int (i:Int))=.ok (.str (nth ae i)):=λi hi=>by
  have:=zg (cs:=ae) (i:=(i:Int)) (by omega) (by omega)
  rwa [jX]at this
 have inner:∀(j:Nat) (A:List Ix) (o8 o9:Option W),j<m->good m (λi=>rs.getD i 0) A j 0->∃(A':List Ix) (p8 p9:Option W),jj (.n 8) (aM (bF 9 (a8 eY [(wD (mV 0)),(wD (m2 bn (m2 bn (mC (.int 4)) (m2 cx (m2 bV (mN iH [(mV 7),(mV 8)]) (m2 dZ (mN iH [(mV 7),(mV 8)]) (mC (.int 1)))) (mC (.int 2)))) (mN mm [(mV 7),(mV 8)])))])) (bI (eA (cB (m2 d6 (m2 aE (mV 4) (mV 7)) (m2 aE (mV 4) (mV 8)))) (cB (m2 d6 (m2 bg (m2 cx (m2 bg (m2 bV (mV 9) (mC (.int 48271))) (mC (.int 2147483647))) (mC (.int 16))) (mC (.int 4))) (mV 5)))) (c5 6 (mN dTup [(m2 aE (mV 3) (mV 7)),(m2 aE (mV 3) (mV 8))])) bU)) (cM 0 (m:Int)) [ab (.d (.lst (ns.map D.int))),ab (.d (.int (hi:Int))),ab (.d (.int (m:Int))),ab (.d (ai ae)),ab (.d (.lst (rs.map D.int))),ab (.d (.int th)),ab (.d (gT ae A)),ab (.d (.int (j:Int))),o8,o9]=.ok (.nx [ab (.d (.lst (ns.map D.int))),ab (.d (.int (hi:Int))),ab (.d (.int (m:Int))),ab (.d (ai ae)),ab (.d (.lst (rs.map D.int))),ab (.d (.int th)),ab (.d (gT ae A')),ab (.d (.int (j:Int))),p8,p9])/\good m (λi=>rs.getD i 0) A' (j+1) 0:=by
  intro j A o8 o9 hj hg;obtain⟨e',f1,A',p8,p9,he,hg'⟩:=gR (tg:=.n 8) (body:=(aM (bF 9 (a8 eY [(wD (mV 0)),(wD (m2 bn (m2 bn (mC (.int 4)) (m2 cx (m2 bV (mN iH [(mV 7),(mV 8)]) (m2 dZ (mN iH [(mV 7),(mV 8)]) (mC (.int 1)))) (mC (.int 2)))) (mN mm [(mV 7),(mV 8)])))])) (bI (eA (cB (m2 d6 (m2 aE (mV 4) (mV 7)) (m2 aE (mV 4) (mV 8)))) (cB (m2 d6 (m2 bg (m2 cx (m2 bg (m2 bV (mV 9) (mC (.int 48271))) (mC (.int 2147483647))) (mC (.int 16))) (mC (.int 4))) (mV 5)))) (c5 6 (mN dTup [(m2 aE (mV 3) (mV 7)),(m2 aE (mV 3) (mV 8))])) bU))) (λk e=>∃(A:List Ix) (o8 o9:Option W),e=[ab (.d (.lst (ns.map D.int))),ab (.d (.int (hi:Int))),ab (.d (.int (m:Int))),ab (.d (ai ae)),ab (.d (.lst (rs.map D.int))),ab (.d (.int th)),ab (.d (gT ae A)),ab (.d (.int (j:Int))),o8,o9]/\good m (λi=>rs.getD i 0) A j k)
   (cM 0 (m:Int)) 0 (λk x e hx ⟨A,o8,o9,he,hg⟩=>by
    obtain⟨hk,rfl⟩:=vj hx;subst he;rw[eM]at hg;obtain⟨c,hc⟩:=JD ns (e:=[ab (.d (.lst (ns.map D.int))),ab (.d (.int (hi:Int))),ab (.d (.int (m:Int))),ab (.d (ai ae)),ab (.d (.lst (rs.map D.int))),ab (.d (.int th)),ab (.d (gT ae A)),ab (.d (.int (j:Int))),ab (.d (.int (k:Int))),o9]) (j:=j) (k:=k) (by omega) (by omega) rfl rfl rfl;have c1:cB (m2 d6 (m2 aE (mV 4) (mV 7)) (m2 aE (mV 4) (mV 8))) [ab (.d (.lst (ns.map D.int))),ab (.d (.int (hi:Int))),ab (.d (.int (m:Int))),ab (.d (ai ae)),ab (.d (.lst (rs.map D.int))),ab (.d (.int th)),ab (.d (gT ae A)),ab (.d (.int (j:Int))),ab (.d (.int (k:Int))),ab (.d (.int c))]=.ok (decide (rs.getD j 0<rs.getD k 0)):=bR (aC (aC rfl rfl (hrx j hj)) (aC rfl rfl (hrx k hk)) rfl);have c2:cB (m2 d6 (m2 bg (m2 cx (m2 bg (m2 bV (mV 9) (mC (.int 48271))) (mC (.int 2147483647))) (mC (.int 16))) (mC (.int 4))) (mV 5)) [ab (.d (.lst (ns.map D.int))),ab (.d (.int (hi:Int))),ab (.d (.int (m:Int))),ab (.d (ai ae)),ab (.d (.lst (rs.map D.int))),ab (.d (.int th)),ab (.d (gT ae A)),ab (.d (.int (j:Int))),ab (.d (.int (k:Int))),ab (.d (.int c))]=.ok (decide (c*48271%2147483647/16%4<th)):=bR (aC (aC (aC (aC (aC rfl rfl (aQ (pD (by decide) (by decide)))) rfl (aQ (by decide))) rfl (aQ (ie (by decide) (by decide)))) rfl (aQ (by decide))) rfl rfl);by_cases hb:rs.getD j 0<rs.getD k 0/\c*48271%2147483647/16%4<th
    ·refine⟨[ab (.d (.lst (ns.map D.int))),ab (.d (.int (hi:Int))),ab (.d (.int (m:Int))),ab (.d (ai ae)),ab (.d (.lst (rs.map D.int))),ab (.d (.int th)),ab (.d (gT ae A)),ab (.d (.int (j:Int))),ab (.d (.int (k:Int))),o9],[ab (.d (.lst (ns.map D.int))),ab (.d (.int (hi:Int))),ab (.d (.int (m:Int))),ab (.d (ai ae)),ab (.d (.lst (rs.map D.int))),ab (.d (.int th)),ab (.d (gT ae (A++[(j,k)]))),ab (.d (.int (j:Int))),ab (.d (.int (k:Int))),ab (.d (.int c))],rfl,?_,A++[(j,k)],ab (.d (.int (k:Int))),ab (.d (.int c)),rfl,by rw[eM];exact hg.add hj hk hb.1⟩;rw[aU (e':=[ab (.d (.lst (ns.map D.int))),ab (.d (.int (hi:Int))),ab (.d (.int (m:Int))),ab (.d (ai ae)),ab (.d (.lst (rs.map D.int))),ab (.d (.int th)),ab (.d (gT ae A)),ab (.d (.int (j:Int))),ab (.d (.int (k:Int))),ab (.d (.int c))]) (bY hc)];rw[f8 (by unfold eA;rw[c1,aN,bW hb.1,a9 rfl,c2,bW hb.2])];rw[lg (d:=pairD (nth ae j,nth ae k)) (ds:=(A.map (arrOf ae)).map pairD) (ja (aC rfl rfl (hnx j hj)) (aC rfl rfl (hnx k hk))) rfl (by rw[aX,aX];have:=hg.2.2;omega)];show Rs.ok (Out.nx [_,_,_,_,_,_,ab (W.d (D.lst ((A.map (arrOf ae)).map pairD++[pairD (nth ae j,nth ae k)]))),_,_,_])=_;rw[gT,fg,fg];rfl
    ·refine⟨[ab (.d (.lst (ns.map D.int))),ab (.d (.int (hi:Int))),ab (.d (.int (m:Int))),ab (.d (ai ae)),ab (.d (.lst (rs.map D.int))),ab (.d (.int th)),ab (.d (gT ae A)),ab (.d (.int (j:Int))),ab (.d (.int (k:Int))),o9],[ab (.d (.lst (ns.map D.int))),ab (.d (.int (hi:Int))),ab (.d (.int (m:Int))),ab (.d (ai ae)),ab (.d (.lst (rs.map D.int))),ab (.d (.int th)),ab (.d (gT ae A)),ab (.d (.int (j:Int))),ab (.d (.int (k:Int))),ab (.d (.int c))],rfl,?_,A,ab (.d (.int (k:Int))),ab (.d (.int c)),rfl,by rw[eM];exact hg.skip⟩;rw[aU (e':=[ab (.d (.lst (ns.map D.int))),ab (.d (.int (hi:Int))),ab (.d (.int (m:Int))),ab (.d (ai ae)),ab (.d (.lst (rs.map D.int))),ab (.d (.int th)),ab (.d (gT ae A)),ab (.d (.int (j:Int))),ab (.d (.int (k:Int))),ab (.d (.int c))]) (bY hc)];rw[dU (by
      unfold eA;rw[c1,aN];by_cases hb1:rs.getD j 0<rs.getD k 0
      ·rw[bW hb1,a9 rfl,c2,cE λz=>hb ⟨hb1,z⟩]
      ·rw[cE hb1,ba c8])]
     rfl) _ ⟨A,o8,o9,rfl,hg⟩
  subst he;rw[mr,eM]at hg';exact⟨A',p8,p9,f1,hg'.next hm8⟩
 obtain⟨e',f1,A,p7,p8,p9,he,hg⟩:=gR (tg:=.n 7) (body:=(dY (h6 (mV 2)) (.n 8) (aM (bF 9 (a8 eY [(wD (mV 0)),(wD (m2 bn (m2 bn (mC (.int 4)) (m2 cx (m2 bV (mN iH [(mV 7),(mV 8)]) (m2 dZ (mN iH [(mV 7),(mV 8)]) (mC (.int 1)))) (mC (.int 2)))) (mN mm [(mV 7),(mV 8)])))])) (bI (eA (cB (m2 d6 (m2 aE (mV 4) (mV 7)) (m2 aE (mV 4) (mV 8)))) (cB (m2 d6 (m2 bg (m2 cx (m2 bg (m2 bV (mV 9) (mC (.int 48271))) (mC (.int 2147483647))) (mC (.int 16))) (mC (.int 4))) (mV 5)))) (c5 6 (mN dTup [(m2 aE (mV 3) (mV 7)),(m2 aE (mV 3) (mV 8))])) bU)))) (λj e=>∃(A:List Ix) (o7 o8 o9:Option W),e=[ab (.d (.lst (ns.map D.int))),ab (.d (.int (hi:Int))),ab (.d (.int (m:Int))),ab (.d (ai ae)),ab (.d (.lst (rs.map D.int))),ab (.d (.int th)),ab (.d (gT ae A)),o7,o8,o9]/\good m (λi=>rs.getD i 0) A j 0)
  (cM 0 (m:Int)) 0 (λj x e hx ⟨A,o7,o8,o9,he,hg⟩=>by
   obtain⟨hj,rfl⟩:=vj hx;subst he;rw[eM]at hg;obtain⟨A',p8,p9,f1,hg'⟩:=inner j A o8 o9 hj hg;exact⟨_,_,rfl,(ic (jR rfl (qW m hm8))).trans f1,A',_,p8,p9,rfl,by rw[eM];exact hg'⟩)
  [ab (.d (.lst (ns.map D.int))),ab (.d (.int (hi:Int))),ab (.d (.int (m:Int))),ab (.d (ai ae)),ab (.d (.lst (rs.map D.int))),ab (.d (.int th)),ab (.d (.lst [])),ac,ac,ac] ⟨[],ac,ac,ac,rfl,Hg,λp hp=>absurd hp (by simp),fI _⟩
 subst he;rw[mr,eM]at hg;refine⟨ae,A,λi=>rs.getD i 0,?_,⟨hnd,by omega,by omega,hg.1,λp hp=>?_,by have:=hg.2.2;omega⟩,⟨c1,m,hm8,hnm⟩,c0,hc0,by rw[hnl,<- hm]⟩
 ·unfold sE BE;rw[j4];rw[show((0:Nat):Int)=0 from rfl]at hc0;rw[show((1:Nat):Int)=1 from rfl]at hc1;rw[show((2:Nat):Int)=2 from rfl]at hc2;rw[show((3:Nat):Int)=3 from rfl]at hc3;rw[aU (e':=[ab (.d (.lst (ns.map D.int))),ab (.d (.int (hi:Int))),ab (.d (.int (m:Int))),ac,ac,ac,ac,ac,ac,ac]) (bY (d:=.int (m:Int)) ((aC rfl (aC (call2 rfl rfl hc0) rfl (aQ hw)) rfl).trans (by rw[n9,hm])))];rw[aU (e':=[ab (.d (.lst (ns.map D.int))),ab (.d (.int (hi:Int))),ab (.d (.int (m:Int))),ab (.d (ai ae)),ac,ac,ac,ac,ac,ac]) (bY (call2 (bO (call2 rfl rfl hc1)) rfl hn))];rw[aU (e':=[ab (.d (.lst (ns.map D.int))),ab (.d (.int (hi:Int))),ab (.d (.int (m:Int))),ab (.d (ai ae)),ab (.d (.lst (rs.map D.int))),ac,ac,ac,ac,ac]) (bY (call2 (bO (call2 rfl rfl hc2)) rfl hr))];have hl6:mN cZ [(mC (.int 4)),(mC (.int 1)),(mC (.int 2)),(mC (.int 3)),(mC (.int 2)),(mC (.int 3))] [ab (.d (.lst (ns.map D.int))),ab (.d (.int (hi:Int))),ab (.d (.int (m:Int))),ab (.d (ai ae)),ab (.d (.lst (rs.map D.int))),ac,ac,ac,ac,ac]=.ok (.lst ([4,1,2,3,2,3].map D.int)):=by
   show bf (([4,1,2,3,2,3].map D.int).length<=16777216) _=_;exact aQ (by simp)
  rw[aU (e':=[ab (.d (.lst (ns.map D.int))),ab (.d (.int (hi:Int))),ab (.d (.int (m:Int))),ab (.d (ai ae)),ab (.d (.lst (rs.map D.int))),ab (.d (.int th)),ac,ac,ac,ac]) (bY (aC hl6 (aC (call2 rfl rfl hc3) rfl (aQ (by decide))) hth))];rw[aU (e':=[ab (.d (.lst (ns.map D.int))),ab (.d (.int (hi:Int))),ab (.d (.int (m:Int))),ab (.d (ai ae)),ab (.d (.lst (rs.map D.int))),ab (.d (.int th)),ab (.d (.lst [])),ac,ac,ac]) (bY (me _))];rw[aU ((ic (jR rfl (qW m hm8))).trans f1)];rw[c9 (bO (ja (x:=dC ae) (y:=ee (A.map (arrOf ae))) (fv (x:=ai ae) rfl) (fv (x:=gT ae A) rfl)))];rfl
 ·obtain⟨a,b,c,_⟩:=hg.2.1 p hp;exact⟨by omega,by omega,c⟩
end Mr
namespace Mr
open PySem Mi
theorem BH:∀{ds:List D} {k i:Nat} {x:D},(iT k ds)[i]? = ab x->∃d,ds[i]? = ab d/\x=.tup [.int ((k+i:Nat):Int),d]
 |[],_,_,_,h=>by simp[iT]at h
 |d::r,k,0,x,h=>by simp[iT]at h;exact⟨d,rfl,by rw[<- h];simp⟩
 |d::r,k,i+1,x,h=>by
  obtain⟨d',h1,h2⟩:=BH (ds:=r) (k:=k+1) (i:=i) (x:=x) (by simpa [iT]using h);exact⟨d',by simpa using h1,by rw[h2,show k+1+i=k+(i+1)by omega]⟩
theorem Nb(ns:List Int)(m:Nat)(h1:1<=m)(hm:m<=8):∃qs:List Int,qG [.d (.lst (ns.map D.int)),.d (.int (m:Int))]=.ok (.d (.lst (qs.map D.int))):=by
 obtain⟨c,hc⟩:=m9 ns 39 (by decide);rw[show((39:Nat):Int)=39 from rfl]at hc;unfold qG F1;rw[jK];obtain⟨xs,hxs⟩ : ∃xs:List Int,gq (ns.map D.int) (ab 40) (ab 63)=xs.map D.int:=⟨gq ns (ab 40) (ab 63),by unfold gq;simp only[aX,vS,List.map_take]⟩;obtain⟨e',f1,ls,o3,o4,he,hls⟩:=gR (tg:=.t [3,4]) (body:=(bI (cB (m2 d6 (m2 bn (mV 3) (mC (.int 1))) (mV 1)))
 (c5 2 (m2 bg (mV 4) (mC (.int 2147483647))))
 (sH 2 (m2 bg (mV 3) (mV 1)) (m2 bg (m2 bn (m2 bV (m2 aE (mV 2) (m2 bg (mV 3) (mV 1))) (mC (.int 69621))) (mV 4)) (mC (.int 2147483647))))))
  (λi e=>∃(ls:List Int) (o3 o4:Option W),e=[ab (.d (.lst (ns.map D.int))),ab (.d (.int (m:Int))),ab (.d (.lst (ls.map D.int))),o3,o4]/\ls.length=min (i+1) m) (iT 0 (xs.map D.int)) 0 (λi x e hx ⟨ls,o3,o4,he,hls⟩=>by
   obtain⟨d,hd,rfl⟩:=BH hx;subst he;rw[eM]at hls ⊢;obtain⟨v,rfl⟩ : ∃v:Int,d=.int v:=by obtain⟨v,_,rfl⟩:=ca.mp (gG hd);exact⟨v,rfl⟩
   have ct:cB (m2 d6 (m2 bn (mV 3) (mC (.int 1))) (mV 1)) [ab (.d (.lst (ns.map D.int))),ab (.d (.int (m:Int))),ab (.d (.lst (ls.map D.int))),ab (.d (.int (i:Int))),ab (.d (.int v))]=.ok (decide ((i:Int)+1<(m:Int))):=bR (aC (aC rfl rfl rfl) rfl rfl);by_cases hb:(i:Int)+1<(m:Int)
   ·rw[bW hb]at ct;refine⟨[ab (.d (.lst (ns.map D.int))),ab (.d (.int (m:Int))),ab (.d (.lst (ls.map D.int))),ab (.d (.int (i:Int))),ab (.d (.int v))],[ab (.d (.lst (ns.map D.int))),ab (.d (.int (m:Int))),ab (.d (.lst ((ls++[v%2147483647]).map D.int))),ab (.d (.int (i:Int))),ab (.d (.int v))],rfl,?_,ls++[v%2147483647],_,_,rfl,by rw[cF,hls];simp;omega⟩;rw[f8 ct,lg (d:=.int (v%2147483647)) (ds:=ls.map D.int) (aC rfl rfl (aQ (by decide))) rfl (by rw[aX];omega)];rw[fg];rfl
   ·rw[cE hb]at ct;have z0:=fW (i:Int) (b:=(m:Int)) (by omega);have z1:=gi (i:Int) (b:=(m:Int)) (by omega);have hk:∀e:Mi.Env,mV 3 e=.ok (.int (i:Int))->mV 1 e=.ok (.int (m:Int))->m2 bg (mV 3) (mV 1) e=.ok (.int ((i:Int)%(m:Int))):=λe a b=>aC a b (aQ (by omega));have hix:aE (.lst (ls.map D.int)) (.int ((i:Int)%(m:Int)))=.ok (.int (ls.getD ((i:Int)%(m:Int)).toNat 0)):=qK z0 (by omega);have hv:m2 bg (m2 bn (m2 bV (m2 aE (mV 2) (m2 bg (mV 3) (mV 1))) (mC (.int 69621))) (mV 4)) (mC (.int 2147483647)) [ab (.d (.lst (ns.map D.int))),ab (.d (.int (m:Int))),ab (.d (.lst (ls.map D.int))),ab (.d (.int (i:Int))),ab (.d (.int v))]=.ok (.int ((ls.getD ((i:Int)%(m:Int)).toNat 0*69621+v)%2147483647)):=
     aC (aC (aC (aC rfl (hk _ rfl rfl) hix) rfl (aQ (pD (by decide) (by decide)))) rfl rfl) rfl (aQ (by decide))
    obtain⟨ls',hl',hs⟩:=Mj (i:=2) (e:=[ab (.d (.lst (ns.map D.int))),ab (.d (.int (m:Int))),ab (.d (.lst (ls.map D.int))),ab (.d (.int (i:Int))),ab (.d (.int v))]) (ls:=ls) hv (hk _ rfl rfl) rfl z0 (by omega);exact⟨[ab (.d (.lst (ns.map D.int))),ab (.d (.int (m:Int))),ab (.d (.lst (ls.map D.int))),ab (.d (.int (i:Int))),ab (.d (.int v))],[ab (.d (.lst (ns.map D.int))),ab (.d (.int (m:Int))),ab (.d (.lst (ls'.map D.int))),ab (.d (.int (i:Int))),ab (.d (.int v))],rfl,(dU ct).trans hs,ls',_,_,rfl,by omega⟩) [ab (.d (.lst (ns.map D.int))),ab (.d (.int (m:Int))),ab (.d (.lst ([c%2147483647].map D.int))),ac,ac] ⟨[c%2147483647],ac,ac,rfl,by simp;omega⟩
 subst he;refine⟨ls,?_⟩;rw[aU (e':=[ab (.d (.lst (ns.map D.int))),ab (.d (.int (m:Int))),ab (.d (.lst ([c%2147483647].map D.int))),ac,ac]) (bY (nK (aC (call2 rfl rfl hc) rfl (aQ (by decide)))))];have hit:xH (eD eJ (mV 0) (ab (mC (.int 40))) (ab (mC (.int 63)))) [ab (.d (.lst (ns.map D.int))),ab (.d (.int (m:Int))),ab (.d (.lst ([c%2147483647].map D.int))),ac,ac]=.ok (iT 0 (xs.map D.int)):=by rw[<- hxs];rfl
 rw[aU ((ic hit).trans f1)];rfl
end Mr
namespace Mr
open PySem Mi
inductive iR(ak:List Ar)(x:Str):Str->Prop
 |refl:iR ak x x
 |step {y z:Str}:iR ak x y->(y,z)∈ak->iR ak x z
structure Good(ae:List Str)(ak:List Ar)(x:Str)(met:List Str):Prop where
 nd:met.Nodup
 sub:∀y∈met,y∈ae
 r:∀y∈met,iR ak x y
 x:x∈met
def ue(ak:List Ar)(met:List Str):Prop:=∀p∈ak,p.1∈met->p.2∈met
theorem ue.all{ak:List Ar}{met:List Str}(h:ue ak met){x:Str}(hx:x∈met):∀{y:Str},iR ak x y->y∈met
 |_,.refl=>hx
 |_,.step r a=>h _ a (h.all hx r)
theorem Good.iff{ae:List Str}{ak:List Ar}{x:Str}{met:List Str}(g:Good ae ak x met)(h:ue ak met)(y:Str):y∈met↔iR ak x y:=⟨g.r y,h.all g.x⟩
end Mr
namespace Mr
open PySem Mi
noncomputable def rch (ak:List Ar) (x y:Str):Bool:=@decide (iR ak x y) (wx _)
theorem zF{ak:List Ar}{x y:Str}:rch ak x y=true↔iR ak x y:=by unfold rch;exact@jF _ (wx _)
noncomputable def m6 (ae:List Str) (ak:List Ar) (x:Str):List Str:=ae.filter (rch ak x)
theorem LF{ak:List Ar}{x:Str}{met:List Str}(h:∀y,y∈met↔iR ak x y)(y:Str):decide (y∈met)=rch ak x y:=by rw[wg,zF,jF];exact h y
def dc(fs:List Str):W:=.dk (fs.map λy=>((gm y:Ky),D.bl true))
theorem Ez(fs:List Str)(y:Str):(gK (fs.map λy=>((gm y:Ky),D.bl true)) (gm y)).isSome=decide (y∈fs):=by
 unfold gK
 induction fs with
 |nil=>rfl
 |cons a r ih=>
  rw[cG,jU];by_cases h:a=y
  ·subst h;simp
  ·rw[cE (λz:(gm a:Ky)=gm y=>h (Au z))];simp only[ih];rw[decide_eq_decide];exact⟨λz=>ff _ z,λz=>by
    rcases bL.mp z with z|z
    ·exact absurd z.symm h
    ·exact z⟩
theorem CF{i:Nat}{k:E}{e:Mi.Env}{fs:List Str}{y:Str}(hk:k e=.ok (.str y))(hw:wV i e=.ok (dc fs)):nA i k e=.ok (.bl (decide (y∈fs))):=by unfold nA;rw[hk,aN,hw,aN,<- Ez];rfl
theorem NB{i:Nat}{k:E}{e:Mi.Env}{fs:List Str}{y:Str}(hk:k e=.ok (.str y))(hw:wV i e=.ok (dc fs)):hG i k e=.ok (.bl (!decide (y∈fs))):=by unfold hG;rw[hk,aN,hw,aN,<- Ez];rfl
theorem Co{i:Nat}{k:E}{e:Mi.Env}{fs:List Str}{y:Str}(hk:k e=.ok (.str y))(hw:wV i e=.ok (dc fs))(hn:y∉fs)(hl:fs.length<=1000):eB i k (mC (.bl true)) e=.ok (.nx (e.set i (ab (dc (fs++[y]))))):=by
 unfold eB;have h1:rF (dc fs) (.str y) (.bl true)=.ok (dc (fs++[y])):=by
  show bf ((fs.map λy=>((gm y:Ky),D.bl true)).length<16777216) ((cJ (m8 (.str y))).bind λk=>Rs.ok (W.dk (Mi.putK k (.bl true) (fs.map λy=>((gm y:Ky),D.bl true)))))=_;rw[aQ (by rw[aX];omega)];show Rs.ok (W.dk (Mi.putK (gm y:Ky) (.bl true) (fs.map λy=>((gm y:Ky),D.bl true))))=_;unfold Mi.putK;rw[ba (by
   rw[vT,Bool.not_eq_true,GA];intro z hz;simp only[Function.comp,qD];exactλq=>hn (Au q ▸ hz))]
  unfold dc;rw[fg];rfl
 show(k e).bind _=_;rw[hk,aN,hw,aN,h1];rfl
structure qa(ae:List Str)(ak:List Ar)(x:Str)(h:Option Str)(fs ws:List Str):Prop where
 g:Good ae ak x fs
 wnd:ws.Nodup
 qC:∀y∈ws,y∈fs
 ex:∀y∈fs,y∉ws->h=ab y\/∀p∈ak,p.1=y->p.2∈fs
abbrev t7:S:=(aM (vy 5 4)
 (dY (de (mV 1)) (.t [6,7])
 (bI (eA (cB (m2 dP (mV 6) (mV 5))) (cB (hG 3 (mV 7))))
 (aM (eB 3 (mV 7) (mC (.bl true)))
 (c5 4 (mV 7)))
 bU)))
theorem OE{ae:List Str}{ak:List Ar}(N:mh ae ak)(hd:∀p∈ak,p.2∈ae){x h:Str}{fs ws:List Str}(w:qa ae ak x ac fs (ws++[h]))(o5 o6 o7:Option W) :
 ∃fs' ws' p6 p7,t7 [ab (.d (dC ae)),ab (.d (ee ak)),ab (.d (.str x)),ab (dc fs),ab (.d (ai (ws++[h]))),o5,o6,o7]=.ok (.nx [ab (.d (dC ae)),ab (.d (ee ak)),ab (.d (.str x)),ab (dc fs'),ab (.d (ai ws')),ab (.d (.str h)),p6,p7]) /\
  qa ae ak x ac fs' ws'/\fs.length<=fs'.length/\ws'.length+fs.length=ws.length+fs'.length:=by
 have hnd:=kN.mp w.wnd;have hh:h∈fs:=w.qC h (by simp);have hnw:h∉ws:=λz=>hnd.2.2 h z h (by simp) rfl;obtain⟨e',f1,fs',ws',p6,p7,he,w',hl,hl2,hx,_⟩:=gR (tg:=.t [6,7]) (body:=(bI (eA (cB (m2 dP (mV 6) (mV 5))) (cB (hG 3 (mV 7)))) (aM (eB 3 (mV 7) (mC (.bl true))) (c5 4 (mV 7))) bU))
  (λi e=>∃(fs' ws':List Str) (o6 o7:Option W),e=[ab (.d (dC ae)),ab (.d (ee ak)),ab (.d (.str x)),ab (dc fs'),ab (.d (ai ws')),ab (.d (.str h)),o6,o7]/\qa ae ak x (ab h) fs' ws'/\fs.length<=fs'.length/\ws'.length+fs.length=ws.length+fs'.length/\(∀j p,j<i->ak[j]? = ab p->p.1=h->p.2∈fs')/\h∈fs') (ak.map pairD) 0 (λi d e hi ⟨f1,w1,o6,o7,he,W1,hl,hl2,hx,hf1⟩=>by
   subst he;rw[eM]at hx ⊢;rw[cX]at hi;obtain⟨p,hp,rfl⟩:=iY.mp hi;have hpm:=gG hp;have c1:cB (m2 dP (mV 6) (mV 5)) [ab (.d (dC ae)),ab (.d (ee ak)),ab (.d (.str x)),ab (dc f1),ab (.d (ai w1)),ab (.d (.str h)),ab (.d (.str p.1)),ab (.d (.str p.2))]=.ok (decide (p.1=h)):=bR ((aC rfl rfl rfl).trans (uy _ _));have c2:cB (hG 3 (mV 7)) [ab (.d (dC ae)),ab (.d (ee ak)),ab (.d (.str x)),ab (dc f1),ab (.d (ai w1)),ab (.d (.str h)),ab (.d (.str p.1)),ab (.d (.str p.2))]=.ok (!decide (p.2∈f1)):=bR (NB rfl rfl);have hl8:f1.length<=8:=eK (ig W1.g.nd W1.g.sub) N.le;have hw8:w1.length<=8:=eK (ig W1.wnd (λy hy=>W1.g.sub y (W1.qC y hy))) N.le;by_cases hb:p.1=h/\p.2∉f1
   ·refine⟨[ab (.d (dC ae)),ab (.d (ee ak)),ab (.d (.str x)),ab (dc f1),ab (.d (ai w1)),ab (.d (.str h)),ab (.d (.str p.1)),ab (.d (.str p.2))],[ab (.d (dC ae)),ab (.d (ee ak)),ab (.d (.str x)),ab (dc (f1++[p.2])),ab (.d (ai (w1++[p.2]))),ab (.d (.str h)),ab (.d (.str p.1)),ab (.d (.str p.2))],rfl,?_,f1++[p.2],w1++[p.2],_,_,rfl,⟨⟨?_,λy hy=>?_,λy hy=>?_,gf _ W1.g.x⟩,?_,λy hy=>?_,λy hy hn=>?_⟩,by rw[cF];omega,by rw[cF,cF];simp;omega,λj q hj hq h1=>?_,gf _ hf1⟩
    ·rw[f8 (by unfold eA;rw[c1,aN,bW hb.1,a9 rfl,c2,cE hb.2];rfl)];rw[aU (Co (y:=p.2) (fs:=f1) rfl rfl hb.2 (by omega))];rw[lg (d:=.str p.2) (ds:=w1.map D.str) rfl rfl (by rw[aX];omega)];show Rs.ok (Out.nx [_,_,_,_,ab (W.d (D.lst (w1.map D.str++[.str p.2]))),_,_,_])=_;rw[ai,fg];rfl
    ·exact kN.mpr ⟨W1.g.nd,by simp,λa ha b hb'=>by
      have:b=p.2:=by simpa using hb'
      subst this;exactλz=>hb.2 (z ▸ ha)⟩
    ·rcases dI.mp hy with z|z
     ·exact W1.g.sub y z
     ·have:y=p.2:=by simpa using z
      subst this;exact hd p hpm
    ·rcases dI.mp hy with z|z
     ·exact W1.g.r y z
     ·have:y=p.2:=by simpa using z
      subst this;exact .step (W1.g.r p.1 (hb.1 ▸ hf1)) hpm
    ·exact kN.mpr ⟨W1.wnd,by simp,λa ha b hb'=>by
      have:b=p.2:=by simpa using hb'
      subst this;exactλz=>hb.2 (z ▸ W1.qC a ha)⟩
    ·rcases dI.mp hy with z|z
     ·exact gf _ (W1.qC y z)
     ·exact dS _ z
    ·rcases dI.mp hy with z|z
     ·rcases W1.ex y z (λq=>hn (gf _ q))with q|q
      ·exact .inl q
      ·exact .inr λr hr h1=>gf _ (q r hr h1)
     ·exact absurd (dS _ z) hn
    ·by_cases hji:j=i
     ·subst hji;rw[hp]at hq;cases hq;simp
     ·exact gf _ (hx j q (by omega) hq h1)
   ·refine⟨[ab (.d (dC ae)),ab (.d (ee ak)),ab (.d (.str x)),ab (dc f1),ab (.d (ai w1)),ab (.d (.str h)),ab (.d (.str p.1)),ab (.d (.str p.2))],[ab (.d (dC ae)),ab (.d (ee ak)),ab (.d (.str x)),ab (dc f1),ab (.d (ai w1)),ab (.d (.str h)),ab (.d (.str p.1)),ab (.d (.str p.2))],rfl,?_,f1,w1,_,_,rfl,W1,hl,hl2,λj q hj hq h1=>?_,hf1⟩
    ·rw[dU (by
      unfold eA;rw[c1,aN];by_cases h1:p.1=h
      ·rw[bW h1,a9 rfl,c2,bW (G2 λz=>hb ⟨h1,z⟩)];rfl
      ·rw[cE h1,ba c8])]
     rfl
    ·by_cases hji:j=i
     ·subst hji;rw[hp]at hq;cases hq;exact G2 λz=>hb ⟨h1,z⟩
     ·exact hx j q (by omega) hq h1) [ab (.d (dC ae)),ab (.d (ee ak)),ab (.d (.str x)),ab (dc fs),ab (.d (ai ws)),ab (.d (.str h)),o6,o7]
  ⟨fs,ws,o6,o7,rfl,⟨w.g,hnd.1,λy hy=>w.qC y (gf _ hy),λy hy hn=>by
   by_cases hyh:y=h
   ·exact .inl (by rw[hyh])
   ·rcases w.ex y hy (λz=>by
     rcases dI.mp z with z|z
     ·exact hn z
     ·exact hyh (by simpa using z))with q|q
    ·cases q
    ·exact .inr q⟩,bv _,rfl,λj p hj=>absurd hj (qq _),hh⟩
 subst he;refine⟨fs',ws',p6,p7,?_,⟨w'.g,w'.wnd,w'.qC,λy hy hn=>.inr ?_⟩,hl,hl2⟩
 ·rw[show t7=aM (vy 5 4) (dY (de (mV 1)) (.t [6,7]) (bI (eA (cB (m2 dP (mV 6) (mV 5))) (cB (hG 3 (mV 7)))) (aM (eB 3 (mV 7) (mC (.bl true))) (c5 4 (mV 7))) bU))from rfl];rw[aU (e':=[ab (.d (dC ae)),ab (.d (ee ak)),ab (.d (.str x)),ab (dc fs),ab (.d (ai ws)),ab (.d (.str h)),o6,o7]) (by
   show(cJ (((ws++[h]).map D.str)[((ws++[h]).map D.str).length-1]?)).bind _=_;have e1:((ws++[h]).map D.str)[((ws++[h]).map D.str).length-1]? = ab (.str h):=by simp
   have e2:((ws++[h]).map D.str).dropLast=ws.map D.str:=by simp
   rw[e1,j1,aN,e2];rfl)]
  exact(ic (iA (x:=ee ak) rfl rfl)).trans f1
 ·rcases w'.ex y hy hn with q|q
  ·cases q;intro p hp h1;obtain⟨j,hj⟩:=mK hp;exact hx j p (by rw[aX];have:=(b9.mp hj).1;omega) hj h1
  ·exact q
end Mr
namespace Mr
open PySem Mi
theorem CY{ae:List Str}{ak:List Ar}(N:mh ae ak)(hd:∀p∈ak,p.2∈ae){x:Str}:∀(n:Nat) (fs ws:List Str) (o5 o6 o7:Option W),qa ae ak x ac fs ws->(ae.length-fs.length)+ws.length<n ->
 ∃fs' p5 p6 p7,gp (fw (mV 4)) t7 n [ab (.d (dC ae)),ab (.d (ee ak)),ab (.d (.str x)),ab (dc fs),ab (.d (ai ws)),o5,o6,o7]=.ok (.nx [ab (.d (dC ae)),ab (.d (ee ak)),ab (.d (.str x)),ab (dc fs'),ab (.d (ai [])),p5,p6,p7])/\qa ae ak x ac fs' []
 |0,_,_,_,_,_,_,h=>absurd h (qq _)
 |n+1,fs,ws,o5,o6,o7,w,h=>by
  have hc:fw (mV 4) [ab (.d (dC ae)),ab (.d (ee ak)),ab (.d (.str x)),ab (dc fs),ab (.d (ai ws)),o5,o6,o7]=.ok (!(ws.map D.str).isEmpty):=rfl;rcases List.eq_nil_or_concat ws with rfl|⟨ws1,y,rfl⟩
  ·exact⟨fs,o5,o6,o7,by rw[gp,hc];rfl,w⟩
  ·rw[List.concat_eq_append]at w h hc ⊢;obtain⟨fs',ws',p6,p7,f1,w',l1,l2⟩:=OE N hd w o5 o6 o7;have l3:fs'.length<=ae.length:=ig w'.g.nd w'.g.sub;obtain⟨fs2,q5,q6,q7,f2,w2⟩:=CY N hd n fs' ws' (ab (.d (.str y))) p6 p7 w' (by rw[cF]at h;simp at h;omega);refine⟨fs2,q5,q6,q7,?_,w2⟩;rw[gp,hc,show(!((ws1++[y]).map D.str).isEmpty)=true by simp,aN,a9 rfl,f1,aN];exact f2
theorem Ji{ae:List Str}{ak:List Ar}(N:mh ae ak)(hd:∀p∈ak,p.2∈ae){x:Str}(hx:x∈ae):sM [.d (dC ae),.d (ee ak),.d (.str x)]=.ok (.d (ai (m6 ae ak x))):=by
 have w0:qa ae ak x ac [x] [x]:=⟨⟨by simp,λy hy=>by simp at hy;subst hy;exact hx,λy hy=>by simp at hy;subst hy;exact .refl,by simp⟩,by simp,λy hy=>hy,λy hy hn=>absurd hy hn⟩;obtain⟨fs,p5,p6,p7,f1,w⟩:=CY N hd 20 [x] [x] ac ac ac w0 (by have:=N.le;simp;omega);have hcl:ue ak fs:=λp hp h1=>by
  rcases w.ex p.1 h1 (by simp)with q|q
  ·cases q
  ·exact q p hp rfl
 unfold sM BJ;rw[yD];rw[aU (e':=[ab (.d (dC ae)),ab (.d (ee ak)),ab (.d (.str x)),ab (dc [x]),ac,ac,ac,ac]) rfl];rw[aU (e':=[ab (.d (dC ae)),ab (.d (ee ak)),ab (.d (.str x)),ab (dc [x]),ab (.d (ai [x])),ac,ac,ac]) (bY (nK rfl))];rw[aU (show iI 20 (fw (mV 4)) t7 _=_ from f1)];have hc:dE (.n 1) (cB (nA 0 (mV 1))) (mV 1) [ab (dc fs),ac] (ae.map D.str)=.ok ((ae.filter (rch ak x)).map D.str):=
  gW D.str D.str _ ae λy _=>⟨[ab (dc fs),ab (.d (.str y))],rfl,bR ((CF rfl rfl).trans (by rw[LF (w.g.iff hcl)])),λ_=>rfl⟩
 rw[c9 (bO (fE (iA (x:=dC ae) rfl rfl) (by rw[aX];have:=N.le;omega) hc))];rfl
theorem OX{ae:List Str}{ak:List Ar}(N:mh ae ak)(hd:∀p∈ak,p.2∈ae){x:Str}(hx:x∈ae):rE [.d (aB ae ak),.d (.str x)]=.ok (.d (ai (m6 ae ak x))):=by
 unfold rE Fg;rw[jK];have hr:g7 [.d (dC ae),.d (ai [x])]=.ok (.d .non):=sY λy hy=>by simp at hy;subst hy;exact hx
 rw[aU (e':=[ab (.d (aB ae ak)),ab (.d (.str x))]) (by unfold fZ;rw[call2 (bO (aC rfl rfl (ki _ _))) (bO (nK rfl)) hr];rfl)];rw[c9 (bO (lN (bO (aC rfl rfl (ki _ _))) (bO (aC rfl rfl (i9 _ _))) rfl (Ji N hd hx)))];rfl
noncomputable def hb (ae:List Str) (ak:List Ar) (aj:List Str) (x:Str):Bool:=(m6 ae ak x).any λy=>decide (y∈aj)
theorem Ct{ae:List Str}{ak:List Ar}(N:mh ae ak)(hd:∀p∈ak,p.2∈ae){x:Str}(hx:x∈ae)(aj:List Str):kh [.d (aB ae ak),.d (.str x),.d (ai aj)]=.ok (.d (.bl (hb ae ak aj x))):=by
 unfold kh FW;rw[tZ];have hc:dE (.n 1) el (m2 cC (mV 1) (mV 0)) [ab (.d (ai aj)),ac] ((m6 ae ak x).map D.str)=.ok (((m6 ae ak x).filter λ_=>true).map λy=>D.bl (decide (y∈aj))):=
  gW D.str (λy=>D.bl (decide (y∈aj))) _ _ λy _=>⟨[ab (.d (ai aj)),ab (.d (.str y))],rfl,rfl,λ_=>(aC rfl rfl rfl).trans (rC _ _)⟩
 rw[qd.mpr (λ_ _=>rfl)]at hc;have hl:((m6 ae ak x).map D.str).length<=16777216:=by rw[aX];have:=om (rch ak x) ae;have:=N.le;unfold m6;omega
 rw[c9 (bO ((fv (fE (iA (call2 rfl rfl (OX N hd hx)) rfl) hl hc)).trans (by rw[Je,Eo,j1,aN,vT];first|done|rfl)))];rfl
end Mr
namespace Mr
open PySem Mi
abbrev pH:=Str×Str×Str
def tri:List Str->List pH
 |a::b::c::r=>(a,b,c)::tri (b::c::r)
 |_=>[]
def iE(au:List Str)(i:Nat):pH:=(nth au i,nth au (i+1),nth au (i+2))
theorem vc:∀au:List Str,tri au=(cj (au.length-2)).map (iE au)
 |[]=>rfl
 |[_]=>rfl
 |[_,_]=>rfl
 |a::b::c::r=>by
  rw[tri,vc (b::c::r)];rw[show(a::b::c::r).length-2=((b::c::r).length-2)+1 by simp,zK,cG,dJ];rfl
def uM(t:pH):D:=.tup [.str t.1,.str t.2.1,.str t.2.2]
theorem Ee:∀au:List Str,fO (au.map D.str) ((au.drop 1).map D.str) ((au.drop 2).map D.str)=(tri au).map uM
 |[]=>rfl
 |[_]=>rfl
 |[_,_]=>rfl
 |a::b::c::r=>by
  have:=Ee (b::c::r);show D.tup [.str a,.str b,.str c]::fO ((b::c::r).map D.str) ((c::r).map D.str) (r.map D.str)=_;rw[show(fO ((b::c::r).map D.str) ((c::r).map D.str) (r.map D.str))=(tri (b::c::r)).map uM from this,tri];rfl
theorem Bq(ak:List Ar)(p:Ar):((ak.map pairD).any λe=>bH e (pairD p))=decide (p∈ak):=by
 induction ak with
 |nil=>rfl
 |cons q r ih=>
  rw[cG,iV,ih];have:bH (pairD q) (pairD p)=decide (q=p):=by unfold pairD;rw[bH,gZ,gZ,gZ,pU,pU];obtain⟨a,b⟩:=q;obtain⟨c,d⟩:=p;by_cases h1:a=c<;>by_cases h2:b=d<;>simp[h1,h2]
  rw[this];by_cases h:q=p
  ·simp[h]
  ·have h2:¬ p=q:=λz=>h z.symm;simp[h,h2]
theorem xk:∀ak:List Ar,dr (ak.map pairD)<=1
 |[]=>by simp
 |p::r=>by
  have:=xk r;rw[cG,xY];have h:(pairD p).dep=1:=by simp[pairD]
  omega
theorem pf(ak:List Ar)(p:Ar):cC (pairD p) (ee ak)=.ok (.bl (decide (p∈ak))):=by show bf _ _=_;rw[aQ (by have:=xk ak;omega),Bq]
theorem vf(ms:List Str)(x:Str):D.lst (ms.map D.str++[.str x])=ai (ms++[x]):=by unfold ai;rw[fg];rfl
def mt(ak:List Ar)(t:pH):Bool:=decide ((t.1,t.2.1)∈ak)&&decide ((t.2.2,t.2.1)∈ak)
def meets(ak:List Ar)(au:List Str):List Str:=((tri au).filter (mt ak)).map (·.2.1)
theorem DK(au:List Str):(tri au).length=au.length-2:=by rw[vc];simp
theorem Jl(ak:List Ar)(au:List Str):(meets ak au).length<=au.length:=by unfold meets;rw[aX];have:=om (mt ak) (tri au);rw[DK]at this;omega
theorem J2{ae:List Str}{ak:List Ar}{au:List Str}(hr:∀x∈au,x∈ae)(hl:au.length<=8):oX [.d (aB ae ak),.d (ai au)]=.ok (.d (ai (meets ak au))):=by
 unfold oX Fx;rw[jK];rw[aU (e':=[ab (.d (aB ae ak)),ab (.d (ai au)),ac,ac,ac,ac]) (by unfold fZ;rw[call2 (bO (aC rfl rfl (ki _ _))) rfl (sY hr)];rfl)];rw[aU (e':=[ab (.d (aB ae ak)),ab (.d (ai au)),ab (.d (ai [])),ac,ac,ac]) (bY (me _))];have hz:xQ (mV 1) (eD eJ (mV 1) (ab (mC (.int 1))) ac) (eD eJ (mV 1) (ab (mC (.int 2))) ac) [ab (.d (aB ae ak)),ab (.d (ai au)),ab (.d (ai [])),ac,ac,ac]=.ok ((tri au).map uM):=by rw[<- Ee];show Rs.ok (fO (au.map D.str) (gq (au.map D.str) (ab ((1:Nat):Int)) ac) (gq (au.map D.str) (ab ((2:Nat):Int)) ac))=_;rw[vn,vn,vS,vS]
 obtain⟨e',f1,ms,o3,o4,o5,he,hm⟩:=gR (tg:=.t [3,4,5]) (body:=(bI (eA (cB (m2 cC (mN dTup [(mV 3),(mV 4)]) (m2 aE (mV 0) (mC (.int 1))))) (cB (m2 cC (mN dTup [(mV 5),(mV 4)]) (m2 aE (mV 0) (mC (.int 1)))))) (c5 2 (mV 4)) bU))
  (λi e=>∃(ms:List Str) (o3 o4 o5:Option W),e=[ab (.d (aB ae ak)),ab (.d (ai au)),ab (.d (ai ms)),o3,o4,o5]/\ms=(((tri au).take i).filter (mt ak)).map (·.2.1)) ((tri au).map uM) 0 (λi d e hi ⟨ms,o3,o4,o5,he,hm⟩=>by
   subst he;rw[eM]at hm ⊢;rw[cX]at hi;obtain⟨t,ht,rfl⟩:=iY.mp hi;have il:i<(tri au).length:=(b9.mp ht).1;have tk:(tri au).take (i+1)=(tri au).take i++[t]:=by rw[zU,ht];rfl
   have QF:ms.length<=8:=by rw[hm,aX];have h1:=om (mt ak) ((tri au).take i);rw[iC]at h1;rw[DK]at il;omega
   have c1:cB (m2 cC (mN dTup [(mV 3),(mV 4)]) (m2 aE (mV 0) (mC (.int 1)))) [ab (.d (aB ae ak)),ab (.d (ai au)),ab (.d (ai ms)),ab (.d (.str t.1)),ab (.d (.str t.2.1)),ab (.d (.str t.2.2))]=.ok (decide ((t.1,t.2.1)∈ak)):=bR ((aC (ja rfl rfl) (aC rfl rfl (i9 _ _)) rfl).trans (pf ak (t.1,t.2.1)));have c2:cB (m2 cC (mN dTup [(mV 5),(mV 4)]) (m2 aE (mV 0) (mC (.int 1)))) [ab (.d (aB ae ak)),ab (.d (ai au)),ab (.d (ai ms)),ab (.d (.str t.1)),ab (.d (.str t.2.1)),ab (.d (.str t.2.2))]=.ok (decide ((t.2.2,t.2.1)∈ak)):=bR ((aC (ja rfl rfl) (aC rfl rfl (i9 _ _)) rfl).trans (pf ak (t.2.2,t.2.1)));have c3:eA (cB (m2 cC (mN dTup [(mV 3),(mV 4)]) (m2 aE (mV 0) (mC (.int 1))))) (cB (m2 cC (mN dTup [(mV 5),(mV 4)]) (m2 aE (mV 0) (mC (.int 1))))) [ab (.d (aB ae ak)),ab (.d (ai au)),ab (.d (ai ms)),ab (.d (.str t.1)),ab (.d (.str t.2.1)),ab (.d (.str t.2.2))]=.ok (mt ak t):=by
    unfold eA mt;rw[c1,aN];by_cases h:(t.1,t.2.1)∈ak
    ·rw[bW h,a9 rfl,c2,Al]
    ·rw[cE h,ba c8,Aj]
   cases hb:mt ak t with
   |true=>
    rw[hb]at c3;refine⟨[ab (.d (aB ae ak)),ab (.d (ai au)),ab (.d (ai ms)),ab (.d (.str t.1)),ab (.d (.str t.2.1)),ab (.d (.str t.2.2))],[ab (.d (aB ae ak)),ab (.d (ai au)),ab (.d (ai (ms++[t.2.1]))),ab (.d (.str t.1)),ab (.d (.str t.2.1)),ab (.d (.str t.2.2))],rfl,?_,ms++[t.2.1],_,_,_,rfl,?_⟩
    ·rw[f8 c3,lg (d:=.str t.2.1) (ds:=ms.map D.str) rfl rfl (by rw[aX];omega)];show Rs.ok (Out.nx [_,_,ab (W.d (D.lst (ms.map D.str++[.str t.2.1]))),_,_,_])=_;rw[vf]
    ·rw[tk,zR,fg,hm];simp[hb]
   |false=>
    rw[hb]at c3;refine⟨[ab (.d (aB ae ak)),ab (.d (ai au)),ab (.d (ai ms)),ab (.d (.str t.1)),ab (.d (.str t.2.1)),ab (.d (.str t.2.2))],_,rfl,(dU c3).trans rfl,ms,_,_,_,rfl,?_⟩;rw[tk,zR,fg,hm];simp[hb]) [ab (.d (aB ae ak)),ab (.d (ai au)),ab (.d (ai [])),ac,ac,ac] ⟨[],ac,ac,ac,rfl,by simp⟩
 subst he;rw[eM,aX,List.take_length]at hm;subst hm;rw[aU ((ic hz).trans f1)];rfl
theorem uz{au:List Str}{z:Int}(h0:0<=z)(h1:z<au.length):aE (ai au) (.int z)=.ok (.str (nth au z.toNat)):=zg h0 h1
theorem OO{ae:List Str}{ak:List Ar}{au:List Str}{i:Nat}(hi:i+2<au.length):pN [.d (aB ae ak),.d (ai au),.d (.int (1+(i:Int)))]=.ok (.d (.bl (mt ak (iE au i)))):=by
 unfold pN Dd;rw[tZ];have x0:m2 aE (mV 1) (m2 dZ (mV 2) (mC (.int 1))) [ab (.d (aB ae ak)),ab (.d (ai au)),ab (.d (.int (1+(i:Int))))]=.ok (.str (nth au i)):=aC rfl (aC rfl rfl rfl) ((uz (by omega) (by omega)).trans (by rw[show(1+(i:Int)-1).toNat=i by omega]));have x1:m2 aE (mV 1) (mV 2) [ab (.d (aB ae ak)),ab (.d (ai au)),ab (.d (.int (1+(i:Int))))]=.ok (.str (nth au (i+1))):=aC rfl rfl ((uz (by omega) (by omega)).trans (by rw[show(1+(i:Int)).toNat=i+1 by omega]));have x2:m2 aE (mV 1) (m2 bn (mV 2) (mC (.int 1))) [ab (.d (aB ae ak)),ab (.d (ai au)),ab (.d (.int (1+(i:Int))))]=.ok (.str (nth au (i+2))):=aC rfl (aC rfl rfl rfl) ((uz (by omega) (by omega)).trans (by rw[show(1+(i:Int)+1).toNat=i+2 by omega]));have a1:m2 cC (mN dTup [(m2 aE (mV 1) (m2 dZ (mV 2) (mC (.int 1)))),(m2 aE (mV 1) (mV 2))]) (m2 aE (mV 0) (mC (.int 1))) [ab (.d (aB ae ak)),ab (.d (ai au)),ab (.d (.int (1+(i:Int))))]=.ok (.bl (decide ((nth au i,nth au (i+1))∈ak))):=(aC (ja x0 x1) (aC rfl rfl (i9 _ _)) rfl).trans (pf ak (nth au i,nth au (i+1)));have a2:m2 cC (mN dTup [(m2 aE (mV 1) (m2 bn (mV 2) (mC (.int 1)))),(m2 aE (mV 1) (mV 2))]) (m2 aE (mV 0) (mC (.int 1))) [ab (.d (aB ae ak)),ab (.d (ai au)),ab (.d (.int (1+(i:Int))))]=.ok (.bl (decide ((nth au (i+2),nth au (i+1))∈ak))):=(aC (ja x2 x1) (aC rfl rfl (i9 _ _)) rfl).trans (pf ak (nth au (i+2),nth au (i+1)));have aa:nN (m2 cC (mN dTup [(m2 aE (mV 1) (m2 dZ (mV 2) (mC (.int 1)))),(m2 aE (mV 1) (mV 2))]) (m2 aE (mV 0) (mC (.int 1)))) (m2 cC (mN dTup [(m2 aE (mV 1) (m2 bn (mV 2) (mC (.int 1)))),(m2 aE (mV 1) (mV 2))]) (m2 aE (mV 0) (mC (.int 1)))) [ab (.d (aB ae ak)),ab (.d (ai au)),ab (.d (.int (1+(i:Int))))]=.ok (.bl (mt ak (iE au i))):=by
  unfold nN;rw[a1,aN];show(mB (.bl _)).bind _=_;rw[pk,aN];unfold mt iE;by_cases h:(nth au i,nth au (i+1))∈ak
  ·rw[bW h,a9 rfl,a2,Al]
  ·rw[cE h,ba c8,Aj]
 exact(congrArg (λr=>Rs.bind r kC) (c9 (bO aa))).trans rfl
end Mr
namespace Mr
open PySem Mi
def KI(a:Ar)(ak:List Ar):List Ar:=ak.map λp=>if p=a then(p.2,p.1)else p
def hds(ak:List Ar)(l:List Str):List Str:=(ak.filter λp=>decide (p.1∈l)).map (·.2)
def LH(ak:List Ar)(l:List Str):List Str:=l.filter λx=>decide (x∈hds ak l)
def BO(ae:List Str)(ak:List Ar):Nat->List Str
 |0=>ae
 |k+1=>LH ak (BO ae ak k)
def qT(ae:List Str)(ak:List Ar):Bool:=decide (0<(BO ae ak ae.length).length)
def Rk(ak:List Ar):Prop:=∃r:Str->Int,∀p∈ak,r p.1<r p.2
def uj(ak:List Ar)(a m b:Str):Bool:=(decide ((a,m)∈ak)&&decide ((b,m)∈ak)) && !(decide ((a,b)∈ak)||decide ((b,a)∈ak))
theorem Fi{α β:Type}{f g:α->List β}:∀{l:List α},(∀x∈l,f x=g x)->l.flatMap f=l.flatMap g
 |[],_=>rfl
 |x::r,h=>by rw[qe,qe,h x dA,Fi λy hy=>h y (ff _ hy)]
end Mr
namespace Mr
open PySem Mi
theorem Li{l:List Str}(nd:l.Nodup)(hl:l.length<=1000):sA [.d (ai l)]=.ok (.d .non):=by
 unfold sA BY;rw[xr];obtain⟨e',f1,o2,he⟩:=gR (tg:=.n 2) (body:=(aM (bI (cB (nA 1 (mV 2))) rf bU) (eB 1 (mV 2) (mC (.bl true)))))
  (λi e=>∃o2:Option W,e=[ab (.d (ai l)),ab (dc (l.take i)),o2]) (l.map D.str) 0 (λi d e hi ⟨o2,he⟩=>by
   subst he;rw[eM];rw[cX]at hi;obtain⟨x,hx,rfl⟩:=iY.mp hi;obtain⟨il,hxe⟩:=b9.mp hx;have hn:x∉l.take i:=λz=>by
    obtain⟨j,hj⟩:=mK z;have hj2:=(b9.mp hj).1;rw[iC]at hj2;rw[zI (by omega)]at hj;obtain⟨jl,hje⟩:=b9.mp hj;have:=(mP nd).mp (hje.trans hxe.symm);omega
   refine⟨[ab (.d (ai l)),ab (dc (l.take i)),ab (.d (.str x))],[ab (.d (ai l)),ab (dc (l.take (i+1))),ab (.d (.str x))],rfl,?_,_,rfl⟩;rw[aU (e':=[ab (.d (ai l)),ab (dc (l.take i)),ab (.d (.str x))]) ((dU (bR ((CF (y:=x) (fs:=l.take i) rfl rfl).trans (by rw[cE hn])))).trans rfl)];rw[Co (y:=x) (fs:=l.take i) rfl rfl hn (by rw[iC];omega)];rw[zU,hx];rfl) [ab (.d (ai l)),ab (dc []),ac] ⟨ac,rfl⟩
 subst he;rw[aU (e':=[ab (.d (ai l)),ab (dc []),ac]) rfl];rw[ic (iA (x:=ai l) rfl rfl),f1];rfl
theorem uG{au:List Str}{i:Nat}(h:i<au.length):au[i]? = ab (nth au i):=by unfold nth;rw[fS,dR h];rfl
theorem Lo{au:List Str}{t:pH}(h:t∈tri au):∃i,i+2<au.length/\t=iE au i:=by rw[vc]at h;obtain⟨i,hi,rfl⟩:=ca.mp h;exact⟨i,by have:=fT.mp hi;omega,rfl⟩
theorem FZ{au:List Str}(h:1<=au.length):aE (ai au) (.int (-1))=.ok (.str (nth au (au.length-1))):=by unfold ai;show cJ (cK (au.map D.str) (-1))=_;unfold cK eg;rw[ba (by decide),a9 (by rw[aX];omega)];rw[aX,show(-1+(au.length:Int)).toNat=au.length-1 by omega];show cJ ((au.map D.str)[au.length-1]?)=_;rw[cX,uG (by omega)];rfl
end Mr
namespace Mr
open PySem Mi
theorem uE(n:Nat):cM 1 ((n:Int)-1)=(cj (n-2)).map λ(i:Nat)=>D.int (1+(i:Int)):=by unfold cM;rw[show((n:Int)-1-1).toNat=n-2 by omega]
theorem uF{a b:E}{e:Mi.Env}{i j:Int}(ha:a e=.ok (.int i))(hb:b e=.ok (.int j))(h:okR i/\okR j):lJ a b e=.ok (cM i j):=by unfold lJ;rw[ha,aN,hb,aN,ko,aN,ko,aN,aQ h]
end Mr
namespace Mr
open PySem Mi
def tie(ak:List Ar)(a b:Str):Bool:=decide ((a,b)∈ak)||decide ((b,a)∈ak)
theorem IT{ae:List Str}{ak:List Ar}(a b:Str):nG [.d (aB ae ak),.d (.str a),.d (.str b)]=.ok (.d (.bl (tie ak a b))):=by
 unfold nG EI;rw[tZ];have a1:m2 cC (mN dTup [(mV 1),(mV 2)]) (m2 aE (mV 0) (mC (.int 1))) [ab (.d (aB ae ak)),ab (.d (.str a)),ab (.d (.str b))]=.ok (.bl (decide ((a,b)∈ak))):=(aC (ja rfl rfl) (aC rfl rfl (i9 _ _)) rfl).trans (pf ak (a,b));have a2:m2 cC (mN dTup [(mV 2),(mV 1)]) (m2 aE (mV 0) (mC (.int 1))) [ab (.d (aB ae ak)),ab (.d (.str a)),ab (.d (.str b))]=.ok (.bl (decide ((b,a)∈ak))):=(aC (ja rfl rfl) (aC rfl rfl (i9 _ _)) rfl).trans (pf ak (b,a));have aa:vt (m2 cC (mN dTup [(mV 1),(mV 2)]) (m2 aE (mV 0) (mC (.int 1)))) (m2 cC (mN dTup [(mV 2),(mV 1)]) (m2 aE (mV 0) (mC (.int 1)))) [ab (.d (aB ae ak)),ab (.d (.str a)),ab (.d (.str b))]=.ok (.bl (tie ak a b)):=by
  unfold vt;rw[a1,aN];show(mB (.bl _)).bind _=_;rw[pk,aN];unfold tie;by_cases h:(a,b)∈ak
  ·rw[bW h,a9 rfl,Bool.true_or]
  ·rw[cE h,ba c8,a2,wj]
 exact(congrArg (λr=>Rs.bind r kC) (c9 (bO aa))).trans rfl
end Mr
namespace Mr
open PySem Mi
end Mr
namespace Mr
open PySem Mi
end Mr
namespace Mr
open PySem Mi
theorem DP{a b:C}{e:Mi.Env}{p q:Bool}(ha:a e=.ok p)(hb:p=true->b e=.ok q):eA a b e=.ok (p&&q):=by
 unfold eA;rw[ha,aN];cases p with
 |true=>rw[a9 rfl,hb rfl];rfl
 |false=>rfl
theorem lD{a b:C}{e:Mi.Env}{p q:Bool}(ha:a e=.ok p)(hb:p=false->b e=.ok q):dO a b e=.ok (p||q):=by
 unfold dO;rw[ha,aN];cases p with
 |true=>rfl
 |false=>rw[ba c8,hb rfl];rfl
theorem kG{a:C}{e:Mi.Env}{p:Bool}(ha:a e=.ok p):cV a e=.ok (!p):=by unfold cV;rw[ha];rfl
theorem Le{a b:E}{e:Mi.Env}{p q:Bool}(ha:a e=.ok (.bl p))(hb:p=true->b e=.ok (.bl q)):nN a b e=.ok (.bl (p&&q)):=by
 unfold nN;rw[ha,aN,pk,aN];cases p with
 |true=>rw[a9 rfl,hb rfl];rfl
 |false=>rfl
theorem Nf{f:List D->Rs D}{a b c:E}{e:Mi.Env}{x y z:D}(h:a e=.ok x)(h':b e=.ok y)(h'':c e=.ok z):mN f [a,b,c] e=f [x,y,z]:=by unfold mN;rw[f7,h,aN,f7,h',aN,f7,h''];rfl
theorem Do{α β γ : Type}(f:β->γ)(g:α->List β):∀l:List α,(l.flatMap g).map f=l.flatMap λx=>(g x).map f
 |[]=>rfl
 |x::r=>by rw[qe,fg,Do f g r,qe]
theorem Dg{α β:Type}{g:α->List β}{m:Nat}:∀{l:List α},(∀x∈l,(g x).length<=m)->(l.flatMap g).length<=l.length*m
 |[],_=>by simp
 |x::r,h=>by
  have ih:=Dg (l:=r) λy hy=>h y (ff _ hy);have h1:=h x dA;rw[qe,cF,c6,Nat.add_mul];omega
def Pl(ak:List Ar):D:=.lst (ak.map pairD)
end Mr
namespace Mr
open PySem Mi
structure Nt(ae:List Str)(ak:List Ar):Prop where
 nd:ae.Nodup
 le:ae.length<=8
 al:ak.length<=64
 inn:∀p∈ak,p.1∈ae/\p.2∈ae
 rk:Rk ak
def cov(ak:List Ar)(p:Ar):Bool:=JU (io ak p.2) (io ak p.1++[p.1])
end Mr
namespace Mr
open PySem Mi
def gP(ae:List Str)(ak:List Ar):List Ar:=ae.flatMap λt=>(ae.filter λh=>decide ((t,h)∈ak)).map λh=>(t,h)
theorem MO{ae:List Str}{ak:List Ar}{p:Ar}:p∈gP ae ak↔p∈ak/\p.1∈ae/\p.2∈ae:=by
 obtain⟨a,b⟩:=p;unfold gP;simp only[List.mem_flatMap,ca,dH,qD,Prod.mk.injEq];constructor
 ·rintro⟨t,ht,h,⟨h1,h2⟩,rfl,rfl⟩;exact⟨h2,ht,h1⟩
 ·rintro⟨h1,h2,h3⟩;exact⟨a,h2,b,⟨h3,h1⟩,rfl,rfl⟩
theorem MY{ae:List Str}(hn:ae.length<=8)(ak:List Ar):(gP ae ak).length<=64:=by unfold gP;refine eK (Dg (m:=8) λt _=>?_) (by omega);rw[aX];exact eK (om _ _) hn
theorem NI{xs:List Ar}{i:Int}(h0:0<=i)(h1:i<xs.length):∃p,p∈xs/\aE (Pl xs) (.int i)=.ok (pairD p):=by
 have hk:i.toNat<xs.length:=by omega
 refine⟨xs[i.toNat],tD hk,?_⟩;show cJ (cK (xs.map pairD) i)=_;unfold cK eg;rw[a9 h0,aX,a9 h1];show cJ ((xs.map pairD)[i.toNat]?)=_;rw[cX,dR hk];rfl
end Mr
namespace Mr
open PySem Mi
def sq(k:Bool)(ds:List D):D:=if k then .lst ds else .tup ds
end Mr
namespace Mr
open PySem Mi
def ky(ae row:List Str):List Int:=row.map λx=>((ae.idxOf x:Nat):Int)
end Mr
namespace Mr
open PySem Mi
def tr(t:pH):List Str:=[t.1,t.2.1,t.2.2]
end Mr
namespace Mr
open PySem Mi
theorem Nr{a b:E}{e:Mi.Env}{x y:D}(h:a e=.ok x)(h':b e=.ok y):mN cZ [a,b] e=.ok (.lst [x,y]):=by unfold mN;rw[f7,h,aN,f7,h',aN];rfl
theorem N2{a:E}{e:Mi.Env}{x:D}(h:a e=.ok x):fZ a e=.ok (.nx e):=by unfold fZ;rw[h];rfl
end Mr
namespace Mr
open PySem Mi
open My (words eQ fb)
theorem Pa:("abcdefghijklmnopqrstuvwxyz" : Str).cps.toList=(cj 26).map (· + 97):=by decide +kernel
theorem KN{a b c:E}{e:Mi.Env}{i j k:Int}(ha:a e=.ok (.int i))(hb:b e=.ok (.int j))(hc:c e=.ok (.int k))(h1:i<=j)(h2:j<=k):uh oP oP a b c e=.ok (.bl true):=by unfold uh;rw[ha,aN,hb,aN];show(Rs.ok (D.bl (decide (i<=j)))).bind _=_;rw[bW h1,aN,pk,aN,a9 rfl,hc,aN];show Rs.ok (D.bl (decide (j<=k)))=_;rw[bW h2]
theorem OC{l:List Nat}(hw:eQ l):qO [.d (.str (S' l))]=.ok (.d (.bl true)):=by
 unfold qO Dq;rw[xr];rw[show([ab (W.d (.str (S' l)))]++c7 (1-1) ac)=[ab (W.d (.str (S' l)))]from rfl];obtain⟨h1,h8,hl⟩:=hw;have hc:dE (.n 0) el (m2 cC (mV 0) (mC (.str "abcdefghijklmnopqrstuvwxyz"))) [ac] (l.map λc=>D.str (S' [c]))=.ok ((l.filter λ_=>true).map λc=>D.bl ((λ_=>true) c)):=
  gW (λc=>D.str (S' [c])) (λc=>D.bl ((λ_=>true) c)) (λ_=>true) l λc hcl=>⟨[ab (.d (.str (S' [c])))],rfl,rfl,λ_=>aC (x:=.str (S' [c])) rfl rfl (by
   show bf ((S' [c]).length=1) (Rs.ok (D.bl (decide ((S' [c]).cps.getD 0 0∈("abcdefghijklmnopqrstuvwxyz" : Str).cps.toList))))=_;have hm:(S' [c]).cps.getD 0 0∈("abcdefghijklmnopqrstuvwxyz" : Str).cps.toList:=by rw[Pa];have:=hl c hcl;exact ca.mpr ⟨c-97,fT.mpr (by omega),by show c-97+97=c;omega⟩
   rw[aQ (by rw[jL];rfl),bW hm])⟩
 rw[qd.mpr (λ_ _=>rfl)]at hc;have h2:mN xc [(dj [ac] (de (mV 0)) (.n 0) el (m2 cC (mV 0) (mC (.str "abcdefghijklmnopqrstuvwxyz"))))] [ab (W.d (.str (S' l)))]=.ok (.bl true):=by refine(fv (fE (ρ:=[ac]) (iA (a:=mV 0) (x:=.str (S' l)) rfl rfl) (by rw[aX,u4];omega) hc)).trans ?_;rw[Ob,Eo,j1,aN,List.all_map];show Rs.ok (D.bl (l.all λ_=>true))=_;rw[tz.mpr (λ_ _=>rfl)]
 have h3:uh oP oP (mC (.int 1)) (mN bS [(mV 0)]) (mC (.int 8)) [ab (W.d (.str (S' l)))]=.ok (.bl true):=KN (j:=((l.length:Nat):Int)) rfl ((fv (x:=.str (S' l)) rfl).trans (by rw[JI,aQ (by rw[jL];omega),jL])) rfl (by omega) (by omega);rw[c9 (bO (Le h3 λ_=>h2))];rfl
theorem yR{α:Type}{l:List α}(nd:l.Nodup){i:Nat}{x:α}(hx:l[i]? = ab x):x∉l.take i:=λz=>by
 obtain⟨il,hxe⟩:=b9.mp hx;obtain⟨j,hj⟩:=mK z;have hj2:=(b9.mp hj).1;rw[iC]at hj2;rw[zI (by omega)]at hj;obtain⟨jl,hje⟩:=b9.mp hj;have:=(mP nd).mp (hje.trans hxe.symm);omega
def both(xs:List Ar):List Ar:=xs.flatMap λp=>[p,(p.2,p.1)]
end Mr
namespace Mr
open PySem Mi
open My (words eQ fb)
end Mr
namespace Mr
open PySem Mi
abbrev nn:D:=.lst [.str "NoName"]
end Mr
namespace Mr
open PySem Mi
open My (words eQ fb)
theorem sO{f:Fn}{a b c g:EW}{e:Mi.Env}{x y z u:W}{d:D}(h:a e=.ok x)(h':b e=.ok y)(h'':c e=.ok z)(h3:g e=.ok u)(hf:f [x,y,z,u]=.ok (.d d)):a8 f [a,b,c,g] e=.ok d:=by unfold a8 jv;rw[cW,h,aN,cW,h',aN,cW,h'',aN,cW,h3];simp only[aN,cW,hf,q9]
theorem BD{α:Type}(f:α->Nat):∀(l m:List α),l.Pairwise (λa b=>f a<f b)->m.Pairwise (λa b=>f a<f b)->(∀x,x∈l↔x∈m)->l=m
 |[],[],_,_,_=>rfl
 |[],b::t,_,_,h=>nomatch (h b).mpr (dA ..)
 |a::r,[],_,_,h=>nomatch (h a).mp (dA ..)
 |a::r,b::t,hl,hm,h=>by
  have l1:=vQ.mp hl;have m1:=vQ.mp hm;have e:a=b:=by
   rcases bL.mp ((h a).mp (dA ..))with z|z
   ·exact z
   ·rcases bL.mp ((h b).mpr (dA ..))with y|y
    ·exact y.symm
    ·have k1:=m1.1 a z;have k2:=l1.1 b y;omega
  subst e;rw[BD f r t l1.2 m1.2 λx=>⟨λhx=>by
   rcases bL.mp ((h x).mp (ff _ hx))with z|z
   ·have:=l1.1 x hx;rw[z]at this;omega
   ·exact z,λhx=>by
   rcases bL.mp ((h x).mpr (ff _ hx))with z|z
   ·have:=m1.1 x hx;rw[z]at this;omega
   ·exact z⟩]
def f6(ak:List Ar)(x:Str):List Str:=(ak.filter λp=>decide (p.1=x)).map (·.2)
theorem FO{ak:List Ar}{x y:Str}:y∈f6 ak x↔(x,y)∈ak:=by
 unfold f6;constructor
 ·intro h;obtain⟨p,hp,rfl⟩:=ca.mp h;obtain⟨h1,h2⟩:=dH.mp hp;rw[<- j3 h2];exact h1
 ·exactλh=>ca.mpr ⟨(x,y),dH.mpr ⟨h,bW rfl⟩,rfl⟩
theorem C2{ae:List Str}{ak:List Ar}{x:Str}(hx:x∈ae)(hl:ak.length<=64):lB [.d (aB ae ak),.d (.str x)]=.ok (.d (.tup ((f6 ak x).map D.str))):=by
 unfold lB BL;rw[j4];rw[show([ab (W.d (aB ae ak)),ab (W.d (.str x))]++c7 (2-2) ac)=[ab (W.d (aB ae ak)),ab (W.d (.str x))]from rfl];have hr:g7 [.d (dC ae),.d (ai [x])]=.ok (.d .non):=sY λy hy=>by rw[cr.mp hy];exact hx
 rw[aU (N2 (call2 (bO (aC rfl rfl (ki _ _))) (bO (nK rfl)) hr))];have hc:dE (.t [1,2]) (cB (m2 dP (mV 1) (mV 0))) (mV 2) [ab (.d (.str x)),ac,ac] (ak.map pairD)=.ok ((ak.filter λp=>decide (p.1=x)).map λp=>D.str p.2):=
  gW pairD (λp=>D.str p.2) (λp=>decide (p.1=x)) ak λp _=>⟨[ab (.d (.str x)),ab (.d (.str p.1)),ab (.d (.str p.2))],rfl,bR (aC rfl rfl (uy p.1 x)),λ_=>rfl⟩
 rw[c9 (bO ((fv (fE (ρ:=[ab 1,ac,ac]) (iA (aC rfl rfl (i9 ae ak)) rfl) (by rw[aX];omega) hc)).trans rfl))];show Rs.ok (W.d (.tup _))=_;unfold f6;rw[dJ];rfl
end Mr
namespace Mr
open PySem Mi
open My (words eQ fb)
end Mr
namespace Mr
open PySem Mi
open My (words eQ fb)
def ixs(ae:List Str)(B:List Ar):List Ix:=(cj ae.length).flatMap λi=>((cj ae.length).filter λj=>decide ((nth ae i,nth ae j)∈B)).map λj=>(i,j)
theorem EC(ae:List Str):(cj ae.length).map (nth ae)=ae:=by refine List.ext_getElem (by rw[aX,tu]) λi h1 h2=>?_;rw[List.getElem_map,zQ];unfold nth;rw[fS,dR h2];rfl
theorem C4(ae:List Str)(B:List Ar):(ixs ae B).map (arrOf ae)=gP ae B:=by
 unfold ixs gP;rw[Do];have e:ae.flatMap (λt=>(ae.filter λh=>decide ((t,h)∈B)).map λh=>(t,h))=((cj ae.length).map (nth ae)).flatMap (λt=>(ae.filter λh=>decide ((t,h)∈B)).map λh=>(t,h)):=by rw[EC]
 rw[e,List.flatMap_map];refine Fi λi _=>?_;have e2:ae.filter (λh=>decide ((nth ae i,h)∈B))=((cj ae.length).map (nth ae)).filter (λh=>decide ((nth ae i,h)∈B)):=by rw[EC]
 rw[e2,List.filter_map,dJ,dJ];rfl
theorem xG{ae:List Str}{B:List Ar}{p:Ix}:p∈ixs ae B↔p.1<ae.length/\p.2<ae.length/\(nth ae p.1,nth ae p.2)∈B:=by
 unfold ixs;rw[List.mem_flatMap];constructor
 ·rintro⟨i,hi,h⟩;obtain⟨j,hj,rfl⟩:=ca.mp h;obtain⟨h1,h2⟩:=dH.mp hj;exact⟨fT.mp hi,fT.mp h1,j3 h2⟩
 ·rintro⟨h1,h2,h3⟩;exact⟨p.1,fT.mpr h1,ca.mpr ⟨p.2,dH.mpr ⟨fT.mpr h2,bW h3⟩,rfl⟩⟩
theorem Nk{ae:List Str}(nd:ae.Nodup)(h8:ae.length<=8)(B:List Ar):(gP ae B).Nodup:=by
 rw[<- C4];refine mO.mpr (List.Pairwise.imp_of_mem (R:=wS) (λ{p q} hp hq h z=>?_) ?_)
 ·obtain⟨a,b,_⟩:=xG.mp hp;obtain⟨c,d,_⟩:=xG.mp hq;have e1:=rh nd a c (congrArg wA z);have e2:=rh nd b d (congrArg Prod.snd z);rcases h with h|⟨_,h⟩<;>omega
 ·unfold ixs;rw[Gp];refine⟨λi _=>?_,?_⟩
  ·rw[mO];exact(Hf _ vN).imp λ{a b} h=>.inr ⟨rfl,h⟩
  ·refine vN.imp λ{a b} h=>?_;intro x hx y hy;obtain⟨j,_,rfl⟩:=ca.mp hx;obtain⟨j',_,rfl⟩:=ca.mp hy;exact .inl h
structure Gd(ae:List Str)(ak:List Ar):Prop where
 nd:ae.Nodup
 pos:1<=ae.length
 le:ae.length<=8
 rk:Rk ak
 gP:gP ae ak=ak
 wd:∀x∈ae,qO [.d (.str x)]=.ok (.d (.bl true))
theorem Gd.inn{ae:List Str}{ak:List Ar}(G:Gd ae ak):∀p∈ak,p.1∈ae/\p.2∈ae:=λp hp=>by
 rw[<- G.gP]at hp;exact(MO.mp hp).2
theorem Gd.al{ae:List Str}{ak:List Ar}(G:Gd ae ak):ak.length<=64:=by rw[<- G.gP];exact MY G.le _
theorem Gd.nodup{ae:List Str}{ak:List Ar}(G:Gd ae ak):ak.Nodup:=by rw[<- G.gP];exact Nk G.nd G.le _
end Mr
namespace Mr
open PySem Mi
open My (words eQ fb)
structure Lk(ae:List Str)(ak:List Ar):Prop where
 nd:ae.Nodup
 le:ae.length<=8
 al:ak.length<=64
 inn:∀p∈ak,p.1∈ae/\p.2∈ae
 rk:Rk ak
 nda:ak.Nodup
theorem Gd.lk{ae:List Str}{ak:List Ar}(G:Gd ae ak):Lk ae ak:=⟨G.nd,G.le,G.al,G.inn,G.rk,G.nodup⟩
theorem Lk.Nm{ae:List Str}{ak:List Ar}(G:Lk ae ak)(x:Str):(io ak x).Nodup:=by unfold io;refine mO.mpr ((G.nda.filter _).imp_of_mem λ{p q} hp hq h z=>h ?_);have h1:=j3 (dH.mp hp).2;have h2:=j3 (dH.mp hq).2;exact qv z (h1.trans h2.symm)
end Mr
namespace Mr
open PySem Mi
open My (words eQ fb)
theorem JZ{ak:List Ar}{a b:Str}:tie ak a b=true↔(a,b)∈ak\/(b,a)∈ak:=by unfold tie;rw[Bool.or_eq_true,jF,jF]
end Mr
namespace Mr
open PySem Mi
open My (words eQ fb)
def Wk(ae:List Str)(B:List Ar):List Ar->List Ar->Prop
 |[],L=>gP ae L=B
 |p::r,L=>p∈L/\cov L p=true/\Wk ae B r (KI p L)
end Mr
namespace Mr
open PySem Mi
open My (words eQ fb)
theorem JN{xs:List Ar}{i:Int}(h0:0<=i)(h1:i<xs.length):∃p,p∈xs/\aE (ee xs) (.int i)=.ok (pairD p):=NI h0 h1
theorem oS.gd{ae:List Str}{A:List Ix}{r:Nat->Int}(N:oS ae A r)(hw:∀x∈ae,qO [.d (.str x)]=.ok (.d (.bl true))):Gd ae (A.map (arrOf ae)):=by
 refine⟨N.nd,N.pos,N.le,N.bh.rk,?_,hw⟩;rw[<- C4]
 congr 1
 refine(BD (λp:Ix=>p.1*8+p.2) _ _ ?_ ?_ λp=>?_)
 ·unfold ixs;have h8:=N.le;rw[Gp];refine⟨λi _=>?_,?_⟩
  ·rw[mO];refine(Hf _ vN).imp λ{a b} h=>?_;show i*8+a<i*8+b;omega
  ·refine vN.imp λ{a b} h=>?_;intro x hx y hy;obtain⟨j,hj,rfl⟩:=ca.mp hx;obtain⟨j',_,rfl⟩:=ca.mp hy;have:=fT.mp (dH.mp hj).1;show a*8+j<b*8+j';omega
 ·refine N.gP.imp_of_mem λ{p q} hp hq h=>?_;have h1:=(N.all p hp).2.1;have h8:=N.le;rcases h with h|⟨e,h⟩
  ·show p.1*8+p.2<q.1*8+q.2;omega
  ·show p.1*8+p.2<q.1*8+q.2;omega
 ·rw[xG];constructor
  ·rintro⟨h1,h2,h3⟩;obtain⟨q,hq,e⟩:=ca.mp h3;have e1:=rh N.nd (N.all q hq).1 h1 (congrArg wA e);have e2:=rh N.nd (N.all q hq).2.1 h2 (congrArg Prod.snd e);have:q=p:=qv e1 e2;rw[<- this];exact hq
  ·exactλh=>⟨(N.all p h).1,(N.all p h).2.1,ca.mpr ⟨p,h,rfl⟩⟩
end Mr
namespace Mr
open PySem Mi
open My (words eQ fb)
end Mr
namespace Mr
open PySem Mi
def rk(r:List Str):List Ky:=r.map gm
abbrev BV:=List (Ar×D)
def yE(told:BV):List Ar:=told.map (·.1)
theorem NN(n:Nat)(b:S)(a0 a1 a2 a3 a4:W):dm 5 n b [a0,a1,a2,a3,a4]=(b ([ab a0,ab a1,ab a2,ab a3,ab a4]++c7 (n-5) ac)).bind kC:=aQ rfl
end Mr
namespace Mr
open PySem Mi
structure Dc(ae:List Str)(A:List Ar)(KT KC:List (List Str)):Prop where
 kt:∀a∈ae,∀b∈ae,a≠b->([a,b]∈KT↔tie A a b=true)
 ktm:∀k∈KT,∃a b,k=[a,b]/\a∈ae/\b∈ae/\a≠b/\tie A a b=true
 kc:∀a∈ae,∀m∈ae,∀b∈ae,[a,m,b]∈KC↔a≠b/\uj A a m b=true
def OA(t h s:Str)(x:List Str):D:=.tup [.str t,.str h,.str s,.tup (x.map D.str)]
inductive Rl(ae:List Str)(A P:List Ar)(t h:Str):Str->List Str->Prop
 |Qh {z:Str} (zn:z∈ae) (ne:t≠z) (c:uj A t h z=true):Rl ae A P t h "corner" [z]
 |on {z:Str} (zn:z∈ae) (ne:z≠h) (nt:tie A z h=false) (nc:uj A z t h=false) (p:(z,t)∈P):Rl ae A P t h "on" [z]
 |over {z:Str} (zn:z∈ae) (p:(t,z)∈P) (q:(z,h)∈P):Rl ae A P t h "over" [z]
 |both {z w:Str} (zn:z∈ae) (wn:w∈ae) (ne:z≠w) (nt:tie A z w=false) (nc:uj A z t w=false) (t1:tie A z t=true) (t2:tie A w t=true) (p:(z,h)∈P) (q:(w,h)∈P):Rl ae A P t h "both" [z,w]
end Mr
namespace Mr
open PySem Mi
end Mr
namespace Mr
open PySem Mi
structure Gt(ae:List Str)(A:List Ar)(told:BV):Prop where
 nd:(yE told).Nodup
 sub:∀p∈yE told,p∈A
 ord:∀i q,told[i]? = ab q->∃s x,q.2=OA q.1.1 q.1.2 s x/\Rl ae A (yE (told.take i)) q.1.1 q.1.2 s x
end Mr
namespace Mr
open PySem Mi
end Mr
namespace Mr
open PySem Mi
end Mr
namespace Mr
open PySem Mi
end Mr
namespace Mr
open PySem Mi
end Mr
namespace Mr
open PySem Mi
end Mr
namespace Mr
open PySem Mi
end Mr
namespace Mr
open PySem Mi
open My (words eQ fb)
end Mr
namespace Mr
open PySem Mi
open My (words eQ fb)
end Mr
namespace Mr
open PySem Mi
end Mr
namespace Mr
open PySem Mi
open My (words eQ fb)
end Mr
namespace Mr
open PySem Mi
open PySem.Builtin PySem.Builtin.Str
def cl(x:Str):List Nat:=x.cps.toList
end Mr
namespace Mr
open PySem Mi
open My (words eQ fb)
def KH(c:Str)(p:Ar):Str:=LD [p.1,c,p.2]
def OY(ae:List Str)(xs:List Ar):List Str:=ae++[(":" : Str)]++xs.map (KH ">")
def tx(ae:List Str)(xs:List Ar):Str:=jZ " " (OY ae xs)
def nt(ae:List Str):List Nat:=ae.flatMap λn=>cl n++[32]
theorem Gg{α:Type}{l:List α}{i:Nat}{x:α}(h:l[i]? = ab x):l.take (i+1)=l.take i++[x]:=by rw[zU,h];rfl
end Mr
namespace Mr
open PySem Mi
open My (words eQ fb)
end Mr
namespace Vp
section
variable{α:Type}
inductive Up(A:α->α->Prop):α->α->Prop
 |refl (x:α):Up A x x
 |step {x y z:α}:A x y->Up A y z->Up A x z
def Hi(A:α->α->Prop)(T:α->Prop)(x:α):Prop:=∃y,T y/\Up A x y
theorem Hi.of{A:α->α->Prop}{T:α->Prop}{x:α}(h:T x):Hi A T x:=⟨x,h,.refl x⟩
theorem Hi.up{A:α->α->Prop}{T:α->Prop}{x y:α}(a:A x y)(h:Hi A T y):Hi A T x:=let ⟨z,t,u⟩:=h;⟨z,t,.step a u⟩
theorem Up.trans{A:α->α->Prop}{x y z:α}(h:Up A x y)(k:Up A y z):Up A x z:=by
 induction h with
 |refl=>exact k
 |step a _ ih=>exact .step a (ih k)
def fam(A:α->α->Prop)(n u:α):Prop:=u=n\/A u n
def m7(A:α->α->Prop)(U:α->Prop)(u v:α):Prop:=∃n,U n/\fam A n u/\fam A n v
inductive Met(adj:α->α->Prop)(S:α->Prop)(i:α):α->Prop
 |base:Met adj S i i
 |step {u v:α}:Met adj S i u->adj u v->¬ S v->Met adj S i v
def Tg(i j:α)(S:α->Prop)(x:α):Prop:=x=i\/x=j\/S x
def kL(A:α->α->Prop)(i j:α)(S:α->Prop):Prop:=Met (m7 A (Hi A (Tg i j S))) S i j
end
end Vp
namespace Mr
open PySem Mi
open Vp
def ar(A:List Ar)(u v:Str):Prop:=(u,v)∈A
def yG:List Str->List (List Str)
 |[]=>[[]]
 |x::r=>yG r++(yG r).map (· ++ [x])
def rst(ae:List Str)(i j:Str):List Str:=ae.filter λn=>!decide (n=i) && !decide (n=j)
end Mr
namespace Mr
open PySem Mi
end Mr
namespace Mr
open PySem Mi
end Mr
namespace Mr
open PySem Mi
open My (fb)
end Mr
namespace Mr
open PySem Mi
open Vp
noncomputable def jr (A:List Ar) (i j:Str) (aj:List Str):Bool:=@decide (kL (ar A) i j (·∈aj)) (wx _)
theorem vi{A:List Ar}{i j:Str}{aj:List Str}:jr A i j aj=true↔kL (ar A) i j (·∈aj):=by unfold jr;exact@jF _ (wx _)
end Mr
namespace Mr
open PySem Mi
open Vp
end Mr
namespace Mr
open PySem Mi
open Vp
abbrev Qn:=Str×Str×List Str
def IJ(ae:List Str)(a b:Str):List Qn:=(yG (rst ae a b).reverse).map λl=>(a,b,l)
def Mc(ae:List Str)(k:Nat):List Qn:=(ae.drop (k+1)).flatMap λb=>IJ ae (nth ae k) b
def qs(ae:List Str):List Qn:=(cj ae.length).flatMap (Mc ae)
end Mr
namespace Vp
section
variable{α:Type}
def CK(A:α->α->Prop)(S:α->Prop)(s t:α×Bool):Prop:=¬ S s.1/\A s.1 t.1/\t.2=true
def ej(A:α->α->Prop)(S:α->Prop)(x:α):Prop:=∃z,S z/\Up A x z
def Goes(A:α->α->Prop)(S:α->Prop)(s:α×Bool):Prop:=(s.2=true/\ej A S s.1)\/(s.2=false/\¬ S s.1)
def F2(A:α->α->Prop)(S:α->Prop)(s t:α×Bool):Prop:=Goes A S s/\A t.1 s.1/\t.2=false
def lP(A:α->α->Prop)(S:α->Prop)(s t:α×Bool):Prop:=CK A S s t\/F2 A S s t
def u5(A:α->α->Prop)(i:α)(t:α×Bool):Prop:=(A i t.1/\t.2=true)\/(A t.1 i/\t.2=false)
inductive Rc(st:α×Bool->Prop)(nx:α×Bool->α×Bool->Prop):α×Bool->Prop
 |base {t:α×Bool}:st t->Rc st nx t
 |step {s t:α×Bool}:Rc st nx s->nx s t->Rc st nx t
variable{A:α->α->Prop}{S:α->Prop}{i j:α}
abbrev Wk(A:α->α->Prop)(S:α->Prop)(i:α):α×Bool->Prop:=Rc (u5 A i) (lP A S)
theorem ej.hi{T:α->Prop}(h:∀z,S z->T z){x:α}(b:ej A S x):Hi A T x:=let ⟨z,s,u⟩:=b;⟨z,h z s,u⟩
theorem JV(ni:¬ S i)(nj:¬ S j){b:Bool}(w:Wk A S i (j,b)):kL A i j S:=by
 obtain⟨T,hT⟩ : ∃T,T=Tg i j S:=⟨_,rfl⟩;have tS:∀z,S z->T z:=λz h=>by rw[hT];exact .inr (.inr h)
 have ti:Hi A T i:=.of (by rw[hT];exact .inl rfl);have tj:Hi A T j:=.of (by rw[hT];exact .inr (.inl rfl));have down:∀x t,Hi A T x->Met (m7 A (Hi A T)) S i x->A x t->(¬ Hi A T t)\/(Hi A T t/\(¬ S t->Met (m7 A (Hi A T)) S i t)/\∃y,A y t/\Met (m7 A (Hi A T)) S i y):=λx t hx m a=>
  (G3 (Hi A T t)).elim (λh=>.inr ⟨h,λns=>.step m ⟨t,h,.inr a,.inl rfl⟩ ns,x,a,m⟩) .inl
 have key:∀s,Wk A S i s->(s.2=true/\¬ Hi A T s.1)\/(Hi A T s.1/\(¬ S s.1->Met (m7 A (Hi A T)) S i s.1)/\(s.2=true->∃y,A y s.1/\Met (m7 A (Hi A T)) S i y)):=λs w=>by
  induction w with
  |base h=>
   rcases h with ⟨a,e⟩|⟨a,e⟩
   ·rcases down i _ ti .base a with h|⟨h1,h2,h3⟩
    ·exact .inl ⟨e,h⟩
    ·exact .inr ⟨h1,h2,λ_=>h3⟩
   ·exact .inr ⟨.up a ti,λns=>.step .base ⟨i,ti,.inl rfl,.inr a⟩ ns,λq=>by rw[e]at q;cases q⟩
  | @step s t w h ih=>
   rcases h with ⟨ns,a,e⟩|⟨g,a,e⟩
   ·rcases ih with ⟨_,ih⟩|⟨ih,im,_⟩
    ·exact .inl ⟨e,λh=>ih (.up a h)⟩
    ·rcases down s.1 _ ih (im ns) a with h|⟨h1,h2,h3⟩
     ·exact .inl ⟨e,h⟩
     ·exact .inr ⟨h1,h2,λ_=>h3⟩
   ·have hs:Hi A T s.1:=by
     rcases ih with ⟨d,ih⟩|⟨ih,_⟩
     ·rcases g with ⟨_,g⟩|⟨g,_⟩
      ·exact g.hi tS
      ·rw[d]at g;cases g
     ·exact ih
    refine .inr ⟨.up a hs,λns=>?_,λq=>by rw[e]at q;cases q⟩;rcases ih with ⟨_,ih⟩|⟨_,im,iy⟩
    ·exact absurd hs ih
    ·rcases g with ⟨g,_⟩|⟨_,g⟩
     ·obtain⟨y,ay,my⟩:=iy g;exact .step my ⟨s.1,hs,.inr ay,.inr a⟩ ns
     ·exact .step (im g) ⟨s.1,hs,.inl rfl,.inr a⟩ ns
 rcases key _ w with ⟨_,h⟩|⟨_,h,_⟩
 ·exact absurd tj h
 ·unfold kL;rw[<- hT];exact h nj
def Rd(A:α->α->Prop)(S:α->Prop)(i x:α):Prop:=x=i\/∃b,Wk A S i (x,b)
def Rb(A:α->α->Prop)(S:α->Prop)(i x:α):Prop:=x=i\/∃b,Wk A S i (x,b)/\Goes A S (x,b)
theorem Rd.down{x t:α}(r:Rd A S i x)(ns:¬ S x)(a:A x t):Wk A S i (t,true):=by
 rcases r with rfl|⟨b,w⟩
 ·exact .base (.inl ⟨a,rfl⟩)
 ·exact .step w (.inl ⟨ns,a,rfl⟩)
theorem Rb.up{x t:α}(r:Rb A S i x)(a:A t x):Wk A S i (t,false):=by
 rcases r with rfl|⟨b,w,g⟩
 ·exact .base (.inr ⟨a,rfl⟩)
 ·exact .step w (.inr ⟨g,a,rfl⟩)
theorem ej.no{x:α}(n:¬ ej A S x):¬ S x:=λh=>n ⟨x,h,.refl x⟩
theorem ej.sh{x y:α}(n:¬ ej A S x)(a:A x y):¬ ej A S y:=λ⟨z,s,u⟩=>n ⟨z,s,.step a u⟩
theorem MV{x y:α}(u:Up A x y):Rd A S i x->¬ ej A S x->Rd A S i y:=by
 induction u with
 |refl=>exactλr _=>r
 |step a _ ih=>exactλr n=>ih (.inr ⟨true,r.down (ej.no n) a⟩) (ej.sh n a)
theorem JC{x:α}(u:Up A x i)(n:¬ ej A S x):x=i\/Wk A S i (x,false):=by
 obtain⟨k,hk⟩ : ∃k,k=i:=⟨_,rfl⟩;rw[<- hk]at u
 induction u with
 |refl=>exact .inl hk
 |step a _ ih=>
  have n':=ej.sh n a;rcases ih n' hk with e|w
  ·rw[e]at a;exact .inr (.base (.inr ⟨a,rfl⟩))
  ·exact .inr (.step w (.inr ⟨.inr ⟨rfl,ej.no n'⟩,a,rfl⟩))
theorem JB(ij:i≠j)(ni:¬ S i)(h:kL A i j S):∃b,Wk A S i (j,b):=by
 have both:∀x,Hi A (Tg i j S) x->¬ ej A S x->Rd A S i x->Rb A S i x\/∃b,Wk A S i (j,b):=λx hx n r=>by
  obtain⟨z,t,u⟩:=hx;rcases t with rfl|rfl|t
  ·rcases JC u n with e|w
   ·exact .inl (.inl e)
   ·exact .inl (.inr ⟨false,w,.inr ⟨rfl,ej.no n⟩⟩)
  ·rcases MV u r n with e|w
   ·exact absurd e.symm ij
   ·exact .inr w
  ·exact absurd ⟨z,t,u⟩ n
 have fin:∀x,Hi A (Tg i j S) x->¬ S x->Wk A S i (x,true)->Rb A S i x\/∃b,Wk A S i (j,b):=λx hx ns w=>
  (G3 (ej A S x)).elim (λb=>.inl (.inr ⟨true,w,.inl ⟨rfl,b⟩⟩)) λn=>both x hx n (.inr ⟨_,w⟩)
 have key:∀v,Met (m7 A (Hi A (Tg i j S))) S i v->¬ S v/\(Rb A S i v\/∃b,Wk A S i (j,b)):=λv m=>by
  induction m with
  |base=>exact⟨ni,.inl (.inl rfl)⟩
  | @step u v _ a sv ih=>
   refine⟨sv,?_⟩;obtain⟨su,ih⟩:=ih;rcases ih with r|r
   ·obtain⟨n,hn,f1,f2⟩:=a;have rd:Rd A S i u:=by
     rcases r with e|⟨b,w,_⟩
     ·exact .inl e
     ·exact .inr ⟨b,w⟩
    rcases f1 with e|a1
    ·subst e;rcases f2 with e|a2
     ·subst e;exact .inl r
     ·exact .inl (.inr ⟨false,r.up a2,.inr ⟨rfl,sv⟩⟩)
    ·have w:=rd.down su a1;rcases f2 with e|a2
     ·subst e;exact fin _ hn sv w
     ·by_cases hb:ej A S n
      ·exact .inl (.inr ⟨false,.step w (.inr ⟨.inl ⟨rfl,hb⟩,a2,rfl⟩),.inr ⟨rfl,sv⟩⟩)
      ·rcases both n hn hb (.inr ⟨_,w⟩)with rb|q
       ·exact .inl (.inr ⟨false,rb.up a2,.inr ⟨rfl,sv⟩⟩)
       ·exact .inr q
   ·exact .inr r
 rcases(key j h).2 with r|r
 ·rcases r with e|⟨b,w,_⟩
  ·exact absurd e.symm ij
  ·exact⟨b,w⟩
 ·exact r
theorem FG(ij:i≠j)(ni:¬ S i)(nj:¬ S j):(∃b,Wk A S i (j,b))↔kL A i j S:=⟨λ⟨_,w⟩=>JV ni nj w,JB ij ni⟩
end
end Vp
namespace Mr
open PySem Mi
open Vp
abbrev Spot:=Str×Bool
def aI(s:Spot):D:=.tup [.str s.1,.bl s.2]
def jE(s:Spot):List Ky:=[.inr s.1,.inl s.2]
theorem BP{s t:Spot}(h:jE s=jE t):s=t:=by unfold jE at h;simp only[List.cons.injEq,Sum.inr.injEq,Sum.inl.injEq,and_true]at h;exact qv h.1 h.2
abbrev Bf:=Spot×Option Spot
def ir:Option Spot->D
 |none=>.non
 |some s=>aI s
def cu(b:Bf):List Ky×D:=(jE b.1,ir b.2)
abbrev iJ(bs:List Bf):W:=.dt (bs.map cu)
def bM(bs:List Bf):List Spot:=bs.map (·.1)
theorem L0{bs:List Bf}{s:Spot}:s∈bM bs↔∃o,(s,o)∈bs:=by unfold bM;rw[ca];exact⟨λ⟨⟨a,o⟩,h,e⟩=>⟨o,by cases e;exact h⟩,λ⟨o,h⟩=>⟨(s,o),h,rfl⟩⟩
theorem EN(bs:List Bf)(s:Spot):((bs.map cu).any λkv=>decide (kv.1=jE s))=decide (s∈bM bs):=by
 rw[wg,jF,vT,List.any_eq_true,L0];constructor
 ·rintro⟨⟨t,o⟩,h,e⟩;have:=BP (j3 e);exact⟨o,by rw[<- this];exact h⟩
 ·rintro⟨o,h⟩;exact⟨(s,o),h,bW rfl⟩
theorem Cj{α:Type}(p:α->Bool):∀l:List α,(l.find? p).isSome=l.any p
 |[]=>rfl
 |x::r=>by
  rw[jU,iV];cases h:p x with
  |true=>rfl
  |false=>simp only[wj];exact Cj p r
theorem Jx(bs:List Bf)(s:Spot):∃o,pY (iJ bs) (aI s)=.ok o/\o.isSome=decide (s∈bM bs):=by refine⟨gK (bs.map cu) (jE s),rfl,?_⟩;unfold gK;rw[wr,Cj,EN]
theorem Dz{bs:List Bf}{s:Spot}{o:Option Spot}(hn:s∉bM bs)(hl:bs.length<=1000):rF (iJ bs) (aI s) (ir o)=.ok (iJ (bs++[(s,o)])):=by show bf ((bs.map cu).length<16777216) (Rs.ok (W.dt (Mi.putK (jE s) (ir o) (bs.map cu))))=_;rw[aQ (by rw[aX];omega)];unfold Mi.putK;rw[EN,cE hn,ba c8];unfold iJ;rw[fg];rfl
inductive iO(st:List Spot)(nx:Spot->List Spot):List Bf->Prop
 |nil:iO st nx []
 |from{bs:List Bf} {s:Spot}:iO st nx bs->s∈st->iO st nx (bs++[(s,ac)])
 |on {bs:List Bf} {s h:Spot} {pre post:List Spot}:iO st nx bs->bM bs=pre++h::post->(∀t∈pre,s∉nx t)->s∉st->s∈nx h->iO st nx (bs++[(s,ab h)])
theorem kJ(bs:List Bf)(b:Bf):bM (bs++[b])=bM bs++[b.1]:=by unfold bM;rw[fg];rfl
theorem kys_len(bs:List Bf):(bM bs).length=bs.length:=by unfold bM;exact aX _
theorem iO.rc{st:List Spot}{nx:Spot->List Spot}{bs:List Bf}(h:iO st nx bs):∀s∈bM bs,Rc (·∈st) (λs t=>t∈nx s) s:=by
 induction h with
 |nil=>exactλs h=>nomatch h
 | «from» _ hs ih=>
  intro s h;rw[kJ]at h;rcases dI.mp h with h|h
  ·exact ih s h
  ·rw[cr.mp h];exact .base hs
 |on _ hh _ _ hs ih=>
  intro s h;rw[kJ]at h;rcases dI.mp h with h|h
  ·exact ih s h
  ·rw[cr.mp h];exact .step (ih _ (by rw[hh];exact dS _ dA)) hs
abbrev xm(κ:Kp)(f:Fn):S:=(dY (de (nP κ 1 f (mV 5))) (.n 4)
 (bI (cB (hG 2 (mV 4)))
 (aM (eB 2 (mV 4) (mV 5))
 (c5 3 (mV 4)))
 bU))
abbrev xx(κ:Kp)(f:Fn):S:=(aM (iu 5 3 (mC (.int 0))) (xm κ f))
abbrev BC(κ:Kp)(f:Fn):S:=
 (aM (jt 2 (λ_=>.ok (.dt [])))
 (aM (bF 3 (mN cZ []))
 (aM (dY (de (mV 0)) (.n 4)
 (aM (eB 2 (mV 4) (mC .non))
 (c5 3 (mV 4))))
 (aM (iI 40 (fw (mV 3)) (xx κ f))
 (bp (wV 2))))))
abbrev bP(l:List Spot):D:=.lst (l.map aI)
section
variable{κ:Kp}{f:Fn}{aK:List D}{X:D}{st U:List Spot}{nx:Spot->List Spot}
abbrev eG(X:D)(κ:Kp)(aK:List D)(bs:List Bf)(ws:List Spot)(o4 o5:Option W):Mi.Env:=[ab (.d X),ab (.fn κ aK),ab (iJ bs),ab (.d (bP ws)),o4,o5]
theorem K9(nd:st.Nodup)(hl:st.length<=100):∃o4,jj (.n 4) (aM (eB 2 (mV 4) (mC .non)) (c5 3 (mV 4))) (st.map aI) (eG X κ aK [] [] ac ac)=.ok (.nx (eG X κ aK (st.map λs=>(s,ac)) st o4 ac)):=by
 obtain⟨e',g,o4,he⟩:=gR (tg:=.n 4) (body:=(aM (eB 2 (mV 4) (mC .non)) (c5 3 (mV 4))))
  (λn e=>∃o4:Option W,e=eG X κ aK ((st.take n).map λs=>(s,ac)) (st.take n) o4 ac) (st.map aI) 0 (λn d e hi ⟨o4,he⟩=>by
   subst he;rw[eM];rw[cX]at hi;obtain⟨s,hs,rfl⟩:=iY.mp hi;have nl:=(b9.mp hs).1;have tl:(st.take n).length<=100:=by rw[iC];omega
   have hk:bM ((st.take n).map λs=>((s,ac):Bf))=st.take n:=by unfold bM;rw[dJ];exact List.map_id _
   have p:=Dz (bs:=(st.take n).map λs=>(s,ac)) (s:=s) (o:=ac) (by rw[hk];exact yR nd hs) (by rw[aX];omega);have s1:eB 2 (mV 4) (mC .non) (eG X κ aK ((st.take n).map λs=>(s,ac)) (st.take n) (ab (.d (aI s))) ac)=.ok (.nx (eG X κ aK ((st.take n).map (λs=>((s,ac):Bf))++[(s,ac)]) (st.take n) (ab (.d (aI s))) ac)):=by show Rs.bind (rF (iJ ((st.take n).map λs=>((s,ac):Bf))) (aI s) .non) _=_;rw[show(D.non)=ir ac from rfl,p];rfl
   refine⟨_,eG X κ aK ((st.take (n+1)).map λs=>(s,ac)) (st.take (n+1)) (ab (.d (aI s))) ac,rfl,(aU s1).trans ?_,_,rfl⟩;rw[lg (d:=aI s) (ds:=(st.take n).map aI) rfl rfl (by rw[aX];omega)];rw[Gg hs,fg];show Rs.ok (Out.nx [_,_,_,ab (W.d (D.lst ((st.take n).map aI++[aI s]))),_,_])=_;unfold eG bP;rw[fg];rfl) (eG X κ aK [] [] ac ac) ⟨ac,rfl⟩
 subst he;rw[eM,aX,List.take_length]at g;exact⟨o4,g⟩
structure fA(st U:List Spot)(nx:Spot->List Spot)(bs:List Bf)(ws:List Spot):Prop where
 tr:iO st nx bs
 nd:(bM bs).Nodup
 u:∀s∈bM bs,s∈U
 st:∀s∈st,s∈bM bs
 q:∃dn,bM bs=dn++ws/\∀s∈dn,∀t∈nx s,t∈bM bs
theorem fA.w{bs:List Bf}{ws:List Spot}(w:fA st U nx bs ws):∀s∈ws,s∈bM bs:=λs hs=>by
 obtain⟨dn,e,_⟩:=w.q;rw[e];exact dS _ hs
theorem fA.ex{bs:List Bf}{ws:List Spot}(w:fA st U nx bs ws):∀s∈bM bs,s∉ws->∀t∈nx s,t∈bM bs:=λs hs hn=>by
 obtain⟨dn,e,h⟩:=w.q;rw[e]at hs;rcases dI.mp hs with z|z
 ·exact h s z
 ·exact absurd z hn
theorem fA.len{bs:List Bf}{ws:List Spot}(w:fA st U nx bs ws):bs.length<=U.length:=by rw[<- kys_len];exact ig w.nd w.u
theorem LY(hU:U.length<=100)(hnU:∀s∈U,∀t∈nx s,t∈U)(hnl:∀s∈U,(nx s).length<=1000)(hf:∀s∈U,f (.d (aI s)::aK.map W.d)=.ok (.d (bP (nx s)))){bs:List Bf}{h:Spot}{r:List Spot}(rl:r.length<=1000)(w:fA st U nx bs (h::r))(o4:Option W) :
 ∃bs' ws' o4',xm κ f (eG X κ aK bs r o4 (ab (.d (aI h))))=.ok (.nx (eG X κ aK bs' ws' o4' (ab (.d (aI h)))))/\fA st U nx bs' ws'/\ws'.length+bs.length=r.length+bs'.length:=by
 have hk:=w.w h dA;have hu:=w.u h hk;obtain⟨dn,hq,hdn⟩:=w.q;obtain⟨e',g,bs',ws',o4',he,tr,nd,u,sub,kq,ln,al⟩:=gR (tg:=.n 4) (body:=(bI (cB (hG 2 (mV 4))) (aM (eB 2 (mV 4) (mV 5)) (c5 3 (mV 4))) bU))
  (λn e=>∃(bs':List Bf) (ws':List Spot) (o4:Option W),e=eG X κ aK bs' ws' o4 (ab (.d (aI h)))/\iO st nx bs'/\(bM bs').Nodup/\(∀s∈bM bs',s∈U)/\(∀s∈bM bs,s∈bM bs')/\bM bs'=dn++h::ws'/\ws'.length+bs.length=r.length+bs'.length/\∀a t,a<n->(nx h)[a]? = ab t->t∈bM bs') ((nx h).map aI) 0 (λn d e hi ⟨bs',ws',o4,he,tr,nd,u,sub,kq,ln,al⟩=>by
   subst he;rw[eM]at al ⊢;rw[cX]at hi;obtain⟨t,ht,rfl⟩:=iY.mp hi;have tm:=gG ht;obtain⟨o,hg,ho⟩:=Jx bs' t;have bl:bs'.length<=100:=by have:=ig nd u;rw[kys_len]at this;omega
   have ct:cB (hG 2 (mV 4)) (eG X κ aK bs' ws' (ab (.d (aI t))) (ab (.d (aI h))))=.ok (!decide (t∈bM bs')):=bR (by
    show Rs.bind (pY (iJ bs') (aI t)) (λo=>Rs.ok (D.bl (!o.isSome)))=_;rw[hg,aN,ho])
   by_cases hm:t∈bM bs'
   ·rw[bW hm]at ct;refine⟨_,_,rfl,(dU ct).trans rfl,bs',ws',_,rfl,tr,nd,u,sub,kq,ln,λa t' ha h'=>?_⟩;by_cases e:a=n
    ·subst e;rw[ht]at h';cases h';exact hm
    ·exact al a t' (by omega) h'
   ·rw[cE hm]at ct;have p:=Dz (bs:=bs') (s:=t) (o:=ab h) hm (by omega);have s1:eB 2 (mV 4) (mV 5) (eG X κ aK bs' ws' (ab (.d (aI t))) (ab (.d (aI h))))=.ok (.nx (eG X κ aK (bs'++[(t,ab h)]) ws' (ab (.d (aI t))) (ab (.d (aI h))))):=by
     show Rs.bind (rF (iJ bs') (aI t) (aI h)) _=_;rw[show aI h=ir (ab h)from rfl,p];rfl
    have ka:=kJ bs' (t,ab h);refine⟨_,eG X κ aK (bs'++[(t,ab h)]) (ws'++[t]) (ab (.d (aI t))) (ab (.d (aI h))),rfl,(f8 ct).trans ((aU s1).trans ?_),_,_,_,rfl,.on tr kq (λv hv z=>hm (sub _ (hdn v hv t z))) (λz=>hm (sub _ (w.st t z))) tm,?_,?_,?_,?_,?_,?_⟩
    ·rw[lg (d:=aI t) (ds:=ws'.map aI) rfl rfl (by rw[aX];omega)];show Rs.ok (Out.nx [_,_,_,ab (W.d (D.lst (ws'.map aI++[aI t]))),_,_])=_;unfold eG bP;rw[fg];rfl
    ·rw[ka];exact kN.mpr ⟨nd,by simp,λa ha b hb e=>by rw[cr.mp hb]at e;exact hm (by rw[e]at ha;exact ha)⟩
    ·rw[ka];intro s hs;rcases dI.mp hs with z|z
     ·exact u s z
     ·rw[cr.mp z];exact hnU h hu t tm
    ·rw[ka];exactλs hs=>gf _ (sub s hs)
    ·rw[ka,kq,mM,qf]
    ·rw[cF,cF,gc,gc];omega
    ·rw[ka];intro a t' ha h';by_cases e:a=n
     ·subst e;rw[ht]at h';cases h';exact dS _ (cr.mpr rfl)
     ·exact gf _ (al a t' (by omega) h')) (eG X κ aK bs r o4 (ab (.d (aI h)))) ⟨bs,r,o4,rfl,w.tr,w.nd,w.u,λs hs=>hs,hq,rfl,λa t ha=>absurd ha (qq _)⟩
 subst he;have hcl:∀t∈nx h,t∈bM bs':=λt ht=>by
  obtain⟨a,ha⟩:=mK ht;exact al a t (by rw[eM,aX];exact(b9.mp ha).1) ha
 refine⟨bs',ws',o4',?_,⟨tr,nd,u,λs hs=>sub s (w.st s hs),dn++[h],by rw[kq,mM];rfl,λs hs t ht=>?_⟩,ln⟩
 ·refine(ic (iA (x:=bP (nx h)) ?_ rfl)).trans g;show(if κ = κ then Rs.bind (.ok (aI h)) λx=>(f (.d x::aK.map W.d)).bind lG else .no)=_;rw[a9 rfl,aN,hf h hu];rfl
 ·rcases dI.mp hs with z|z
  ·exact sub t (hdn s z t ht)
  ·rw[cr.mp z]at ht;exact hcl t ht
theorem CZ(hU:U.length<=100)(hnU:∀s∈U,∀t∈nx s,t∈U)(hnl:∀s∈U,(nx s).length<=1000)(hf:∀s∈U,f (.d (aI s)::aK.map W.d)=.ok (.d (bP (nx s)))):∀(n:Nat) (bs:List Bf) (ws:List Spot) (o4 o5:Option W),n<=100->fA st U nx bs ws->(U.length-bs.length)+ws.length<n ->
 ∃bs' p4 p5,gp (fw (mV 3)) (xx κ f) n (eG X κ aK bs ws o4 o5)=.ok (.nx (eG X κ aK bs' [] p4 p5))/\fA st U nx bs' []
 |0,_,_,_,_,_,_,h=>absurd h (qq _)
 |n+1,bs,[],o4,o5,_,w,h=>⟨bs,o4,o5,rfl,w⟩
 |n+1,bs,x::r,o4,o5,hn,w,h=>by
  have hc:fw (mV 3) (eG X κ aK bs (x::r) o4 o5)=.ok true:=rfl;rw[c6]at h;obtain⟨bs',ws',p4,g,w',ln⟩:=LY (X:=X) (κ:=κ) hU hnU hnl hf (by omega) w o4;have l3:=w'.len;have l4:=w.len;obtain⟨b2,q4,q5,g2,w2⟩:=CZ hU hnU hnl hf n bs' ws' p4 (ab (.d (aI x))) (by omega) w' (by omega);refine⟨b2,q4,q5,?_,w2⟩;have pop:iu 5 3 (mC (.int 0)) (eG X κ aK bs (x::r) o4 o5)=.ok (.nx (eG X κ aK bs r o4 (ab (.d (aI x))))):=by
   show Rs.bind (jz (aI x::r.map aI) 0) _=_;unfold jz;rw[aQ (by decide)];have:eg (aI x::r.map aI).length 0=ab 0:=by unfold eg;rw[a9 (by decide),a9 (by rw[c6];omega)];rfl
   rw[this];rfl
  rw[gp,hc,aN,a9 rfl];show Rs.bind (aM (iu 5 3 (mC (.int 0))) (xm κ f) _) _=_;rw[aU pop,g,aN];exact g2
theorem PZ(nd:st.Nodup)(hst:∀s∈st,s∈U)(hU:U.length<=30)(hnU:∀s∈U,∀t∈nx s,t∈U)(hnl:∀s∈U,(nx s).length<=1000)(hf:∀s∈U,f (.d (aI s)::aK.map W.d)=.ok (.d (bP (nx s)))) :
 ∃bs,fc 2 6 (BC κ f) [.d (bP st),.fn κ aK]=.ok (iJ bs)/\fA st U nx bs []:=by
 have hk:bM (st.map λs=>((s,ac):Bf))=st:=by unfold bM;rw[dJ];exact List.map_id _
 have tr:∀l:List Spot,(∀s∈l,s∈st)->iO st nx (l.map λs=>(s,ac)):=λl=>by
  have:∀l:List Spot,(∀s∈l.reverse,s∈st)->iO st nx (l.reverse.map λs=>(s,ac)):=λl=>by
   induction l with
   |nil=>exactλ_=>.nil
   |cons x r ih=>
    intro h;rw[mL]at h ⊢;rw[fg];exact .from (ih λs hs=>h s (gf _ hs)) (h x (dS _ (cr.mpr rfl)))
  have:=this l.reverse;rw[Gs]at this;exact this
 have sl:st.length<=U.length:=ig nd hst;obtain⟨o4,g1⟩:=K9 (X:=bP st) (κ:=κ) (aK:=aK) nd (by omega);obtain⟨bs,p4,p5,g2,w⟩:=CZ (X:=bP st) (κ:=κ) (f:=f) (aK:=aK) (st:=st) (by omega) hnU hnl hf 40 (st.map λs=>(s,ac)) st o4 ac (by decide) ⟨tr st λs h=>h,by rw[hk];exact nd,by rw[hk];exact hst,by rw[hk];exactλs h=>h,[],by rw[hk];rfl,(by intro s h;cases h)⟩ (by rw[aX];omega);refine⟨bs,?_,w⟩;rw[jK];rw[show([ab (W.d (bP st)),ab (W.fn κ aK)]++c7 (6-2) ac)=[ab (W.d (bP st)),ab (W.fn κ aK),ac,ac,ac,ac]from rfl];unfold BC;rw[aU (e':=[ab (W.d (bP st)),ab (W.fn κ aK),ab (iJ []),ac,ac,ac]) rfl];rw[aU (e':=eG (bP st) κ aK [] [] ac ac) (bY (me _))];rw[aU ((ic (iA (x:=bP st) rfl rfl)).trans g1)];rw[aU (show iI 40 (fw (mV 3)) (xx κ f) _=_ from g2)];rfl
end
theorem fA.iff{st U:List Spot}{nx:Spot->List Spot}{bs:List Bf}(w:fA st U nx bs [])(s:Spot):s∈bM bs↔Rc (·∈st) (λs t=>t∈nx s) s:=
 ⟨w.tr.rc s,λr=>by
  induction r with
  |base h=>exact w.st _ h
  |step _ h ih=>exact w.ex _ ih (λq=>nomatch q) _ h⟩
end Mr
namespace Mr
open PySem Mi
open Vp
theorem LK{A:List Ar}{x y:Str}(h:iR A x y):Up (ar A) x y:=by
 induction h with
 |refl=>exact .refl _
 |step _ a ih=>exact ih.trans (.step a (.refl _))
theorem Jn{A:List Ar}{x y:Str}(h:Up (ar A) x y):iR A x y:=by
 have key:∀{a b:Str},Up (ar A) a b->∀{z:Str},iR A z a->iR A z b:=λ{a b} h=>by
  induction h with
  |refl=>exactλk=>k
  |step a _ ih=>exactλk=>ih (.step k a)
 exact key h .refl
theorem Lk.bh{ae:List Str}{A:List Ar}(G:Lk ae A)(pos:1<=ae.length):mh ae A:=by obtain⟨r,h⟩:=G.rk;exact⟨G.nd,pos,G.le,G.al,λp hp=>(G.inn p hp).1,r,h⟩
theorem ut{ae:List Str}{A:List Ar}(L:Lk ae A){aj:List Str}{x:Str}(hx:x∈ae):hb ae A aj x=true↔ej (ar A) (·∈aj) x:=by
 unfold hb ej m6;rw[List.any_eq_true];constructor
 ·rintro⟨y,h1,h2⟩;exact⟨y,j3 h2,LK (zF.mp (dH.mp h1).2)⟩
 ·rintro⟨y,h1,h2⟩;refine⟨y,dH.mpr ⟨?_,zF.mpr (Jn h2)⟩,bW h1⟩;have:∀{a b:Str},Up (ar A) a b->a∈ae->b∈ae:=λ{a b} h=>by
   induction h with
   |refl=>exact id
   |step a _ ih=>exactλ_=>ih (L.inn _ a).2
  exact this h2 hx
def ji(A:List Ar)(x:Str):List Spot:=(f6 A x).map λy=>(y,true)
def iM(A:List Ar)(x:Str):List Spot:=(io A x).map λy=>(y,false)
noncomputable def nxS (ae:List Str) (A:List Ar) (aj:List Str) (s:Spot):List Spot:=
 (if s.1∈aj then[]else ji A s.1)++(if(if s.2=true then hb ae A aj s.1 else !decide (s.1∈aj))=true then iM A s.1 else[])
def fe(A:List Ar)(x:Str):List Spot:=ji A x++iM A x
theorem yY{A:List Ar}{x:Str}(hl:A.length<=64):(f6 A x).length<=64:=by unfold f6;rw[aX];exact eK (om _ _) hl
theorem Lk.KY{ae:List Str}{ak:List Ar}(G:Lk ae ak)(x:Str):(f6 ak x).Nodup:=by unfold f6;refine mO.mpr ((G.nda.filter _).imp_of_mem λ{p q} hp hq h z=>h ?_);have h1:=j3 (dH.mp hp).2;have h2:=j3 (dH.mp hq).2;exact qv (h1.trans h2.symm) z
theorem Ey{ae:List Str}{A:List Ar}{x:Str}(hx:x∈ae)(hl:A.length<=64):lF [.d (aB ae A),.d (.str x)]=.ok (.d (bP (ji A x))):=by
 unfold lF CO;rw[jK];have hc:dE (.n 0) el (mN dTup [(mV 0),(mC (.bl true))]) [ac] ((f6 A x).map D.str)=.ok (((f6 A x).filter λ_=>true).map λy=>aI (y,true)):=
  gW D.str (λy=>aI (y,true)) _ _ λy _=>⟨[ab (.d (.str y))],rfl,rfl,λ_=>ja rfl rfl⟩
 rw[qd.mpr (λ_ _=>rfl)]at hc;rw[c9 (bO (fE (iA (call2 rfl rfl (C2 hx hl)) rfl) (by rw[aX];have:=yY (x:=x) hl;omega) hc))];unfold bP ji;rw[dJ];rfl
theorem Ec{ae:List Str}{A:List Ar}{x:Str}(hx:x∈ae)(hl:A.length<=64):lM [.d (aB ae A),.d (.str x)]=.ok (.d (bP (iM A x))):=by
 unfold lM Di;rw[jK];have hc:dE (.n 0) el (mN dTup [(mV 0),(mC (.bl false))]) [ac] ((io A x).map D.str)=.ok (((io A x).filter λ_=>true).map λy=>aI (y,false)):=
  gW D.str (λy=>aI (y,false)) _ _ λy _=>⟨[ab (.d (.str y))],rfl,rfl,λ_=>ja rfl rfl⟩
 rw[qd.mpr (λ_ _=>rfl)]at hc;rw[c9 (bO (fE (iA (call2 rfl rfl (Ps hx hl)) rfl) (by rw[aX];have:=Fy (x:=x) hl;omega) hc))];unfold bP iM;rw[dJ];rfl
theorem zA{A:List Ar}{x:Str}(hl:A.length<=64):(ji A x).length<=64:=by unfold ji;rw[aX];exact yY hl
theorem y7{A:List Ar}{x:Str}(hl:A.length<=64):(iM A x).length<=64:=by unfold iM;rw[aX];exact Fy hl
theorem xT{c:C}{a b:E}{e:Mi.Env}{k:Bool}{x y:D}(hc:c e=.ok k)(ha:k=true->a e=.ok x)(hb:k=false->b e=.ok y):lC c a b e=.ok (if k=true then x else y):=by
 unfold lC;rw[hc,aN];cases k with
 |true=>exact ha rfl
 |false=>exact hb rfl
theorem Jy{ae:List Str}{A:List Ar}(N:mh ae A)(hd:∀p∈A,p.2∈ae)(aj:List Str){s:Spot}(hs:s.1∈ae):pR [.d (aB ae A),.d (aI s),.d (ai aj)]=.ok (.d (bP (nxS ae A aj s))):=by
 obtain⟨x,b⟩:=s;have hs:x∈ae:=hs;have hl:=N.al;unfold pR Em;rw[tZ];obtain⟨g,hg⟩ : ∃g,g=(if b=true then hb ae A aj x else !decide (x∈aj)):=⟨_,rfl⟩;rw[show([ab (W.d (aB ae A)),ab (W.d (aI (x,b))),ab (W.d (ai aj))]++c7 (9-3) ac)=[ab (W.d (aB ae A)),ab (W.d (aI (x,b))),ab (W.d (ai aj)),ac,ac,ac,ac,ac,ac]from rfl];rw[aU (e':=[ab (W.d (aB ae A)),ab (W.d (aI (x,b))),ab (W.d (ai aj)),ab (W.d (.str x)),ab (W.d (.bl b)),ac,ac,ac,ac]) rfl];rw[aU (e':=[ab (W.d (aB ae A)),ab (W.d (aI (x,b))),ab (W.d (ai aj)),ab (W.d (.str x)),ab (W.d (.bl b)),ab (W.d (.bl (!decide (x∈aj)))),ac,ac,ac]) (bY (aC rfl rfl (Fz _ _)))];have e6:lC (fw (mV 4)) (a8 kh [(wD (mV 0)),(wD (mV 3)),(wD (mV 2))]) (mV 5) [ab (W.d (aB ae A)),ab (W.d (aI (x,b))),ab (W.d (ai aj)),ab (W.d (.str x)),ab (W.d (.bl b)),ab (W.d (.bl (!decide (x∈aj)))),ac,ac,ac]=.ok (.bl g):=by rw[xT (k:=b) (x:=.bl (hb ae A aj x)) (y:=.bl (!decide (x∈aj))) rfl (λ_=>lN rfl rfl rfl (Ct N hd hs aj)) (λ_=>rfl),hg];cases b<;>rfl
 rw[aU (e':=[ab (W.d (aB ae A)),ab (W.d (aI (x,b))),ab (W.d (ai aj)),ab (W.d (.str x)),ab (W.d (.bl b)),ab (W.d (.bl (!decide (x∈aj)))),ab (W.d (.bl g)),ac,ac]) (bY e6)];obtain⟨dn,hdn⟩ : ∃dn,dn=(if x∈aj then[]else ji A x):=⟨_,rfl⟩;obtain⟨up,hup⟩ : ∃up,up=(if g=true then iM A x else[]):=⟨_,rfl⟩;have ld:dn.length<=64:=by
  rw[hdn];split
  ·exact fI _
  ·exact zA hl
 have lu:up.length<=64:=by
  rw[hup];split
  ·exact y7 hl
  ·exact fI _
 have e7:lC (fw (mV 5)) (a8 lF [(wD (mV 0)),(wD (mV 3))]) (mN cZ []) [ab (W.d (aB ae A)),ab (W.d (aI (x,b))),ab (W.d (ai aj)),ab (W.d (.str x)),ab (W.d (.bl b)),ab (W.d (.bl (!decide (x∈aj)))),ab (W.d (.bl g)),ac,ac]=.ok (bP dn):=by
  rw[xT (k:=!decide (x∈aj)) (x:=bP (ji A x)) (y:=.lst []) rfl (λ_=>call2 rfl rfl (Ey hs hl)) (λ_=>me _),hdn];by_cases h:x∈aj
  ·rw[bW h,a9 h];rfl
  ·rw[cE h,ba h];rfl
 rw[aU (e':=[ab (W.d (aB ae A)),ab (W.d (aI (x,b))),ab (W.d (ai aj)),ab (W.d (.str x)),ab (W.d (.bl b)),ab (W.d (.bl (!decide (x∈aj)))),ab (W.d (.bl g)),ab (W.d (bP dn)),ac]) (bY e7)];have e8:lC (fw (mV 6)) (a8 lM [(wD (mV 0)),(wD (mV 3))]) (mN cZ []) [ab (W.d (aB ae A)),ab (W.d (aI (x,b))),ab (W.d (ai aj)),ab (W.d (.str x)),ab (W.d (.bl b)),ab (W.d (.bl (!decide (x∈aj)))),ab (W.d (.bl g)),ab (W.d (bP dn)),ac]=.ok (bP up):=by rw[xT (k:=g) (x:=bP (iM A x)) (y:=.lst []) rfl (λ_=>call2 rfl rfl (Ec hs hl)) (λ_=>me _),hup];cases g<;>rfl
 rw[aU (e':=[ab (W.d (aB ae A)),ab (W.d (aI (x,b))),ab (W.d (ai aj)),ab (W.d (.str x)),ab (W.d (.bl b)),ab (W.d (.bl (!decide (x∈aj)))),ab (W.d (.bl g)),ab (W.d (bP dn)),ab (W.d (bP up))]) (bY e8)];have e9:m2 bn (mV 7) (mV 8) [ab (W.d (aB ae A)),ab (W.d (aI (x,b))),ab (W.d (ai aj)),ab (W.d (.str x)),ab (W.d (.bl b)),ab (W.d (.bl (!decide (x∈aj)))),ab (W.d (.bl g)),ab (W.d (bP dn)),ab (W.d (bP up))]=.ok (bP (dn++up)):=by refine(aC (x:=bP dn) (y:=bP up) rfl rfl (vE _ _)).trans ?_;rw[aQ (by rw[aX,aX];omega)];unfold bP;rw[fg]
 rw[c9 (bO e9)];rw[hdn,hup,hg];rfl
def jP(ae:List Str):List Spot:=ae.map (λx=>(x,true))++ae.map λx=>(x,false)
theorem pw{ae:List Str}{s:Spot}:s∈jP ae↔s.1∈ae:=by
 unfold jP;rw[dI,ca,ca];obtain⟨x,b⟩:=s;constructor
 ·rintro(⟨y,h,e⟩|⟨y,h,e⟩)<;>cases e<;>exact h
 ·intro h;cases b
  ·exact .inr ⟨x,h,rfl⟩
  ·exact .inl ⟨x,h,rfl⟩
theorem oO{A:List Ar}{x:Str}{t:Spot}:t∈ji A x↔(x,t.1)∈A/\t.2=true:=by
 unfold ji;rw[ca];constructor
 ·rintro⟨y,h,rfl⟩;exact⟨FO.mp h,rfl⟩
 ·rintro⟨h,e⟩;exact⟨t.1,FO.mpr h,qv rfl e.symm⟩
theorem uN{A:List Ar}{x:Str}{t:Spot}:t∈iM A x↔(t.1,x)∈A/\t.2=false:=by
 unfold iM;rw[ca];constructor
 ·rintro⟨y,h,rfl⟩;exact⟨BW.mp h,rfl⟩
 ·rintro⟨h,e⟩;exact⟨t.1,BW.mpr h,qv rfl e.symm⟩
theorem nB{ae:List Str}{A:List Ar}(L:Lk ae A){aj:List Str}{s t:Spot}(hs:s.1∈ae):t∈nxS ae A aj s↔lP (ar A) (·∈aj) s t:=by
 unfold nxS lP CK F2 Goes;rw[dI];refine or_congr ?_ ?_
 ·by_cases h:s.1∈aj
  ·rw[a9 h];exact⟨λz=>(by cases z),λz=>absurd h z.1⟩
  ·rw[ba h,oO];exact⟨λz=>⟨h,z.1,z.2⟩,λz=>z.2⟩
 ·cases hb2:s.2 with
  |true=>
   rw[a9 rfl];by_cases h:hb ae A aj s.1=true
   ·rw[a9 h,uN];exact⟨λz=>⟨.inl ⟨rfl,(ut L hs).mp h⟩,z.1,z.2⟩,λz=>z.2⟩
   ·rw[ba h];refine⟨λz=>(by cases z),λz=>?_⟩;rcases z.1 with q|q
    ·exact absurd ((ut L hs).mpr q.2) h
    ·cases q.1
  |false=>
   rw[ba c8];by_cases h:s.1∈aj
   ·rw[bW h,ba (by decide)];refine⟨λz=>(by cases z),λz=>?_⟩;rcases z.1 with q|q
    ·cases q.1
    ·exact absurd h q.2
   ·rw[cE h,a9 (by decide),uN];exact⟨λz=>⟨.inr ⟨rfl,h⟩,z.1,z.2⟩,λz=>z.2⟩
theorem oY{A:List Ar}{x:Str}{t:Spot}:t∈fe A x↔u5 (ar A) x t:=by unfold fe u5;rw[dI,oO,uN];rfl
theorem Pj{ae:List Str}{A:List Ar}(L:Lk ae A)(x:Str):(fe A x).Nodup:=by
 unfold fe;refine kN.mpr ⟨?_,?_,λa ha b hb e=>?_⟩
 ·exact mO.mpr ((L.KY x).imp λh e=>h (congrArg wA e))
 ·exact mO.mpr ((L.Nm x).imp λh e=>h (congrArg wA e))
 ·have h1:=(oO.mp ha).2;have h2:=(uN.mp hb).2;rw[e,h2]at h1;cases h1
theorem EL:∀bs:List Bf,jc ((bs.map cu).map (·.2))=true
 |[]=>rfl
 |(s,o)::r=>by
  rw[cG,cG,jc,EL r];cases o<;>rfl
theorem M3{ae:List Str}{A:List Ar}(L:Lk ae A){i:Str}(hi:i∈ae)(aj:List Str) :
 ∃bs,nJ [.d (aB ae A),.d (.str i),.d (ai aj)]=.ok (iJ bs)/\fA (fe A i) (jP ae) (nxS ae A aj) bs []:=by
 have N:=L.bh (zL hi);have hd:∀p∈A,p.2∈ae:=λp hp=>(L.inn p hp).2;have hl:=L.al;have n8:=L.le;obtain⟨bs,hw,w⟩:=PZ (κ:=⟨0,0, "", []⟩) (f:=t0) (aK:=[aB ae A,ai aj]) (st:=fe A i) (U:=jP ae) (nx:=nxS ae A aj) (Pj L i) (λs hs=>by
  rw[pw];rcases oY.mp hs with h|h
  ·exact(L.inn _ h.1).2
  ·exact(L.inn _ h.1).1) (by unfold jP;rw[cF,aX,aX];omega) (λs hs t ht=>by
  rw[pw]at hs ⊢;rcases(nB L hs).mp ht with h|h
  ·exact(L.inn _ h.2.1).2
  ·exact(L.inn _ h.2.1).1) (λs hs=>by
  unfold nxS;rw[cF];have h1:(if s.1∈aj then[]else ji A s.1).length<=64:=by
   split
   ·exact fI _
   ·exact zA hl
  have h2:(if(if s.2=true then hb ae A aj s.1 else !decide (s.1∈aj))=true then iM A s.1 else[]).length<=64:=by
   generalize (if s.2=true then hb ae A aj s.1 else !decide (s.1∈aj))=g;cases g
   ·exact fI _
   ·exact y7 hl
  omega) (λs hs=>by
  rw[pw]at hs;show Rs.bind (a8 pR [(wD (mV 1)),(wD (mV 0)),(wD (mV 2))] [ab (.d (aI s)),ab (.d (aB ae A)),ab (.d (ai aj))]) _=_;rw[lN rfl rfl rfl (Jy N hd aj hs)];rfl)
 refine⟨bs,?_,w⟩;unfold nJ F6;rw[yD];rw[show([ab (W.d (aB ae A)),ab (W.d (.str i)),ab (W.d (ai aj))]++c7 (4-3) ac)=[ab (W.d (aB ae A)),ab (W.d (.str i)),ab (W.d (ai aj)),ac]from rfl];have e3:m2 bn (a8 lF [(wD (mV 0)),(wD (mV 1))]) (a8 lM [(wD (mV 0)),(wD (mV 1))]) [ab (W.d (aB ae A)),ab (W.d (.str i)),ab (W.d (ai aj)),ac]=.ok (bP (fe A i)):=by refine(aC (x:=bP (ji A i)) (y:=bP (iM A i)) (call2 rfl rfl (Ey hi hl)) (call2 rfl rfl (Ec hi hl)) (vE _ _)).trans ?_;have:=zA (x:=i) hl;have:=y7 (x:=i) hl;rw[aQ (by rw[aX,aX];omega)];unfold bP fe;rw[fg]
 rw[aU (e':=[ab (W.d (aB ae A)),ab (W.d (.str i)),ab (W.d (ai aj)),ab (W.d (bP (fe A i)))]) (bY e3)];have e4:yj sT [0,2] (mV 3) [ab (W.d (aB ae A)),ab (W.d (.str i)),ab (W.d (ai aj)),ab (W.d (bP (fe A i)))]=.ok (iJ bs):=by show Rs.bind (sT (bP (fe A i)) [aB ae A,ai aj]) Gk=_;rw[show sT (bP (fe A i)) [aB ae A,ai aj]=.ok (iJ bs)from hw];show(if jc ((bs.map cu).map (·.2))=true then Rs.ok (W.dt (bs.map cu))else .no)=_;rw[a9 (EL bs)]
 rw[c9 e4];rfl
theorem _root_.Vp.Rc.congr{α:Type}{st st':α×Bool->Prop}{nx nx':α×Bool->α×Bool->Prop}{P:α×Bool->Prop}(hs:∀t,st t->st' t)(hp:∀t,st t->P t)(hn:∀s t,P s->nx s t->nx' s t/\P t){s:α×Bool}(r:Rc st nx s):Rc st' nx' s/\P s:=by
 induction r with
 |base h=>exact⟨.base (hs _ h),hp _ h⟩
 |step _ h ih=>exact⟨.step ih.1 (hn _ _ ih.2 h).1,(hn _ _ ih.2 h).2⟩
theorem CP{ae:List Str}{A:List Ar}(L:Lk ae A){i:Str}(hi:i∈ae){aj:List Str}{bs:List Bf}(w:fA (fe A i) (jP ae) (nxS ae A aj) bs [])(s:Spot):s∈bM bs↔Vp.Wk (ar A) (·∈aj) i s:=by
 rw[w.iff];have i1:∀t,u5 (ar A) i t->t.1∈ae:=λt h=>by
  rcases h with h|h
  ·exact(L.inn _ h.1).2
  ·exact(L.inn _ h.1).1
 have i2:∀s t,lP (ar A) (·∈aj) s t->t.1∈ae:=λs t h=>by
  rcases h with h|h
  ·exact(L.inn _ h.2.1).2
  ·exact(L.inn _ h.2.1).1
 constructor
 ·intro r;exact(r.congr (P:=λt=>t.1∈ae) (λt h=>oY.mp h) (λt h=>i1 t (oY.mp h)) λs t hs h=>⟨(nB L hs).mp h,i2 s t ((nB L hs).mp h)⟩).1
 ·intro r;exact(r.congr (P:=λt=>t.1∈ae) (λt h=>oY.mpr h) i1 λs t hs h=>⟨(nB L hs).mpr h,i2 s t h⟩).1
def jf(bs:List Bf)(j:Str):List Spot:=(bM bs).filter λs=>decide (s.1=j)
theorem La(bs:List Bf)(hl:bs.length<=1000)(j:Str):sI [.d (.str j),.df (bs.map cu)]=.ok (.d (bP (jf bs j))):=by
 unfold sI FD;rw[jK];have hc:dE (.n 1) (cB (m2 dP (m2 aE (mV 1) (mC (.int 0))) (mV 0))) (mV 1) [ab (.d (.str j)),ac] ((bM bs).map aI)=.ok (((bM bs).filter λs=>decide (s.1=j)).map aI):=
  gW aI aI _ _ λs _=>⟨[ab (.d (.str j)),ab (.d (aI s))],rfl,bR (aC (x:=.str s.1) (aC (x:=aI s) rfl rfl (by show cJ (cK [D.str s.1,D.bl s.2] 0)=_;rw[at0];rfl)) rfl (uy _ _)),λ_=>rfl⟩
 have it:pK 1 [ab (W.d (.str j)),ab (W.df (bs.map cu))]=.ok ((bM bs).map aI):=by show Rs.ok ((bs.map cu).map λkv=>D.tup (kv.1.map uS))=_;unfold bM;rw[dJ,dJ];rfl
 rw[show([ab (W.d (.str j)),ab (W.df (bs.map cu))]++c7 (2-2) ac)=[ab (W.d (.str j)),ab (W.df (bs.map cu))]from rfl];rw[c9 (bO (fE (e:=[ab (W.d (.str j)),ab (W.df (bs.map cu))]) it (by rw[aX,kys_len];omega) hc))];rfl
theorem MW{ae asked:List Str}(h:∀x∈asked,x∈ae)(nd:asked.Nodup)(hl:asked.length<=1000):qM [.d (dC ae),.d (ai asked)]=.ok (.d .non):=by unfold qM Fe;rw[j4];rw[aU (e':=[ab (.d (dC ae)),ab (.d (ai asked))]) (by unfold fZ;rw[call2 rfl rfl (sY h)];rfl)];show Rs.bind (fZ _ _) _=_;unfold fZ;rw[LI rfl (Li nd hl)];rfl
end Mr
namespace Mr
open PySem Mi
open Vp
theorem ahead{α:Type}{l1 l2 pre post:List α}{c:α}(h:(l1++c::l2).Sublist (pre++c::post))(nd:(pre++c::post).Nodup):∀y∈l1,y∈pre:=λy hy=>by
 have h2:[y,c].Sublist (pre++c::post):=by refine List.Sublist.trans ?_ h;exact(List.singleton_sublist.mpr hy).append ((List.nil_sublist _).cons_cons c)
 obtain⟨n1,n2,n3⟩:=kN.mp nd;obtain⟨nc,_⟩:=kP.mp n2;obtain⟨a,b,e,s1,s2⟩:=List.sublist_append_iff.mp h2;cases a with
 |nil=>
  rw[tE]at e;rw[<- e]at s2;cases s2 with
  |cons _ s2=>exact absurd (s2.mem (by simp)) nc
  |cons_cons _ s2=>exact absurd (s2.mem (by simp)) nc
 |cons x r=>
  rw[qf]at e;injection e with e1 _;rw[e1];exact s1.mem dA
structure k5(st:List Spot)(nx:Spot->List Spot)(bs:List Bf)(l:List Spot):Prop where
 hd:∃x r,l=x::r/\x∈st/\(x,ac)∈bs
 sub:l.Sublist (bM bs)
 step:∀(k:Nat) (u v:Spot),l[k]? = ab u->l[k+1]? = ab v->v∈nx u/\v∉st/\(v,ab u)∈bs/\∃pre post,bM bs=pre++u::post/\∀t∈pre,v∉nx t
theorem k5.more{st:List Spot}{nx:Spot->List Spot}{bs:List Bf}{l:List Spot}(p:k5 st nx bs l)(b:Bf):k5 st nx (bs++[b]) l:=by obtain⟨x,r,e,h1,h2⟩:=p.hd;refine⟨⟨x,r,e,h1,gf _ h2⟩,by rw[kJ];exact p.sub.trans (List.sublist_append_left _ _),λk u v hu hv=>?_⟩;obtain⟨s1,s2,s3,pre,post,e2,s4⟩:=p.step k u v hu hv;exact⟨s1,s2,gf _ s3,pre,post++[b.1],by rw[kJ,e2,mM];rfl,s4⟩
theorem iO.J5{st:List Spot}{nx:Spot->List Spot}{bs:List Bf}(h:iO st nx bs):∀s∈bM bs,∃l,k5 st nx bs (l++[s]):=by
 induction h with
 |nil=>exactλs h=>nomatch h
 | @«from» bs s _ hs ih=>
  intro t ht;rw[kJ]at ht;rcases dI.mp ht with z|z
  ·obtain⟨l,p⟩:=ih t z;exact⟨l,p.more _⟩
  ·rw[cr.mp z];refine⟨[],⟨s,[],rfl,hs,dS _ (cr.mpr rfl)⟩,by rw[kJ];exact List.sublist_append_right _ _,λk u v hu hv=>?_⟩;have:=(b9.mp hv).1;simp at this
 | @on bs s h pre post tr e hp hn hs ih=>
  intro t ht;rw[kJ]at ht;rcases dI.mp ht with z|z
  ·obtain⟨l,p⟩:=ih t z;exact⟨l,p.more _⟩
  ·rw[cr.mp z];obtain⟨l,p⟩:=ih h (by rw[e];exact dS _ dA);have pm:=p.more (s,ab h);obtain⟨x,r,e0,h1,h2⟩:=pm.hd;refine⟨l++[h],⟨x,r++[s],by rw[e0];rfl,h1,h2⟩,by rw[kJ];exact p.sub.append (List.Sublist.refl _),λk u v hu hv=>?_⟩;have kl:=(b9.mp hv).1;rw[cF,gc]at kl;by_cases hk:k+1<(l++[h]).length
   ·rw[kM (by omega)]at hu;rw[kM hk]at hv;exact pm.step k u v hu hv
   ·have ek:k+1=(l++[h]).length:=by omega
    rw[kM (by omega)]at hu;rw[jS (by omega),ek,oz]at hv;have ev:s=v:=by simpa using hv
    have eu:h=u:=by
     have:k=l.length:=by rw[cF,gc]at ek;omega
     rw[this,jS (bv _),oz]at hu;simpa using hu
    subst ev eu;exact⟨hs,hn,dS _ (cr.mpr rfl),pre,post++[s],by rw[kJ,e,mM];rfl,hp⟩
section
variable{ae:List Str}{A:List Ar}(L:Lk ae A){aj:List Str}{i j:Str}{b:Bool}{bs:List Bf}(w:fA (fe A i) (jP ae) (nxS ae A aj) bs [])
theorem BI(nxt:Spot->Spot->Prop)(hn:∀s t,nxt s t->lP (ar A) (·∈aj) s t)(x:Str):∀(l:List Spot) (z:Str),Up (ar A) x z->(∀(k:Nat) (u v:Spot),((z,true)::l)[k]? = ab u->((z,true)::l)[k+1]? = ab v->nxt u v)->(∃y,(y,false)∈l)->ej (ar A) (·∈aj) x
 |[],z,_,_,h=>by obtain⟨y,h⟩:=h;cases h
 |(y,c)::l,z,up,st,h=>by
  have s0:=hn _ _ (st 0 (z,true) (y,c) rfl rfl);cases c with
  |false=>
   rcases s0 with ⟨_,_,e⟩|⟨g,_,_⟩
   ·cases e
   ·rcases g with ⟨_,t,ht,u⟩|⟨e,_⟩
    ·exact⟨t,ht,up.trans u⟩
    ·cases e
  |true=>
   rcases s0 with ⟨_,a,_⟩|⟨_,_,e⟩
   ·refine BI nxt hn x l y (up.trans (.step a (.refl _))) (λk u v hu hv=>st (k+1) u v hu hv) ?_;obtain⟨q,hq⟩:=h;rcases bL.mp hq with z|z
    ·cases z
    ·exact⟨q,z⟩
   ·cases e
include L w in
theorem Oh(hi:i∈ae)(ij:i≠j)(first:∀pre post,bM bs=pre++(j,b)::post->∀s∈pre,s.1≠j){l:List Spot}(p:k5 (fe A i) (nxS ae A aj) bs (l++[(j,b)])):(i::(l++[(j,b)]).map (·.1)).Nodup:=by
 obtain⟨m,hm⟩ : ∃m,m=l++[(j,b)]:=⟨_,rfl⟩;rw[<- hm]at p ⊢;have mn:∀s∈m,s.1∈ae:=λs hs=>pw.mp (w.u s (p.sub.mem hs));have nxt:∀(k:Nat) (u v:Spot),m[k]? = ab u->m[k+1]? = ab v->lP (ar A) (·∈aj) u v:=λk u v hu hv=>(nB L (mn u (gG hu))).mp (p.step k u v hu hv).1;have mnd:m.Nodup:=p.sub.nodup w.nd;have lst:∀(q:Nat) (s:Spot),m[q]? = ab s->s.1≠j\/q+1=m.length->q+1=m.length\/∃t,m[q+1]? = ab t:=λq s hs h=>by
  have:=(b9.mp hs).1;by_cases e:q+1=m.length
  ·exact .inl e
  ·exact .inr ⟨m[q+1]'(by omega),dR _⟩
 have last:∀(q:Nat) (s:Spot),m[q]? = ab s->q+1=m.length->s=(j,b):=λq s hs e=>by
  rw[hm]at hs e;rw[cF,gc]at e;rw[jS (by omega),show q-l.length=0 by omega]at hs;simpa using hs.symm
 refine kP.mpr ⟨λh=>?_,?_⟩
 ·-- the first name does not come again
  obtain⟨s,hs,e⟩:=ca.mp h;obtain⟨q,hq⟩:=mK hs;rcases lst q s hq (.inl (by rw[e];exact ij))with z|⟨t,ht⟩
  ·rw[last q s hq z]at e;exact ij e.symm
  ·have st:=p.step q s t hq ht;refine st.2.1 (oY.mpr ?_);rcases nxt q s t hq ht with ⟨_,a,c⟩|⟨_,a,c⟩
   ·exact .inl ⟨by rw[<- e];exact a,c⟩
   ·exact .inr ⟨by rw[<- e];exact a,c⟩
 ·refine mO.mpr (List.pairwise_iff_getElem.mpr λx y hx hy xy e=>?_);obtain⟨u,hu⟩ : ∃u,u=m[x]:=⟨_,rfl⟩;obtain⟨v,hv⟩ : ∃v,v=m[y]:=⟨_,rfl⟩;rw[<- hu,<- hv]at e;have gu:m[x]? = ab u:=by rw[dR hx,hu]
  have gv:m[y]? = ab v:=by rw[dR hy,hv]
  have uv:u≠v:=λz=>by rw[hu,hv]at z;have:=(mP mnd).mp z;omega
  have split:m=m.take y++v::m.drop (y+1):=by rw[hv,<- oh hy,List.take_append_drop]
  have um:u∈m.take y:=by rw[hu];exact List.mem_take_iff_getElem.mpr ⟨x,by omega,rfl⟩
  by_cases ly:y+1=m.length
  ·-- the last name
   have ev:=last y v gv ly;obtain⟨pre,post,ek⟩:=List.append_of_mem (p.sub.mem (gG gv));have su:=p.sub;rw[split,ek]at su;have:=ahead su (by rw[<- ek];exact w.nd) u um;rw[ev]at ek;exact first pre post ek u this (by rw[e,ev])
  ·obtain⟨t,ht⟩ : ∃t,m[y+1]? = ab t:=⟨m[y+1]'(by omega),dR _⟩;obtain⟨h1,_,_,pre,post,ek,fp⟩:=p.step y v t gv ht;have su:=p.sub;rw[split,ek]at su;have up:=ahead su (by rw[<- ek];exact w.nd) u um;refine fp u up ((nB L (mn u (gG gu))).mpr ?_);have nu:lP (ar A) (·∈aj) u m[x+1]:=nxt x u _ gu (dR (by omega));obtain⟨xn,ub⟩:=u;obtain⟨xn',vb⟩:=v;have e:xn=xn':=e;subst e;rcases nxt y _ t gv ht with ⟨ns,a,c⟩|⟨g,a,c⟩
   ·exact .inl ⟨ns,a,c⟩
   ·refine .inr ⟨?_,a,c⟩;cases vb with
    |true=>
     cases ub with
     |true=>exact absurd rfl uv
     |false=>
      rcases nu with ⟨ns,_⟩|⟨gu',_⟩
      ·exact .inr ⟨rfl,ns⟩
      ·exact gu'
    |false=>
     cases ub with
     |false=>exact absurd rfl uv
     |true=>
      refine .inl ⟨rfl,BI (A:=A) (aj:=aj) (λs t=>lP (ar A) (·∈aj) s t) (λ_ _ h=>h) xn (m.drop (x+1)) xn (.refl _) (λk s t' hs ht'=>?_) ⟨xn,?_⟩⟩
      ·have ed:(xn,true)::m.drop (x+1)=m.drop x:=by rw[oh hx,<- hu]
       rw[ed,Gz]at hs ht';exact nxt (x+k) s t' hs (by rw[<- Nat.add_assoc]at ht';exact ht')
      ·refine List.mem_iff_getElem?.mpr ⟨y-(x+1),?_⟩;rw[Gz,show x+1+(y-(x+1))=y by omega];exact gv
end
end Mr
namespace Mr
open PySem Mi
open Vp
def lL(i:Str)(m:List Spot):Nat->Str
 |0=>i
 |q+1=>((m[q]?).map (·.1)).getD i
section
variable{ae:List Str}{A:List Ar}(L:Lk ae A){aj:List Str}{i j:Str}{bs:List Bf}(w:fA (fe A i) (jP ae) (nxS ae A aj) bs []){m:List Spot}(p:k5 (fe A i) (nxS ae A aj) bs m)
include L in
theorem Lk.yP{x y:Str}(h:(x,y)∈A)(k:(y,x)∈A):False:=by obtain⟨r,hr⟩:=L.rk;have h1:=hr _ h;have h2:=hr _ k;simp only at h1 h2;omega
include L w p in
theorem zk(k:Nat)(u v:Spot)(hu:m[k]? = ab u)(hv:m[k+1]? = ab v):lP (ar A) (·∈aj) u v:=(nB L (pw.mp (w.u u (p.sub.mem (gG hu))))).mp (p.step k u v hu hv).1
include L w p in
theorem wM(q:Nat)(u:Spot)(hu:m[q]? = ab u):((lL i m q,u.1)∈A/\u.2=true)\/((u.1,lL i m q)∈A/\u.2=false):=by
 cases q with
 |zero=>
  obtain⟨x,r,e,hx,_⟩:=p.hd;rw[e]at hu;have:x=u:=by simpa using hu
  subst this;rcases oY.mp hx with ⟨a,c⟩|⟨a,c⟩
  ·exact .inl ⟨a,c⟩
  ·exact .inr ⟨a,c⟩
 |succ q=>
  have ql:=(b9.mp hu).1;obtain⟨t,ht⟩ : ∃t,m[q]? = ab t:=⟨m[q]'(by omega),dR _⟩;have e:lL i m (q+1)=t.1:=by show((m[q]?).map (·.1)).getD i=_;rw[ht];rfl
  rw[e];rcases zk L w p q t u ht hu with ⟨_,a,c⟩|⟨_,a,c⟩
  ·exact .inl ⟨a,c⟩
  ·exact .inr ⟨a,c⟩
include L w p in
theorem Ju(q:Nat)(u:Spot)(hu:m[q]? = ab u):tie A (lL i m q) u.1=true:=by
 rw[JZ];rcases wM L w p q u hu with h|h
 ·exact .inl h.1
 ·exact .inr h.1
include L w p in
theorem Mx(q:Nat)(u v:Spot)(hu:m[q]? = ab u)(hv:m[q+1]? = ab v)(h1:(lL i m q,u.1)∈A)(h2:(v.1,u.1)∈A):ej (ar A) (·∈aj) u.1:=by
 have fu:u.2=true:=by
  rcases wM L w p q u hu with h|h
  ·exact h.2
  ·exact(L.yP h1 h.1).elim
 rcases zk L w p q u v hu hv with ⟨_,a,_⟩|⟨g,_,_⟩
 ·exact(L.yP a h2).elim
 ·rcases g with g|g
  ·exact g.2
  ·rw[fu]at g;cases g.1
include L w p in
theorem Iv(q:Nat)(u v:Spot)(hu:m[q]? = ab u)(hv:m[q+1]? = ab v)(h:¬ ((lL i m q,u.1)∈A/\(v.1,u.1)∈A)):u.1∉aj:=by
 rcases zk L w p q u v hu hv with ⟨ns,_,_⟩|⟨g,a,_⟩
 ·exact ns
 ·rcases wM L w p q u hu with f|f
  ·exact absurd ⟨f.1,a⟩ h
  ·rcases g with g|g
   ·rw[f.2]at g;cases g.1
   ·exact g.2
end
theorem L7{bs:List Bf}(nd:(bM bs).Nodup){j:Str}{s:Spot}{r:List Spot}(h:jf bs j=s::r):s.1=j/\s∈bM bs/\∀pre post,bM bs=pre++s::post->∀t∈pre,t.1≠j:=by
 have hm:s∈jf bs j:=by rw[h];exact dA
 obtain⟨h1,h2⟩:=dH.mp hm;refine⟨j3 h2,h1,λpre post e t ht tj=>?_⟩;unfold jf at h;rw[e,zR]at h;have ht':t∈pre.filter λs=>decide (s.1=j):=dH.mpr ⟨ht,bW tj⟩;cases hf:pre.filter λs=>decide (s.1=j)with
 |nil=>rw[hf]at ht';cases ht'
 |cons a q=>
  rw[hf,qf]at h;injection h with ha _;have:a∈pre:=(dH.mp (by rw[hf];exact dA)).1;rw[e]at nd;exact(kN.mp nd).2.2 a this s dA ha
theorem Jp{ae:List Str}{A:List Ar}(L:Lk ae A){aj:List Str}{i j:Str}(hi:i∈ae)(ij:i≠j){bs:List Bf}(w:fA (fe A i) (jP ae) (nxS ae A aj) bs []){s:Spot}{r:List Spot}(h:jf bs j=s::r) :
 ∃l,k5 (fe A i) (nxS ae A aj) bs (l++[s])/\s.1=j/\(i::(l++[s]).map (·.1)).Nodup:=by
 obtain⟨e,hk,hf⟩:=L7 w.nd h;obtain⟨l,p⟩:=w.tr.J5 s hk;obtain⟨x,b⟩:=s;have e:x=j:=e;subst e;exact⟨l,p,rfl,Oh L w hi ij hf p⟩
end Mr
namespace Vp
section
variable{α:Type}{A:α->α->Prop}{S:α->Prop}{i j:α}
theorem Met.sym{adj:α->α->Prop}(hs:∀u v,adj u v->adj v u)(ni:¬ S i){v:α}(m:Met adj S i v):Met adj S v i:=by
 have key:∀{u w:α},Met adj S u w->∀{x:α},adj x u->¬ S u->Met adj S x w:=λ{u w} m=>by
  induction m with
  |base=>exactλ{x} a ns=>.step .base a ns
  |step _ a s ih=>exactλ{x} b ns=>.step (ih b ns) a s
 have nv:∀{v:α},Met adj S i v->¬ S v:=λ{v} m=>by
  cases m with
  |base=>exact ni
  |step _ _ s=>exact s
 induction m with
 |base=>exact .base
 |step m a s ih=>exact key ih (hs _ _ a) (nv m)
theorem kL.sym(ni:¬ S i)(h:kL A i j S):kL A j i S:=by
 have e:Tg i j S=Tg j i S:=by funext x;unfold Tg;exact propext ⟨λh=>by rcases h with h|h|h;exact .inr (.inl h);exact .inl h;exact .inr (.inr h),λh=>by rcases h with h|h|h;exact .inr (.inl h);exact .inl h;exact .inr (.inr h)⟩
 unfold kL at h ⊢;rw[e]at h;exact h.sym (λu v ⟨n,hn,f1,f2⟩=>⟨n,hn,f2,f1⟩) ni
end
end Vp
namespace Mr
open PySem Mi
open Vp
theorem N1{A:List Ar}{i j:Str}{aj:List Str}(ni:i∉aj)(nj:j∉aj):jr A i j aj=jr A j i aj:=by rw[wg,vi,vi];exact⟨λh=>h.sym ni,λh=>h.sym nj⟩
end Mr
namespace Mr
open PySem Mi
open Vp
theorem Ly{a:E}{e:Mi.Env}{s:Spot}(h:a e=.ok (aI s)):m2 aE a (mC (.int 0)) e=.ok (.str s.1):=aC h rfl (by show cJ (cK [D.str s.1,D.bl s.2] 0)=_;rw[at0];rfl)
end Mr
namespace Mr
open PySem Mi
open Vp
open My (words eQ fb)
end Mr
namespace Mr
open PySem Mi
open Vp
open My (words eQ fb)
theorem KA(ns:List Int)(hl:ns.length<=63):∃ae A r,r9 [.d (.lst (ns.map D.int)),.d (.int 8)]=.ok (.d (aB ae (A.map (arrOf ae))))/\oS ae A r/\(∃(c:Int) (m:Nat),m<=8/\ae=(words c m).map S')/\2<=ae.length:=by
 obtain⟨c0,hc0⟩:=m9 ns 0 (by decide);rw[show((0:Nat):Int)=0 from rfl]at hc0;obtain⟨f,hf⟩ : ∃f:Int,f=1+c0%(8-1)+8*(c0/(8-1)%10 ^ (9:Int).toNat):=⟨_,rfl⟩;obtain⟨ae,A,r,h,N,wds,d0,hd0,hnl⟩:=NX (f::ns.drop 1) 8 (by decide) (by decide);rw[show((8:Nat):Int)=8 from rfl]at h hnl;have cf:eY [.d (.lst ((f::ns.drop 1).map D.int)),.d (.int 0)]=.ok (.d (.int f)):=by
  unfold eY yJ;rw[j4];have ct:cB (m2 d6 (mV 1) (mN bS [(mV 0)])) [ab (W.d (.lst ((f::ns.drop 1).map D.int))),ab (W.d (.int 0)),ac]=.ok true:=by refine bR ((aC rfl ((fv (x:=.lst ((f::ns.drop 1).map D.int)) rfl).trans (nD _)) (pT _ _)).trans ?_);rw[aX,c6,bW (by omega)]
  rw[show([ab (W.d (.lst ((f::ns.drop 1).map D.int))),ab (W.d (.int 0))]++c7 (3-2) ac)=[ab (W.d (.lst ((f::ns.drop 1).map D.int))),ab (W.d (.int 0)),ac]from rfl];rw[mq ((f8 ct).trans (c9 (bO (aC (x:=.lst ((f::ns.drop 1).map D.int)) rfl rfl (by show cJ (cK (.int f::(ns.drop 1).map D.int) 0)=_;rw[at0];rfl)))))];rfl
 rw[cf]at hd0;have e0:f=d0:=by injection hd0 with e;injection e with e;injection e
 refine⟨ae,A,r,?_,N,wds,?_⟩
 ·unfold r9 Ei;rw[j4];have hp:m2 zy (mC (.int 10)) (mC (.int 9)) [ab (.d (.lst (ns.map D.int))),ab (.d (.int 8)),ab (.d (.int c0)),ac,ac]=.ok (.int (10 ^ (9:Int).toNat)):=aC rfl rfl (aQ (by decide));rw[aU (e':=[ab (.d (.lst (ns.map D.int))),ab (.d (.int 8)),ab (.d (.int c0)),ac,ac]) (bY (call2 rfl rfl hc0))];rw[aU (e':=[ab (.d (.lst (ns.map D.int))),ab (.d (.int 8)),ab (.d (.int c0)),ab (.d (.int (c0/(8-1)%10 ^ (9:Int).toNat))),ac]) (bY (aC (aC rfl (aC rfl rfl rfl) (aQ (ie (by decide) (by decide)))) hp (aQ (by decide))))];rw[aU (e':=[ab (.d (.lst (ns.map D.int))),ab (.d (.int 8)),ab (.d (.int c0)),ab (.d (.int (c0/(8-1)%10 ^ (9:Int).toNat))),ab (.d (.int f))]) (bY ((aC (aC rfl (aC rfl (aC rfl rfl rfl) (aQ (by decide))) rfl) (aC rfl rfl (aQ (i8 (by decide) (by decide)))) rfl).trans (by rw[n9,hf])))];have hs:m2 bn (mN cZ [(mV 4)]) (eD eJ (mV 0) (ab (mC (.int 1))) ac) [ab (.d (.lst (ns.map D.int))),ab (.d (.int 8)),ab (.d (.int c0)),ab (.d (.int (c0/(8-1)%10 ^ (9:Int).toNat))),ab (.d (.int f))]=.ok (.lst ((f::ns.drop 1).map D.int)):=by
   have Qi:gq (ns.map D.int) (ab (1:Int)) ac=(ns.drop 1).map D.int:=by rw[show(1:Int)=((1:Nat):Int)from rfl,vn,vS]
   refine(aC (x:=.lst [.int f]) (y:=.lst (gq (ns.map D.int) (ab (1:Int)) ac)) (nK rfl) rfl rfl).trans ?_;rw[Qi,vE,aQ (by simp only[c6,lQ,aX,kO];omega)];rfl
  rw[c9 (bO (call2 (bO hs) rfl h))];rfl
 ·rw[<- e0]at hnl;have q0:=fW c0 (b:=7) (by decide);have q1:=gi c0 (b:=7) (by decide);have e8:(8:Int)-1=7:=by decide
  rw[e8]at hf;have:f%8=1+c0%7:=by generalize c0/7%10 ^ (9:Int).toNat=z at hf;omega
  omega
theorem Ce{ls:List Str}{z:Int}(h0:0<=z)(h1:z<ls.length)(hl:ls.length<=100):∃(h:z.toNat<ls.length),jz (ls.map D.str) z=.ok (.str ls[z.toNat],(ls.eraseIdx z.toNat).map D.str):=by
 have hz:z.toNat<ls.length:=by omega
 refine⟨hz,?_⟩;unfold jz;rw[aQ (by omega)];have:eg (ls.map D.str).length z=ab z.toNat:=by unfold eg;rw[a9 h0,a9 (by rw[aX];exact h1)]
 rw[this,j1,aN];rw[cX,dR hz,GW,j1,aN];have er:∀(l:List Str) (k:Nat),(l.map D.str).eraseIdx k=(l.eraseIdx k).map D.str:=by
  intro l
  induction l with
  |nil=>intro k;rfl
  |cons a r ih=>
   intro k;cases k with
   |zero=>rfl
   |succ k=>rw[cG,zJ,ih k];rfl
 rw[er]
structure Ask(ae:List Str)(i j:Str)(aj:List Str):Prop where
 im:i∈ae
 jm:j∈ae
 ij:i≠j
 hs:∀x∈aj,x∈ae
 nd:aj.Nodup
 ni:i∉aj
 nj:j∉aj
theorem O9{ae:List Str}{A:List Ar}(nd:ae.Nodup)(h2:2<=ae.length)(h8:ae.length<=8)(d:Int):∃i j aj,pW [.d (aB ae A),.d (.int d)]=.ok (.d (.lst [.str i,.str j,ai aj]))/\Ask ae i j aj:=by
 have l1:(0:Int)<((ae.length:Nat):Int):=by omega
 obtain⟨a,ha⟩ : ∃a,a=d%((ae.length:Nat):Int):=⟨_,rfl⟩;have a0:0<=a:=by rw[ha];exact fW _ (by omega)
 have a1:a<((ae.length:Nat):Int):=by rw[ha];exact gi _ l1
 obtain⟨az,pa⟩:=Ce a0 a1 (by omega);obtain⟨i,hi⟩ : ∃i,i=ae[a.toNat]:=⟨_,rfl⟩;obtain⟨n1,hn1⟩ : ∃n1,n1=ae.eraseIdx a.toNat:=⟨_,rfl⟩;rw[<- hi,<- hn1]at pa;have ln1:n1.length=ae.length-1:=by rw[hn1,Gu,a9 az]
 have l2:(0:Int)<((n1.length:Nat):Int):=by omega
 obtain⟨b,hb⟩ : ∃b,b=d/8%((n1.length:Nat):Int):=⟨_,rfl⟩;have b0:0<=b:=by rw[hb];exact fW _ (by omega)
 have b1:b<((n1.length:Nat):Int):=by rw[hb];exact gi _ l2
 obtain⟨bz,pb⟩:=Ce b0 b1 (by omega);obtain⟨j,hj⟩ : ∃j,j=n1[b.toNat]:=⟨_,rfl⟩;obtain⟨n2,hn2⟩ : ∃n2,n2=n1.eraseIdx b.toNat:=⟨_,rfl⟩;rw[<- hj,<- hn2]at pb;have nV:n1.Nodup:=by rw[hn1];exact nd.sublist (Gq _ _)
 have na:n2.Nodup:=by rw[hn2];exact nV.sublist (Gq _ _)
 have s1:∀x∈n1,x∈ae:=λx h=>by rw[hn1]at h;exact Gn h
 have s2:∀x∈n2,x∈n1:=λx h=>by rw[hn2]at h;exact Gn h
 have out:∀{l:List Str} {k:Nat} (h:k<l.length),l.Nodup->l[k]∉l.eraseIdx k:=λ{l k} h nd z=>by
  obtain⟨q,hq,ne,e⟩:=List.mem_eraseIdx_iff_getElem.mp z;exact ne ((mP (h₀:=hq) (h₁:=h) nd).mp e)
 have i1:i∉n1:=by rw[hi,hn1];exact out az nd
 have jm:j∈n1:=by rw[hj];exact tD bz
 have j2:j∉n2:=by rw[hj,hn2];exact out bz nV
 have l8:n2.length<=8:=by rw[hn2,Gu,a9 bz];omega
 obtain⟨w,hw⟩ : ∃w,w=2+d/64%2:=⟨_,rfl⟩;have w0:0<w:=by have:=fW (d/64) (b:=2) (by decide);omega
 obtain⟨e',f,aj,o6,he,hs,hnd⟩:=gR (tg:=.n 6) (body:=(bI (cB (m2 dP (m2 bg (m2 cx (m2 bg (m2 bV (mV 1) (m2 bn (mC (.int 48271)) (m2 bV (m2 bV (mC (.int 614)) (mV 6)) (mV 6)))) (mC (.int 2147483647))) (mC (.int 16))) (m2 bn (mC (.int 2)) (m2 bg (m2 cx (mV 1) (mC (.int 64))) (mC (.int 2))))) (mC (.int 0))))
 (c5 5 (m2 aE (mV 2) (mV 6)))
 bU))
  (λn e=>∃(aj:List Str) (o6:Option W),e=[ab (W.d (aB ae A)),ab (W.d (.int d)),ab (W.d (ai n2)),ab (W.d (.str i)),ab (W.d (.str j)),ab (W.d (ai aj)),o6]/\(∀x∈aj,x∈n2.take n)/\aj.Nodup) (cM 0 ((n2.length:Nat):Int)) 0 (λn x e hx ⟨aj,o6,he,hs,hnd⟩=>by
   subst he;obtain⟨hn,rfl⟩:=vj hx;rw[eM]at hs ⊢;have gx:n2[n]? = ab n2[n]:=dR hn;have ts:=Gg gx;have new:=yR na gx;have hl8:aj.length<=8:=eK (ig hnd λx h=>vO (hs x h)) l8;have mono:∀y,y∈n2.take n->y∈n2.take (n+1):=λy hy=>by rw[ts];exact gf _ hy
   have k1:614*(n:Int)*(n:Int)<614*64:=by have:(n:Int)*(n:Int)<=7*7:=Int.mul_le_mul (by omega) (by omega) (by omega) (by omega);rw[Int.mul_assoc];omega
   have k2:0<=614*(n:Int)*(n:Int):=Int.mul_nonneg (by omega) (by omega);obtain⟨v,ct⟩ : ∃v:Bool,cB (m2 dP (m2 bg (m2 cx (m2 bg (m2 bV (mV 1) (m2 bn (mC (.int 48271)) (m2 bV (m2 bV (mC (.int 614)) (mV 6)) (mV 6)))) (mC (.int 2147483647))) (mC (.int 16))) (m2 bn (mC (.int 2)) (m2 bg (m2 cx (mV 1) (mC (.int 64))) (mC (.int 2))))) (mC (.int 0))) [ab (W.d (aB ae A)),ab (W.d (.int d)),ab (W.d (ai n2)),ab (W.d (.str i)),ab (W.d (.str j)),ab (W.d (ai aj)),ab (W.d (.int (n:Int)))]=.ok v:=⟨_,bR (aC (aC (aC (aC (aC rfl (aC rfl (aC (aC rfl rfl ((sV _ _).trans (aQ (i8 (by decide) (by decide))))) rfl ((sV _ _).trans (aQ (pD (by omega) (by omega))))) (n9 _ _)) ((sV _ _).trans (aQ (pD (by omega) (by omega))))) rfl ((kB _ _).trans (aQ (by decide)))) rfl ((div_ii _ _).trans (aQ (ie (by decide) (by decide))))) (aC rfl (aC (aC rfl rfl ((div_ii _ _).trans (aQ (ie (by decide) (by decide))))) rfl ((kB _ _).trans (aQ (by decide)))) (n9 _ _)) ((kB _ _).trans (aQ (by rw[<- hw];exact w0)))) rfl (nW _ _))⟩
   have ix:m2 aE (mV 2) (mV 6) [ab (W.d (aB ae A)),ab (W.d (.int d)),ab (W.d (ai n2)),ab (W.d (.str i)),ab (W.d (.str j)),ab (W.d (ai aj)),ab (W.d (.int (n:Int)))]=.ok (.str n2[n]):=by refine aC rfl rfl ?_;have:=zg (cs:=n2) (i:=(n:Int)) (by omega) (by omega);rw[jX]at this;rw[show aE (ai n2) (.int (n:Int))=_ from this];simp[hn]
   cases v with
   |true=>
    refine⟨_,[ab (W.d (aB ae A)),ab (W.d (.int d)),ab (W.d (ai n2)),ab (W.d (.str i)),ab (W.d (.str j)),ab (W.d (ai (aj++[n2[n]]))),ab (W.d (.int (n:Int)))],rfl,(f8 ct).trans ?_,aj++[n2[n]],_,rfl,λy hy=>?_,?_⟩
    ·rw[lg (d:=.str n2[n]) (ds:=aj.map D.str) ix rfl (by rw[aX];omega),<- vf];rfl
    ·rcases dI.mp hy with z|z
     ·exact mono y (hs y z)
     ·rw[cr.mp z,ts];exact dS _ (cr.mpr rfl)
    ·exact kN.mpr ⟨hnd,by simp,λa ha b hb e=>by rw[cr.mp hb]at e;exact new (e ▸ hs a ha)⟩
   |false=>exact⟨_,_,rfl,(dU ct).trans rfl,aj,_,rfl,λy hy=>mono y (hs y hy),hnd⟩) [ab (W.d (aB ae A)),ab (W.d (.int d)),ab (W.d (ai n2)),ab (W.d (.str i)),ab (W.d (.str j)),ab (W.d (ai [])),ac] ⟨[],ac,rfl,(by intro x h;cases h),(by simp)⟩
 subst he;have hs:∀x∈aj,x∈n2:=λx h=>vO (hs x h);obtain⟨hd,hif,hpe⟩ : ∃hd:List Str,(bI (cB (m2 dP (m2 bg (m2 cx (mV 1) (mC (.int 128))) (mC (.int 2))) (mC (.int 1)))) (xC 5) bU) [ab (W.d (aB ae A)),ab (W.d (.int d)),ab (W.d (ai n2)),ab (W.d (.str i)),ab (W.d (.str j)),ab (W.d (ai aj)),o6]=.ok (.nx [ab (W.d (aB ae A)),ab (W.d (.int d)),ab (W.d (ai n2)),ab (W.d (.str i)),ab (W.d (.str j)),ab (W.d (ai hd)),o6])/\hd.Perm aj:=by
  have ct:cB (m2 dP (m2 bg (m2 cx (mV 1) (mC (.int 128))) (mC (.int 2))) (mC (.int 1))) [ab (W.d (aB ae A)),ab (W.d (.int d)),ab (W.d (ai n2)),ab (W.d (.str i)),ab (W.d (.str j)),ab (W.d (ai aj)),o6]=.ok (decide (d/128%2=1)):=bR (aC (aC (aC rfl rfl ((div_ii _ _).trans (aQ (ie (by decide) (by decide))))) rfl ((kB _ _).trans (aQ (by decide)))) rfl (nW _ _))
  by_cases h:d/128%2=1
  ·rw[bW h]at ct;refine⟨aj.reverse,(f8 ct).trans ?_,List.reverse_perm _⟩;show Rs.ok (Out.nx [_,_,_,_,_,ab (W.d (.lst (aj.map D.str).reverse)),_])=_;unfold ai;rw[zS]
  ·rw[cE h]at ct;exact⟨aj,(dU ct).trans rfl,List.Perm.refl _⟩
 refine⟨i,j,hd,?_,⟨by rw[hi];exact tD az,s1 j jm,λe=>i1 (e ▸ jm),λx h=>s1 x (s2 x (hs x (hpe.mem_iff.mp h))),hpe.nodup_iff.mpr hnd,λh=>i1 (s2 i (hs i (hpe.mem_iff.mp h))),λh=>j2 (hs j (hpe.mem_iff.mp h))⟩⟩;unfold pW EX;rw[jK];rw[show([ab (W.d (aB ae A)),ab (W.d (.int d))]++c7 (7-2) ac)=[ab (W.d (aB ae A)),ab (W.d (.int d)),ac,ac,ac,ac,ac]from rfl];rw[aU (e':=[ab (W.d (aB ae A)),ab (W.d (.int d)),ab (W.d (ai ae)),ac,ac,ac,ac]) (bY ((fv (aC rfl rfl (ki ae A))).trans rfl))];have A2:∀(l:List Str) (e:Mi.Env),e[2]? = ab (ab (W.d (ai l)))->mN bS [(mV 2)] e=.ok (.int ((l.length:Nat):Int)):=λl e h=>(fv (x:=ai l) (by unfold mV;rw[h])).trans (by unfold ai;rw[nD,aX]);have p1:iu 3 2 (m2 bg (mV 1) (mN bS [(mV 2)])) [ab (W.d (aB ae A)),ab (W.d (.int d)),ab (W.d (ai ae)),ac,ac,ac,ac]=.ok (.nx [ab (W.d (aB ae A)),ab (W.d (.int d)),ab (W.d (ai n1)),ab (W.d (.str i)),ac,ac,ac]):=by unfold iu;rw[aC (x:=.int d) (y:=.int ((ae.length:Nat):Int)) rfl (A2 ae _ rfl) ((kB _ _).trans (aQ l1)),aN,ko,aN,<- ha];show Rs.bind (jz (ae.map D.str) a) _=_;rw[pa];rfl
 rw[aU p1];have p2:iu 4 2 (m2 bg (m2 cx (mV 1) (mC (.int 8))) (mN bS [(mV 2)])) [ab (W.d (aB ae A)),ab (W.d (.int d)),ab (W.d (ai n1)),ab (W.d (.str i)),ac,ac,ac]=.ok (.nx [ab (W.d (aB ae A)),ab (W.d (.int d)),ab (W.d (ai n2)),ab (W.d (.str i)),ab (W.d (.str j)),ac,ac]):=by unfold iu;rw[aC (x:=.int (d/8)) (y:=.int ((n1.length:Nat):Int)) (aC rfl rfl ((div_ii _ _).trans (aQ (ie (by decide) (by decide))))) (A2 n1 _ rfl) ((kB _ _).trans (aQ l2)),aN,ko,aN,<- hb];show Rs.bind (jz (n1.map D.str) b) _=_;rw[pb];rfl
 rw[aU p2];rw[aU (e':=[ab (W.d (aB ae A)),ab (W.d (.int d)),ab (W.d (ai n2)),ab (W.d (.str i)),ab (W.d (.str j)),ab (W.d (ai [])),ac]) (bY (me _))];rw[aU ((ic (jR (A2 n2 _ rfl) (qW n2.length l8))).trans f),aU hif];have rt:bp (wD (mN cZ [(mV 3),(mV 4),(mV 5)])) [ab (W.d (aB ae A)),ab (W.d (.int d)),ab (W.d (ai n2)),ab (W.d (.str i)),ab (W.d (.str j)),ab (W.d (ai hd)),o6]=.ok (.rt (.d (.lst [.str i,.str j,ai hd]))):=c9 (bO ((Nf rfl rfl rfl).trans (aQ (by show(3:Nat)<=_;decide))));unfold uW;rw[rt];rfl
theorem Ask.swap{ae:List Str}{i j:Str}{aj:List Str}(Q:Ask ae i j aj):Ask ae j i aj:=⟨Q.jm,Q.im,Q.ij.symm,Q.hs,Q.nd,Q.nj,Q.ni⟩
end Mr
namespace Mr
open PySem Mi
open Vp
theorem NK{bs:List Bf}(nd:(bM bs).Nodup){s:Spot}{o:Option Spot}(h:(s,o)∈bs):gK (bs.map cu) (jE s)=ab (ir o):=by
 unfold gK
 induction bs with
 |nil=>cases h
 |cons b r ih=>
  unfold bM at nd;rw[cG,kP]at nd;rw[cG,jU];by_cases e:b.1=s
  ·have:b=(s,o):=by
    rcases bL.mp h with z|z
    ·exact z.symm
    ·exact absurd (ca.mpr ⟨(s,o),z,e.symm⟩) nd.1
   subst this;rw[show decide ((cu (s,o)).1=jE s)=true from bW rfl];rfl
  ·rw[show decide ((cu b).1=jE s)=false from cE λz=>e (BP z)];rcases bL.mp h with z|z
   ·exact absurd (by rw[<- z]) e
   ·exact ih nd.2 z
theorem Ll{bs:List Bf}(nd:(bM bs).Nodup){s:Spot}{o:Option Spot}(h:(s,o)∈bs){i:Nat}{k:E}{e:Mi.Env}(hk:k e=.ok (aI s))(hi:e[i]? = ab (ab (W.df (bs.map cu)))):rp i k e=.ok (ir o):=by unfold rp;rw[hk,aN,show wV i e=.ok (W.df (bs.map cu))by unfold wV;rw[hi],aN];show Rs.bind (Rs.ok (gK (bs.map cu) (jE s))) cJ=_;rw[NK nd h];rfl
theorem CI{st:List Spot}{nx:Spot->List Spot}{bs:List Bf}(nd:(bM bs).Nodup){m:List Spot}(p:k5 st nx bs m)(ml:m.length<=30):∀(k n:Nat),k<=m.length->k<n ->
 gp (cB (m2 rT (mV 0) (mC .non))) (aM (c5 2 (m2 aE (mV 0) (mC (.int 0)))) (bF 0 (rp 1 (mV 0)))) n [ab (W.d (ir (if k=0 then ac else m[k-1]?))),ab (W.df (bs.map cu)),ab (W.d (ai ((m.drop k).reverse.map (·.1))))] =
  .ok (.nx [ab (W.d .non),ab (W.df (bs.map cu)),ab (W.d (ai (m.reverse.map (·.1))))])
 |_,0,_,h=>absurd h (qq _)
 |0,n+1,_,_=>by
  rw[gp];rw[show(cB (m2 rT (mV 0) (mC .non)) [ab (W.d (ir (if 0=0 then ac else m[0-1]?))),ab (W.df (bs.map cu)),ab (W.d (ai ((m.drop 0).reverse.map (·.1))))])=.ok false from rfl,aN,ba c8,mR];rfl
 |k+1,n+1,hk,hn=>by
  have kl:k<m.length:=hk;have ih:=CI nd p ml k n (by omega) (by omega);obtain⟨u,hu⟩ : ∃u,m[k]? = ab u:=⟨_,dR kl⟩;have hb:(u,if k=0 then ac else m[k-1]?)∈bs:=by
   cases k with
   |zero=>
    obtain⟨x,r,e,_,hx⟩:=p.hd;rw[e]at hu;have:x=u:=by simpa using hu
    rw[<- this,a9 rfl];exact hx
   |succ q=>
    obtain⟨t,ht⟩ : ∃t,m[q]? = ab t:=⟨m[q]'(by omega),dR _⟩;rw[ba (by omega),show q+1-1=q by omega,ht];exact(p.step q t u ht hu).2.2.1
  rw[ba (by omega),show k+1-1=k by omega,hu];have hc:cB (m2 rT (mV 0) (mC .non)) [ab (W.d (ir (ab u))),ab (W.df (bs.map cu)),ab (W.d (ai ((m.drop (k+1)).reverse.map (·.1))))]=.ok true:=rfl;rw[gp,hc,aN,a9 rfl];have hl:((m.drop (k+1)).reverse.map (·.1)).length<=30:=by rw[aX,tq,kO];omega
  have ap:c5 2 (m2 aE (mV 0) (mC (.int 0))) [ab (W.d (ir (ab u))),ab (W.df (bs.map cu)),ab (W.d (ai ((m.drop (k+1)).reverse.map (·.1))))]=.ok (.nx [ab (W.d (ir (ab u))),ab (W.df (bs.map cu)),ab (W.d (ai ((m.drop k).reverse.map (·.1))))]):=by
   rw[lg (d:=.str u.1) (ds:=((m.drop (k+1)).reverse.map (·.1)).map D.str) (Ly rfl) rfl (by rw[aX];omega)];show Rs.ok (Out.nx [_,_,ab (W.d (D.lst (((m.drop (k+1)).reverse.map (·.1)).map D.str++[D.str u.1])))])=_;rw[vf];rw[show(m.drop k)=u::m.drop (k+1)by
    obtain⟨h1,h2⟩:=b9.mp hu;rw[<- h2,<- oh h1]]
   rw[mL,fg];rfl
  rw[aU ap,bY (Ll nd hb rfl rfl)];exact ih
theorem JS{st:List Spot}{nx:Spot->List Spot}{bs:List Bf}(nd:(bM bs).Nodup){l:List Spot}{s:Spot}(p:k5 st nx bs (l++[s]))(ml:(l++[s]).length<=30) :
 pI [.d (aI s),.df (bs.map cu)]=.ok (.d (ai ((l++[s]).map (·.1)))):=by
 have h:=CI nd p ml (l++[s]).length 40 (bv _) (by omega);unfold pI Gf;rw[jK];rw[aU (e':=[ab (W.d (aI s)),ab (W.df (bs.map cu)),ab (W.d (ai []))]) (bY (me _))];rw[show aI s=ir (ab s)from rfl];have e0:(if(l++[s]).length=0 then ac else(l++[s])[(l++[s]).length-1]?)=ab s:=by rw[cF,gc,ba (by omega),show l.length+1-1=l.length by omega,jS (bv _),oz];rfl
 rw[e0,qc (bv _)]at h;rw[aU (show iI 40 _ _ [ab (W.d (ir (ab s))),ab (W.df (bs.map cu)),ab (W.d (ai []))]=_ from h)];have:m1 w9 (mV 2) [ab (W.d .non),ab (W.df (bs.map cu)),ab (W.d (ai ((l++[s]).reverse.map (·.1))))]=.ok (ai ((l++[s]).map (·.1))):=by show bf ((((l++[s]).reverse.map (·.1)).map D.str).length<=1000) (Rs.ok (D.lst (((l++[s]).reverse.map (·.1)).map D.str).reverse))=_;rw[aQ (by rw[aX,aX,tq];omega)];unfold ai;rw[<- zS,<- zS,Gs]
 rw[c9 (bO this)];rfl
structure lZ(A:List Ar)(aj:List Str)(x:Str)(way:List Str):Prop where
 hd:∃r,way=x::r
 st:∀(k:Nat) (u v:Str),way[k]? = ab u->way[k+1]? = ab v->(u,v)∈A
 inn:∀(k:Nat) (u:Str),way[k]? = ab u->k+1<way.length->u∉aj
theorem EQ{A:List Ar}{r:Str->Int}(hr:∀p∈A,r p.1<r p.2):∀(way:List Str),(∀(k:Nat) (u v:Str),way[k]? = ab u->way[k+1]? = ab v->(u,v)∈A)->way.Pairwise λa b=>r a<r b
 |[],_=>.nil
 |[x],_=>by simp
 |x::y::t,h=>by
  have ih:=EQ hr (y::t) λk u v hu hv=>h (k+1) u v hu hv;have xy:=hr _ (h 0 x y rfl rfl);refine vQ.mpr ⟨λz hz=>?_,ih⟩;rcases bL.mp hz with e|e
  ·rw[e];exact xy
  ·exact Int.lt_trans xy ((vQ.mp ih).1 z e)
theorem yo{ae:List Str}{A:List Ar}(L:Lk ae A){way:List Str}(h:∀(k:Nat) (u v:Str),way[k]? = ab u->way[k+1]? = ab v->(u,v)∈A):way.Nodup:=by obtain⟨r,hr⟩:=L.rk;exact(EQ hr way h).imp λ{a b} h e=>by rw[e]at h;exact Int.lt_irrefl _ h
theorem Dp{ds:List Str}{y:Str}:aE (ai (ds++[y])) (.int (-1))=.ok (.str y):=by
 rw[FZ (by simp)];have:nth (ds++[y]) ((ds++[y]).length-1)=y:=by unfold nth;rw[cF,gc,fS,jS (by omega),show ds.length+1-1-ds.length=0 by omega];rfl
 rw[this]
section
variable{ae:List Str}{A:List Ar}(L:Lk ae A){aj:List Str}
include L in
theorem DC{x:Str}:∀(n:Nat) (ds:List Str) (y:Str) (o4:Option W),lZ A aj x (ds++[y])->(∀z∈ds++[y],z∈ae)->ej (ar A) (·∈aj) y->ae.length<n+(ds++[y]).length ->
 ∃way p4,gp (cB (m2 f9 (m2 aE (mV 3) (m1 i7 (mC (.int 1)))) (mV 2))) (aM (bF 4 (dj [ab 0,ab 2,ac] (de (a8 lB [(wD (mV 0)),(wD (m2 aE (mV 3) (m1 i7 (mC (.int 1)))))])) (.n 2) (cB (a8 kh [(wD (mV 0)),(wD (mV 2)),(wD (mV 1))])) (mV 2)))
 (c5 3 (m2 aE (mV 4) (mC (.int 0))))) n [ab (W.d (aB ae A)),ab (W.d (.str x)),ab (W.d (ai aj)),ab (W.d (ai (ds++[y]))),o4]=.ok (.nx [ab (W.d (aB ae A)),ab (W.d (.str x)),ab (W.d (ai aj)),ab (W.d (ai way)),p4])/\lZ A aj x way/\(∀z∈way,z∈ae)/\∃es z,way=es++[z]/\z∈aj
 |0,ds,y,o4,d,hn,hb,hl=>by
  have:=ig (yo L d.st) hn;omega
 |n+1,ds,y,o4,d,hn,hy,hl=>by
  have yn:y∈ae:=hn y (dS _ (cr.mpr rfl));have wl:=ig (yo L d.st) hn;have n8:=L.le;have hN:=L.bh (zL yn);have hdn:∀p∈A,p.2∈ae:=λp hp=>(L.inn p hp).2;have ix:m2 aE (mV 3) (m1 i7 (mC (.int 1))) [ab (W.d (aB ae A)),ab (W.d (.str x)),ab (W.d (ai aj)),ab (W.d (ai (ds++[y]))),o4]=.ok (.str y):=aC rfl rfl Dp;have hc:cB (m2 f9 (m2 aE (mV 3) (m1 i7 (mC (.int 1)))) (mV 2)) [ab (W.d (aB ae A)),ab (W.d (.str x)),ab (W.d (ai aj)),ab (W.d (ai (ds++[y]))),o4]=.ok (!decide (y∈aj)):=bR (aC ix rfl (Fz _ _));rw[gp,hc,aN];by_cases yh:y∈aj
  ·rw[bW yh,Am,ba c8];exact⟨_,_,rfl,d,hn,ds,y,rfl,yh⟩
  rw[cE yh,Bool.not_false,a9 rfl];have cp:dj [ab 0,ab 2,ac] (de (a8 lB [(wD (mV 0)),(wD (m2 aE (mV 3) (m1 i7 (mC (.int 1)))))])) (.n 2) (cB (a8 kh [(wD (mV 0)),(wD (mV 2)),(wD (mV 1))])) (mV 2) [ab (W.d (aB ae A)),ab (W.d (.str x)),ab (W.d (ai aj)),ab (W.d (ai (ds++[y]))),o4]=.ok (ai ((f6 A y).filter λz=>hb ae A aj z)):=by
   refine fE (iA (call2 rfl (bO ix) (C2 yn L.al)) rfl) (by rw[aX];have:=yY (x:=y) L.al;omega) ?_;exact gW D.str D.str _ _ λz hz=>⟨[ab (W.d (aB ae A)),ab (W.d (ai aj)),ab (W.d (.str z))],rfl,bR (lN rfl rfl rfl (Ct hN hdn (by
    exact hdn (y,z) (oO.mp (ca.mpr ⟨z,hz,rfl⟩)).1) aj)),λ_=>rfl⟩
  obtain⟨z,zr,hz⟩ : ∃z zr,((f6 A y).filter λz=>hb ae A aj z)=z::zr:=by
   obtain⟨t,ht,u⟩:=hy;cases u with
   |refl=>exact absurd ht yh
   | @step _ c _ a u=>
    have hcm:c∈(f6 A y).filter λz=>hb ae A aj z:=by refine dH.mpr ⟨?_,(ut L (hdn (y,c) a)).mpr ⟨t,ht,u⟩⟩;obtain⟨q,hq,e⟩:=ca.mp (oO (t:=(c,true)).mpr ⟨a,rfl⟩);cases e;exact hq
    cases hf:(f6 A y).filter λz=>hb ae A aj z with
    |nil=>rw[hf]at hcm;cases hcm
    |cons z zr=>exact⟨z,zr,rfl⟩
  have zm:z∈(f6 A y).filter λz=>hb ae A aj z:=by rw[hz];exact dA
  obtain⟨zh,zb⟩:=dH.mp zm;have ya:(y,z)∈A:=(oO.mp (ca.mpr ⟨z,zh,rfl⟩)).1;have zn:=hdn (y,z) ya;have zB:=(ut L zn).mp zb;have d':lZ A aj x ((ds++[y])++[z]):=by
   obtain⟨r,e⟩:=d.hd;refine⟨⟨r++[z],by rw[e];rfl⟩,λk u v hu hv=>?_,λk u hu hk=>?_⟩
   ·have kl:=(b9.mp hv).1;rw[cF,gc]at kl;by_cases hk:k+1<(ds++[y]).length
    ·rw[kM (by omega)]at hu;rw[kM hk]at hv;exact d.st k u v hu hv
    ·have ek:k+1=(ds++[y]).length:=by omega
     rw[kM (by omega)]at hu;rw[jS (by omega),ek,oz]at hv;have ev:z=v:=by simpa using hv
     have eu:y=u:=by
      have:k=ds.length:=by rw[cF,gc]at ek;omega
      rw[this,jS (bv _),oz]at hu;simpa using hu
     subst ev eu;exact ya
   ·rw[cF,gc]at hk;rw[kM (by omega)]at hu;by_cases hk2:k+1<(ds++[y]).length
    ·exact d.inn k u hu hk2
    ·have:k=ds.length:=by rw[cF,gc]at hk hk2;omega
     rw[this,jS (bv _),oz]at hu;have:y=u:=by simpa using hu
     rw[<- this];exact yh
  have hn':∀w∈(ds++[y])++[z],w∈ae:=λw hw=>by
   rcases dI.mp hw with q|q
   ·exact hn w q
   ·rw[cr.mp q];exact zn
  obtain⟨way,p4,g,r⟩:=DC n (ds++[y]) z (ab (W.d (ai (z::zr)))) d' hn' zB (by rw[cF,gc];omega);refine⟨way,p4,?_,r⟩;rw[hz]at cp;rw[aU (e':=[ab (W.d (aB ae A)),ab (W.d (.str x)),ab (W.d (ai aj)),ab (W.d (ai (ds++[y]))),ab (W.d (ai (z::zr)))]) (bY cp)];have ki:m2 aE (mV 4) (mC (.int 0)) [ab (W.d (aB ae A)),ab (W.d (.str x)),ab (W.d (ai aj)),ab (W.d (ai (ds++[y]))),ab (W.d (ai (z::zr)))]=.ok (.str z):=aC rfl rfl (by show cJ (cK (D.str z::zr.map D.str) 0)=_;rw[at0];rfl);rw[lg (d:=.str z) (ds:=(ds++[y]).map D.str) ki rfl (by rw[aX];omega)];rw[show putL [ab (W.d (aB ae A)),ab (W.d (.str x)),ab (W.d (ai aj)),ab (W.d (ai (ds++[y]))),ab (W.d (ai (z::zr)))] 3 ((ds++[y]).map D.str++[D.str z])=[ab (W.d (aB ae A)),ab (W.d (.str x)),ab (W.d (ai aj)),ab (W.d (D.lst ((ds++[y]).map D.str++[D.str z]))),ab (W.d (ai (z::zr)))]from rfl,vf];exact g
include L in
theorem O0{x:Str}(hx:x∈ae)(hb:ej (ar A) (·∈aj) x):∃way,mD [.d (aB ae A),.d (.str x),.d (ai aj)]=.ok (.d (ai way))/\lZ A aj x way/\(∀z∈way,z∈ae)/\∃es z,way=es++[z]/\z∈aj:=by
 have n8:=L.le;obtain⟨way,p4,g,r⟩:=DC L (aj:=aj) (x:=x) 20 [] x ac ⟨⟨[],rfl⟩,λk u v hu hv=>by
  have:=(b9.mp hv).1;simp at this,λk u hu hk=>by simp at hk⟩ (λz hz=>by rw[tE]at hz;rw[cr.mp hz];exact hx) hb (by simp;omega)
 refine⟨way,?_,r⟩;unfold mD Bx;rw[yD];rw[show([ab (W.d (aB ae A)),ab (W.d (.str x)),ab (W.d (ai aj))]++c7 (5-3) ac)=[ab (W.d (aB ae A)),ab (W.d (.str x)),ab (W.d (ai aj)),ac,ac]from rfl];rw[aU (e':=[ab (W.d (aB ae A)),ab (W.d (.str x)),ab (W.d (ai aj)),ab (W.d (ai ([]++[x]))),ac]) (bY (nK rfl))];rw[aU (show iI 20 _ _ _=_ from g)];rfl
end
end Mr
namespace Mr
open PySem Mi
open Vp
structure ce(ae:List Str)(A:List Ar)(aj:List Str)(i j:Str)(au:List Str)(ways:List (List Str)):Prop where
 r2:2<=au.length
 nd:au.Nodup
 sub:∀x∈au,x∈ae
 h0:nth au 0=i
 hl:nth au (au.length-1)=j
 td:∀k,k+1<au.length->tie A (nth au k) (nth au (k+1))=true
 ps:∀k,k+2<au.length->mt A (iE au k)=false->nth au (k+1)∉aj
 wd:∃g:Str->List Str,ways=(meets A au).map g/\∀x∈meets A au,lZ A aj x (g x)/\(∀z∈g x,z∈ae)/\∃es z,g x=es++[z]/\z∈aj
theorem Ka{ae:List Str}{A:List Ar}(L:Lk ae A){i j:Str}(hi:i∈ae)(ij:i≠j){aj:List Str}(ni:i∉aj)(nj:j∉aj){bs:List Bf}(w:fA (fe A i) (jP ae) (nxS ae A aj) bs []):(!(jf bs j).isEmpty)=jr A i j aj:=by
 rw[wg,vi,<- FG (A:=ar A) (S:=(·∈aj)) ij ni nj];constructor
 ·intro h;cases ho:jf bs j with
  |nil=>rw[ho]at h;cases h
  |cons s r=>
   have hm:s∈jf bs j:=by rw[ho];exact dA
   obtain⟨h1,h2⟩:=dH.mp hm;have h2:s.1=j:=j3 h2;refine⟨s.2,?_⟩;rw[<- h2];exact(CP L hi w s).mp h1
 ·rintro⟨b,h⟩;have hm:(j,b)∈jf bs j:=dH.mpr ⟨(CP L hi w _).mpr h,bW rfl⟩;cases ho:jf bs j with
  |nil=>rw[ho]at hm;cases hm
  |cons s r=>rfl
theorem MX(i:Str)(m:List Spot)(q:Nat)(hq:q<=m.length):nth (i::m.map (·.1)) q=lL i m q:=by
 cases q with
 |zero=>rfl
 |succ q=>
  unfold nth;rw[fS,jn,cX];show((m[q]?).map (·.1)).getD m3=((m[q]?).map (·.1)).getD i;rw[dR (by omega)];rfl
theorem L1{i:Str}{m:List Spot}{q:Nat}{u:Spot}(h:m[q]? = ab u):lL i m (q+1)=u.1:=by show((m[q]?).map (·.1)).getD i=_;rw[h];rfl
theorem P4{A:List Ar}{au:List Str}{x:Str}(h:x∈meets A au):∃k,k+2<au.length/\x=nth au (k+1)/\mt A (iE au k)=true:=by unfold meets at h;obtain⟨t,ht,e⟩:=ca.mp h;obtain⟨h1,h2⟩:=dH.mp ht;obtain⟨k,hk,rfl⟩:=Lo h1;exact⟨k,hk,e.symm,h2⟩
theorem CW{ae:List Str}{A:List Ar}(L:Lk ae A){i j:Str}{aj:List Str}(K:Ask ae i j aj) :
 ∃d,jh [.d (aB ae A),.d (.str i),.d (.str j),.d (ai aj)]=.ok (.d d)/\((jr A i j aj=false/\d=.non)\/(jr A i j aj=true/\∃au ways,d=.tup [ai au,.lst (ways.map ai)]/\ce ae A aj i j au ways)):=by
 obtain⟨hi,hj,ij,hs,nd,ni,nj⟩:=K;have ndS:([i,j]++aj).Nodup:=by
  refine kN.mpr ⟨by simp[ij],nd,λa ha b hb e=>?_⟩;subst e;rcases bL.mp ha with rfl|z
  ·exact ni hb
  ·rw[cr.mp z]at hb;exact nj hb
 have n8:=L.le;have hl8:aj.length<=8:=eK (ig nd hs) n8;obtain⟨bs,hbf,w⟩:=M3 L hi aj;have bl:bs.length<=16:=by have:=w.len;unfold jP at this;rw[cF,aX,aX]at this;omega
 have fin:=Ka L hi ij ni nj w;have l2:∀r:List (Option W),m2 bn (mN cZ [(mV 1),(mV 2)]) (mN rA [(mV 3)]) (ab (W.d (aB ae A))::ab (W.d (.str i))::ab (W.d (.str j))::ab (W.d (ai aj))::r)=.ok (ai ([i,j]++aj)):=λr=>by
  refine(aC (x:=ai [i,j]) (y:=ai aj) (Nr rfl rfl) ((fv (x:=ai aj) rfl).trans rfl) (vE _ _)).trans ?_;rw[aQ (by rw[aX,aX];simp only[c6,lQ];omega)];rfl
 have asks:=MW (ae:=ae) (asked:=[i,j]++aj) (λx hx=>by
  rcases dI.mp hx with z|z
  ·rcases bL.mp z with rfl|z
   ·exact hi
   ·rw[cr.mp z];exact hj
  ·exact hs x z) ndS (by simp only[cF,c6,lQ];omega)
 unfold jh Bp;rw[zE];rw[show([ab (W.d (aB ae A)),ab (W.d (.str i)),ab (W.d (.str j)),ab (W.d (ai aj))]++c7 (7-4) ac)=[ab (W.d (aB ae A)),ab (W.d (.str i)),ab (W.d (.str j)),ab (W.d (ai aj)),ac,ac,ac]from rfl];rw[aU (e':=[ab (W.d (aB ae A)),ab (W.d (.str i)),ab (W.d (.str j)),ab (W.d (ai aj)),ac,ac,ac]) (by unfold fZ;rw[call2 (bO (aC rfl rfl (ki ae A))) (bO (l2 _)) asks];rfl)];have fz:yL (jv nJ [(wD (mV 0)),(wD (mV 1)),(wD (mV 3))]) [ab (W.d (aB ae A)),ab (W.d (.str i)),ab (W.d (.str j)),ab (W.d (ai aj)),ac,ac,ac]=.ok (.df (bs.map cu)):=by show Rs.bind (nJ [.d (aB ae A),.d (.str i),.d (ai aj)]) Cd=_;rw[hbf];rfl
 rw[aU (e':=[ab (W.d (aB ae A)),ab (W.d (.str i)),ab (W.d (.str j)),ab (W.d (ai aj)),ab (W.df (bs.map cu)),ac,ac]) (by unfold jt;rw[fz];rfl)];rw[aU (e':=[ab (W.d (aB ae A)),ab (W.d (.str i)),ab (W.d (.str j)),ab (W.d (ai aj)),ab (W.df (bs.map cu)),ab (W.d (bP (jf bs j))),ac]) (bY (call2 rfl rfl (La bs (by omega) j)))];cases ho:jf bs j with
 |nil=>
  rw[ho]at fin;refine⟨.non,?_,.inl ⟨fin.symm,rfl⟩⟩;rw[mq ((f8 (show cV (fw (mV 5)) [ab (W.d (aB ae A)),ab (W.d (.str i)),ab (W.d (.str j)),ab (W.d (ai aj)),ab (W.df (bs.map cu)),ab (W.d (bP [])),ac]=.ok true from rfl)).trans (c9 (bO rfl)))];rfl
 |cons s r=>
  rw[ho]at fin;rw[aU ((dU (show cV (fw (mV 5)) [ab (W.d (aB ae A)),ab (W.d (.str i)),ab (W.d (.str j)),ab (W.d (ai aj)),ab (W.df (bs.map cu)),ab (W.d (bP (s::r))),ac]=.ok false from rfl)).trans rfl)];obtain⟨l,p,sj,qT⟩:=Jp L hi ij w ho;obtain⟨m,hm⟩ : ∃m,m=l++[s]:=⟨_,rfl⟩;have ml1:m.length=l.length+1:=by rw[hm,cF,gc]
  have Qj:m[l.length]? = ab s:=by rw[hm,jS (bv _),oz];rfl
  rw[<- hm]at p qT;have Hy:∀t∈m,t.1∈ae:=λt ht=>pw.mp (w.u t (p.sub.mem ht));obtain⟨au,hroad⟩ : ∃au,au=i::m.map (·.1):=⟨_,rfl⟩;have rl:au.length=m.length+1:=by rw[hroad,c6,aX]
  have A3:∀x∈au,x∈ae:=λx hx=>by
   rw[hroad]at hx;rcases bL.mp hx with e|e
   ·rw[e];exact hi
   ·obtain⟨t,ht,e⟩:=ca.mp e;rw[<- e];exact Hy t ht
  rw[<- hroad]at qT;have rl8:au.length<=8:=eK (ig qT A3) n8;have tY:∀q,q<=m.length->nth au q=lL i m q:=λq hq=>by rw[hroad];exact MX i m q hq
  have kZ:∀q u,m[q]? = ab u->nth au (q+1)=u.1:=λq u hu=>by
   rw[tY (q+1) (by have:=(b9.mp hu).1;omega),L1 hu]
  have getM:∀q,q<m.length->∃u,m[q]? = ab u:=λq hq=>⟨_,dR hq⟩;have hmb:∀x∈meets A au,x∈ae/\ej (ar A) (·∈aj) x:=λx hx=>by
   obtain⟨k,hk,e,hmt⟩:=P4 hx;obtain⟨u,hu⟩:=getM k (by omega);obtain⟨v,hv⟩:=getM (k+1) (by omega);unfold mt iE at hmt;rw[lU,jF,jF]at hmt;obtain⟨m1,m2⟩:=hmt;simp only at m1 m2;rw[kZ k u hu,tY k (by omega)]at m1;rw[kZ k u hu,kZ (k+1) v hv]at m2;rw[e,kZ k u hu];exact⟨Hy u (gG hu),Mx L w p k u v hu hv m1 m2⟩
  obtain⟨g,hg⟩ : ∃g:Str->List Str,∀x,x∈meets A au->mD [.d (aB ae A),.d (.str x),.d (ai aj)]=.ok (.d (ai (g x)))/\lZ A aj x (g x)/\(∀z∈g x,z∈ae)/\∃es z,g x=es++[z]/\z∈aj:=by
   refine Classical.axiomOfChoice (r:=λx way=>x∈meets A au->mD [.d (aB ae A),.d (.str x),.d (ai aj)]=.ok (.d (ai way))/\lZ A aj x way/\(∀z∈way,z∈ae)/\∃es z,way=es++[z]/\z∈aj) λx=>?_;by_cases hx:x∈meets A au
   ·obtain⟨way,h⟩:=O0 L (hmb x hx).1 (hmb x hx).2;exact⟨way,λ_=>h⟩
   ·exact⟨[],λh=>absurd h hx⟩
  have cat:m2 dCat (mN cZ [(mV 1)]) (a8 pI [(wD (m2 aE (mV 5) (mC (.int 0)))),(wV 4)]) [ab (W.d (aB ae A)),ab (W.d (.str i)),ab (W.d (.str j)),ab (W.d (ai aj)),ab (W.df (bs.map cu)),ab (W.d (bP (s::r))),ac]=.ok (ai au):=by have up:=JS w.nd (hm ▸ p) (by rw[<- hm];omega);rw[<- hm]at up;have ix:m2 aE (mV 5) (mC (.int 0)) [ab (W.d (aB ae A)),ab (W.d (.str i)),ab (W.d (.str j)),ab (W.d (ai aj)),ab (W.df (bs.map cu)),ab (W.d (bP (s::r))),ac]=.ok (aI s):=aC rfl rfl (by show cJ (cK (aI s::r.map aI) 0)=_;rw[at0];rfl);refine(aC (x:=ai [i]) (y:=ai (m.map (·.1))) (nK rfl) (call2 (bO ix) rfl up) rfl).trans ?_;show bf (([i].map D.str).length+((m.map (·.1)).map D.str).length<=16777216) _=_;rw[aQ (by rw[aX,aX,aX];simp only[c6,lQ];omega),hroad];rfl
  rw[aU (e':=[ab (W.d (aB ae A)),ab (W.d (.str i)),ab (W.d (.str j)),ab (W.d (ai aj)),ab (W.df (bs.map cu)),ab (W.d (bP (s::r))),ab (W.d (ai au))]) (bY cat)];have cw:dj [ab 0,ab 3,ac] (de (a8 oX [(wD (mV 0)),(wD (mV 6))])) (.n 2) el (a8 mD [(wD (mV 0)),(wD (mV 2)),(wD (mV 1))]) [ab (W.d (aB ae A)),ab (W.d (.str i)),ab (W.d (.str j)),ab (W.d (ai aj)),ab (W.df (bs.map cu)),ab (W.d (bP (s::r))),ab (W.d (ai au))]=.ok (.lst (((meets A au).map g).map ai)):=by refine fE (iA (call2 rfl rfl (J2 A3 rl8)) rfl) (by rw[aX];have:=Jl A au;omega) ?_;refine(gW D.str (λx=>ai (g x)) (λ_=>true) (meets A au) λx hx=>⟨[ab (W.d (aB ae A)),ab (W.d (ai aj)),ab (W.d (.str x))],rfl,rfl,λ_=>lN rfl rfl rfl (hg x hx).1⟩).trans ?_;rw[qd.mpr λ_ _=>rfl,dJ];rfl
  refine⟨.tup [ai au,.lst (((meets A au).map g).map ai)],?_,.inr ⟨fin.symm,au,(meets A au).map g,rfl,⟨by omega,qT,A3,by rw[tY 0 (fI _)];rfl,?_,λk hk=>?_,λk hk hn=>?_,g,rfl,λx hx=>(hg x hx).2⟩⟩⟩
  ·rw[c9 (bO (ja (x:=ai au) rfl cw))];rfl
  ·rw[show au.length-1=l.length+1 by omega,kZ _ _ Qj,sj]
  ·obtain⟨u,hu⟩:=getM k (by omega);rw[kZ k u hu,tY k (by omega)];exact Ju L w p k u hu
  ·obtain⟨u,hu⟩:=getM k (by omega);obtain⟨v,hv⟩:=getM (k+1) (by omega);rw[kZ k u hu];refine Iv L w p k u v hu hv λ⟨m1,m2⟩=>?_;have:mt A (iE au k)=true:=by
    unfold mt iE;rw[lU,jF,jF];refine⟨?_,?_⟩
    ·show(nth au k,nth au (k+1))∈A;rw[kZ k u hu,tY k (by omega)];exact m1
    ·show(nth au (k+2),nth au (k+1))∈A;rw[kZ k u hu,kZ (k+1) v hv];exact m2
   rw[this]at hn;cases hn
end Mr
namespace Mr
open PySem Mi
open Vp
theorem DM{α:Type}(f:α->Int):∀xs:List α,dr (xs.map λk=>D.int (f k))=0
 |[]=>by simp
 |x::r=>by rw[cG,xY,DM f r];simp
theorem PL(xs:List Nat)(x:Nat):((xs.map λ(k:Nat)=>D.int (1+(k:Int))).any λe=>bH e (.int (1+(x:Int))))=decide (x∈xs):=by
 induction xs with
 |nil=>rfl
 |cons y r ih=>
  rw[cG,iV,ih,wF];by_cases h:y=x
  ·simp[h]
  ·have h2:¬ x=y:=λz=>h z.symm;have h3:¬ (1+(y:Int)=1+(x:Int)):=λz=>h (by omega);simp[h2,h3]
theorem Np(xs:List Nat)(x:Nat):f9 (.int (1+(x:Int))) (.lst (xs.map λ(k:Nat)=>D.int (1+(k:Int))))=.ok (.bl (!decide (x∈xs))):=by show bf _ _=_;rw[aQ (by rw[DM λk:Nat=>1+(k:Int)];omega),PL]
theorem KU(ak:List Ar)(p:Ar):f9 (pairD p) (ee ak)=.ok (.bl (!decide (p∈ak))):=by show bf _ _=_;rw[aQ (by have:=xk ak;omega),Bq]
theorem BU{n i:Nat}{x:D}(h:(cM 1 (n:Int))[i]? = ab x):i+1<n/\x=.int (1+(i:Int)):=by unfold cM at h;rw[cX]at h;obtain⟨k,hk,e⟩:=iY.mp h;have hk2:=b9.mp hk;obtain⟨h1,h2⟩:=hk2;rw[tu]at h1;rw[zQ]at h2;subst h2;exact⟨by omega,e.symm⟩
section
variable{ae:List Str}{A:List Ar}{aj:List Str}
theorem l0{au:List Str}{e:Mi.Env}{a b:E}{i:Nat}{z:Int}(ha:a e=.ok (ai au))(hb:b e=.ok (.int z))(hz:z=(i:Int))(hi:i<au.length):m2 aE a b e=.ok (.str (nth au i)):=by subst hz;exact aC ha hb ((uz (by omega) (by omega)).trans (by rw[jX]))
theorem LU{x:Str}{way:List Str}(wl:way.length<=8)(D0:lZ A aj x way)(hz:∃es z,way=es++[z]/\z∈aj):nU [.d (aB ae A),.d (ai way),.d (.str x),.d (ai aj)]=.ok (.d (.bl true)):=by
 obtain⟨r,hr⟩:=D0.hd;have w1:1<=way.length:=by rw[hr,c6];omega
 have n0:nth way 0=x:=by rw[hr];rfl
 have hlen:∀o,mN bS [(mV 1)] [ab (W.d (aB ae A)),ab (W.d (ai way)),ab (W.d (.str x)),ab (W.d (ai aj)),o]=.ok (.int (way.length:Int)):=λo=>(fv (x:=ai way) rfl).trans (by unfold ai;rw[nD,aX]);unfold nU CL;rw[zE];rw[show([ab (W.d (aB ae A)),ab (W.d (ai way)),ab (W.d (.str x)),ab (W.d (ai aj))]++c7 (5-4) ac)=[ab (W.d (aB ae A)),ab (W.d (ai way)),ab (W.d (.str x)),ab (W.d (ai aj)),ac]from rfl];have c1:dO (cV (cB (m1 (gL ["list"]) (mV 1)))) (dO (cB (m2 d6 (mN bS [(mV 1)]) (mC (.int 1)))) (cB (m2 eV (m2 aE (mV 1) (mC (.int 0))) (mV 2)))) [ab (W.d (aB ae A)),ab (W.d (ai way)),ab (W.d (.str x)),ab (W.d (ai aj)),ac]=.ok false:=by
  refine lD (p:=false) (q:=false) (kG (p:=true) rfl) λ_=>lD (p:=false) (q:=false) ?_ λ_=>?_
  ·refine(bR (aC (hlen ac) rfl (pT _ _))).trans ?_;rw[cE (by omega)]
  ·refine(bR (aC (l0 (i:=0) rfl rfl rfl (by omega)) rfl (re _ _))).trans ?_;rw[n0,bW rfl];rfl
 rw[aU ((dU c1).trans rfl)];obtain⟨e',f,o4,he⟩:=gR (tg:=.n 4) (body:=(bI (dO (cV (cB (m1 (gL ["str"]) (m2 aE (mV 1) (mV 4))))) (cB (m2 f9 (mN dTup [(m2 aE (mV 1) (m2 dZ (mV 4) (mC (.int 1)))),(m2 aE (mV 1) (mV 4))]) (m2 aE (mV 0) (mC (.int 1)))))) (bp (wD (mC (.bl false)))) bU))
  (λn e=>∃o4:Option W,e=[ab (W.d (aB ae A)),ab (W.d (ai way)),ab (W.d (.str x)),ab (W.d (ai aj)),o4]) (cM 1 (way.length:Int)) 0 (λn y e hy ⟨o4,he⟩=>by
   subst he;obtain⟨hn,rfl⟩:=BU hy;refine⟨_,[ab (W.d (aB ae A)),ab (W.d (ai way)),ab (W.d (.str x)),ab (W.d (ai aj)),ab (W.d (.int (1+(n:Int))))],rfl,?_,_,rfl⟩;have x1:m2 aE (mV 1) (mV 4) [ab (W.d (aB ae A)),ab (W.d (ai way)),ab (W.d (.str x)),ab (W.d (ai aj)),ab (W.d (.int (1+(n:Int))))]=.ok (.str (nth way (n+1))):=l0 rfl rfl (by omega) hn;have x0:m2 aE (mV 1) (m2 dZ (mV 4) (mC (.int 1))) [ab (W.d (aB ae A)),ab (W.d (ai way)),ab (W.d (.str x)),ab (W.d (ai aj)),ab (W.d (.int (1+(n:Int))))]=.ok (.str (nth way n)):=l0 rfl (aC rfl rfl rfl) (by omega) (by omega);have am:=D0.st n _ _ (uG (by omega)) (uG hn);have ct:dO (cV (cB (m1 (gL ["str"]) (m2 aE (mV 1) (mV 4))))) (cB (m2 f9 (mN dTup [(m2 aE (mV 1) (m2 dZ (mV 4) (mC (.int 1)))),(m2 aE (mV 1) (mV 4))]) (m2 aE (mV 0) (mC (.int 1))))) [ab (W.d (aB ae A)),ab (W.d (ai way)),ab (W.d (.str x)),ab (W.d (ai aj)),ab (W.d (.int (1+(n:Int))))]=.ok false:=by refine lD (p:=false) (q:=false) (kG (p:=true) (bR (b:=true) (by unfold m1;rw[x1];rfl))) λ_=>?_;refine(bR ((aC (ja x0 x1) (aC rfl rfl (i9 _ _)) rfl).trans (KU A (nth way n,nth way (n+1))))).trans ?_;rw[bW am];rfl
   exact(dU ct).trans rfl) [ab (W.d (aB ae A)),ab (W.d (ai way)),ab (W.d (.str x)),ab (W.d (ai aj)),ac] ⟨ac,rfl⟩
 subst he;rw[aU ((ic (uF rfl (hlen ac) ⟨je (by decide) (by decide),je (by omega) (by omega)⟩)).trans f)];have c2:cB (m2 cC (mV 2) (mV 3)) [ab (W.d (aB ae A)),ab (W.d (ai way)),ab (W.d (.str x)),ab (W.d (ai aj)),o4]=.ok (decide (x∈aj)):=bR (aC rfl rfl (rC _ _));by_cases xh:x∈aj
 ·rw[bW xh]at c2;have l1:way.length=1:=by
   rcases Ah 1 way.length with z|z
   ·exact absurd xh (D0.inn 0 x (by rw[hr];rfl) z)
   ·omega
  rw[mq ((f8 c2).trans (c9 (bO ((aC (hlen o4) rfl (nW _ _)).trans (by rw[l1])))))];rfl
 ·rw[cE xh]at c2;rw[aU ((dU c2).trans rfl)];obtain⟨es,z,ez,zh⟩:=hz;have lz:m2 aE (mV 1) (m1 i7 (mC (.int 1))) [ab (W.d (aB ae A)),ab (W.d (ai way)),ab (W.d (.str x)),ab (W.d (ai aj)),o4]=.ok (.str z):=aC rfl rfl (by rw[ez];exact Dp);rw[c9 (bO ((aC lz rfl (rC _ _)).trans (by rw[bW zh])))];rfl
theorem JM{au:List Str}(nd:au.Nodup){n:Nat}(hn:n<au.length):nth au n∉au.take n:=yR nd (uG hn)
theorem Jv{i j:Str}{au:List Str}{ways:List (List Str)}(R:ce ae A aj i j au ways)(r8:au.length<=8):pj [.d (aB ae A),.d (ai au),.d (.str i),.d (.str j)]=.ok (.d (.bl true)):=by
 have r2:=R.r2;have hlen:∀o,mN bS [(mV 1)] [ab (W.d (aB ae A)),ab (W.d (ai au)),ab (W.d (.str i)),ab (W.d (.str j)),o]=.ok (.int (au.length:Int)):=λo=>(fv (x:=ai au) rfl).trans (by unfold ai;rw[nD,aX]);unfold pj El;rw[zE];rw[show([ab (W.d (aB ae A)),ab (W.d (ai au)),ab (W.d (.str i)),ab (W.d (.str j))]++c7 (5-4) ac)=[ab (W.d (aB ae A)),ab (W.d (ai au)),ab (W.d (.str i)),ab (W.d (.str j)),ac]from rfl];have c1:dO (cV (cB (m1 (gL ["list"]) (mV 1)))) (dO (cB (m2 d6 (mN bS [(mV 1)]) (mC (.int 2)))) (dO (cB (m2 eV (m2 aE (mV 1) (mC (.int 0))) (mV 2))) (cB (m2 eV (m2 aE (mV 1) (m1 i7 (mC (.int 1)))) (mV 3))))) [ab (W.d (aB ae A)),ab (W.d (ai au)),ab (W.d (.str i)),ab (W.d (.str j)),ac]=.ok false:=by
  refine lD (p:=false) (q:=false) (kG (p:=true) rfl) λ_=>lD (p:=false) (q:=false) ?_ λ_=>lD (p:=false) (q:=false) ?_ λ_=>?_
  ·refine(bR (aC (hlen ac) rfl (pT _ _))).trans ?_;rw[cE (by omega)]
  ·refine(bR (aC (l0 (i:=0) rfl rfl rfl (by omega)) rfl (re _ _))).trans ?_;rw[R.h0,bW rfl];rfl
  ·refine(bR (aC (aC rfl rfl (FZ (by omega))) rfl (re _ _))).trans ?_;rw[R.hl,bW rfl];rfl
 rw[aU ((dU c1).trans rfl)];obtain⟨e',f,o4,he⟩:=gR (tg:=.n 4) (body:=(bI (dO (cV (cB (m1 (gL ["str"]) (m2 aE (mV 1) (mV 4))))) (dO (cB (m2 cC (m2 aE (mV 1) (mV 4)) (eD eJ (mV 1) ac (ab (mV 4))))) (cV (cB (a8 nG [(wD (mV 0)),(wD (m2 aE (mV 1) (m2 dZ (mV 4) (mC (.int 1))))),(wD (m2 aE (mV 1) (mV 4)))]))))) (bp (wD (mC (.bl false)))) bU))
  (λn e=>∃o4:Option W,e=[ab (W.d (aB ae A)),ab (W.d (ai au)),ab (W.d (.str i)),ab (W.d (.str j)),o4]) (cM 1 (au.length:Int)) 0 (λn y e hy ⟨o4,he⟩=>by
   subst he;obtain⟨hn,rfl⟩:=BU hy;refine⟨_,[ab (W.d (aB ae A)),ab (W.d (ai au)),ab (W.d (.str i)),ab (W.d (.str j)),ab (W.d (.int (1+(n:Int))))],rfl,?_,_,rfl⟩;have x1:m2 aE (mV 1) (mV 4) [ab (W.d (aB ae A)),ab (W.d (ai au)),ab (W.d (.str i)),ab (W.d (.str j)),ab (W.d (.int (1+(n:Int))))]=.ok (.str (nth au (n+1))):=l0 rfl rfl (by omega) hn;have x0:m2 aE (mV 1) (m2 dZ (mV 4) (mC (.int 1))) [ab (W.d (aB ae A)),ab (W.d (ai au)),ab (W.d (.str i)),ab (W.d (.str j)),ab (W.d (.int (1+(n:Int))))]=.ok (.str (nth au n)):=l0 rfl (aC rfl rfl rfl) (by omega) (by omega);have sl:eD eJ (mV 1) ac (ab (mV 4)) [ab (W.d (aB ae A)),ab (W.d (ai au)),ab (W.d (.str i)),ab (W.d (.str j)),ab (W.d (.int (1+(n:Int))))]=.ok (ai (au.take (n+1))):=by show Rs.ok (D.lst (gq (au.map D.str) ac (ab (1+(n:Int)))))=_;rw[show(1+(n:Int))=((n+1:Nat):Int)by omega,Po];unfold ai;rw[List.map_take]
   have ct:dO (cV (cB (m1 (gL ["str"]) (m2 aE (mV 1) (mV 4))))) (dO (cB (m2 cC (m2 aE (mV 1) (mV 4)) (eD eJ (mV 1) ac (ab (mV 4))))) (cV (cB (a8 nG [(wD (mV 0)),(wD (m2 aE (mV 1) (m2 dZ (mV 4) (mC (.int 1))))),(wD (m2 aE (mV 1) (mV 4)))])))) [ab (W.d (aB ae A)),ab (W.d (ai au)),ab (W.d (.str i)),ab (W.d (.str j)),ab (W.d (.int (1+(n:Int))))]=.ok false:=by
    refine lD (p:=false) (q:=false) (kG (p:=true) (bR (b:=true) (by unfold m1;rw[x1];rfl))) λ_=>lD (p:=false) (q:=false) ?_ λ_=>kG (p:=true) ?_
    ·refine(bR (aC x1 sl (rC _ _))).trans ?_;rw[cE (JM R.nd hn)]
    ·refine(bR (lN rfl (bO x0) (bO x1) (IT _ _))).trans ?_;rw[R.td n hn]
   exact(dU ct).trans rfl) [ab (W.d (aB ae A)),ab (W.d (ai au)),ab (W.d (.str i)),ab (W.d (.str j)),ac] ⟨ac,rfl⟩
 subst he;rw[aU ((ic (uF rfl (hlen ac) ⟨je (by decide) (by decide),je (by omega) (by omega)⟩)).trans f)];rw[c9 (bO rfl)];rfl
def inn(A:List Ar)(au:List Str):List Nat:=(cj (au.length-2)).filter λi=>mt A (iE au i)
theorem w6(A:List Ar)(au:List Str):meets A au=(inn A au).map λi=>nth au (i+1):=by unfold meets inn;rw[vc,List.filter_map,dJ];rfl
theorem Fu{α:Type}(f g:α->D):∀xs:List α,iB (xs.map f) (xs.map g)=xs.map λx=>.tup [f x,g x]
 |[]=>rfl
 |x::r=>by rw[cG,cG,iB,Fu f g r];rfl
theorem LO(L:Lk ae A){i j:Str}{au:List Str}{ways:List (List Str)}(R:ce ae A aj i j au ways):jD [.d (aB ae A),.d (.tup [ai au,.lst (ways.map ai)]),.d (.str i),.d (.str j),.d (ai aj)]=.ok (.d (.bl true)):=by
 have r2:=R.r2;have r8:au.length<=8:=eK (ig R.nd R.sub) L.le;obtain⟨g,hw,hg⟩:=R.wd;obtain⟨Fd,hF⟩ : ∃Fd,Fd=D.tup [ai au,.lst (ways.map ai)]:=⟨_,rfl⟩;obtain⟨DW,hDW⟩ : ∃DW,DW=D.lst (ways.map ai):=⟨_,rfl⟩;unfold jD Fm;rw[NN];rw[<- hDW]at hF;rw[<- hDW,<- hF];rw[show([ab (W.d (aB ae A)),ab (W.d Fd),ab (W.d (.str i)),ab (W.d (.str j)),ab (W.d (ai aj))]++c7 (10-5) ac)=[ab (W.d (aB ae A)),ab (W.d Fd),ab (W.d (.str i)),ab (W.d (.str j)),ab (W.d (ai aj)),ac,ac,ac,ac,ac]from rfl];have c1:dO (cV (cB (m1 (gL ["tuple"]) (mV 1)))) (dO (cB (m2 eV (mN bS [(mV 1)]) (mC (.int 2)))) (cV (cB (m1 (gL ["list"]) (m2 aE (mV 1) (mC (.int 1))))))) [ab (W.d (aB ae A)),ab (W.d Fd),ab (W.d (.str i)),ab (W.d (.str j)),ab (W.d (ai aj)),ac,ac,ac,ac,ac]=.ok false:=by rw[hF,hDW];rfl
 rw[aU ((dU c1).trans rfl)];rw[aU (e':=[ab (W.d (aB ae A)),ab (W.d Fd),ab (W.d (.str i)),ab (W.d (.str j)),ab (W.d (ai aj)),ab (W.d (ai au)),ab (W.d DW),ac,ac,ac]) (by rw[hF];rfl)];have c2:cV (cB (a8 pj [(wD (mV 0)),(wD (mV 5)),(wD (mV 2)),(wD (mV 3))])) [ab (W.d (aB ae A)),ab (W.d Fd),ab (W.d (.str i)),ab (W.d (.str j)),ab (W.d (ai aj)),ab (W.d (ai au)),ab (W.d DW),ac,ac,ac]=.ok false:=kG (p:=true) (bR (sO rfl rfl rfl rfl (Jv R r8)));rw[aU ((dU c2).trans rfl)];have hlen:∀r:List (Option W),mN bS [(mV 5)] (ab (W.d (aB ae A))::ab (W.d Fd)::ab (W.d (.str i))::ab (W.d (.str j))::ab (W.d (ai aj))::ab (W.d (ai au))::r)=.ok (.int (au.length:Int)):=λr=>(fv (x:=ai au) rfl).trans (by unfold ai;rw[nD,aX]);have il:(inn A au).length<=8:=by unfold inn;have:=om (λi=>mt A (iE au i)) (cj (au.length-2));rw[tu]at this;omega
 obtain⟨IN,hIN⟩ : ∃IN,IN=D.lst ((inn A au).map λ(k:Nat)=>D.int (1+(k:Int))):=⟨_,rfl⟩;have ci:dj [ab 0,ab 5,ac] (lJ (mC (.int 1)) (m2 dZ (mN bS [(mV 5)]) (mC (.int 1)))) (.n 2) (cB (a8 pN [(wD (mV 0)),(wD (mV 1)),(wD (mV 2))])) (mV 2) [ab (W.d (aB ae A)),ab (W.d Fd),ab (W.d (.str i)),ab (W.d (.str j)),ab (W.d (ai aj)),ab (W.d (ai au)),ab (W.d DW),ac,ac,ac]=.ok IN:=by
  rw[hIN];refine fE (uF rfl (aC (hlen _) rfl rfl) ⟨je (by decide) (by decide),je (by omega) (by omega)⟩) (by rw[uE];simp;omega) ?_;rw[uE];exact gW (λ(k:Nat)=>D.int (1+(k:Int))) (λ(k:Nat)=>D.int (1+(k:Int))) _ _ λk hk=>by
   have hk:=fT.mp hk;exact⟨[ab (.d (aB ae A)),ab (.d (ai au)),ab (.d (.int (1+(k:Int))))],rfl,bR (lN rfl rfl rfl (OO (by omega))),λ_=>rfl⟩
 rw[aU (e':=[ab (W.d (aB ae A)),ab (W.d Fd),ab (W.d (.str i)),ab (W.d (.str j)),ab (W.d (ai aj)),ab (W.d (ai au)),ab (W.d DW),ab (W.d IN),ac,ac]) (bY ci)];have c3:cB (m2 eV (mN bS [(mV 6)]) (mN bS [(mV 7)])) [ab (W.d (aB ae A)),ab (W.d Fd),ab (W.d (.str i)),ab (W.d (.str j)),ab (W.d (ai aj)),ab (W.d (ai au)),ab (W.d DW),ab (W.d IN),ac,ac]=.ok false:=by refine(bR (aC (x:=.int (ways.length:Int)) (y:=.int ((inn A au).length:Int)) ((fv (x:=DW) rfl).trans (by rw[hDW,nD,aX])) ((fv (x:=IN) rfl).trans (by rw[hIN,nD,aX])) (Nz _ _))).trans ?_;rw[hw,aX,w6,aX,bW rfl];rfl
 rw[aU ((dU c3).trans rfl)];have c4:cB (m2 pe (mN bS [(dj [ab 7,ab 4,ab 5,ac] (lJ (mC (.int 1)) (m2 dZ (mN bS [(mV 5)]) (mC (.int 1)))) (.n 3) (eA (cB (m2 f9 (mV 3) (mV 0))) (cB (m2 cC (m2 aE (mV 2) (mV 3)) (mV 1)))) (mV 3))]) (mC (.int 0))) [ab (W.d (aB ae A)),ab (W.d Fd),ab (W.d (.str i)),ab (W.d (.str j)),ab (W.d (ai aj)),ab (W.d (ai au)),ab (W.d DW),ab (W.d IN),ac,ac]=.ok false:=by
  have cm:dE (.n 3) (eA (cB (m2 f9 (mV 3) (mV 0))) (cB (m2 cC (m2 aE (mV 2) (mV 3)) (mV 1)))) (mV 3) [ab (W.d IN),ab (W.d (ai aj)),ab (W.d (ai au)),ac] ((cj (au.length-2)).map λ(k:Nat)=>D.int (1+(k:Int)))=.ok []:=by
   refine(gW (λ(k:Nat)=>D.int (1+(k:Int))) (λ(k:Nat)=>D.int (1+(k:Int))) (λk=>!decide (k∈inn A au)&&decide (nth au (k+1)∈aj)) (cj (au.length-2)) λk hk=>?_).trans ?_
   ·have hk:=fT.mp hk;refine⟨[ab (W.d IN),ab (W.d (ai aj)),ab (W.d (ai au)),ab (W.d (.int (1+(k:Int))))],rfl,DP (bR (aC rfl rfl (by rw[hIN];exact Np _ _))) λ_=>bR (aC (l0 (i:=k+1) rfl rfl (by omega) (by omega)) rfl (rC _ _)),λ_=>rfl⟩
   ·rw[List.filter_eq_nil_iff.mpr,tF];intro k hk h;have hk2:=fT.mp hk;rw[lU,GK,decide_eq_false_iff_not,jF]at h;refine R.ps k (by omega) ?_ h.2;cases hm:mt A (iE au k)with
    |false=>rfl
    |true=>exact absurd (dH.mpr ⟨hk,hm⟩) h.1
  refine(bR (aC (x:=.int 0) ((fv (fE (ys:=[]) (uF rfl (aC (hlen _) rfl rfl) ⟨je (by decide) (by decide),je (by omega) (by omega)⟩) (by rw[uE];simp;omega) (by rw[uE];exact cm))).trans rfl) rfl (Lm _ _))).trans ?_;rfl
 rw[aU ((dU c4).trans rfl)];have hz:wL (mV 7) (mV 6) [ab (W.d (aB ae A)),ab (W.d Fd),ab (W.d (.str i)),ab (W.d (.str j)),ab (W.d (ai aj)),ab (W.d (ai au)),ab (W.d DW),ab (W.d IN),ac,ac]=.ok ((inn A au).map λ(k:Nat)=>D.tup [.int (1+(k:Int)),ai (g (nth au (k+1)))]):=by rw[hIN,hDW,hw,w6,dJ,dJ];show Rs.ok (iB _ _)=_;rw[Fu];rfl
 obtain⟨e',f,o8,o9,he⟩:=gR (tg:=.t [8,9]) (body:=(bI (cV (cB (a8 nU [(wD (mV 0)),(wD (mV 9)),(wD (m2 aE (mV 5) (mV 8))),(wD (mV 4))]))) (bp (wD (mC (.bl false)))) bU))
  (λn e=>∃o8 o9:Option W,e=[ab (W.d (aB ae A)),ab (W.d Fd),ab (W.d (.str i)),ab (W.d (.str j)),ab (W.d (ai aj)),ab (W.d (ai au)),ab (W.d DW),ab (W.d IN),o8,o9]) ((inn A au).map λ(k:Nat)=>D.tup [.int (1+(k:Int)),ai (g (nth au (k+1)))]) 0 (λn y e hy ⟨o8,o9,he⟩=>by
   subst he;rw[cX]at hy;obtain⟨k,hk,rfl⟩:=iY.mp hy;have hk:=gG hk;obtain⟨hk1,hk2⟩:=dH.mp hk;have hk1:=fT.mp hk1;have hm:nth au (k+1)∈meets A au:=by rw[w6];exact ca.mpr ⟨k,hk,rfl⟩
   obtain⟨d1,d2,d3⟩:=hg _ hm;have wl:(g (nth au (k+1))).length<=8:=eK (ig (yo L d1.st) d2) L.le;have ct:=kG (bR (sO (f:=nU) (a:=wD (mV 0)) (b:=wD (mV 9)) (c:=wD (m2 aE (mV 5) (mV 8))) (g:=wD (mV 4)) (e:=[ab (W.d (aB ae A)),ab (W.d Fd),ab (W.d (.str i)),ab (W.d (.str j)),ab (W.d (ai aj)),ab (W.d (ai au)),ab (W.d DW),ab (W.d IN),ab (W.d (.int (1+(k:Int)))),ab (W.d (ai (g (nth au (k+1)))))]) rfl rfl (bO (l0 (i:=k+1) rfl rfl (by omega) (by omega))) rfl (LU (ae:=ae) wl d1 d3)));exact⟨_,_,rfl,(dU ct).trans rfl,_,_,rfl⟩) [ab (W.d (aB ae A)),ab (W.d Fd),ab (W.d (.str i)),ab (W.d (.str j)),ab (W.d (ai aj)),ab (W.d (ai au)),ab (W.d DW),ab (W.d IN),ac,ac] ⟨ac,ac,rfl⟩
 subst he;rw[aU ((ic hz).trans f)];rw[c9 (bO rfl)];rfl
end
end Mr
namespace Mr
open PySem Mi
open Vp
open My (words eQ fb)
theorem yH{f:Fn}{a b c g k:EW}{e:Mi.Env}{x y z u v:W}{d:D}(h:a e=.ok x)(h':b e=.ok y)(h'':c e=.ok z)(h3:g e=.ok u)(h4:k e=.ok v)(hf:f [x,y,z,u,v]=.ok (.d d)):a8 f [a,b,c,g,k] e=.ok d:=by unfold a8 jv;rw[cW,h,aN,cW,h',aN,cW,h'',aN,cW,h3,aN,cW,h4,aN,cW,aN,aN,aN,aN,aN,aN,hf];rfl
theorem Ds{A:List Ar}{i j:Str}{aj:List Str}(ij:i≠j)(ni:i∉aj)(nj:j∉aj)(h:(i,j)∈A\/(j,i)∈A):jr A i j aj=true:=by
 rw[vi,<- FG (A:=ar A) (S:=(·∈aj)) ij ni nj];rcases h with h|h
 ·exact⟨true,.base (.inl ⟨h,rfl⟩)⟩
 ·exact⟨false,.base (.inr ⟨h,rfl⟩)⟩
theorem CC{ae:List Str}{A:List Ar}(L:Lk ae A){i j:Str}{aj:List Str}(K:Ask ae i j aj)(h:jr A i j aj=true) :
 ∃d,jh [.d (aB ae A),.d (.str i),.d (.str j),.d (ai aj)]=.ok (.d d)/\(∃a b,d=.tup [a,b])/\jD [.d (aB ae A),.d d,.d (.str i),.d (.str j),.d (ai aj)]=.ok (.d (.bl true)):=by
 obtain⟨d,hd,c⟩:=CW L K;rcases c with ⟨z,_⟩|⟨_,au,ways,rfl,R⟩
 ·rw[h]at z;cases z
 ·exact⟨_,hd,⟨_,_,rfl⟩,LO L R⟩
theorem EH{ae:List Str}{A:List Ar}(L:Lk ae A){i j:Str}{aj:List Str}(K:Ask ae i j aj)(h:jr A i j aj=false) :
 jh [.d (aB ae A),.d (.str i),.d (.str j),.d (ai aj)]=.ok (.d .non):=by
 obtain⟨d,hd,c⟩:=CW L K;rcases c with ⟨_,rfl⟩|⟨z,_⟩
 ·exact hd
 ·rw[h]at z;cases z
theorem Mk{ae:List Str}{A:List Ar}(L:Lk ae A)(d:Int):oR [.d (aB ae A),.d (.int d)]=.ok (.d (.bl true)):=by
 have Hz:∀r:List (Option W),mN bS [(m2 aE (mV 0) (mC (.int 1)))] (ab (W.d (aB ae A))::r)=.ok (.int (A.length:Int)):=λr=>(fv (aC rfl rfl (i9 _ _))).trans (by unfold ee;rw[N7,aX]);unfold oR Cs;rw[j4];rw[show([ab (W.d (aB ae A)),ab (W.d (.int d))]++c7 (5-2) ac)=[ab (W.d (aB ae A)),ab (W.d (.int d)),ac,ac,ac]from rfl];have c1:cB (m2 dP (mN bS [(m2 aE (mV 0) (mC (.int 1)))]) (mC (.int 0))) [ab (W.d (aB ae A)),ab (W.d (.int d)),ac,ac,ac]=.ok (decide ((A.length:Int)=0)):=bR (aC (Hz _) rfl (nW _ _));by_cases hA:(A.length:Int)=0
 ·rw[bW hA]at c1;rw[mq ((f8 c1).trans (c9 (bO rfl)))];rfl
 rw[cE hA]at c1;rw[aU ((dU c1).trans rfl)];have al:=L.al;have n8:=L.le;have pos:(0:Int)<(A.length:Int):=by omega
 obtain⟨p,pm,hp⟩:=JN (xs:=A) (i:=d/3%(A.length:Int)) (fW _ (by omega)) (gi _ pos);obtain⟨t,h⟩:=p;have e2:nH (.t [2,3]) (m2 aE (m2 aE (mV 0) (mC (.int 1))) (m2 bg (m2 cx (mV 1) (mC (.int 3))) (mN bS [(m2 aE (mV 0) (mC (.int 1)))]))) [ab (W.d (aB ae A)),ab (W.d (.int d)),ac,ac,ac]=.ok (.nx [ab (W.d (aB ae A)),ab (W.d (.int d)),ab (W.d (.str t)),ab (W.d (.str h)),ac]):=by unfold nH;rw[aC (aC rfl rfl (i9 _ _)) (aC (aC rfl rfl ((div_ii _ _).trans (aQ (ie (by decide) (by decide))))) (Hz _) ((kB _ _).trans (aQ pos))) hp];rfl
 rw[aU e2];obtain⟨aj,hh⟩ : ∃aj,aj=ae.filter λx=>!decide (x=t) && !decide (x=h):=⟨_,rfl⟩;have hc:dj [ab 2,ab 3,ac] (de (m2 aE (mV 0) (mC (.int 0)))) (.n 2) (eA (cB (m2 eV (mV 2) (mV 0))) (cB (m2 eV (mV 2) (mV 1)))) (mV 2) [ab (W.d (aB ae A)),ab (W.d (.int d)),ab (W.d (.str t)),ab (W.d (.str h)),ac]=.ok (ai aj):=by rw[hh];refine fE (iA (aC rfl rfl (ki _ _)) rfl) (by rw[aX];omega) ?_;exact gW D.str D.str _ _ λx _=>⟨[ab (W.d (.str t)),ab (W.d (.str h)),ab (W.d (.str x))],rfl,DP (bR (aC rfl rfl (re _ _))) λ_=>bR (aC rfl rfl (re _ _)),λ_=>rfl⟩
 rw[aU (e':=[ab (W.d (aB ae A)),ab (W.d (.int d)),ab (W.d (.str t)),ab (W.d (.str h)),ab (W.d (ai aj))]) (bY hc)];have th:t≠h:=λe=>by subst e;exact L.yP pm pm
 have K:Ask ae t h aj:=by
  refine⟨(L.inn _ pm).1,(L.inn _ pm).2,th,λx hx=>?_,?_,λz=>?_,λz=>?_⟩
  ·rw[hh]at hx;exact(dH.mp hx).1
  ·rw[hh];exact L.nd.sublist List.filter_sublist
  ·rw[hh]at z;have:=(dH.mp z).2;simp at this
  ·rw[hh]at z;have:=(dH.mp z).2;simp at this
 have c2:cB (m2 dP (m2 bg (mV 1) (mC (.int 2))) (mC (.int 1))) [ab (W.d (aB ae A)),ab (W.d (.int d)),ab (W.d (.str t)),ab (W.d (.str h)),ab (W.d (ai aj))]=.ok (decide (d%2=1)):=bR (aC (aC rfl rfl ((kB _ _).trans (aQ (by decide)))) rfl (nW _ _));have tail:∀{i j:Str},Ask ae i j aj->jr A i j aj=true->bp (wD (a8 jD [(wD (mV 0)),(wD (a8 jh [(wD (mV 0)),(wD (mV 2)),(wD (mV 3)),(wD (mV 4))])),(wD (mV 2)),(wD (mV 3)),(wD (mV 4))])) [ab (W.d (aB ae A)),ab (W.d (.int d)),ab (W.d (.str i)),ab (W.d (.str j)),ab (W.d (ai aj))]=.ok (.rt (.d (.bl true))):=λ{i j} K hc=>by
  obtain⟨x,h1,_,h2⟩:=CC L K hc;exact c9 (bO (yH rfl (bO (sO rfl rfl rfl rfl h1)) rfl rfl rfl h2))
 by_cases hd:d%2=1
 ·rw[bW hd]at c2;rw[aU (e':=[ab (W.d (aB ae A)),ab (W.d (.int d)),ab (W.d (.str h)),ab (W.d (.str t)),ab (W.d (ai aj))]) ((f8 c2).trans rfl)];rw[tail K.swap (Ds th.symm K.nj K.ni (.inr pm))];rfl
 ·rw[cE hd]at c2;rw[aU ((dU c2).trans rfl)];rw[tail K (Ds th K.ni K.nj (.inl pm))];rfl
theorem Ml{ae:List Str}{A:List Ar}(L:Lk ae A)(h2:2<=ae.length)(d:Int):nE [.d (aB ae A),.d (.int d)]=.ok (.d (.bl true)):=by
 obtain⟨i,j,aj,has,Q⟩:=O9 (A:=A) L.nd h2 L.le d;have cc:=N1 (A:=A) Q.ni Q.nj;unfold nE FI;rw[j4];rw[show([ab (W.d (aB ae A)),ab (W.d (.int d))]++c7 (8-2) ac)=[ab (W.d (aB ae A)),ab (W.d (.int d)),ac,ac,ac,ac,ac,ac]from rfl];have s2:u9 [2,3,4] (a8 pW [(wD (mV 0)),(wD (mV 1))]) [ab (W.d (aB ae A)),ab (W.d (.int d)),ac,ac,ac,ac,ac,ac]=.ok (.nx [ab (W.d (aB ae A)),ab (W.d (.int d)),ab (W.d (.str i)),ab (W.d (.str j)),ab (W.d (ai aj)),ac,ac,ac]):=by unfold u9;rw[call2 (x:=.d (aB ae A)) (y:=.d (.int d)) rfl rfl has];rfl
 rw[aU s2];rw[aU (e':=[ab (W.d (aB ae A)),ab (W.d (.int d)),ab (W.d (.str i)),ab (W.d (.str j)),ab (W.d (ai aj)),ab (W.d (ai aj)),ac,ac]) (bY ((fv (x:=ai aj) rfl).trans rfl))];have c1:∀x:D,dO (cB (m2 eV (mV 5) (mV 4))) (cV (cB (a8 oR [(wD (mV 0)),(wD (mV 1))]))) [ab (W.d (aB ae A)),ab (W.d (.int d)),ab (W.d (.str i)),ab (W.d (.str j)),ab (W.d (ai aj)),ab (W.d (ai aj)),ab (W.d x),ac]=.ok false:=λx=>
  lD (p:=false) (q:=false) (bR (aC rfl rfl ((PP aj aj).trans (by rw[bW rfl];rfl)))) λ_=>kG (p:=true) (bR (call2 rfl rfl (Mk L d)))
 have args:cW [(wD (mV 0)),(wD (mV 2)),(wD (mV 3)),(wD (mV 5))] [ab (W.d (aB ae A)),ab (W.d (.int d)),ab (W.d (.str i)),ab (W.d (.str j)),ab (W.d (ai aj)),ab (W.d (ai aj)),ac,ac]=.ok [.d (aB ae A),.d (.str i),.d (.str j),.d (ai aj)]:=rfl;unfold xD;rw[args,aN];cases hc:jr A i j aj with
 |false=>
  have n1:=EH L Q hc;have n2:=EH L Q.swap (by rw[<- cc];exact hc);rw[n1,aN,show lG (.d .non)=.ok .non from rfl,aN,aQ ⟨tJ rfl,tJ rfl⟩];rw[show([ab (W.d (aB ae A)),ab (W.d (.int d)),ab (W.d (.str i)),ab (W.d (.str j)),ab (W.d (ai aj)),ab (W.d (ai aj)),ac,ac].set 6 (ab (W.d .non)))=[ab (W.d (aB ae A)),ab (W.d (.int d)),ab (W.d (.str i)),ab (W.d (.str j)),ab (W.d (ai aj)),ab (W.d (ai aj)),ab (W.d .non),ac]from rfl];rw[c1,aN,ba c8];rw[show cB (m2 rG (mV 6) (mC .non)) [ab (W.d (aB ae A)),ab (W.d (.int d)),ab (W.d (.str i)),ab (W.d (.str j)),ab (W.d (ai aj)),ab (W.d (ai aj)),ab (W.d .non),ac]=.ok true from rfl,aN,a9 rfl];rw[c9 (bO (aC (sO rfl rfl rfl rfl n2) rfl rfl))];rfl
 |true=>
  obtain⟨x,t1,⟨xa,xb,ex⟩,t2⟩:=CC L Q hc;rw[t1,aN,show lG (.d x)=.ok x from rfl,aN,aQ ⟨tJ rfl,tJ rfl⟩];rw[show([ab (W.d (aB ae A)),ab (W.d (.int d)),ab (W.d (.str i)),ab (W.d (.str j)),ab (W.d (ai aj)),ab (W.d (ai aj)),ac,ac].set 6 (ab (W.d x)))=[ab (W.d (aB ae A)),ab (W.d (.int d)),ab (W.d (.str i)),ab (W.d (.str j)),ab (W.d (ai aj)),ab (W.d (ai aj)),ab (W.d x),ac]from rfl];rw[c1,aN,ba c8];rw[show cB (m2 rG (mV 6) (mC .non)) [ab (W.d (aB ae A)),ab (W.d (.int d)),ab (W.d (.str i)),ab (W.d (.str j)),ab (W.d (ai aj)),ab (W.d (ai aj)),ab (W.d x),ac]=.ok false by rw[ex];rfl,aN,ba c8];rw[aQ (by rw[ex];rfl)];have c3:cV (cB (a8 jD [(wD (mV 0)),(wD (mV 6)),(wD (mV 2)),(wD (mV 3)),(wD (mV 4))])) [ab (W.d (aB ae A)),ab (W.d (.int d)),ab (W.d (.str i)),ab (W.d (.str j)),ab (W.d (ai aj)),ab (W.d (ai aj)),ab (W.d x),ac]=.ok false:=kG (p:=true) (bR (yH rfl rfl rfl rfl rfl t2));rw[c3,aN,ba c8];rw[show(([ab (W.d (aB ae A)),ab (W.d (.int d)),ab (W.d (.str i)),ab (W.d (.str j)),ab (W.d (ai aj)),ab (W.d (ai aj)),ac,ac].set 6 ac).set 7 ac)=[ab (W.d (aB ae A)),ab (W.d (.int d)),ab (W.d (.str i)),ab (W.d (.str j)),ab (W.d (ai aj)),ab (W.d (ai aj)),ac,ac]from rfl];rw[c9 (bO (yH rfl (bO (sO rfl rfl rfl rfl t1)) rfl rfl rfl t2))];rfl
theorem E9(ns:List Int)(hl:ns.length<=63):xL [.d (.lst (ns.map D.int))]=.ok (.d (.bl true)):=by
 obtain⟨ae,A0,r,A4,IN,⟨cw,mw,hm8,hnm⟩,h2⟩:=KA ns hl;have hw:∀x∈ae,qO [.d (.str x)]=.ok (.d (.bl true)):=λx hx=>by
  rw[hnm]at hx;obtain⟨l,hl,rfl⟩:=ca.mp hx;exact OC (fb cw mw hm8 l hl)
 have G:=IN.gd hw;generalize A0.map (arrOf ae)=A at A4 G;obtain⟨qs,hqs⟩:=Nb ns 4 (by decide) (by decide);rw[show((4:Nat):Int)=4 from rfl]at hqs;obtain⟨Ls,hLs⟩ : ∃Ls,Ls=D.lst (ns.map D.int):=⟨_,rfl⟩;rw[<- hLs]at A4 hqs ⊢;obtain⟨e',f,o2,he⟩:=gR (tg:=.n 2) (body:=(bI (cV (cB (a8 nE [(wD (mV 1)),(wD (mV 2))]))) (bp (wD (mC (.bl false)))) bU))
  (λn e=>∃o2:Option W,e=[ab (W.d Ls),ab (W.d (aB ae A)),o2]) (qs.map D.int) 0 (λn x e hx ⟨o2,he⟩=>by
   subst he;rw[cX]at hx;obtain⟨d,_,rfl⟩:=iY.mp hx;have ct:=kG (bR (call2 (f:=nE) (a:=wD (mV 1)) (b:=wD (mV 2)) (e:=[ab (W.d Ls),ab (W.d (aB ae A)),ab (W.d (.int d))]) rfl rfl (Ml G.lk h2 d)));exact⟨_,_,rfl,(dU ct).trans rfl,_,rfl⟩) [ab (W.d Ls),ab (W.d (aB ae A)),ac] ⟨ac,rfl⟩
 subst he;unfold xL CA;rw[xr];rw[show([ab (W.d Ls)]++c7 (3-1) ac)=[ab (W.d Ls),ac,ac]from rfl];rw[aU (e':=[ab (W.d Ls),ab (W.d (aB ae A)),ac]) (bY (call2 rfl rfl A4))];rw[aU ((ic (iA (call2 rfl rfl hqs) rfl)).trans f)];rfl
end Mr
namespace oG
open PySem L2 PyProof.Rows
abbrev cN:ag:=117
abbrev tN:ag:=113
instance Qm:A.bD:=⟨[(tN,vd "spots_before")],λc=>0⟩
theorem walk{l:z6}{q:br}{loose:List Str}{XP:(Str->Option ah)->aR->Prop}{YP:bd->aR->Prop}{d:DefRec}{K:Params->aP}(hn:l.most=ab 63)(hdf:d.params.defaults=[])
 (hY:∀(w:bd) (h:aR),YP w h->(K w.params).In h) (hL:∀w:bd,E2 (K w.params)=true) (hK:∀w:bd,(K w.params).lookup tN=ac) (hrec:∃d,(recsOf q).find? (λe=>e.name==("spots_before" : Str))=ab d) (htab:∀w:bd,PySem.W.tabIn (K w.params) "spots_before" = ab (cN,tN))
 (F:∀(w:bd) (mg:Str->Option ah) (fa:ag) (h:aR),(K w.params).In h->h.Ns mainGlobals mg->mg d.name=ab (.ref fa) ->
  ∃fd:bG,(∀(s:aw) (u:ah),lS s fd ⟨[u],[]⟩ [("_law_script",u)])/\∀base:aR,(K w.params).In base->base.Ns mainGlobals mg->BM mg base->iW base cN tN->bJ l.prog w (K w.params) mg base aO 14 fa fd ["_law_script"] A.rZ) :
 PySem.W.WalkO q loose XP YP l.row.toRowW d [] (λf vs=>Ad f vs):=
 L2.Jw (x := "_law_script") (dn := "spots_before") (qn:=vd "spots_before") (k:=14) rfl hn hdf ⟨rfl,by decide,by decide⟩ hY (λw a o e c=>Jc (hL w) e c) hK hrec htab F
theorem Pk{K:aP}{h:aR}{mg:Str->Option ah}(X:K.In h)(G:h.Ns mainGlobals mg)(A5:fG K mainGlobals "len" = ab ac)(A6:fG K mainGlobals "range" = ab ac)(A7:fG K mainGlobals "max" = ab ac)(A8:fG K mainGlobals "min" = ab ac)(A9:fG K mainGlobals "tuple" = ab ac)(Ba:fG K mainGlobals "list" = ab ac)(Bb:fG K mainGlobals "isinstance" = ab ac)(Bc:fG K mainGlobals "all" = ab ac)(Bd:fG K mainGlobals "any" = ab ac)(Be:fG K mainGlobals "bool" = ab ac)(Bg:fG K mainGlobals "str" = ab ac)(Bh:fG K mainGlobals "int" = ab ac)(Bi:fG K mainGlobals "zip" = ab ac)(Bj:fG K mainGlobals "enumerate" = ab ac)(Bk:fG K mainGlobals "sorted" = ab ac)(Bl:fG K mainGlobals "reversed" = ab ac)(Bm:fG K mainGlobals "set" = ab ac):Txt mg:=⟨gh X G A5,gh X G A6,gh X G A7,gh X G A8,gh X G A9,gh X G Ba,gh X G Bb,gh X G Bc,gh X G Bd,gh X G Be,gh X G Bg,gh X G Bh,gh X G Bi,gh X G Bj,gh X G Bk,gh X G Bl,gh X G Bm⟩
theorem IW{l:z6}{w:bd}{K:aP}{mg:Str->Option ah}{fa:ag}(hfa:mg "law" = ab (.ref fa))(T:Txt mg)(HA:cn K mg "_law_cell" xE ["_law_script","_law_k"])(HB:cn K mg "_law_words" yq ["_law_cell_here","_law_many"])(HC:cn K mg "_law_ranks" yZ ["_law_cell_here","_law_many"])(HD:cn K mg "_law_net" xZ ["_law_script","_law_most"])(HE:cn K mg "_law_two" x5 ["_law_script","_law_most"])(HF:cn K mg "_law_questions" x9 ["_law_script","_law_many"])(HG:cn K mg "refuse_strangers" ze ["names","asked"])(HH:cn K mg "refuse_repeats" xK ["asked"])(HI:cn K mg "refuse_wrong_asks" wU ["names","asked"])(HJ:cn K mg "meetings_of" yX ["net","road"])(HK:cn K mg "names_along" y3 ["names","steps","name"])(HL:cn K mg "names_below" wW ["net","name"])(HM:cn K mg "has_held_below" zo ["net","name","held"])(HN:cn K mg "heirs_of" yA ["net","name"])(HP:cn K mg "heir_spots" y6 ["net","name"])(HQ:cn K mg "elders_of" ym ["net","name"])(HR:cn K mg "elder_spots" y0 ["net","name"])(HS:cn K mg "spots_from" wN ["net","spot","held"])(HU:cn K mg "spots_walked" wK ["starts","onward"])(Bn:uq K mg "spots_before" xS ["net","one","held"] cN)(HV:cn K mg "spots_of" xj ["name","before"])(HW:cn K mg "names_up_to" yr ["spot","before"])(HX:cn K mg "way_down" xf ["net","name","held"])(HY:cn K mg "open_road" yt ["net","one","other","held"])(HZ:cn K mg "_law_asked" zG ["_law_net_here","_law_draw"])(H9:cn K mg "_law_meets" zu ["_law_net_here","_law_road_here","_law_k"])(Ie:cn K mg "_law_down" xU ["_law_net_here","_law_down_here","_law_first","_law_held"])(Ig:cn K mg "_law_tied" yI ["_law_net_here","_law_one","_law_other"])(Ih:cn K mg "_law_road" xA ["_law_net_here","_law_road_here","_law_one","_law_other"])(Ii:cn K mg "_law_open_told" zj ["_law_net_here","_law_found","_law_one","_law_other","_law_held"])(Ij:cn K mg "_law_beside" zl ["_law_net_here","_law_draw"])(Ik:cn K mg "_law_question" ye ["_law_net_here","_law_draw"])(Il:cn K mg "law" yi ["_law_script"]) :
 ∃fd:bG,(∀(s:aw) (u:ah),lS s fd ⟨[u],[]⟩ [("_law_script",u)])/\∀base:aR,K.In base->base.Ns mainGlobals mg->BM mg base->iW base cN tN->bJ l.prog w K mg base aO 14 fa fd ["_law_script"] A.rZ:=
 cn.Jo Il hfa λbase kb nb hB hC f fd F=>by
  have i6:=HA.cal (P:=l.prog) (w:=w) (base:=base) (CX:=aO) λf fd F=>Og F T;have Av:=HB.cal (P:=l.prog) (w:=w) (base:=base) (CX:=aO) λf fd F=>Lf F T;have Aw:=HC.cal (P:=l.prog) (w:=w) (base:=base) (CX:=aO) λf fd F=>JH F T;have Ax:=HD.cal (P:=l.prog) (w:=w) (base:=base) (CX:=aO) λf fd F=>O3 F T i6 Av Aw;have AX:=HE.cal (P:=l.prog) (w:=w) (base:=base) (CX:=aO) λf fd F=>NO F T i6 Ax;have AY:=HF.cal (P:=l.prog) (w:=w) (base:=base) (CX:=aO) λf fd F=>LZ F T i6;have hX:=HG.cal (P:=l.prog) (w:=w) (base:=base) (CX:=aO) λf fd F=>OI F T;have Ay:=HH.cal (P:=l.prog) (w:=w) (base:=base) (CX:=aO) λf fd F=>M7 F T;have AG:=HI.cal (P:=l.prog) (w:=w) (base:=base) (CX:=aO) λf fd F=>NE F T hX Ay;have AH:=HJ.cal (P:=l.prog) (w:=w) (base:=base) (CX:=aO) λf fd F=>Mv F T hX;have Az:=HK.cal (P:=l.prog) (w:=w) (base:=base) (CX:=aO) λf fd F=>OL F T;have AB:=HL.cal (P:=l.prog) (w:=w) (base:=base) (CX:=aO) λf fd F=>N5 F T hX Az;have qz:=HM.cal (P:=l.prog) (w:=w) (base:=base) (CX:=aO) λf fd F=>K0 F T AB;have qy:=HN.cal (P:=l.prog) (w:=w) (base:=base) (CX:=aO) λf fd F=>NY F T hX;have qA:=HP.cal (P:=l.prog) (w:=w) (base:=base) (CX:=aO) λf fd F=>ML F T qy;have AC:=HQ.cal (P:=l.prog) (w:=w) (base:=base) (CX:=aO) λf fd F=>JX F T hX;have qB:=HR.cal (P:=l.prog) (w:=w) (base:=base) (CX:=aO) λf fd F=>MF F T AC;have AF:=HS.cal (P:=l.prog) (w:=w) (base:=base) (CX:=aO) λf fd F=>N9 F T qz qA qB;have AD:=HU.No l.prog w base λf fd F=>PR F T;have AI:=Bn.cal (P:=l.prog) (w:=w) (base:=base) (CX:=aO) λf fd F=>O4 F T hB hC (cr.mpr rfl) AD AF qA qB;have AJ:=HV.cal (P:=l.prog) (w:=w) (base:=base) (CX:=aO) λf fd F=>PB F T;have AK:=HW.cal (P:=l.prog) (w:=w) (base:=base) (CX:=aO) λf fd F=>J4 F T;have AL:=HX.cal (P:=l.prog) (w:=w) (base:=base) (CX:=aO) λf fd F=>OD F T qy qz;have m4:=HY.cal (P:=l.prog) (w:=w) (base:=base) (CX:=aO) λf fd F=>Lg F T AG AH AI AJ AK AL;have AU:=HZ.cal (P:=l.prog) (w:=w) (base:=base) (CX:=aO) λf fd F=>JT F T;have AN:=H9.cal (P:=l.prog) (w:=w) (base:=base) (CX:=aO) λf fd F=>Nj F T;have AQ:=Ie.cal (P:=l.prog) (w:=w) (base:=base) (CX:=aO) λf fd F=>K7 F T;have AM:=Ig.cal (P:=l.prog) (w:=w) (base:=base) (CX:=aO) λf fd F=>Jg F T;have AR:=Ih.cal (P:=l.prog) (w:=w) (base:=base) (CX:=aO) λf fd F=>JG F T AM;have oH:=Ii.cal (P:=l.prog) (w:=w) (base:=base) (CX:=aO) λf fd F=>Me F T AN AQ AR;have AV:=Ij.cal (P:=l.prog) (w:=w) (base:=base) (CX:=aO) λf fd F=>Ki F T m4 oH;have AZ:=Ik.cal (P:=l.prog) (w:=w) (base:=base) (CX:=aO) λf fd F=>PQ F T m4 AU oH AV;exact A.M9 (PN F T AX AY AZ) λns hl=>by first|exact Mr.E9 ns|exact Mr.E9 ns hl
end oG
namespace PySem.W.Fast
def tw579761373353141376:=0
def tw1979671695153650848:=0
def tw17358013959429096704:=0
def tw5674580189401418304:=0
def tw16807333655726787232:=0
def tw13687474966355406496:=0
def tw10866539273360859840:=0
def tw16677877118784225056:=0
def tw18224537029345976385:=0
def tw14743018898805047425:=0
def tw17631937886721991841:=0
def tw13516589860772900097:=0
def tw17163441090933902593:=0
def tw10472311492301500769:=0
def tw2796723929380485569:=0
def tw1889426509104954849:=0
def tw2343454190165125633:=0
def tw3132595080900884033:=0
def tw4662544676014444097:=0
def tw177548417739940449:=0
def tw3875810835057328769:=0
def tw1389119039627156097:=0
def tw11807765296031251201:=0
def tw12338370332374073153:=0
def tw17941887064390139906:=0
def tw12644353670551192674:=0
def tw6960414218212588642:=0
def tw14017247683634365666:=0
def tw12179554136187946402:=0
def tw10944115655462165954:=0
def tw6827323151504710114:=0
def tw3891505763647313442:=0
def tw8570360405139867234:=0
def tw656310557255529186:=0
def tw2302669673678533763:=0
def tw17245089471017140579:=0
def tw13500390188505310659:=0
def tw13136105023330513475:=0
def tw7367419617866452707:=0
def tw7689764222076590019:=0
def tw11364992391730149347:=0
def tw9836668239133274180:=0
def tw684861308806817988:=0
def tw6444559962923224324:=0
def tw7201867164451658020:=0
def tw10592577322150449636:=0
def tw7279565307203063396:=0
def tw16038556522903578308:=0
def tw12151732797590111940:=0
def tw2417900094160362629:=0
def tw6549674875534831333:=0
def tw16165355723322753062:=0
def tw9570746468190677318:=0
def tw4529065738732808550:=0
def tw16263804858655628806:=0
def tw18074770345502944934:=0
def tw1255304016864237318:=0
def tw2763876776133794758:=0
def tw14212324872083252198:=0
def tw14362276976847124551:=0
def tw8366837056800398695:=0
def tw6804594585171005863:=0
def tw65895345748435495:=0
def tw8153640107040192199:=0
def tw2761704730996323047:=0
def tw8686231300024195879:=0
def tw17872534584779200327:=0
def tw7171833485219212199:=0
def tw2522840010863119720:=0
def tw13638531557908886952:=0
def tw18345935169779349160:=0
def tw2485838576654738344:=0
def tw13186885710464610248:=0
def tw15425509816011692233:=0
def tw10368801200635140297:=0
def tw13042737310453179657:=0
def tw2449620607956196649:=0
def tw2718207598443091305:=0
def tw5137152768789125513:=0
def tw3330426583124543913:=0
def tw3184178737197127273:=0
def tw1242439741228932937:=0
def tw17553930861978022026:=0
def tw12922606962108185930:=0
def tw11325317421413911530:=0
def tw4826155874347596907:=0
def tw16014854674757382251:=0
def tw16885671063635071467:=0
def tw18043193255341401611:=0
def tw7171320987355086411:=0
def tw12913131032527608715:=0
def tw6751319417333891051:=0
def tw16695315955018981420:=0
def tw16526331257791086700:=0
def tw4819982415838751948:=0
def tw12702514808549610828:=0
def tw11016736070638722412:=0
def tw14643024082061784652:=0
def tw10229436703511927436:=0
def tw13215371525920876236:=0
def tw11385785441072518892:=0
def tw12288485379065901261:=0
def tw16997868017689339213:=0
def tw5737080748950504813:=0
def tw11893645223348773261:=0
def tw10432515994298121645:=0
def tw10579457828665079373:=0
def tw6296239854041524813:=0
def tw2520108004788861709:=0
def tw392195784605085517:=0
def tw5926717818335620013:=0
def tw8184903478532063181:=0
def tw6309627536237380910:=0
def tw12205851933519480110:=0
def tw7945847989499262350:=0
def tw9808670928318058030:=0
def tw3303057302302814094:=0
def tw16996518947379254479:=0
def tw948168322035383535:=0
def tw12213367937327026831:=0
def tw17187472658531515215:=0
def tw2388981333330518160:=0
def tw18070992647868294384:=0
def tw7877197280722139600:=0
def tw14800569037935346224:=0
def tw6221836980528448144:=0
def tw5042772924698380112:=0
def tw1265895392278511504:=0
def tw16725317654628703216:=0
def tw8837993936939613297:=0
def tw970371638013349009:=0
def tw7291987651107036337:=0
def tw12351986142211307697:=0
def tw13393821874189985137:=0
def tw18234702016754214673:=0
def tw1372963677413997586:=0
def tw6903683097075219826:=0
def tw8732561337980199346:=0
def tw11431544240190748338:=0
def tw411531545570422482:=0
def tw2369766609598307411:=0
def tw17966218815008747667:=0
def tw1636596085428179219:=0
def tw3138752006554269043:=0
def tw13915627787447558579:=0
def tw9355813694674789811:=0
def tw9902081602081646067:=0
def tw10696211655299277651:=0
def tw14730598198140098419:=0
def tw10315134832059288531:=0
def tw8810316864135486419:=0
def tw16276469717441432596:=0
def tw11360976083584131220:=0
def tw17139079799224270324:=0
def tw4339858522016684884:=0
def tw15904876597769228309:=0
def tw12941537887076821077:=0
def tw13820882981549012373:=0
def tw10485224640317973205:=0
def tw1273620645511506998:=0
def tw13995280263474009398:=0
def tw1200987384699619766:=0
def tw7119470801063812630:=0
def tw16894209817447742134:=0
def tw9261474312772574998:=0
def tw14086164036809288534:=0
def tw9743239856169517079:=0
def tw17793971029850747223:=0
def tw12480202523937437047:=0
def tw16294233438304855511:=0
def tw15984327342410213079:=0
def tw2111359079247768279:=0
def tw18013569095852393592:=0
def tw12525589246968033432:=0
def tw16168189749461893272:=0
def tw1431054375819624696:=0
def tw10001732676508609112:=0
def tw13932202617629632120:=0
def tw10426426835132652184:=0
def tw1118619094398677720:=0
def tw9965975403845671768:=0
def tw7533987136197562393:=0
def tw15323070978652043641:=0
def tw11156624178091772281:=0
def tw17572864441073650169:=0
def tw12967464933012651577:=0
def tw10464867907917171257:=0
def tw4602835592387426201:=0
def tw7838312165979924602:=0
def tw9005799858178266298:=0
def tw2453653343085009210:=0
def tw16212300653542904154:=0
def tw14328829009963880922:=0
def tw437696261397071418:=0
def tw14311154039181216538:=0
def tw1419929484362627066:=0
def tw15602979495809355067:=0
def tw86576605437572603:=0
def tw6336547495707125243:=0
def tw6306604668754034203:=0
def tw13003091285872572059:=0
def tw3339168040133273435:=0
def tw5392549705627017115:=0
def tw12364937963787590651:=0
def tw2210490183773119612:=0
def tw6306348250207041724:=0
def tw12047770977254205852:=0
def tw2220364580840348060:=0
def tw17119605344394145180:=0
def tw12266726029669794396:=0
def tw13623851668390115068:=0
def tw7370920005701371804:=0
def tw10936210269873490908:=0
def tw12732550824186934236:=0
def tw6727242524339145724:=0
def tw12661849335769316605:=0
def tw8745976013925398205:=0
def tw13372530338479038141:=0
def tw1780812707351884733:=0
def tw18197713046981438429:=0
def tw12179826868514795646:=0
def tw4878279861473954974:=0
def tw82778518299113822:=0
def tw2557112781713267102:=0
def tw16090900117855531806:=0
def tw3438142646954653502:=0
def tw12273927915866208094:=0
def tw471364270022415198:=0
def tw17082310712317014942:=0
def tw13623572380862919775:=0
def tw17545247257983791423:=0
def tw4993859475416178399:=0
def tw10138592375726117695:=0
def tw17012890893126558527:=0
end PySem.W.Fast
open PySem PySem.W PyProof.Rows
set_option maxRecDepth 100000 in
set_option maxHeartbeats 0 in
theorem PySem.Challenge.cw_arrowfind_k13_open_roads_walked_holds : PySem.Challenge.rw_arrowfind_k13_open_roads_walked.Holds := by
 w_on;o_law;k_head;(case hw=>w_witness2)
 k_fill
 refine oG.walk (l:=PySem.Challenge.rw_arrowfind_k13_open_roads_walked) rfl rfl (λw h Y=>PySem.W.km_in_of Y) ?L ?K ⟨_,rfl⟩ ?H ?F
 case L=>
  intro w
  kernel_rfl
 case K=>
  intro w
  kernel_rfl
 case H=>
  intro w
  kernel_rfl
 case F=>
  intro w mg fa h KX G hmg
  refine' oG.IW hmg ?T ?HA ?HB ?HC ?HD ?HE ?HF ?HG ?HH ?HI ?HJ ?HK ?HL ?HM ?HN ?HP ?HQ ?HR ?HS ?HU ?Bn ?HV ?HW ?HX ?HY ?HZ ?H9 ?Ie ?Ig ?Ih ?Ii ?Ij ?Ik ?Il
  case T=>
   refine' oG.Pk KX G ?A5 ?A6 ?A7 ?A8 ?A9 ?Ba ?Bb ?Bc ?Bd ?Be ?Bg ?Bh ?Bi ?Bj ?Bk ?Bl ?Bm
   (case A5=>k_is)
   (case A6=>k_is)
   (case A7=>k_is)
   (case A8=>k_is)
   (case A9=>k_is)
   (case Ba=>k_is)
   (case Bb=>k_is)
   (case Bc=>k_is)
   (case Bd=>k_is)
   (case Be=>k_is)
   (case Bg=>k_is)
   (case Bh=>k_is)
   (case Bi=>k_is)
   (case Bj=>k_is)
   (case Bk=>k_is)
   (case Bl=>k_is)
   (case Bm=>k_is)
  case Bn=>
   refine' L2.KZ (c:=oG.cN) KX G (λ_ _ _ _ _ _ us hl=>match us,hl with|[_,_,_],_=>rfl) ?a ?l ?c ?k
   (case a=>k_is);(case l=>k_is);(case c=>k_is);(case k=>k_is)
  all_goals
   first
    |(refine' L2.sx KX G (λ_ _ _ _ _ _ us hl=>match us,hl with|[_],_=>rfl) ?a ?l ?c ?k;(case a=>k_is);(case l=>k_is);(case c=>k_is);(case k=>k_is))
    |(refine' L2.sx KX G (λ_ _ _ _ _ _ us hl=>match us,hl with|[_,_],_=>rfl) ?a ?l ?c ?k;(case a=>k_is);(case l=>k_is);(case c=>k_is);(case k=>k_is))
    |(refine' L2.sx KX G (λ_ _ _ _ _ _ us hl=>match us,hl with|[_,_,_],_=>rfl) ?a ?l ?c ?k;(case a=>k_is);(case l=>k_is);(case c=>k_is);(case k=>k_is))
    |(refine' L2.sx KX G (λ_ _ _ _ _ _ us hl=>match us,hl with|[_,_,_,_],_=>rfl) ?a ?l ?c ?k;(case a=>k_is);(case l=>k_is);(case c=>k_is);(case k=>k_is))
    |(refine' L2.sx KX G (λ_ _ _ _ _ _ us hl=>match us,hl with|[_,_,_,_,_],_=>rfl) ?a ?l ?c ?k;(case a=>k_is);(case l=>k_is);(case c=>k_is);(case k=>k_is))
