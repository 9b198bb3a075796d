import PyProof.Rows.All
import Wide.All
import OpenK.AllK
import Wide.FinOn
import Lean
import PyProof.EqAt
import PyProof.EqKinds
import PyProof.TupleCall
import PySem.Str
import PyProof.NeKinds
import PyProof.Draws
import PyProof.EnumMake
import PyProof.ZipIter
import KE.KSortTup
import KE.KLam
import PyProof.Rows.SortStr
import PyProof.Rows.FactsT3
import PyProof.StrOps2
import KE.KDictList
import KE.KRevIter
import PyProof.CollectIter
import PyProof.TupleOfGen
import PyProof.Rows.StrNews2
import PyProof.Rows.StrFacts2
import PyProof.StrLawsRepr
import PyProof.Rows.StrCase
import PyProof.Rows.StrSplit
import PySem.Challenge.RW_arrowfind_k14_roads_refused
open PySem.W renaming Frag->aI,nsIn->cK,mg_none_of->fV,kitOne->eO,mg_of->fW,kia_one->jA,CodeHd->i5,keepIn->j8,fnOf->i6,kitAny->mq,codeIn->nH,kla_obj->pQ,cellsFrom_some->vH,callWith_K->vI,findIn->sG,tabObj->vJ,exmOne->vK,kla_fn->vL,codeRec_of->zD,excIn->vM,methodObj->zE,instObj->zF,OpenLaw->zG,lookIn->zH,mroIn->zI,specialIn->GL,kitx_list->GN,kitx_dict->GO,plainGet->GP,takesIn->GQ,InstAt->GR
open List renaming length_map->bd,getElem?_eq_some_iff->dG,length_cons->bU,length_append->cC,mem_singleton->cL,mem_append_right->dH,replicate->cG,size_toArray->dI,getD_eq_getElem?_getD->fX,mem_cons_self->dS,mem_append->da,getElem?_eq_getElem->fI,mem_cons_of_mem->eP,getElem?_set_ne->eQ,getElem?_map->d8,mem_cons->cS,mem_append_left->fe,map_cons->dg,length_nil->d9,mem_map->db,range->cI,mem_filter->eV,map_append->fJ,getElem?_cons_succ->j9,getElem?_cons_zero->ke,length_take->g6,map_map->ff,getElem?_set_self->kP,mem_range->gF,length_drop->jB,take_of_length_le->mv,nodup_append->kQ,append_nil->kg,length_set->kh,any_cons->jC,find?_cons->kR,lookup_cons->mx,mem_of_mem_take->pR,pairwise_map->nI,filter_eq_self->pT,getElem_mem->nJ,drop_of_length_le->sH,nodup_cons->nK,length_singleton->sI,length_filter_le->sJ,flatMap_cons->pU,mem_of_getElem?->sK,drop_zero->nL,drop_eq_getElem_cons->vN,getElem_inj->pV,not_mem_nil->pW,pairwise_lt_range->vO,reverse_cons->sL,all_eq_true->sM,mem_of_mem_drop->vP,getElem?_of_mem->vQ,of_mem_zip->sN,nil_append->sO,mem_filterMap->vR,getElem?_append_left->zJ,getElem?_take_of_lt->zK,append_assoc->vS,eraseIdx_cons_succ->zL,cons_append->vT,any_eq_true->vU,length_pos_of_mem->zM,length_replicate->zN,filterMap_cons->zO,eraseIdxIfInBounds_toArray->GS,length_range->zP,map_nil->vV,any_map->vW,lookup->vX,getElem?_append_right->GU,mem_of_mem_eraseIdx->GV,getElem?_replicate->GW,map_drop->zQ,map_take->zR,range_succ_eq_map->GX,pairwise_flatMap->GY,eraseIdx_sublist->GZ,length_eraseIdx->G0,length->zS,map_congr_left->G1,replicate_zero->G2,set_cons_succ->G3,set_cons_zero->G4,getElem_range->G5,pairwise_cons->G6,any_eq_false->G7
open PySem renaming Value->ah,wpAny_bind->aY,Shared->aw,Addr->ag,FuncData->bD,wpAny_pure->bW,Program->bt,sizeLine_eq->eF,Around->bH,World->a9,boot_len->iB,mem_of_lookup->lO,Heap->aL,Expr->aW,wpAny_mono->g7,wpAny_holding->kS,wpAny_Call_Name_kw->nM,wpAny_typeNameOfWhole_keyiter->vY,Stmt->bq,wpAny_passesOwn->nN,wpAny_truthy_bool->pY,wpAny_typeNameOf_keyiter->vZ,wpAny_execs_nil->pZ,Scope->dJ,typeIs_bool->v0,wpAny_newFunctionEnv_cells->zT,codeAny_mono->qa,wpAny_setField->sQ,wpAny_newObj_type->v4,wpAny_call_entry->v5,reprText->v6,BindsTo->kT,Arguments->nO,codeAny_call_function->zU,NameKind->mz,Paired->mB,placed->v7,wpAny_standAt->v8,tupleKind_room_in1->zV,TriplesOk->qb,wpAny_pyIter_list->zW,wpAny_call->sR,wpAny_dictEntries->zX,seqIndex_neg->v9,wpAny_execs_cons->zY,wpAny_specialOf->zZ,seqIndex_of->wa,wpAny_field->wb,wpAny_dictEpoch->z5,typeIs_str->wc,call_meets->we,call->z6,wpAny_attempt->z7,wpAny_callSpecial?_slot->G8,wpAny_pyNext_list_item->G9
open PySem.Heap renaming get?_push_of_some->dU,lt_size->bX,get?_push_size->fw,get?_update_other->qc,get?_update_self->qd,SameBut->sS
open Nat renaming le_refl->bO,lt_of_lt_of_le->fK,le_trans->eW,zero_add->fL,ne_of_lt->fY,zero_le->iC,lt_irrefl->ki,min_eq_right->wf,min_eq_left->wg,not_lt_zero->wj,le_of_lt->wm,ne_of_gt->wp,le_total->wq,not_lt->wt,le_of_eq->z8
open PySem.F renaming plainAttrs_list->fg,slot_list_append->g9,type_list_append->hG,slot_dict_keyiterator_next->sT,slot_list_pop->sU,type_list_pop->sV,plainAttrs_str->z9,slot_bool_hash->wu,excBase_ValueError->Hb,args_dict_keyiterator_next_1->Hc,entry_dict_keyiterator_next->He,slot_str_join->Hf,type_str_join->Hg,excAttr_ValueError->Hj
open Bool renaming false_ne_true->dW,and_eq_true->mD,false_eq_true->nP,and_eq_true_iff->sW,and_false->wv,not_eq_true'->Aa,eq_iff_iff->Ab,false_or->Ac,not_true->Ad
open Int renaming emod_lt_of_pos->eG,emod_nonneg->eu,toNat_natCast->kU
open Option.some renaming inj->fM
open PySem.Value renaming ref->dy,none->fN,bool->jD,builtin->sX,str->nQ,type->Ae
open PySem.PassesOwn renaming never->hO
open False renaming elim->eR
open Option renaming map_eq_some_iff->lP,isSome_iff_exists->wx,isSome_map->wy,getD_none->Hk,bind_some->Hl,map_some->Hm
open PySem.Obj renaming mapFields->jE,data_mapFields->nR,isFreed_of_fields->sY,mapSeq->sZ
open Ne renaming symm->dO
open Array renaming length_toList->nS,getElem?_eq_some_iff->wz,toList_append->s0,getElem?_toList->Af,mem_toList_iff->Ag,getElem?_eq_getElem->Ho
open Classical renaming byContradiction->s9,propDecidable->wA,em->Hq
open PyProof.Rows renaming boot_isinstance->lQ,callWith_type1->Ah,boot_list->lR,AllBare->kW,len_upper->Hr,boot_tuple->wB,subscriptTail_builtinR->Hs
open ForInStep renaming yield->mE
open PySem.NameKind renaming free->lS,cell->Ai
open Or renaming inl->ee,inr->kj
open PySem.Str renaming empty->i7,ofString->mF,join->jF,length->nU
open True renaming intro->km
open Sum renaming inr->gl,inl->nV
open PySem.Calls renaming spliced_cons->tq,spliced_nil->wC,Name_function_global->Ht,callWith_builtin->Hu,evalArgs_plain->Hw
open PySem.Paired renaming length->tu
open PySem.Value.type renaming inj->wE
open PySem.Unicode renaming upperOf->wF
open PySem.Builtin.Dict_items renaming ownsTuple->Hx
open PySem.Around renaming frames_deeper->Aj
open PySem.Builtin.Str renaming tooLong->Hy,strSliceIndices->Hz
open PySem.Builtin.Dict renaming showsAll->HA
open List.Pairwise renaming filter->HB,nil->HC
open Prod renaming ext->qe,fst->wG
open PySem.Heap.SameBut renaming update->HD
open PySem.SeqAt.EqAt renaming bool_bool->HE,bool_str->HF,str_bool->HG
open PySem.EntryCells renaming newEntry->HH
open Sum.inr renaming inj->Ak
open Option renaming some->aa,none->ac
abbrev bR:=@decide_eq_true
abbrev cp:=@decide_eq_false
abbrev a8:=@if_pos
abbrev be:=@if_neg
abbrev jT:=@of_decide_eq_true
abbrev iT:=@if_false
abbrev qL:=@decide_eq_true_eq
abbrev rQ:=@beq_self_eq_true
abbrev uh:=@decide_eq_true_iff
abbrev nu:=@beq_iff_eq
abbrev jK:=@if_true
abbrev zC:=@beq_eq_false_iff_ne
set_option maxRecDepth 100000
set_option maxHeartbeats 4000000
set_option Elab.async false
set_option linter.all false
namespace L2
open PySem PySem.Spec PyProof.Rows
abbrev Key:=Sum Bool Str
def Ed(k:Bool):ah->Bool
 |.bool b=>b==k
 |_=>false
def qu:Key->ah->Bool
 |.inl k,v=>Ed k v
 |.inr x,v=>Value.isStrOf x v
def JZ(w:a9):Key->Int
 |.inl k=>hashInt (if k then 1 else 0)
 |.inr x=>hashStr w x
theorem Nc{k:Bool}:∀{v:ah},Ed k v=true->v=.bool k
 |.bool b,h=>by rw[show b=k from eq_of_beq h]
theorem lw:∀{k:Key} {v:ah},qu k v=true->(∃i,k=nV i/\v=jD i)\/(∃x t,k=gl x/\v=nQ x t)
 |.inl i,v,h=>.inl ⟨i,rfl,Nc h⟩
 |.inr x,v,h=>by
  obtain⟨t,e⟩:=Value.isStrOf_shape (x:=x) (v:=v) h;exact .inr ⟨x,t,rfl,e⟩
theorem Og(i:Bool):qu (.inl i) (.bool i)=true:=rQ i
theorem IT{prog:bt}{w:a9}{A:bH}{E:ah->aw->Prop}{s:aw}{b:Bool}{Q:Int->aw->Prop}(h:Q (hashInt (if b then 1 else 0)) { s with toks:=s.toks+1 }) :
 wpAny (model prog w) A (pyHash (.bool b)) Q E s:=by
 have hr:=rawHash_range (if b then 1 else 0);unfold pyHash;have hv:[jD b].any Value.onHeap=false:=rfl;refine aY ?_;rw[cRoomFor,be (by rw[hv];exact dW)];refine bW ?_;refine aY (zZ (v0 s b) wu.lookup ?_);show wpAny _ _ (if(aa (sX "int.__hash__")==aa fN)=true then _ else _) Q E s;rw[be (by rw[beq_builtin_none];exact dW)];refine aY (zZ (v0 s b) wu.lookup ?_);show wpAny _ _ (callSpecialIfBoundUnlessNone? (.bool b) "__hash__" _ >>= _) Q E s;refine aY (wpAny_callSpecialIfBoundUnlessNone?_slot (v0 s b) wu
  (v5 wu (v0 s b) F.entry_int_hash
   (show wpAny _ _ (do ret (<- mkInt (rawHash (if b then 1 else 0)))) _ _ s from wpAny_ret_mkInt ?_) (F.args_int_hash_1 _)))
 show wpAny _ _ (if(decide (-(2:Int) ^ 63<=rawHash (if b then 1 else 0))&&decide (rawHash (if b then 1 else 0)<2 ^ 63))=true then _ else _) Q E _;rw[a8 (by rw[bR hr.1,bR hr.2];rfl)];exact bW h
theorem Kr(x:Str)(t:Tok):qu (.inr x) (.str x t)=true:=by simp[qu,Value.isStrOf]
theorem PJ(a b:Bool):decide ((nV a:Key)=nV b)=(a==b):=by
 by_cases e:a=b
 ·subst e;simp
 ·have h:¬ (nV a:Key)=nV b:=λq=>e (Sum.inl.inj q);rw[cp h];exact(zC.mpr e).symm
theorem OV(a b:Str):decide ((gl a:Key)=gl b)=decide (a=b):=by
 by_cases e:a=b
 ·subst e;simp
 ·have h:¬ (gl a:Key)=gl b:=λq=>e (Ak q);rw[cp h,cp e]
theorem MH(a:Bool)(b:Str):decide ((nV a:Key)=gl b)=false:=cp (λq=>nomatch q)
theorem IZ(a:Str)(b:Bool):decide ((gl a:Key)=nV b)=false:=cp (λq=>nomatch q)
def gC(prog:bt)(w:a9):PySem.KeyKind prog w Key where
 is:=qu
 hash:=JZ w
 inj:=λv a b ha hb=>by
  rcases lw ha with ⟨i,rfl,rfl⟩|⟨x,t,rfl,rfl⟩
  ·rcases lw hb with ⟨j,rfl,e⟩|⟨y,u,rfl,e⟩
   ·injection e with e1;rw[e1]
   ·exact nomatch e
  ·rcases lw hb with ⟨j,rfl,e⟩|⟨y,u,rfl,e⟩
   ·exact nomatch e
   ·injection e with e1 _;rw[e1]
 byValue:=λk v h=>by
  rcases lw h with ⟨i,rfl,rfl⟩|⟨x,t,rfl,rfl⟩<;>rfl
 pyHash:=λhv h=>by
  rcases lw hv with ⟨i,rfl,rfl⟩|⟨x,t,rfl,rfl⟩
  ·exact IT h
  ·exact wpAny_pyHash_str h
 eqBool:=λhu hv h=>by
  rcases lw hu with ⟨i,rfl,rfl⟩|⟨x,t,rfl,rfl⟩
  ·rcases lw hv with ⟨j,rfl,rfl⟩|⟨y,u,rfl,rfl⟩
   ·rw[PJ]at h;exact HE i j _ _ _ _ h
   ·rw[MH]at h;exact HF i y u _ _ _ _ h
  ·rcases lw hv with ⟨j,rfl,rfl⟩|⟨y,u,rfl,rfl⟩
   ·rw[IZ]at h;exact HG x t j _ _ _ _ h
   ·rw[OV]at h;exact wpAny_eqBool_str h
 «strs»:=λk x t v h=>by
  rcases lw h with ⟨i,rfl,e⟩|⟨y,u,rfl,e⟩
  ·exact nomatch e
  ·injection e with e1 _;subst e1;cases v<;>rfl
theorem Mk(prog:bt)(w:a9)(i:Bool):(gC prog w).is (.inl i) (.bool i)=true:=Og i
theorem Mf(prog:bt)(w:a9)(x:Str)(t:Tok):(gC prog w).is (.inr x) (.str x t)=true:=Kr x t
inductive V where
 |non|bl (b:Bool)|int (i:Int)|str (x:Str)|byt (b:Array UInt8)|flt (b:UInt64)|ref (a:ag)|ty (n:String)
 deriving DecidableEq
def RelV:V->ah->Prop
 |.non,u=>u=fN
 |.bl b,u=>u=jD b
 |.int i,u=>∃t,u=Value.int i t
 |.str x,u=>∃t,u=nQ x t
 |.byt b,u=>∃t,u=Value.bytes b t
 |.flt b,u=>∃t,u=Value.float b t
 |.ref a,u=>u=dy a
 |.ty n,u=>u=Ae n
abbrev Vals:List V->List ah->Prop:=mB RelV
theorem Vals.length{xs:List V}{us:List ah}(r:Vals xs us):xs.length=us.length:=tu r
theorem Vals.get:∀{xs:List V} {us:List ah} {i:Nat} {x:V},Vals xs us->xs[i]? = aa x->∃u,us[i]? = aa u/\RelV x u
 |_,_,_,_,.nil,e=>by simp at e
 |_,_,0,_,.cons r _,e=>by simp at e;subst e;exact⟨_,rfl,r⟩
 |_,_,i+1,x,.cons _ t,e=>by
  obtain⟨u,h1,h2⟩:=Vals.get (i:=i) (x:=x) t (by simpa using e);exact⟨u,by simpa using h1,h2⟩
theorem Vals.set{x:V}{u:ah}(r:RelV x u):∀{xs:List V} {us:List ah} (i:Nat),Vals xs us->Vals (xs.set i x) (us.set i u)
 |_,_,_,.nil=>.nil
 |_,_,0,.cons _ t=>.cons r t
 |_,_,i+1,.cons q t=>.cons q (Vals.set r i t)
theorem Vals.append:∀{xs ys:List V} {us ws:List ah},Vals xs us->Vals ys ws->Vals (xs++ys) (us++ws)
 |_,_,_,_,.nil,s=>s
 |_,_,_,_,.cons r t,s=>.cons r (Vals.append t s)
theorem Vals.take:∀{xs:List V} {us:List ah} (n:Nat),Vals xs us->Vals (xs.take n) (us.take n)
 |_,_,0,_=>.nil
 |_,_,_+1,.nil=>.nil
 |_,_,n+1,.cons r t=>.cons r (Vals.take n t)
theorem Vals.drop:∀{xs:List V} {us:List ah} (n:Nat),Vals xs us->Vals (xs.drop n) (us.drop n)
 |_,_,0,r=>r
 |_,_,_+1,.nil=>.nil
 |_,_,n+1,.cons _ t=>Vals.drop n t
def mM:Option V->Option ah->Prop
 |some v,aa u=>RelV v u
 |none,ac=>True
 |_,_=>False
def KV{κ:Type}:List (κ×V)->List (κ×ah)->Prop:=mB λ(p:κ×V) (q:κ×ah)=>p.1=q.1/\RelV p.2 q.2
def kV:Key->V
 |.inl i=>.bl i
 |.inr x=>.str x
def pB(h:aL)(a:ag)(aq:Array ah):Prop:=∃o,h.get? a=aa o/\o.cls=.type "tuple" /\ o.dict=ac/\∃n,o.data=.seq aq n
theorem pB.tup{h:aL}{a:ag}{aq:Array ah}(x:pB h a aq):IsTup h a aq:=let ⟨o,e,c,_,d⟩:=x;⟨o,e,c,d⟩
theorem pB.new(h:aL)(aq:Array ah):pB (h.push { cls:=.type "tuple", data:=.seq aq }) h.objs.size aq:=⟨_,fw _ rfl,rfl,rfl,_,rfl⟩
inductive HO where
 /-- a list -/
 |lst (xs:List V)
 /-- a tuple (never changes) -/
 |tup (xs:List V)
 /-- a dict whose keys are ints and texts;one whose keys are tuples of ints and texts (the empty one is both) -/
 |dK (ak:List (Key×V))|dT (ak:List (List Key×V))
 /-- a set of ints: aq members,aq size -/
 |set (S:Int->Bool) (n:Nat)
 /-- an instance of the class at C,aq dict at dx,aq attributes -/
 |ins (C dx:ag) (fs:List (Str×V))
 /-- the dict of the instance at x -/
 |own (x:ag)
 /-- the dict of an exception -/
 |xd (fs:List (Str×V))
 /-- a bound method,f of x -/
 |met (f x:ag)
 /-- a range object lo,lo+1,.. below hi -/
 |rng (lo hi:Int)
 /-- a thing that is known to the object (the script;a dict while a loop walks it): read,never written while it is so -/
 |frz (o:Obj) (u:HO)
 /-- a code object's table -/
 |tbl (w:Str) (ps:Array ah)
 /-- any other thing,by what is true of aq one object (a def of one's own: Q8 a S n:=HO.ext λh=>..) -/
 |ext (φ : aL->Prop)
abbrev Hp:=ag->Option HO
def upd(H:Hp)(a:ag)(o:HO):Hp:=λb=>if b=a then aa o else H b
theorem bG{H:Hp}{a:ag}{o:HO}:upd H a o a=aa o:=by unfold upd;rw[a8 rfl]
theorem aN{H:Hp}{a b:ag}{o:HO}(h:b≠a):upd H a o b=H b:=by unfold upd;rw[be h]
theorem Pk{H:Hp}{a b:ag}{o u:HO}(h:H a=aa o)(h':H b=aa u)(d:o≠u):a≠b:=by intro e;subst e;rw[h]at h';exact d (fM h')
theorem dz{H:Hp}{a b:ag}{o:HO}(h:H a=aa o)(h':H b=ac):a≠b:=by intro e;subst e;rw[h]at h';cases h'
section
variable(P:bt)(w:a9)
def cF(H:Hp)(h:aL)(a:ag):HO->Prop
 |.lst xs=>xs.length<=sizeLine/\∃(aq:List ah) (n:Nat),Vals xs aq/\h.get? a=aa { cls:=.type "list", data:=.seq aq.toArray n }
 |.tup xs=>xs.length<=sizeLine/\∃aq:List ah,Vals xs aq/\pB h a aq.toArray
 |.dK ak=>ak.length<=sizeLine/\(a==sysModules)=false/\∃vs,KV ak vs/\h.DictOf (gC P w) a vs
 | .dT ak=>ak.length<=sizeLine/\(a==sysModules)=false/\∃xs:List (List Key×ag×ah),
  mB (λ(p:List Key×V) (q:List Key×ag×ah)=>p.1=q.1/\H q.2.1=aa (.tup (p.1.map kV))/\RelV p.2 q.2.2) ak xs /\
  ∃o es ep,h.get? a=aa o/\o.ExactDict/\o.data=.dict es ep/\es.toList=xs.map (entryOfKey (tupleKind (gC P w)))/\(xs.map (·.1)).Nodup
 |.set S n=>h.SetOf (intKind P w) a S n
 | .ins C dx fs=>H dx=aa (.own a)/\fs.length<=1000/\dx≠a/\h.get? a=aa (zF C dx) /\
  ∃mA,h.Ns1 dx mA/\(∀f,mM (fs.lookup f) (mA f))/\PySem.Within mA (fs.map (·.1))
 |.own _=>∃o,h.get? a=aa o
 |.xd fs=>∃mA,h.Ns1 a mA/\∀f,mM (fs.lookup f) (mA f)
 |.rng lo hi=>∃t u v,h.get? a=aa { cls:=.type "range", data:=.fields #[.int lo t,.int hi u,.int 1 v] }
 |.frz o u=>h.get? a=aa o/\cF H h a u
 |.tbl _ ps=>h.get? a=aa { cls:=.none,data:=.fields ps }
 |.met f x=>h.get? a=aa (zE (.ref f) (.ref x))
 |.ext φ=>φ h/\(∃o,h.get? a=aa o)/\∀h1 h2:aL,φ h1->(∀o,h1.get? a=aa o->h2.get? a=aa o)->φ h2
def cv(H:Hp)(h:aL):Prop:=∀a o,H a=aa o->cF P w H h a o
end
section
variable{P:bt}{w:a9}{H H':Hp}{h h':aL}{a:ag}{o:HO}
theorem cF.lt(x:cF P w H h a o):a<h.objs.size:=by
 cases o with
 |lst xs=>obtain⟨_,_,_,_,e⟩:=x;exact bX e
 |tup xs=>obtain⟨_,_,_,p⟩:=x;exact p.tup.lt
 |dK ak=>obtain⟨_,_,_,_,o,_,_,e,_⟩:=x;exact bX e
 |dT ak=>obtain⟨_,_,_,_,o,_,_,e,_⟩:=x;exact bX e
 |set S n=>obtain⟨o,_,_,_,e,_⟩:=x;exact bX e
 |ins C dx fs=>obtain⟨_,_,_,e,_⟩:=x;exact bX e
 |own y=>obtain⟨_,e⟩:=x;exact bX e
 |xd fs=>obtain⟨_,⟨_,_,_,e,_⟩,_⟩:=x;exact bX e
 |rng lo hi=>obtain⟨_,_,_,e⟩:=x;exact bX e
 |frz ob u=>obtain⟨e,_⟩:=x;exact bX e
 |tbl w ps=>exact bX (show h.get? a=aa _ from x)
 |met f y=>exact bX (show h.get? a=aa _ from x)
 |ext φ=>obtain⟨_,⟨_,e⟩,_⟩:=x;exact bX e
theorem Paired.yK{α β:Type}{F G:α->β->Prop}:∀{l₁:List α} {l₂:List β},mB F l₁ l₂->(∀a b,F a b->G a b)->mB G l₁ l₂
 |_,_,.nil,_=>.nil
 |_,_,.cons r t,f=>.cons (f _ _ r) (Paired.yK t f)
theorem cF.stay(x:cF P w H h a o)(k:∀b u,(b=a\/H b=aa (.own a))->h.get? b=aa u->h'.get? b=aa u)
 (ho:∀b,H b=aa (.own a)->H' b=aa (.own a)) (ht:∀b xs,H b=aa (.tup xs)->H' b=aa (.tup xs)):cF P w H' h' a o:=by
 induction o with
 |lst xs=>obtain⟨z,aq,n,r,e⟩:=x;exact⟨z,aq,n,r,k _ _ (.inl rfl) e⟩
 |tup xs=>obtain⟨z,aq,r,ob,e,c⟩:=x;exact⟨z,aq,r,ob,k _ _ (.inl rfl) e,c⟩
 |dK ak=>obtain⟨z,y,vs,r,ob,es,ep,e,c⟩:=x;exact⟨z,y,vs,r,ob,es,ep,k _ _ (.inl rfl) e,c⟩
 |dT ak=>
  obtain⟨z,y,xs,r,ob,es,ep,e,c⟩:=x;exact⟨z,y,xs,Paired.yK r λp q z=>⟨z.1,ht _ _ z.2.1,z.2.2⟩,ob,es,ep,k _ _ (.inl rfl) e,c⟩
 |set S n=>obtain⟨ob,es,ep,t,e,c⟩:=x;exact⟨ob,es,ep,t,k _ _ (.inl rfl) e,c⟩
 |ins C dx fs=>
  obtain⟨d,z,ne,e,mA,⟨od,es,ep,e2,c⟩,r⟩:=x;exact⟨ho _ d,z,ne,k _ _ (.inl rfl) e,mA,⟨od,es,ep,k _ _ (.inr d) e2,c⟩,r⟩
 |own y=>obtain⟨ob,e⟩:=x;exact⟨ob,k _ _ (.inl rfl) e⟩
 |xd fs=>obtain⟨mA,⟨od,es,ep,e,c⟩,r⟩:=x;exact⟨mA,⟨od,es,ep,k _ _ (.inl rfl) e,c⟩,r⟩
 |rng lo hi=>obtain⟨t,u,v,e⟩:=x;exact⟨t,u,v,k _ _ (.inl rfl) e⟩
 |frz ob u ih=>obtain⟨e,q⟩:=x;exact⟨k _ _ (.inl rfl) e,ih q⟩
 |tbl w ps=>
  have e:h.get? a=aa { cls:=.none,data:=.fields ps }:=x;show h'.get? a=aa { cls:=.none,data:=.fields ps };exact k a _ (.inl rfl) e
 |met f y=>
  have e:h.get? a=aa (zE (.ref f) (.ref y)):=x;show h'.get? a=aa (zE (.ref f) (.ref y));exact k a _ (.inl rfl) e
 |ext φ=>obtain⟨p,⟨o,e⟩,st⟩:=x;exact⟨st _ _ p λo q=>k _ _ (.inl rfl) q,⟨o,k _ _ (.inl rfl) e⟩,st⟩
theorem cv.lt(x:cv P w H h)(e:H a=aa o):a<h.objs.size:=(x a o e).lt
theorem cv.fresh(x:cv P w H h)(e:h.objs.size<=a):H a=ac:=by
 cases q:H a with
 |none=>rfl
 |some u=>exact absurd (fK (x.lt q) e) (ki _)
theorem cv.kept(x:cv P w H h)(k:∀b u,h.get? b=aa u->h'.get? b=aa u):cv P w H h':=λa o e=>
 (x a o e).stay (λb u _ q=>k b u q) (λ_ q=>q) λ_ _ q=>q
theorem cv.laid(x:cv P w H h)(k:∀b u,h.get? b=aa u->h'.get? b=aa u)(hp:h.objs.size<=a)(new:cF P w (upd H a o) h' a o):cv P w (upd H a o) h':=λb u e=>by
 have hn:=x.fresh hp;by_cases hb:b=a
 ·subst hb;rw[bG]at e;cases e;exact new
 ·rw[aN hb]at e;exact(x b u e).stay (λc v _ q=>k c v q) (λc q=>by rw[aN (dz q hn)];exact q) λc xs q=>by rw[aN (dz q hn)];exact q
end
def Rd(H:Hp)(a:ag)(u:HO):Prop:=H a=aa u\/∃o,H a=aa (.frz o u)
theorem Rd.ok{P:bt}{w:a9}{H:Hp}{h:aL}{a:ag}{u:HO}(r:Rd H a u)(x:cv P w H h):cF P w H h a u:=by
 rcases r with r|⟨o,r⟩
 ·exact x a u r
 ·obtain⟨_,q⟩:=x a _ r;exact q
def rD:Option HO->Prop
 |some (.lst _)=>True
 |some (.dK _)=>True
 |some (.dT _)=>True
 |some (.set _ _)=>True
 |some (.ins _ _ _)=>True
 |some (.ext _)=>True
 |_=>False
section
variable{P:bt}{w:a9}{H:Hp}{h h':aL}{x e:ag}{o':HO}
theorem cv.write(ok:cv P w H h)(mu:rD (H x))(he:e=x\/H e=aa (.own x))(k:∀b u,b≠e->h.get? b=aa u->h'.get? b=aa u)(heo:∃u,h'.get? e=aa u)
 (new:cF P w (upd H x o') h' x o'):cv P w (upd H x o') h':=λb u q=>by
 have HI:∀c y,H c=aa (.own y)->c≠x:=λc y r z=>by subst z;rw[r]at mu;exact mu
 have PZ:∀c xs,H c=aa (.tup xs)->c≠x:=λc xs r z=>by subst z;rw[r]at mu;exact mu
 by_cases hb:b=x
 ·subst hb;rw[bG]at q;cases q;exact new
 ·rw[aN hb]at q;by_cases hbe:b=e
  ·have q':H b=aa (.own x):=by
    rcases he with z|z
    ·exact absurd (hbe.trans z) hb
    ·rw[hbe];exact z
   rw[q]at q';cases q';obtain⟨v,hv⟩:=heo;exact⟨v,by rw[hbe];exact hv⟩
  ·refine(ok b u q).stay (λc v hc r=>k c v ?_ r) (λc r=>by rw[aN (HI c b r)];exact r) λc xs r=>by rw[aN (PZ c xs r)];exact r
   rcases hc with rfl|hc
   ·exact hbe
   ·rintro rfl;rcases he with z|z
    ·exact HI c b hc z
    ·rw[hc]at z;cases z;exact hb rfl
end
structure Un(fs ex:List ag)(H H':Hp)(h h':aL):Prop where
 keep:∀b o,h.get? b=aa o->H b=ac->b∉fs->b∉ex->h'.get? b=aa o
 slot:∀b o,h.get? b=aa o->H b=ac->b∈fs->b∉ex->∃sl,h'.get? b=aa { o with slots:=sl }
 free:∀b o,h.get? b=aa o->H b=ac->b∉ex->H' b=ac
 there:∀b o,h.get? b=aa o->b∉ex->∃o',h'.get? b=aa o'
 tups:∀b xs,H b=aa (.tup xs)->H' b=aa (.tup xs)
 i8:∀b o u,H b=aa (.frz o u)->H' b=aa (.frz o u)
 i9:∀b w ps,H b=aa (.tbl w ps)->∃more,H' b=aa (.tbl w (ps++more))
section
variable{fs fs' ex ex':List ag}{H H1 H2:Hp}{h h1 h2 h':aL}{a x e:ag}{o:HO}
theorem Un.any(u:Un fs ex H H1 h h1){b:ag}{ob:Obj}(q:h.get? b=aa ob)(n:H b=ac)(hx:b∉ex):∃sl,h1.get? b=aa { ob with slots:=sl }:=by
 by_cases hb:b∈fs
 ·exact u.slot b ob q n hb hx
 ·exact⟨ob.slots,u.keep b ob q n hb hx⟩
theorem Un.kept(k:∀b u,h.get? b=aa u->h'.get? b=aa u):Un fs ex H H h h':=⟨λb ob q _ _ _=>k b ob q,λb ob q _ _ _=>⟨ob.slots,k b ob q⟩,λ_ _ _ n _=>n,λb ob q _=>⟨ob,k b ob q⟩,λ_ _ q=>q,λ_ _ _ q=>q,λ_ w ps q=>⟨#[],by rw[q];simp⟩⟩
theorem Un.refl:Un fs ex H H h h:=Un.kept λ_ _ q=>q
theorem Un.laid(k:∀b u,h.get? b=aa u->h'.get? b=aa u)(hp:h.objs.size<=a)(hn:H a=ac):Un fs ex H (upd H a o) h h' where
 keep:=λb u q _ _ _=>k b u q
 slot:=λb u q _ _ _=>⟨u.slots,k b u q⟩
 free:=λb u q n _=>by rw[aN (fY (fK (bX q) hp))];exact n
 there:=λb u q _=>⟨u,k b u q⟩
 tups:=λb xs q=>by rw[aN (dz q hn)];exact q
 i8:=λb u xs q=>by rw[aN (dz q hn)];exact q
 i9:=λb w ps q=>⟨#[],by rw[aN (dz q hn),q];simp⟩
theorem Un.write(mu:rD (H x))(he:e=x\/H e=aa (.own x))(k:∀b u,b≠e->h.get? b=aa u->h'.get? b=aa u)(heo:∃u,h'.get? e=aa u):Un fs ex H (upd H x o) h h':=by
 have hx:∀b,H b=ac->b≠x:=λb n z=>by subst z;rw[n]at mu;exact mu
 have hb:∀b,H b=ac->b≠e:=λb n z=>by
  subst z;rcases he with r|r
  ·exact hx b n r
  ·rw[n]at r;cases r
 have hm:∀b u,H b=aa u->¬ rD (aa u)->b≠x:=λb u q nm z=>by subst z;rw[q]at mu;exact nm mu
 refine⟨λb u q n _ _=>k b u (hb b n) q,λb u q n _ _=>⟨u.slots,k b u (hb b n) q⟩,λb u q n _=>by rw[aN (hx b n)];exact n,λb u q _=>?_,
  λb xs q=>by rw[aN (hm b _ q λz=>z)];exact q,λb u xs q=>by rw[aN (hm b _ q λz=>z)];exact q,λb w ps q=>⟨#[],by rw[aN (hm b _ q λz=>z),q];simp⟩⟩
 by_cases hbe:b=e
 ·subst hbe;exact heo
 ·exact⟨u,k b u hbe q⟩
end
def vd(h:aL)(H:Hp):List ag:=(cI h.objs.size).filter λa=>(H a).isSome
def jR(h:aL)(H:Hp):aL:=PySem.W.hideAll h (vd h H)
theorem OU(h:aL)(H:Hp):(jR h H).objs.size=h.objs.size:=PySem.W.hideAll_size _ _
theorem JB{h:aL}{H:Hp}{b:ag}{o:Obj}(e:h.get? b=aa o)(n:H b=ac):(jR h H).get? b=aa o:=
 PySem.W.hideAll_get _ e λhm=>by
  have q:(H b).isSome=true:=(eV.mp hm).2;rw[n]at q;simp at q
theorem O3{h:aL}{H:Hp}{b:ag}{o:Obj}(e:(jR h H).get? b=aa o):h.get? b=aa o/\H b=ac:=by
 have e':h.get? b=aa o:=PySem.W.of_hideAll (vd h H) e;refine⟨e',?_⟩;cases q:H b with
 |none=>rfl
 |some x=>
  have hm:b∈vd h H:=eV.mpr ⟨gF.mpr (bX e'),by simp[q]⟩;have z:(jR h H).get? b=ac:=PySem.W.hideAll_none (vd h H) hm;rw[z]at e;cases e
structure Mod(K:aI)(mg:Str->Option ah)(base:aL):Prop where
 kin:K.In base
 glob:base.Ns mainGlobals mg
 blt:∃mb,base.Ns builtinsNs mb/\∀x:Str,x ≠ "__name__" -> mb x=bootBuiltins x
 nolimit:base.NoLimit
structure Cx where
 prog:bt
 w:a9
 K:aI
 mg:Str->Option ah
 base:aL
 A:bH
 N:List Str
 s₀:aw
 H₀:Hp
 env:Env
 outer:List Env
 stack:List Env
 ex:List ag
 fn:Str->Bool
 calm:Bool
 pn:List (ag×Obj)
 xe:ah->aw->Prop
def frs(l:List Env):List ag:=l.filterMap (·.frame)
abbrev Cx.fs(X:Cx):List ag:=frs X.outer
def rR(sc:dJ)(x:Str):Prop:=sc.names.lookup x=aa .local\/sc.names.lookup x=aa .cell\/sc.names.lookup x=aa .free
def Loc(sc:dJ)(x:Str):Prop:=sc.names.lookup x=aa .local\/sc.names.lookup x=aa .cell
def Look(env:Env)(h:aL)(m:Str->Option ah)(x:Str)(u:ah):Prop:=(env.kindOf x=aa .local/\m x=aa u)\/((env.kindOf x=aa .cell\/env.kindOf x=aa .free)/\∃c,env.cells.lookup x=aa c/\h.IsCell c (aa u))
structure Cx.Ok(X:Cx):Prop where
 mod:Mod X.K X.mg X.base
 kind:X.env.scope.kind=.function
 glob:X.env.globals=mainGlobals
 blt:X.env.builtins=builtinsNs
 above:X.s₀.heap.objs.size<=X.env.locals
 inj:∀x y c,X.env.cells.lookup x=aa c->X.env.cells.lookup y=aa c->x=y
 has:∀x,(X.env.kindOf x=aa .cell\/X.env.kindOf x=aa .free)->∃c,X.env.cells.lookup x=aa c
 cab:∀x c,X.fn x=true->X.env.cells.lookup x=aa c->X.s₀.heap.objs.size<=c
 hd:X.calm=true->X.A.handled=ac
 frames:X.A.frames=aa X.stack
 stk:X.stack=X.outer\/(X.stack=X.env::X.outer/\X.env.frame=aa X.env.locals)
 exf:∀b∈X.ex,b≠X.env.locals/\∀x c,X.env.cells.lookup x=aa c->c≠b
 bs:∀b o,X.base.get? b=aa o->X.s₀.heap.get? b=aa o/\X.H₀ b=ac
 bsz:X.base.objs.size<=X.s₀.heap.objs.size
 nW:∀b o,X.base.get? b=aa o->b∉X.ex
 qf:∀b∈X.ex,b∉X.fs
 fF:X.s₀.heap.FunFrames X.base X.outer
 frf:∀b∈X.fs,X.H₀ b=ac
structure Inv(X:Cx)(af:List (ag×Obj))(σ:List (Option V))(H:Hp)(s:aw):Prop where
 ok:X.Ok
 os:s.os=X.s₀.os
 bare:kW s.gens
 base:Un X.fs X.ex X.H₀ H X.s₀.heap s.heap
 loc:∃m,s.heap.Ns X.env.locals m/\∀(i:Nat) (x:Str) (v:V),X.N[i]? = aa x->σ[i]? = aa (aa v)->rR X.env.scope x->∃u,RelV v u/\Look X.env s.heap m x u
 cell:∀x c,X.env.cells.lookup x=aa c->∃v,s.heap.IsCell c v
 free:H X.env.locals=ac
 gG:∀x c,X.env.cells.lookup x=aa c->H c=ac
 pin:∀p∈X.pn++af,s.heap.get? p.1=aa p.2/\H p.1=ac/\p.1≠X.env.locals/\p.1∉X.fs/\∀v,p.2.data≠.cell v
 hok:cv X.prog X.w H s.heap
 len:σ.length=X.N.length
section
variable{X:Cx}{af:List (ag×Obj)}{σ:List (Option V)}{H H':Hp}{s:aw}{h':aL}
theorem Cx.Ok.Ms(ok:X.Ok){b:ag}{o:Obj}(e:X.base.get? b=aa o):b∉X.fs:=λhb=>by
 have:=(ok.fF.mem hb).1;rw[e]at this;cases this
theorem Inv.bs(I:Inv X af σ H s):∀b o,X.base.get? b=aa o->s.heap.get? b=aa o/\H b=ac:=λb o e=>
 ⟨I.base.keep b o (I.ok.bs b o e).1 (I.ok.bs b o e).2 (I.ok.Ms e) (I.ok.nW b o e),I.base.free b o (I.ok.bs b o e).1 (I.ok.bs b o e).2 (I.ok.nW b o e)⟩
theorem Inv.bk(I:Inv X af σ H s):∀b o,X.base.get? b=aa o->s.heap.get? b=aa o:=λb o e=>(I.bs b o e).1
theorem Inv.mod(I:Inv X af σ H s):Mod X.K X.mg X.base:=I.ok.mod
theorem Inv.dX(I:Inv X af σ H s):X.K.In s.heap:=I.ok.mod.kin.keeps I.bk
theorem Inv.lt(I:Inv X af σ H s):X.env.locals<s.heap.objs.size:=let ⟨_,hn,_⟩:=I.loc;hn.lt
theorem Inv.sz(I:Inv X af σ H s):X.s₀.heap.objs.size<=s.heap.objs.size:=eW I.ok.above (wm I.lt)
theorem Inv.Mx(I:Inv X af σ H s){a:ag}(h:s.heap.objs.size<=a):a∉X.fs:=λhb=>by
 obtain⟨_,o,ho,_⟩:=I.ok.fF.mem hb;exact absurd (fK (bX ho) (eW I.sz h)) (ki _)
theorem Inv.kH(I:Inv X af σ H s):∀x c,X.env.cells.lookup x=aa c->c≠X.env.locals:=λx c e z=>by
 obtain⟨v,o,ho,hd⟩:=I.cell x c e;obtain⟨m,⟨o',es,ep,ho',hd',_⟩,_⟩:=I.loc;rw[z,ho']at ho;cases ho;rw[hd']at hd;cases hd
theorem Inv.fF(I:Inv X af σ H s):s.heap.FunFrames X.base X.outer:=by
 have all:∀(l:List Env),(∀b∈frs l,b∈X.fs)->X.s₀.heap.FunFrames X.base l->s.heap.FunFrames X.base l:=by
  intro l
  induction l with
  |nil=>intro _ _;trivial
  |cons env r ih=>
   intro hs hl;obtain⟨hk,⟨L,o,hf,hn,ho,hd⟩,hr⟩:=hl;have hL:L∈X.fs:=hs L (by unfold frs;rw[zO,hf];exact dS);obtain⟨sl,e⟩:=I.base.slot L o ho (I.ok.frf L hL) hL λz=>I.ok.qf L z hL;exact⟨hk,⟨L,_,hf,hn,e,hd⟩,ih (λb hb=>hs b (by unfold frs;rw[zO,hf];exact eP _ hb)) hr⟩
 exact all X.outer (λ_ hb=>hb) I.ok.fF
theorem Inv.stack(I:Inv X af σ H s):s.heap.FunFrames X.base X.stack:=by
 rcases I.ok.stk with e|⟨e,hf⟩
 ·rw[e];exact I.fF
 ·rw[e];obtain⟨m,hn,_⟩:=I.loc;refine .cons (by rw[I.ok.kind];decide) hf hn ?_ I.fF;exact Heap.get?_none_of_le (eW I.ok.bsz I.ok.above)
theorem Inv.rB(I:Inv X af σ H s):∀b∈frs X.stack,b∈X.env.locals::X.fs:=λb hb=>by
 rcases I.ok.stk with e|⟨e,hf⟩
 ·rw[e]at hb;exact eP _ hb
 ·rw[e]at hb;unfold frs at hb;rw[zO,hf]at hb;exact hb
theorem Inv.uP(I:Inv X af σ H s):∀b∈frs X.stack,H b=ac:=λb hb=>by
 rcases cS.mp (I.rB b hb)with e|hb
 ·rw[e];exact I.free
 ·obtain⟨_,o,ho,_⟩:=I.ok.fF.mem hb;exact I.base.free b o ho (I.ok.frf b hb) λz=>I.ok.qf b z hb
theorem Inv.step{g':Array GenState}{t':Nat}{d':Drawn}{ch:List ag}(I:Inv X af σ H s)
 (hch:∀b∈ch,(b∈X.ex\/X.s₀.heap.objs.size<=b)/\b≠X.env.locals/\(∀x c,X.env.cells.lookup x=aa c->c≠b)/\∀p∈X.pn++af,p.1≠b)
 (keep:∀b o,b≠X.env.locals->b∉X.fs->b∉ch->s.heap.get? b=aa o->H b=ac->h'.get? b=aa o)
 (slot:∀b o,b≠X.env.locals->b∈X.fs->b∉ch->s.heap.get? b=aa o->H b=ac->∃sl,h'.get? b=aa { o with slots:=sl }) (free:∀b o,b∉ch->s.heap.get? b=aa o->H b=ac->H' b=ac)
 (there:∀b o,b∉ch->s.heap.get? b=aa o->∃o',h'.get? b=aa o')
 (tups:∀b xs,H b=aa (.tup xs)->H' b=aa (.tup xs)) (i8:∀b o u,H b=aa (.frz o u)->H' b=aa (.frz o u)) (i9:∀b w ps,H b=aa (.tbl w ps)->∃more,H' b=aa (.tbl w (ps++more)))
 (ns:∀m,s.heap.Ns X.env.locals m->h'.Ns X.env.locals m) (hok:cv X.prog X.w H' h') (hg:kW g') :
 Inv X af σ H' { s with heap:=h',gens:=g',drawn:=d',toks:=t' }:=by
 have neL:∀b o,X.s₀.heap.get? b=aa o->b≠X.env.locals:=λb o e=>fY (fK (bX e) I.ok.above);have neC:∀b o,X.s₀.heap.get? b=aa o->b∉X.ex->b∉ch:=λb o e hx hb=>by
  rcases(hch b hb).1 with z|z
  ·exact hx z
  ·exact absurd (fK (bX e) z) (ki _)
 have cellK:∀x c,X.env.cells.lookup x=aa c->∀v,s.heap.IsCell c v->h'.IsCell c v:=λx c e v ⟨o,ho,hd⟩=>by
  have nch:c∉ch:=λz=>(hch c z).2.2.1 x c e rfl;by_cases hc:c∈X.fs
  ·obtain⟨sl,q⟩:=slot c o (I.kH x c e) hc nch ho (I.gG x c e);exact⟨_,q,hd⟩
  ·exact⟨o,keep c o (I.kH x c e) hc nch ho (I.gG x c e),hd⟩
 refine⟨I.ok,I.os,hg,⟨λb o e n hb hx=>?_,λb o e n hb hx=>?_,λb o e n hx=>?_,λb o e hx=>?_,λb xs e=>tups b xs (I.base.tups b xs e),λb o xs e=>i8 b o xs (I.base.i8 b o xs e),λb w ps e=>?_⟩,?_,λx c e=>?_,?_,λx c e=>?_,λp hp=>?_,hok,I.len⟩
 ·exact keep b o (neL b o e) hb (neC b o e hx) (I.base.keep b o e n hb hx) (I.base.free b o e n hx)
 ·obtain⟨sl,e1⟩:=I.base.slot b o e n hb hx;obtain⟨sl',e2⟩:=slot b _ (neL b o e) hb (neC b o e hx) e1 (I.base.free b o e n hx);exact⟨sl',e2⟩
 ·obtain⟨o',e1⟩:=I.base.there b o e hx;exact free b o' (neC b o e hx) e1 (I.base.free b o e n hx)
 ·obtain⟨o',e1⟩:=I.base.there b o e hx;exact there b o' (neC b o e hx) e1
 ·obtain⟨m1,e1⟩:=I.base.i9 b w ps e;obtain⟨m2,e2⟩:=i9 b w _ e1;exact⟨m1++m2,by rw[e2,Array.append_assoc]⟩
 ·obtain⟨m,hn,hl⟩:=I.loc;refine⟨m,ns m hn,λi x v e1 e2 e3=>?_⟩;obtain⟨u,r,l⟩:=hl i x v e1 e2 e3;refine⟨u,r,?_⟩;rcases l with l|⟨k,c,e,z⟩
  ·exact .inl l
  ·exact .inr ⟨k,c,e,cellK x c e _ z⟩
 ·obtain⟨v,z⟩:=I.cell x c e;exact⟨v,cellK x c e v z⟩
 ·obtain⟨m,⟨o,_,_,ho,_⟩,_⟩:=I.loc;exact free _ o (λz=>(hch _ z).2.1 rfl) ho I.free
 ·obtain⟨v,o,ho,hd⟩:=I.cell x c e;exact free c o (λz=>(hch c z).2.2.1 x c e rfl) ho (I.gG x c e)
 ·obtain⟨e,n,ne,nf,d⟩:=I.pin p hp;have nch:p.1∉ch:=λz=>(hch p.1 z).2.2.2 p hp rfl;exact⟨keep p.1 p.2 ne nf nch e n,free p.1 p.2 nch e n,ne,nf,d⟩
theorem Inv.un{t':Nat}(I:Inv X af σ H s)(u:Un X.fs [] H H' s.heap h')(hok:cv X.prog X.w H' h'):Inv X af σ H' { s with heap:=h',toks:=t' }:=by
 obtain⟨m,⟨o,es,ep,ho,r⟩,_⟩:=id I.loc;obtain⟨sl,hL⟩:=u.any ho I.free (by simp);exact I.step (g':=s.gens) (d':=s.drawn) (ch:=[]) (λ_ z=>nomatch z) (λb o _ hb _ e n=>u.keep b o e n hb (by simp)) (λb o _ hb _ e n=>u.slot b o e n hb (by simp)) (λb o _ e n=>u.free b o e n (by simp)) (λb o _ e=>u.there b o e (by simp)) u.tups u.i8 u.i9 (λm' hm=>by
  obtain⟨o',es',ep',ho',r'⟩:=hm;rw[ho]at ho';cases ho';exact⟨_,es',ep',hL,r'⟩) hok I.bare
theorem Inv.call{g':Array GenState}{t':Nat}{d':Drawn}{ch:List ag}(I:Inv X af σ H s)(u:Un (frs X.stack) ch H H' s.heap h')(hok:cv X.prog X.w H' h')(hg:kW g')
 (hch:∀b∈ch,(b∈X.ex\/X.s₀.heap.objs.size<=b)/\b≠X.env.locals/\(∀x c,X.env.cells.lookup x=aa c->c≠b)/\∀p∈X.pn++af,p.1≠b) :
 Inv X af σ H' { s with heap:=h',gens:=g',drawn:=d',toks:=t' }:=by
 obtain⟨m,⟨o,es,ep,ho,r⟩,_⟩:=id I.loc;obtain⟨sl,hL⟩:=u.any ho I.free λz=>(hch _ z).2.1 rfl;exact I.step (ch:=ch) hch (λb o hL hb hc e n=>u.keep b o e n (λz=>(cS.mp (I.rB b z)).elim hL hb) hc) (λb o _ _ hc e n=>u.any e n hc) (λb o hc e n=>u.free b o e n hc) (λb o hc e=>u.there b o e hc) u.tups u.i8 u.i9 (λm' hm=>by
  obtain⟨o',es',ep',ho',r'⟩:=hm;rw[ho]at ho';cases ho';exact⟨_,es',ep',hL,r'⟩) hok hg
theorem Inv.turned{t':Nat}{it:ag}(I:Inv X af σ H s)(k:∀b o,b≠it->s.heap.get? b=aa o->h'.get? b=aa o)(hn:H it=ac)(hL:it≠X.env.locals)
 (h1:it∈X.ex\/X.s₀.heap.objs.size<=it) (h2:∀x c,X.env.cells.lookup x=aa c->c≠it) (h3:∀p∈X.pn++af,p.1≠it):Inv X af σ H { s with heap:=h',toks:=t' }:=by
 have nit:∀b u,H b=aa u->b≠it:=λb u e z=>by rw[z,hn]at e;cases e
 refine I.step (g':=s.gens) (d':=s.drawn) (ch:=[it]) (λb hb=>?_) (λb o _ _ hc e _=>k b o (λz=>hc (by simp[z])) e) (λb o _ _ hc e _=>⟨o.slots,k b o (λz=>hc (by simp[z])) e⟩) (λ_ _ _ _ n=>n)
  (λb o hc e=>⟨o,k b o (λz=>hc (by simp[z])) e⟩) (λ_ _ e=>e) (λ_ _ _ e=>e) (λb w ps e=>⟨#[],by rw[e];simp⟩) (λm hm=>?_) (λb u e=>?_) I.bare
 ·have e:b=it:=by simpa using hb
  subst e;exact⟨h1,hL,h2,h3⟩
 ·obtain⟨o,es,ep,ho,r⟩:=hm;exact⟨o,es,ep,k _ o (dO hL) ho,r⟩
 ·refine(I.hok b u e).stay (λc v hc q=>k c v ?_ q) (λ_ q=>q) λ_ _ q=>q;rcases hc with z|z
  ·rw[z];exact nit b u e
  ·exact nit c _ z
theorem Inv.tok(I:Inv X af σ H s)(t:Nat):Inv X af σ H { s with toks:=t }:=I.un (h':=s.heap) (t':=t) Un.refl I.hok
theorem Inv.kept{t':Nat}(I:Inv X af σ H s)(k:∀b u,s.heap.get? b=aa u->h'.get? b=aa u):Inv X af σ H { s with heap:=h',toks:=t' }:=I.un (Un.kept k) (I.hok.kept k)
theorem Inv.laid{a:ag}{o:HO}{t':Nat}(I:Inv X af σ H s)(k:∀b u,s.heap.get? b=aa u->h'.get? b=aa u)(hp:s.heap.objs.size<=a)(new:cF X.prog X.w (upd H a o) h' a o) :
 Inv X af σ (upd H a o) { s with heap:=h',toks:=t' }:=I.un (Un.laid k hp (I.hok.fresh hp)) (I.hok.laid k hp new)
theorem Inv.write{x e:ag}{o:HO}{t':Nat}(I:Inv X af σ H s)(mu:rD (H x))(he:e=x\/H e=aa (.own x))(k:∀b u,b≠e->s.heap.get? b=aa u->h'.get? b=aa u)(heo:∃u,h'.get? e=aa u)
 (new:cF X.prog X.w (upd H x o) h' x o):Inv X af σ (upd H x o) { s with heap:=h',toks:=t' }:=I.un (Un.write mu he k heo) (I.hok.write mu he k heo new)
theorem Inv.weak{σ':List (Option V)}(I:Inv X af σ H s)(hl:σ'.length = σ.length)(w:∀(i:Nat) v,σ'[i]? = aa (aa v)->σ[i]? = aa (aa v)):Inv X af σ' H s:=⟨I.ok,I.os,I.bare,I.base,let ⟨m,hn,hl'⟩:=I.loc;⟨m,hn,λi x v e1 e2 e3=>hl' i x v e1 (w i v e2) e3⟩,I.cell,I.free,I.gG,I.pin,I.hok,hl.trans I.len⟩
theorem Inv.x9{qg:List (ag×Obj)}(I:Inv X af σ H s)(h:∀p∈qg,s.heap.get? p.1=aa p.2/\H p.1=ac/\p.1≠X.env.locals/\p.1∉X.fs/\∀v,p.2.data≠.cell v):Inv X qg σ H s:=⟨I.ok,I.os,I.bare,I.base,I.loc,I.cell,I.free,I.gG,λp hp=>(da.mp hp).elim (λz=>I.pin p (fe _ z)) (h p),I.hok,I.len⟩
theorem y8{N:List Str}(hN:N.Nodup){i j:Nat}{x:Str}(a:N[i]? = aa x)(b:N[j]? = aa x):i=j:=by obtain⟨h1,e1⟩:=dG.mp a;obtain⟨h2,e2⟩:=dG.mp b;exact(pV hN).mp (e1.trans e2.symm)
theorem FS{M:Model}{A:bH}{E:ah->aw->Prop}{i:Nat}{x:Str}{v:V}{u:ah}{Q:Unit->aw->Prop}(I:Inv X af σ H s)(hN:X.N.Nodup)(hi:X.N[i]? = aa x)(hx:Loc X.env.scope x)(r:RelV v u)
 (h:∀s',Inv X af (σ.set i (aa v)) H s'->(∃a,sS a s.heap s'.heap/\(a=X.env.locals\/X.env.cells.lookup x=aa a))->Q () s') (hf:X.fn x=true\/X.env.scope.names.lookup x=aa .local:=by first|exact .inl rfl|exact .inr rfl|assumption):wpAny M A (storeName X.env x u) Q E s:=by
 obtain⟨m,hn,hl⟩:=id I.loc;have hcls:(X.env.scope.kind==.class||(X.env.scope.kind==.module&&X.env.locals != X.env.globals))=false:=by rw[I.ok.kind];rfl
 have hiσ:i < σ.length:=by rw[I.len];exact(dG.mp hi).1
 have kH:=I.kH;have tracked:∀{a:ag} {h':aL},(∃o,s.heap.get? a=aa o/\H a=ac)->sS a s.heap h'->cv X.prog X.w H h':=λ{a h'} ha hs b ob e=>by
  obtain⟨_,_,hfree⟩:=ha;refine(I.hok b ob e).stay (λc w' hc q=>(hs.2 c ?_).trans q) (λ_ q=>q) λ_ _ q=>q;rintro rfl;rcases hc with rfl|hc
  ·rw[hfree]at e;cases e
  ·rw[hfree]at hc;cases hc
 rcases hx with hk|hk
 ·refine wpAny_storeName_local hk hn (λh' hn' hs=>?_) hcls;obtain⟨oL,_,_,hoL,_⟩:=id hn;refine h _ ⟨I.ok,I.os,I.bare,⟨λb o e n hb hx=>?_,λb o e n hb hx=>?_,I.base.free,λb o e hx=>?_,I.base.tups,I.base.i8,I.base.i9⟩,⟨_,hn',λj y v' e1 e2 e3=>?_⟩,λy c e=>?_,I.free,I.gG,λp hp=>?_,tracked ⟨oL,hoL,I.free⟩ hs,by simpa using I.len⟩ ⟨_,hs,.inl rfl⟩
  ·exact(hs.2 b (fY (fK (bX e) I.ok.above))).trans (I.base.keep b o e n hb hx)
  ·obtain⟨sl,e1⟩:=I.base.slot b o e n hb hx;exact⟨sl,(hs.2 b (fY (fK (bX e) I.ok.above))).trans e1⟩
  ·obtain⟨o',e1⟩:=I.base.there b o e hx;exact⟨o',(hs.2 b (fY (fK (bX e) I.ok.above))).trans e1⟩
  ·by_cases hj:j=i
   ·subst hj;rw[hi]at e1;cases e1;rw[kP hiσ]at e2;cases e2;exact⟨u,r,.inl ⟨hk,by simp⟩⟩
   ·rw[eQ (dO hj)]at e2;obtain⟨u',r',q⟩:=hl j y v' e1 e2 e3;refine⟨u',r',?_⟩;rcases q with ⟨k,e⟩|⟨k,c,e,z⟩
    ·refine .inl ⟨k,?_⟩;have:y≠x:=λe=>hj (y8 hN e1 (e ▸ hi));simp[this,e]
    ·exact .inr ⟨k,c,e,z.sameBut hs (kH y c e)⟩
  ·obtain⟨w',z⟩:=I.cell y c e;exact⟨w',z.sameBut hs (kH y c e)⟩
  ·obtain⟨e,n,ne,nf,d⟩:=I.pin p hp;exact⟨(hs.2 p.1 ne).trans e,n,ne,nf,d⟩
 ·have hfn:X.fn x=true:=by
   rcases hf with z|z
   ·exact z
   ·rw[z]at hk;cases hk
  obtain⟨c,hc⟩:=I.ok.has x (.inl hk);obtain⟨w',z⟩:=I.cell x c hc;refine wpAny_storeName_cell I.ok.kind hk hc z (λh' hc' hs=>?_);obtain⟨oc,hoc,P0⟩:=id z;refine h { s with heap:=h' } ⟨I.ok,I.os,I.bare,⟨λb o e n hb hx=>?_,λb o e n hb hx=>?_,I.base.free,λb o e hx=>?_,I.base.tups,I.base.i8,I.base.i9⟩,⟨m,hn.sameBut hs (dO (kH x c hc)),λj y v' e1 e2 e3=>?_⟩,λy c' e=>?_,I.free,I.gG,λp hp=>?_,tracked ⟨oc,hoc,I.gG x c hc⟩ hs,by simpa using I.len⟩ ⟨c,hs,.inr hc⟩
  ·exact(hs.2 b (fY (fK (bX e) (I.ok.cab x c hfn hc)))).trans (I.base.keep b o e n hb hx)
  ·obtain⟨sl,e1⟩:=I.base.slot b o e n hb hx;exact⟨sl,(hs.2 b (fY (fK (bX e) (I.ok.cab x c hfn hc)))).trans e1⟩
  ·obtain⟨o',e1⟩:=I.base.there b o e hx;exact⟨o',(hs.2 b (fY (fK (bX e) (I.ok.cab x c hfn hc)))).trans e1⟩
  ·by_cases hj:j=i
   ·subst hj;rw[hi]at e1;cases e1;rw[kP hiσ]at e2;cases e2;exact⟨u,r,.inr ⟨.inl hk,c,hc,hc'⟩⟩
   ·rw[eQ (dO hj)]at e2;obtain⟨u',r',q⟩:=hl j y v' e1 e2 e3;refine⟨u',r',?_⟩;rcases q with q|⟨k,c',e,z'⟩
    ·exact .inl q
    ·refine .inr ⟨k,c',e,z'.sameBut hs ?_⟩;rintro rfl;exact hj (y8 hN e1 (I.ok.inj _ _ _ e hc ▸ hi))
  ·by_cases hcc:c'=c
   ·subst hcc;exact⟨_,hc'⟩
   ·obtain⟨w2,z2⟩:=I.cell y c' e;exact⟨w2,z2.sameBut hs hcc⟩
  ·obtain⟨e,n,ne,nf,d⟩:=I.pin p hp;refine⟨(hs.2 p.1 ?_).trans e,n,ne,nf,d⟩;intro q;rw[q,hoc]at e;have q':oc=p.2:=fM e;exact d w' (by rw[<- q'];exact P0)
theorem vF{M:Model}{A:bH}{E:ah->aw->Prop}{i:Nat}{x:Str}{v:V}{u:ah}{Q:Unit->aw->Prop}(I:Inv X af σ H s)(hN:X.N.Nodup)(hi:X.N[i]? = aa x)(hx:Loc X.env.scope x)(r:RelV v u)
 (h:∀s',Inv X af (σ.set i (aa v)) H s'->Q () s') (hf:X.fn x=true\/X.env.scope.names.lookup x=aa .local:=by first|exact .inl rfl|exact .inr rfl|assumption):wpAny M A (storeName X.env x u) Q E s:=
 FS I hN hi hx r (λs' I' _=>h s' I') hf
theorem Inv.call'{s':aw}{ch:List ag}(I:Inv X af σ H s)(ho:s'.os=s.os)(u:Un (frs X.stack) ch H H' s.heap s'.heap)(hok:cv X.prog X.w H' s'.heap)(hg:kW s'.gens)
 (hch:∀b∈ch,(b∈X.ex\/X.s₀.heap.objs.size<=b)/\b≠X.env.locals/\(∀x c,X.env.cells.lookup x=aa c->c≠b)/\∀p∈X.pn++af,p.1≠b):Inv X af σ H' s':=by
 obtain⟨h',g',d',t',o'⟩:=s';have e:o'=s.os:=ho;subst e;exact I.call (g':=g') (t':=t') (d':=d') u hok hg hch
end
abbrev XK:=ah->Option ag->Hp->Prop
abbrev St:=List (Option V)
abbrev VK:=V->Hp->Prop
abbrev TE:=St->Hp->VK->Prop
abbrev TT:=St->Hp->(Bool->Hp->Prop)->Prop
abbrev TA:=St->Hp->(List V->Hp->Prop)->Prop
structure Ends where
 nx:St->Hp->Prop
 rt:VK
 bk:St->Hp->Prop:=λ_ _=>False
 ct:St->Hp->Prop:=λ_ _=>False
abbrev TS:=Ends->St->Hp->Prop
def EP(X:Cx)(af:List (ag×Obj))(σ:St)(Q:VK)(u:ah)(s':aw):Prop:=∃v H',Inv X af σ H' s'/\RelV v u/\Q v H'
def TP(X:Cx)(af:List (ag×Obj))(σ:St)(Q:Bool->Hp->Prop)(b:Bool)(s':aw):Prop:=∃H',Inv X af σ H' s'/\Q b H'
def AP(X:Cx)(af:List (ag×Obj))(σ:St)(Q:List V->Hp->Prop)(us:List ah)(s':aw):Prop:=∃vs H',Inv X af σ H' s'/\Vals vs us/\Q vs H'
def SP(X:Cx)(af:List (ag×Obj))(D:Ends)(f:Flow)(s':aw):Prop:=
 match f with
 |.next=>∃σ' H',Inv X af σ' H' s'/\D.nx σ' H'
 |.brk=>∃σ' H',Inv X af σ' H' s'/\D.bk σ' H'
 |.cont=>∃σ' H',Inv X af σ' H' s'/\D.ct σ' H'
 |.ret u=>∃v σ' H',Inv X af σ' H' s'/\RelV v u/\D.rt v H'
def PE(X:Cx)(e:aW)(t:TE):Prop:=∀(af:List (ag×Obj)) (s:aw) (σ:St) (H:Hp) (Q:VK),Inv X af σ H s->t σ H Q->wpAny (model X.prog X.w) X.A (eval e X.env) (EP X af σ Q) X.xe s
def PT(X:Cx)(e:aW)(t:TT):Prop:=∀(af:List (ag×Obj)) (s:aw) (σ:St) (H:Hp) (Q:Bool->Hp->Prop),Inv X af σ H s->t σ H Q->wpAny (model X.prog X.w) X.A (isTrue e X.env (eval e X.env)) (TP X af σ Q) X.xe s
def PW(X:Cx)(e:aW)(t:TT):Prop:=∀(whole:Sem ah) (af:List (ag×Obj)) (s:aw) (σ:St) (H:Hp) (Q:Bool->Hp->Prop),Inv X af σ H s->t σ H Q->wpAny (model X.prog X.w) X.A (isTrue e X.env whole) (TP X af σ Q) X.xe s
theorem PW.pt{X:Cx}{e:aW}{t:TT}(h:PW X e t):PT X e t:=h _
def PA(X:Cx)(es:List aW)(t:TA):Prop:=∀(pos:Pos) (af:List (ag×Obj)) (s:aw) (σ:St) (H:Hp) (Q:List V->Hp->Prop),Inv X af σ H s->t σ H Q->wpAny (model X.prog X.w) X.A (spliced (backTo pos (starEach es X.env))) (AP X af σ Q) X.xe s
def PS(X:Cx)(st:bq)(t:TS):Prop:=∀(af:List (ag×Obj)) (s:aw) (σ:St) (H:Hp) (D:Ends),Inv X af σ H s->t D σ H->wpAny (model X.prog X.w) X.A (exec st X.env) (SP X af D) X.xe s
def eZ(X:Cx)(st:List bq)(t:TS):Prop:=∀(af:List (ag×Obj)) (s:aw) (σ:St) (H:Hp) (D:Ends),Inv X af σ H s->t D σ H->wpAny (model X.prog X.w) X.A (execs st X.env) (SP X af D) X.xe s
theorem a5{α:Type}{t:Sem α}{Q Q':α->aw->Prop}{M:Model}{A:bH}{E:ah->aw->Prop}{s:aw}(h:wpAny M A t Q E s)(hQ:∀a s,Q a s->Q' a s):wpAny M A t Q' E s:=g7 h hQ λ_ _ x=>x
section
variable{X:Cx}
def eB(i:Nat):TE:=λσ H Q=>∃v,σ[i]? = aa (aa v)/\Q v H
def tC(v:V):TE:=λ_ H Q=>Q v H
theorem KZ{i:Nat}{x:Str}{pos:Pos}(hN:X.N[i]? = aa x)(hv:rR X.env.scope x)(hd:(x==("__debug__" : Str))=false:=by decide)(hcd:(x==("__classdict__" : Str))=false:=by decide):PE X (.Name x pos) (eB i):=by
 intro af s σ H Q I h;obtain⟨v,e,h⟩:=h;obtain⟨m,hn,hl⟩:=I.loc;obtain⟨u,r,l⟩:=hl i x v hN e hv;have fin:EP X af σ Q u s:=⟨v,H,I,r,h⟩;rcases l with ⟨hk,hm⟩|⟨hk,c,hc,hcell⟩
 ·exact wpAny_Name (wpAny_loadName_local I.ok.kind hk hn hm fin) hd
 ·rcases hk with hk|hk
  ·exact wpAny_Name (wpAny_loadName_cell I.ok.kind hk hc hcell fin) hd
  ·exact wpAny_Name (wpAny_loadName_free I.ok.kind hk hc hcell fin hcd) hd
theorem aB{i j pos}:PE X (.Constant (.int i) j pos) (tC (.int i)):=λ_ _ _ H _ I h=>wpAny_Constant_int ⟨.int i,H,I.tok _,⟨_,rfl⟩,h⟩
theorem jn{b j pos}:PE X (.Constant (.bool b) j pos) (tC (.bl b)):=λ_ _ _ H _ I h=>Constant_bool ⟨.bl b,H,I,rfl,h⟩
theorem NV{j pos}:PE X (.Constant .none j pos) (tC .non):=λ_ _ _ H _ I h=>Constant_none ⟨.non,H,I,rfl,h⟩
theorem gp{x j pos}:PE X (.Constant (.str x) j pos) (tC (.str x)):=λ_ _ _ H _ I h=>Calls.Constant_str ⟨.str x,H,I.tok _,⟨_,rfl⟩,h⟩
def Gl(X:Cx)(x:Str):Prop:=X.env.kindOf x=aa .globalImplicit
theorem m7{E:ah->aw->Prop}{af:List (ag×Obj)}{s:aw}{σ:St}{H:Hp}{x:Str}{u:ah}{pos:Pos}{Q:ah->aw->Prop}(I:Inv X af σ H s)(hg:Gl X x)(hm:X.mg x=aa u)(h:Q u s)
 (hd:(x==("__debug__" : Str))=false:=by decide):wpAny (model X.prog X.w) X.A (eval (.Name x pos) X.env) Q E s:=
 Ht I.ok.kind hg (Calls.loadGlobal_global (by rw[I.ok.glob];exact I.mod.glob.keeps I.bk) hm h) hd
theorem si{E:ah->aw->Prop}{af:List (ag×Obj)}{s:aw}{σ:St}{H:Hp}{x:Str}{u:ah}{pos:Pos}{Q:ah->aw->Prop}(I:Inv X af σ H s)(hg:Gl X x)(hm:X.mg x=ac)(hv:bootBuiltins x=aa u)(h:Q u s)
 (hn:x ≠ "__name__" := by decide) (hd:(x==("__debug__" : Str))=false:=by decide):wpAny (model X.prog X.w) X.A (eval (.Name x pos) X.env) Q E s:=by
 obtain⟨mb,h1,h2⟩:=I.mod.blt;exact Ht I.ok.kind hg (Calls.loadGlobal_builtin (by rw[I.ok.glob];exact I.mod.glob.keeps I.bk) hm (by rw[I.ok.blt];exact h1.keeps I.bk) ((h2 x hn).trans hv) h) hd
theorem hZ{x:Str}{v:V}{u:ah}{pos:Pos}(hg:Gl X x)(hm:X.mg x=aa u)(r:RelV v u)(hd:(x==("__debug__" : Str))=false:=by decide):PE X (.Name x pos) (tC v):=λ_ _ _ H _ I h=>m7 I hg hm ⟨v,H,I,r,h⟩ hd
theorem Oc{x:Str}{v:V}{u:ah}{pos:Pos}(hg:Gl X x)(hm:X.mg x=ac)(hv:bootBuiltins x=aa u)(r:RelV v u)(hn:x ≠ "__name__" := by decide)(hd:(x==("__debug__" : Str))=false:=by decide):PE X (.Name x pos) (tC v):=λ_ _ _ H _ I h=>si I hg hm hv ⟨v,H,I,r,h⟩ hn hd
variable{a b:aW}{ta tb:TE}{pos:Pos}
def PC(X:Cx)(op:CmpOp)(a b:aW)(t:TE):Prop:=
 ∀(af:List (ag×Obj)) (s:aw) (σ:St) (H:Hp) (Q:VK),Inv X af σ H s->t σ H Q ->
  wpAny (model X.prog X.w) X.A (eval a X.env) (λv s₁=>wpAny (model X.prog X.w) X.A (eval b X.env) (λu s₂=>wpAny (model X.prog X.w) X.A (compareOp op v u) (EP X af σ Q) X.xe s₂) X.xe s₁) X.xe s
def tB(t:TE):TT:=λσ H Q=>t σ H λx H1=>∃c,x=.bl c/\Q c H1
theorem qp{op:CmpOp}{t:TE}(h:PC X op a b t)(h1:behindInMarks op b=false:=by first|exact Q9 _ (by decide) (by decide)|rfl):PT X (.Compare a [op] [b] pos) (tB t):=by intro af s σ H Q I hw;refine wpAny_isTrue_Compare1 (a5 (h af s σ H _ I hw) λv s1 h1=>a5 h1 λu s2 h2=>a5 h2 λc s3 ⟨x,H1,I1,r1,q1⟩=>?_) h1;obtain⟨d,rfl,q⟩:=q1;cases r1;exact pY ⟨H1,I1,q⟩
theorem jX{e:aW}{t:TE}(h:PE X e t)(he:∀whole,isTrue e X.env whole=(do let v <- whole;standAt e.pos;holding [v] (truthy v)):=by intro _;rfl):PT X e (tB t):=by intro af s σ H Q I hw;refine isTrue_plain (a5 (h af s σ H _ I hw) λv s1 ⟨x,H1,I1,r1,q1⟩=>?_) (he _);obtain⟨d,rfl,q⟩:=q1;cases r1;exact pY ⟨H1,I1,q⟩
variable{tA tB':TT}{rest:List aW}
def CK(t u:TT):TT:=λσ H Q=>t σ H λc H1=>if c=true then u σ H1 Q else Q false H1
def E4(t u:TT):TT:=λσ H Q=>t σ H λc H1=>if c=true then Q true H1 else u σ H1 Q
def Dp(t:TT):TT:=λσ H Q=>t σ H λc H1=>Q (!c) H1
theorem pw_and1(ha:PT X a tA):PW X (.BoolOp .And [a] pos) tA:=by
 intro wh af s σ H Q I h;refine isTrue_and (a5 (ha af s σ H Q I h) λc s1 e=>?_);cases c with
 |true=>exact isTrue_and_nil e
 |false=>exact e
theorem pw_or1(ha:PT X a tA):PW X (.BoolOp .Or [a] pos) tA:=by
 intro wh af s σ H Q I h;refine isTrue_or (a5 (ha af s σ H Q I h) λc s1 e=>?_);cases c with
 |false=>exact isTrue_or_nil e
 |true=>exact e
theorem pw_and(ha:PT X a tA)(hb:PW X (.BoolOp .And (b::rest) pos) tB'):PW X (.BoolOp .And (a::b::rest) pos) (CK tA tB'):=by
 intro wh af s σ H Q I h;refine isTrue_and (a5 (ha af s σ H _ I h) λc s1 ⟨H1,I1,q1⟩=>?_);cases c with
 |true=>exact hb wh af s1 σ H1 Q I1 q1
 |false=>exact⟨H1,I1,q1⟩
theorem pw_or(ha:PT X a tA)(hb:PW X (.BoolOp .Or (b::rest) pos) tB'):PW X (.BoolOp .Or (a::b::rest) pos) (E4 tA tB'):=by
 intro wh af s σ H Q I h;refine isTrue_or (a5 (ha af s σ H _ I h) λc s1 ⟨H1,I1,q1⟩=>?_);cases c with
 |true=>exact⟨H1,I1,q1⟩
 |false=>exact hb wh af s1 σ H1 Q I1 q1
theorem tT(ha:PT X a tA):PT X (.UnaryOp .Not a pos) (Dp tA):=by intro af s σ H Q I h;exact isTrue_not (ha af s σ H (λc H1=>Q (!c) H1) I h)
def Fp(ta tb:TE):TE:=λσ H Q=>ta σ H λx H1=>∃c,x=.bl c/\if c=true then Q (.bl true) H1 else tb σ H1 Q
theorem N9{op}{t:TE}(h:PE X a t):PE X (.BoolOp op [a] pos) t:=λaf s σ H Q I hw=>BoolOp_one (h af s σ H Q I hw)
theorem MJ(ha:PE X a ta)(hb:PE X (.BoolOp .Or (b::rest) pos) tb):PE X (.BoolOp .Or (a::b::rest) pos) (Fp ta tb):=by
 intro af s σ H Q I h;refine BoolOp_or (a5 (ha af s σ H _ I h) λv s1 ⟨x,H1,I1,r1,q1⟩=>?_);obtain⟨c,rfl,q1⟩:=q1;cases r1;refine pY ?_;cases c with
 |false=>exact hb af s1 σ H1 Q I1 q1
 |true=>exact⟨.bl true,H1,I1,rfl,q1⟩
def E6(t:TT)(ta tb:TE):TE:=λσ H Q=>t σ H λc H1=>if c=true then ta σ H1 Q else tb σ H1 Q
theorem xQ{c:aW}(hc:PT X c tA)(ha:PE X a ta)(hb:PE X b tb):PE X (.IfExp c a b pos) (E6 tA ta tb):=by
 intro af s σ H Q I h;refine wpAny_IfExp (a5 (hc af s σ H _ I h) λd s1 ⟨H1,I1,q1⟩=>?_);cases d with
 |true=>exact ha af s1 σ H1 Q I1 q1
 |false=>exact hb af s1 σ H1 Q I1 q1
end
def dw(K:aI)(H:Hp)(a:ag)(xs:List V):Prop:=
 Rd H a (.lst xs) \/
  ∃(o:Obj) (aq:Array ah) (n:Nat),K.lookup a=aa o/\o.cls=.type "list" /\ o.dict=ac/\o.data=.seq aq n/\aq.size<=sizeLine/\Vals xs aq.toList
def e5(K:aI)(H:Hp)(a:ag)(xs:List V):Prop:=
 Rd H a (.tup xs) \/
  ∃(o:Obj) (aq:Array ah) (n:Nat),K.lookup a=aa o/\o.cls=.type "tuple" /\ o.data=.seq aq n/\aq.size<=sizeLine/\Vals xs aq.toList
def IY:ah->Option V
 |.none=>aa .non
 |.bool b=>aa (.bl b)
 |.int i _=>aa (.int i)
 |.str x _=>aa (.str x)
 |.bytes b _=>aa (.byt b)
 |.float b _=>aa (.flt b)
 |.ref a=>aa (.ref a)
 |.type n=>aa (.ty n)
 |_=>ac
theorem RelV.abs{x:V}{u:ah}(r:RelV x u):IY u=aa x:=by
 cases x with
 |non=>cases r;rfl
 |bl _=>cases r;rfl
 |int _=>obtain⟨t,rfl⟩:=r;rfl
 |str _=>obtain⟨t,rfl⟩:=r;rfl
 |byt _=>obtain⟨t,rfl⟩:=r;rfl
 |flt _=>obtain⟨t,rfl⟩:=r;rfl
 |ref _=>cases r;rfl
 |ty _=>cases r;rfl
theorem RelV.inj{x y:V}{u:ah}(r:RelV x u)(q:RelV y u):x=y:=fM (r.abs.symm.trans q.abs)
theorem Vals.inj:∀{xs ys:List V} {us:List ah},Vals xs us->Vals ys us->xs=ys
 |_,_,_,.nil,.nil=>rfl
 |_,_,_,.cons r t,.cons r' t'=>by rw[r.inj r',Vals.inj t t']
section
variable{X:Cx}{af:List (ag×Obj)}{σ:St}{H:Hp}{s:aw}{a:ag}{xs ys:List V}
theorem Inv.list(I:Inv X af σ H s)(h:dw X.K H a xs):∃aq:List ah,Vals xs aq/\PlainL s.heap a aq.toArray/\xs.length<=sizeLine:=by
 rcases h with h|⟨o,aq,n,hk,hc,hd,hs,hz,r⟩
 ·obtain⟨z,aq,n,r,e⟩:=h.ok I.hok;exact⟨aq,r,⟨_,n,e,rfl,rfl,rfl⟩,z⟩
 ·refine⟨aq.toList,r,⟨o,n,I.dX a o hk,hc,hd,by simpa using hs⟩,?_⟩;have e:=r.length;simp only[nS]at e;omega
theorem Inv.tuple(I:Inv X af σ H s)(h:e5 X.K H a xs):∃aq:List ah,Vals xs aq/\IsTup s.heap a aq.toArray/\xs.length<=sizeLine:=by
 rcases h with h|⟨o,aq,n,hk,hc,hs,hz,r⟩
 ·obtain⟨z,aq,r,p⟩:=h.ok I.hok;exact⟨aq,r,p.tup,z⟩
 ·refine⟨aq.toList,r,⟨o,I.dX a o hk,hc,n,by simpa using hs⟩,?_⟩;have e:=r.length;simp only[nS]at e;omega
theorem Inv.uo(I:Inv X af σ H s)(h:dw X.K H a xs)(h':dw X.K H a ys):xs=ys:=by
 obtain⟨aq,r,⟨o,n,e,_,_,d⟩,_⟩:=I.list h;obtain⟨its',r',⟨o',n',e',_,_,d'⟩,_⟩:=I.list h';rw[e]at e';cases e';rw[d]at d';injection d' with d1 _;have:aq=its':=by simpa using congrArg Array.toList d1
 subst this;exact r.inj r'
theorem Inv.y4(I:Inv X af σ H s)(h:e5 X.K H a xs)(h':e5 X.K H a ys):xs=ys:=by
 obtain⟨aq,r,⟨o,e,_,n,d⟩,_⟩:=I.tuple h;obtain⟨its',r',⟨o',e',_,n',d'⟩,_⟩:=I.tuple h';rw[e]at e';cases e';rw[d]at d';injection d' with d1 _;have:aq=its':=by simpa using congrArg Array.toList d1
 subst this;exact r.inj r'
end
abbrev Cx.wish(X:Cx)(E:ah->aw->Prop):Cx:={ X with xe:=E }
abbrev Cx.kB(X:Cx):Cx:=X.wish λ_ _=>False
theorem Cx.Ok.wish{X:Cx}(ok:X.Ok)(E:ah->aw->Prop):(X.wish E).Ok:=⟨ok.mod,ok.kind,ok.glob,ok.blt,ok.above,ok.inj,ok.has,ok.cab,ok.hd,ok.frames,ok.stk,ok.exf,ok.bs,ok.bsz,ok.nW,ok.qf,ok.fF,ok.frf⟩
theorem Cx.Ok.mi{X:Cx}{E:ah->aw->Prop}(ok:(X.wish E).Ok):X.Ok:=⟨ok.mod,ok.kind,ok.glob,ok.blt,ok.above,ok.inj,ok.has,ok.cab,ok.hd,ok.frames,ok.stk,ok.exf,ok.bs,ok.bsz,ok.nW,ok.qf,ok.fF,ok.frf⟩
section
variable{X:Cx}{af:List (ag×Obj)}{σ:St}{H:Hp}{s:aw}{E:ah->aw->Prop}
theorem Inv.wish(I:Inv X af σ H s)(E:ah->aw->Prop):Inv (X.wish E) af σ H s:=⟨I.ok.wish E,I.os,I.bare,I.base,I.loc,I.cell,I.free,I.gG,I.pin,I.hok,I.len⟩
theorem Inv.mi(I:Inv (X.wish E) af σ H s):Inv X af σ H s:=⟨I.ok.mi,I.os,I.bare,I.base,I.loc,I.cell,I.free,I.gG,I.pin,I.hok,I.len⟩
theorem SP.mi{D:Ends}{f:Flow}{s':aw}(h:SP (X.wish E) af D f s'):SP X af D f s':=by
 cases f with
 |next=>obtain⟨σ',H',I,q⟩:=h;exact⟨σ',H',I.mi,q⟩
 |brk=>obtain⟨σ',H',I,q⟩:=h;exact⟨σ',H',I.mi,q⟩
 |cont=>obtain⟨σ',H',I,q⟩:=h;exact⟨σ',H',I.mi,q⟩
 |ret u=>obtain⟨v,σ',H',I,r,q⟩:=h;exact⟨v,σ',H',I.mi,r,q⟩
theorem eZ.kB{st:List bq}{t:TS}(h:eZ X.kB st t):eZ X st t:=λaf s σ H D I hw=>
 g7 (h af s σ H D (I.wish _) hw) (λ_ _ q=>q.mi) λ_ _ z=>eR z
end
section
variable{X:Cx}{st:bq}{rest:List bq}{t u:TS}{e:aW}{te:TE}{pos:Pos}
def BA:TS:=λD σ H=>D.nx σ H
def zq(t u:TS):TS:=λD σ H=>t { D with nx:=u D } σ H
theorem cX:eZ X [] BA:=λ_ _ σ H _ I h=>pZ ⟨σ,H,I,h⟩
theorem aM(h1:PS X st t)(h2:eZ X rest u):eZ X (st::rest) (zq t u):=by
 intro af s σ H D I h;refine zY (a5 (h1 af s σ H { D with nx:=u D } I h) λf s1 q=>?_);cases f with
 |next=>
  obtain⟨σ',H',I',q⟩:=q;exact h2 af s1 σ' H' D I' q
 |ret v=>exact q
 |brk=>exact q
 |cont=>exact q
theorem a6(h1:PS X st t):eZ X [st] t:=by
 intro af s σ H D I h;refine zY (a5 (h1 af s σ H D I h) λf s1 q=>?_);cases f with
 |next=>exact pZ q
 |ret v=>exact q
 |brk=>exact q
 |cont=>exact q
theorem Inv.quiet{af:List (ag×Obj)}{σ:St}{H:Hp}{s:aw}(I:Inv X af σ H s):interactive X.env=false:=by simp[interactive,I.ok.kind]
def oy(te:TE):TS:=λD σ H=>te σ H λ_ H1=>D.nx σ H1
theorem dr(he:PE X e te)(hs:swapsWith e ac pos.line X.env=pure false:=by rfl):PS X (.Expr e pos) (oy te):=by intro af s σ H D I h;exact wpAny_Expr_any (a5 (he af s σ H _ I h) λv s1 ⟨x,H1,I1,r1,q1⟩=>⟨σ,H1,I1,q1⟩) I.quiet hs
def ux(te:TE):TS:=λD σ H=>te σ H D.rt
theorem cJ(he:PE X e te):PS X (.Return (aa e) pos) (ux te):=by intro af s σ H D I h;exact wpAny_Return_some (a5 (he af s σ H _ I h) λv s1 ⟨x,H1,I1,r1,q1⟩=>⟨x,σ,H1,I1,r1,q1⟩)
def yS(c:TT)(t u:TS):TS:=λD σ H=>c σ H λb H1=>if b=true then t D σ H1 else u D σ H1
theorem cQ{c:aW}{a b:List bq}{tc:TT}(hc:PT X c tc)(ha:eZ X a t)(hb:eZ X b u):PS X (.If c a b pos) (yS tc t u):=by
 intro af s σ H D I h;refine wpAny_If (a5 (hc af s σ H _ I h) λd s1 ⟨H1,I1,q1⟩=>?_);cases d with
 |true=>exact ha af s1 σ H1 D I1 q1
 |false=>exact hb af s1 σ H1 D I1 q1
def E7:TS:=λ_ _ _=>False
theorem ig:PS X st E7:=λ_ _ _ _ _ _ h=>h.elim
end
abbrev TG:=V->St->Hp->(St->Hp->Prop)->Prop
abbrev iz:=List V->St->Hp->(St->Hp->Prop)->Prop
def PG(X:Cx)(target:aW)(t:TG):Prop:=
 ∀(af:List (ag×Obj)) (s:aw) (σ:St) (H:Hp) (v:V) (u:ah) (Q:St->Hp->Prop),Inv X af σ H s->RelV v u->t v σ H Q ->
  wpAny (model X.prog X.w) X.A (assign target X.env u) (λ_ s'=>∃σ' H',Inv X af σ' H' s'/\Q σ' H') X.xe s
def jx(X:Cx)(ts:List aW)(t:iz):Prop:=
 ∀(af:List (ag×Obj)) (s:aw) (σ:St) (H:Hp) (vs:List V) (us:List ah) (Q:St->Hp->Prop),Inv X af σ H s->Vals vs us->t vs σ H Q ->
  wpAny (model X.prog X.w) X.A (assignInOrder ((assignEach ts X.env).map (·.2)) us) (λ_ s'=>∃σ' H',Inv X af σ' H' s'/\Q σ' H') X.xe s
abbrev y7:=V->V->V->Hp->(Hp->Prop)->Prop
def D7(X:Cx)(t:y7):Prop:=
 ∀(af:List (ag×Obj)) (s:aw) (σ:St) (H:Hp) (o i v:V) (ov iv u:ah) (Q:Hp->Prop),Inv X af σ H s->RelV o ov->RelV i iv->RelV v u->t o i v H Q ->
  wpAny (model X.prog X.w) X.A (setItem ov iv u) (λ_ s'=>∃H',Inv X af σ H' s'/\Q H') X.xe s
section
variable{X:Cx}{pos:Pos}
def gr(i:Nat):TG:=λv σ H Q=>Q (σ.set i (aa v)) H
theorem fE{i:Nat}{x:Str}(hN:X.N.Nodup)(hi:X.N[i]? = aa x)(hx:Loc X.env.scope x)(hf:X.fn x=true\/X.env.scope.names.lookup x=aa .local:=by first|exact .inl rfl|exact .inr rfl|assumption):PG X (.Name x pos) (gr i):=by intro af s σ H v u Q I r h;exact wpAny_assign_Name (vF I hN hi hx r (λs' I'=>⟨_,H,I',h⟩) hf)
def sj:iz:=λvs σ H Q=>vs=[]/\Q σ H
def qX(t:TG)(u:iz):iz:=λvs σ H Q=>∃v r,vs=v::r/\t v σ H λσ' H'=>u r σ' H' Q
theorem oE:jx X [] sj:=by intro af s σ H vs us Q I r h;obtain⟨e,h⟩:=h;subst e;cases r;exact assignInOrder_nil ⟨σ,H,I,h⟩
theorem iN{e:aW}{es:List aW}{t:TG}{u:iz}(h1:PG X e t)(h2:jx X es u)
 (hs:(assignEach (e::es) X.env).map (·.2)=assign e X.env::(assignEach es X.env).map (·.2):=by rfl):jx X (e::es) (qX t u):=by
 intro af s σ H vs us Q I r h;obtain⟨v,vr,e1,h⟩:=h;subst e1;cases r with
 |cons r rr=>
  rw[hs];refine assignInOrder_cons (a5 (h1 af s σ H _ _ _ I r h) λ_ s1 ⟨σ1,H1,I1,q1⟩=>?_);exact h2 af s1 σ1 H1 _ _ Q I1 rr q1
def yY(K:aI)(n:Nat)(t:iz):TG:=λv σ H Q=>∃a xs,v=.ref a/\e5 K H a xs/\xs.length=n/\t xs σ H Q
theorem rO{es:List aW}{k:Nat}{t:iz}{n:Nat}(hc:X.calm=true)(h:jx X es t)
 (hn:(assignEach es X.env).length=n:=by rfl) (hst:(assignEach es X.env).findIdx? (·.1)=ac:=by rfl):PG X (.Tuple es k pos) (yY X.K n t):=by
 intro af s σ H v u Q I r hw;obtain⟨a,xs,e1,hq,hl,hw⟩:=hw;subst e1;cases r;obtain⟨aq,rv,ht,hz⟩:=I.tuple hq;refine assign_Tuple_tuple (I.ok.hd hc) ht (by simp[hn,<- hl,rv.length]) hst λh' hx=>?_;have I1:Inv X af σ H { s with heap:=h' }:=I.kept (t':=s.toks) λb o e=>hx b o (fY (bX e)) e;exact h af _ σ H xs _ Q I1 (by simpa using rv) hw
def En(to ti:TE)(t:y7):TG:=λv σ H Q=>to σ H λo H1=>ti σ H1 λi H2=>t o i v H2 λH3=>Q σ H3
theorem O1{o i:aW}{to ti:TE}{t:y7}(ho:PE X o to)(hi:PE X i ti)(hs:D7 X t)
 (ha:∀v,assign (.Subscript o i pos) X.env v=(do
  let ov <- holding [v] (eval o X.env);let iv <- holding [v,ov] (eval i X.env)
  standAt pos
  holding [v,ov,iv] (setItem ov iv v)
  release [v,ov,iv] []):=by intro _;rfl):PG X (.Subscript o i pos) (En to ti t):=by
 intro af s σ H v u Q I r h;rw[ha];refine aY (kS (a5 (ho af s σ H _ I h) λov s1 ⟨x,H1,I1,r1,q1⟩=>?_));refine aY (kS (a5 (hi af s1 σ H1 _ I1 q1) λiv s2 ⟨y,H2,I2,r2,q2⟩=>?_));refine aY (v8 (aY (kS (a5 (hs af s2 σ H2 x y v ov iv u _ I2 r1 r2 r q2) λ_ s3 ⟨H3,I3,q3⟩=>?_))));exact wpAny_release ⟨σ,H3,I3,q3⟩
def jv(te:TE)(g:TG):TS:=λD σ H=>te σ H λx H1=>g x σ H1 D.nx
theorem xC{tg e:aW}{te:TE}{g:TG}(he:PE X e te)(hg:PG X tg g)(hs:swapsWithSole [tg] e pos.line X.env=pure false:=by rfl)(hw:swappedStores [tg] e X.env=pure ac:=by rfl)
 (h1:(assignEach [tg] X.env).map (·.2)=[assign tg X.env]:=by rfl):PS X (.Assign [tg] e pos) (jv te g):=by
 intro af s σ H D I h;refine wpAny_Assign_stores (a5 (he af s σ H _ I h) λv s1 ⟨x,H1,I1,r1,q1⟩=>?_) hs hw;rw[h1];exact a5 (hg af s1 σ H1 x v _ I1 r1 q1) λ_ s2 q=>q
theorem o0{i:Nat}{x:Str}{e:aW}{te:TE}{pos':Pos}(hN:X.N.Nodup)(hi:X.N[i]? = aa x)(hx:Loc X.env.scope x)(he:PE X e te)(hs:swapsWith e (aa (.Name x pos')) pos.line X.env=pure false:=by rfl)(hf:X.fn x=true\/X.env.scope.names.lookup x=aa .local:=by first|exact .inl rfl|exact .inr rfl|assumption) :
 PS X (.Assign [.Name x pos'] e pos) (jv te (gr i)):=by
 intro af s σ H D I h;refine wpAny_Assign_Name (a5 (he af s σ H _ I h) λv s1 ⟨y,H1,I1,r1,q1⟩=>?_) hs;exact vF I1 hN hi hx r1 (λs2 I2=>⟨_,H1,I2,q1⟩) hf
end
section
variable{X:Cx}{pos:Pos}
def DI(c:TT)(tb:TS):TS:=λD σ H=>∃W:Nat->St->Hp->Prop,(∃m,W m σ H)/\∀m σ H,W m σ H ->
 c σ H λb H1=>if b=true then∃N:St->Hp->Prop,(∀σ' H',N σ' H'->∃m',m'<m/\W m' σ' H')/\tb { D with nx:=N,ct:=N,bk:=D.nx } σ H1 else D.nx σ H1
theorem Fq{c:aW}{body:List bq}{tc:TT}{tb:TS}(hp:PassesOwn (model X.prog X.w) X.A X.env X.xe)(hc:PT X c tc)(hb:eZ X body tb):PS X (.While c body [] pos) (DI tc tb):=by
 intro af s σ H D I h;obtain⟨W,⟨m0,w0⟩,turn⟩:=h;refine wpAny_While (codeAny_whileLoop (λn s'=>∃σ' H',Inv X af σ' H' s'/\W n σ' H') ?_ m0 ⟨σ,H,I,w0⟩);rintro n s1 ⟨σ1,H1,I1,w1⟩;refine nN hp (a5 (hc af s1 σ1 H1 _ I1 (turn n σ1 H1 w1)) λb s2 ⟨H2,I2,q2⟩=>?_);cases b with
 |true=>
  obtain⟨N,hN,q2⟩:=q2;rw[a8 rfl];refine nN hp (a5 (hb af s2 σ1 H2 _ I2 q2) λf s3 q3=>?_);cases f with
  |next=>
   obtain⟨σ3,H3,I3,n3⟩:=q3;obtain⟨m',hm,w3⟩:=hN σ3 H3 n3;exact⟨m',hm,σ3,H3,I3,w3⟩
  |cont=>
   obtain⟨σ3,H3,I3,n3⟩:=q3;obtain⟨m',hm,w3⟩:=hN σ3 H3 n3;exact⟨m',hm,σ3,H3,I3,w3⟩
  |brk=>exact q3
  |ret v=>exact q3
 |false=>
  rw[be dW];exact pZ ⟨σ1,H2,I2,q2⟩
end
structure It where
 go:Nat->Hp->Prop
 yld:Nat->Hp->V->Hp->Prop
 stop:Nat->Hp->Prop
def gN(X:Cx)(af:List (ag×Obj))(H:Hp)(b:ag):Prop:=H b=ac/\b≠X.env.locals/\b∉X.fs/\(b∈X.ex\/X.s₀.heap.objs.size<=b)/\(∀x c,X.env.cells.lookup x=aa c->c≠b)/\∀p∈X.pn++af,p.1≠b
theorem Inv.iE{X:Cx}{af:List (ag×Obj)}{σ:St}{H H':Hp}{s:aw}{b:ag}(I:Inv X af σ H s)(hb:s.heap.objs.size<=b)(hn:H' b=ac):gN X af H' b:=by
 refine⟨hn,wp (fK I.lt hb),I.Mx hb,.inr (eW I.sz hb),λx c e z=>?_,λp hp z=>?_⟩
 ·obtain⟨v,q⟩:=I.cell x c e;exact absurd (fK q.lt (by rw[z];exact hb)) (ki _)
 ·exact absurd (fK (bX (I.pin p hp).1) (by rw[z];exact hb)) (ki _)
structure Turn(P:bt)(w:a9)(K:aI)(tg:aW)(J:It)(fp:List ag)(it:ag)(tn:Nat->aL->Prop):Prop where
 mem:it∈fp
 obj:∀i h,tn i h->∀b∈fp,∃o,h.get? b=aa o/\∀v,o.data≠.cell v
 keep:∀i h h',tn i h->(∀b∈fp,∀o,h.get? b=aa o->h'.get? b=aa o)->tn i h'
 item:∀(X:Cx),X.prog=P->X.w=w->X.K=K->X.calm=true->∀(i:Nat) (af:List (ag×Obj)) (s:aw) (σ:St) (H:Hp) (E:ah->aw->Prop),Inv X af σ H s->(∀b∈fp,gN X af H b)->tn i s.heap->J.go i H ->
  wpAny (model P w) X.A (pyNext (.ref it)) (λr s1=>∃u,r=aa u /\
   wpAny (model P w) X.A (letOwnedTupleGo tg (.ref it) u) (λ_ s2=>∃x H',Inv X af σ H' s2/\RelV x u/\J.yld i H x H'/\tn (i+1) s2.heap/\∀b∈fp,H' b=ac) E s1) E s
 done:∀(X:Cx),X.prog=P->X.w=w->X.K=K->X.calm=true->∀(i:Nat) (af:List (ag×Obj)) (s:aw) (σ:St) (H:Hp) (E:ah->aw->Prop),Inv X af σ H s->(∀b∈fp,gN X af H b)->tn i s.heap->J.stop i H ->
  wpAny (model P w) X.A (pyNext (.ref it)) (λr s1=>r=ac/\Inv X af σ H s1) E s
 self:∀(A:bH) (i:Nat) (s:aw) (Q:ah->aw->Prop) (E:ah->aw->Prop),tn i s.heap->Q (.ref it) s->wpAny (model P w) A (pyIter (.ref it)) Q E s
abbrev TI:=St->Hp->(It->Hp->Prop)->Prop
def PIE(X:Cx)(af:List (ag×Obj))(σ:St)(tg:aW)(R:It->Hp->Prop)(itv:ah)(s2:aw):Prop:=∃(it:ag) (fp:List ag) (tn:Nat->aL->Prop) (J:It) (H':Hp),itv=.ref it/\Inv X af σ H' s2/\Turn X.prog X.w X.K tg J fp it tn/\tn 0 s2.heap/\(∀b∈fp,gN X af H' b)/\R J H'
def PI(X:Cx)(tg iter:aW)(wi:TI):Prop:=
 ∀(af:List (ag×Obj)) (s:aw) (σ:St) (H:Hp) (R:It->Hp->Prop),Inv X af σ H s->wi σ H R ->
  wpAny (model X.prog X.w) X.A (eval iter X.env) (λv s1=>wpAny (model X.prog X.w) X.A (pyIter v) (PIE X af σ tg R) X.xe s1) X.xe s
theorem q9{M:Model}{A:bH}{E:ah->aw->Prop}{s:aw}{tg:aW}{it:ag}{u:ah}{o:Obj}{n:String}{vs:Array ah}{Q:Unit->aw->Prop}(ho:s.heap.get? it=aa o)(hc:o.cls=.type n)(hd:o.data=.fields vs)
 (hn:["enumerate","zip","dict_itemiterator","dict_reverseitemiterator","odict_iterator","itertools.zip_longest","itertools.pairwise"].contains n=false) (hQ:Q () s):wpAny M A (letOwnedTupleGo tg (.ref it) u) Q E s:=by
 unfold letOwnedTupleGo;cases tg<;>first
  |exact bW hQ
  | (cases u<;>first
   |exact bW hQ
   | (refine aY (wpAny_load ho ?_)
      rw[hc,hd];show wpAny M A (if(["enumerate","zip","dict_itemiterator","dict_reverseitemiterator","odict_iterator","itertools.zip_longest","itertools.pairwise"].contains n&&vs[0]? == aa (rawInt _))=true then _ else _) Q E s;rw[be (by intro h;rw[hn,Bool.false_and]at h;cases h)];exact bW hQ))
def qx(K:aI)(a:ag):It:=⟨λi H=>∃xs x,dw K H a xs/\xs[i]? = aa x,λi H x H'=>H'=H/\∀xs,dw K H a xs->xs[i]? = aa x,λi H=>∃xs,dw K H a xs/\xs.length<=i⟩
def rE(K:aI)(a:ag):It:=⟨λi H=>∃xs x,e5 K H a xs/\xs[i]? = aa x,λi H x H'=>H'=H/\∀xs,e5 K H a xs->xs[i]? = aa x,λi H=>∃xs,e5 K H a xs/\xs.length<=i⟩
def pF(lo:Int)(n:Nat):It:=⟨λi _=>i<n,λi H x H'=>H'=H/\x=.int (lo+i),λi _=>n<=i⟩
theorem JJ{P:bt}{w:a9}{K:aI}{tg:aW}(a it:ag):Turn P w K tg (qx K a) [it] it (λi h=>h.IsListIter it a i) where
 mem:=by simp
 obj:=λi h st b hb=>by
  have e:b=it:=by simpa using hb
  subst e;obtain⟨o,e,c,d⟩:=st;exact⟨o,e,λv z=>by rw[d]at z;cases z⟩
 keep:=λi h h' st k=>st.at λo e=>k it (by simp) o e
 item:=by intro X hP hw hK hc i af s σ H E I hf st hg;subst hP hw hK;obtain⟨xs,x,hq,hx⟩:=hg;obtain⟨aq,rv,p,hz⟩:=I.list hq;obtain⟨u,hu,ru⟩:=rv.get hx;obtain⟨f0,f1,f2,f3,f4,f5⟩:=hf it (by simp);refine G9 st p.isList (x:=u) (by simpa using hu) λh' st' sb=>?_;have I1:Inv X af σ H { s with heap:=h' }:=I.turned (t':=s.toks) (λb o hb e=>(sb.2 b hb).trans e) f0 f1 f3 f4 f5;obtain⟨o,e,c,d⟩:=id st';exact⟨u,rfl,q9 (s:={ s with heap:=h' }) e c d (by decide) ⟨x,H,I1,ru,⟨rfl,λys hy=>by rw[I.uo hy hq];exact hx⟩,st',λb hb=>(hf b hb).1⟩⟩
 done:=by intro X hP hw hK hc i af s σ H E I hf st hg;subst hP hw hK;obtain⟨xs,hq,hx⟩:=hg;obtain⟨aq,rv,p,hz⟩:=I.list hq;obtain⟨f0,f1,f2,f3,f4,f5⟩:=hf it (by simp);have hl:=rv.length;exact wpAny_pyNext_list_end (I.ok.hd hc) st p.isList (by simp;omega) λh' eb=>⟨rfl,I.turned (t':=s.toks) (λb o hb e=>eb b o hb e) f0 f1 f3 f4 f5⟩
 self:=λ_ _ _ _ _ st h=>wpAny_pyIter_listiter st h
theorem KL{P:bt}{w:a9}{K:aI}{tg:aW}(a it:ag):Turn P w K tg (rE K a) [it] it (λi h=>h.IsTupleIter it a i) where
 mem:=by simp
 obj:=λi h st b hb=>by
  have e:b=it:=by simpa using hb
  subst e;obtain⟨o,e,c,d⟩:=st;exact⟨o,e,λv z=>by rw[d]at z;cases z⟩
 keep:=λi h h' st k=>st.at λo e=>k it (by simp) o e
 item:=by intro X hP hw hK hc i af s σ H E I hf st hg;subst hP hw hK;obtain⟨xs,x,hq,hx⟩:=hg;obtain⟨aq,rv,p,hz⟩:=I.tuple hq;obtain⟨u,hu,ru⟩:=rv.get hx;obtain⟨f0,f1,f2,f3,f4,f5⟩:=hf it (by simp);refine wpAny_pyNext_tuple_item st (show s.heap.IsTuple a aq.toArray from p) (x:=u) (by simpa using hu) λh' st' sb=>?_;have I1:Inv X af σ H { s with heap:=h' }:=I.turned (t':=s.toks) (λb o hb e=>(sb.2 b hb).trans e) f0 f1 f3 f4 f5;obtain⟨o,e,c,d⟩:=id st';exact⟨u,rfl,q9 (s:={ s with heap:=h' }) e c d (by decide) ⟨x,H,I1,ru,⟨rfl,λys hy=>by rw[I.y4 hy hq];exact hx⟩,st',λb hb=>(hf b hb).1⟩⟩
 done:=by intro X hP hw hK hc i af s σ H E I hf st hg;subst hP hw hK;obtain⟨xs,hq,hx⟩:=hg;obtain⟨aq,rv,p,hz⟩:=I.tuple hq;obtain⟨f0,f1,f2,f3,f4,f5⟩:=hf it (by simp);have hl:=rv.length;exact wpAny_pyNext_tuple_end (I.ok.hd hc) st (show s.heap.IsTuple a aq.toArray from p) (by simp;omega) λh' eb=>⟨rfl,I.turned (t':=s.toks) (λb o hb e=>eb b o hb e) f0 f1 f3 f4 f5⟩
 self:=λ_ _ _ _ _ st h=>wpAny_pyIter_tupleiter st h
theorem JP{P:bt}{w:a9}{K:aI}{tg:aW}(it:ag)(lo:Int)(n:Nat):Turn P w K tg (pF lo n) [it] it (λi h=>IsRangeIter h it (lo+(i:Nat)*1) ((n:Int)-(i:Nat)) 1) where
 mem:=by simp
 obj:=λi h st b hb=>by
  have e:b=it:=by simpa using hb
  subst e;exact⟨_,st,λv z=>by
   have z':Data.fields _=Data.cell v:=z;cases z'⟩
 keep:=λi h h' st k=>k it (by simp) _ st
 item:=by intro X hP hw hK hc i af s σ H E I hf st hg;subst hP hw hK;obtain⟨f0,f1,f2,f3,f4,f5⟩:=hf it (by simp);have W:=Walks.range (prog:=X.prog) (w:=X.w) (I.ok.hd hc) it lo 1 n;refine W.item i s _ _ hg st λv h' tk hv st' kk=>?_;obtain⟨t,rfl⟩:=hv;have I1:Inv X af σ H { s with heap:=h',toks:=tk }:=I.turned (λb o hb e=>kk b o (by simpa using hb) e) f0 f1 f3 f4 f5;refine⟨_,rfl,q9 (s:={ s with heap:=h',toks:=tk }) (n := "range_iterator") st' rfl rfl (by decide) ⟨.int (lo+i),H,I1,⟨t,?_⟩,⟨rfl,rfl⟩,st',λb hb=>(hf b hb).1⟩⟩;rw[Int.mul_one]
 done:=by intro X hP hw hK hc i af s σ H E I hf st hg;subst hP hw hK;obtain⟨f0,f1,f2,f3,f4,f5⟩:=hf it (by simp);exact wpAny_pyNext_range_end (I.ok.hd hc) st (by have:n<=i:=hg;omega) λh' eb=>⟨rfl,I.turned (t':=s.toks) (λb o hb e=>eb b o hb e) f0 f1 f3 f4 f5⟩
 self:=λ_ _ _ _ _ st h=>wpAny_pyIter_rangeiter st h
section
variable{X:Cx}{tg:aW}
def CQ(K:aI)(tl:TE):TI:=λσ H R=>tl σ H λx H1=>∃a,x=.ref a/\(∃xs,dw K H1 a xs)/\R (qx K a) H1
def Ew(K:aI)(tl:TE):TI:=λσ H R=>tl σ H λx H1=>∃a,x=.ref a/\(∃xs,e5 K H1 a xs)/\R (rE K a) H1
theorem N6{l:aW}{tl:TE}(hl:PE X l tl):PI X tg l (CQ X.K tl):=by
 intro af s σ H R I h;refine a5 (hl af s σ H _ I h) λv s1 ⟨x,H1,I1,r1,q1⟩=>?_;obtain⟨a,e,⟨xs,hq⟩,q⟩:=q1;subst e;cases r1;obtain⟨aq,rv,p,hz⟩:=I1.list hq;refine zW p.isList ?_;refine⟨s1.heap.objs.size,[s1.heap.objs.size],_,_,H1,rfl,I1.kept (t':=s1.toks) λb o e=>dU _ e,JJ a _,⟨_,fw _ rfl,rfl,rfl⟩,λb hb=>?_,q⟩;have e:b=s1.heap.objs.size:=by simpa using hb
 subst e;exact I1.iE (bO _) (I1.hok.fresh (bO _))
theorem OM{l:aW}{tl:TE}(hl:PE X l tl):PI X tg l (Ew X.K tl):=by
 intro af s σ H R I h;refine a5 (hl af s σ H _ I h) λv s1 ⟨x,H1,I1,r1,q1⟩=>?_;obtain⟨a,e,⟨xs,hq⟩,q⟩:=q1;subst e;cases r1;obtain⟨aq,rv,p,hz⟩:=I1.tuple hq;refine wpAny_pyIter_tuple (show s1.heap.IsTuple a aq.toArray from p) ?_;refine⟨s1.heap.objs.size,[s1.heap.objs.size],_,_,H1,rfl,I1.kept (t':=s1.toks) λb o e=>dU _ e,KL a _,⟨_,fw _ rfl,rfl,rfl⟩,λb hb=>?_,q⟩;have e:b=s1.heap.objs.size:=by simpa using hb
 subst e;exact I1.iE (bO _) (I1.hok.fresh (bO _))
theorem LN{af:List (ag×Obj)}{σ:St}{H:Hp}{s:aw}{R:It->Hp->Prop}{E:ah->aw->Prop}{lo hi:Int}{t u v:Tok}{tk:Nat}(I:Inv X af σ H s)(h1:-(2 ^ 62)<=lo)(h2:lo<2 ^ 62)(h3:-(2 ^ 62)<=hi)(h4:hi<2 ^ 62)
 (q:R (pF lo (hi-lo).toNat) H):wpAny (model X.prog X.w) X.A (pyIter (.ref s.heap.objs.size)) (PIE X af σ tg R) E { s with heap:=s.heap.push { cls:=.type "range", data:=.fields #[.int lo t,.int hi u,.int 1 v] },toks:=tk }:=by
 refine wpAny_pyIter_range (IsRange.new ..) (small_one h1 h2 h3 h4) ?_;have I1:Inv X af σ H { s with heap:=s.heap.push { cls:=.type "range",data:=.fields #[.int lo t,.int hi u,.int 1 v] },toks:=tk }:=I.kept λb o e=>dU _ e;refine⟨(s.heap.push { cls:=.type "range",data:=.fields #[.int lo t,.int hi u,.int 1 v] }).objs.size,[(s.heap.push { cls:=.type "range", data:=.fields #[.int lo t,.int hi u,.int 1 v] }).objs.size],_,_,H,rfl,
  I1.kept (t':=tk) λb o e=>dU _ e,JP _ lo (hi-lo).toNat,?_,λb hb=>?_,q⟩
 ·have e1:lo+((0:Nat):Int)*1=lo:=by simp
  have e2:(((hi-lo).toNat:Nat):Int)-((0:Nat):Int)=Builtin.Range.rangeSize lo hi 1:=by rw[rangeSize_one];split<;>omega
  show IsRangeIter _ _ (lo+((0:Nat):Int)*1) ((((hi-lo).toNat:Nat):Int)-((0:Nat):Int)) 1;rw[e1,e2];exact fw _ rfl
 ·have e:b=(s.heap.push { cls:=.type "range", data:=.fields #[.int lo t,.int hi u,.int 1 v] }).objs.size:=by simpa using hb
  subst e;exact I1.iE (bO _) (I1.hok.fresh (bO _))
def Dy(ta:TA):TI:=λσ H R=>ta σ H λvs H1=>∃j:Int,vs=[.int j]/\-(2 ^ 62)<=j/\j<2 ^ 62/\R (pF 0 j.toNat) H1
theorem jg{a:aW}{ta:TA}{p pos:Pos}(hg:Gl X "range")(hm:X.mg "range" = ac)(ha:PA X [a] ta)(hs:starEach [a] X.env=[(false,eval a X.env)]:=by rfl):PI X tg (.Call (.Name "range" p) [a] [] pos) (Dy ta):=by
 intro af s σ H R I h;refine Call_ (si I hg hm boot_range (Ah (a5 (ha pos af s σ H _ I h) λus s1 ⟨vs,H1,I1,r1,q1⟩=>?_) hs rfl));obtain⟨j,e,q1,q2,q⟩:=q1;subst e;cases r1 with
 |cons r rr=>
  cases rr;obtain⟨t,rfl⟩:=r;exact call_range_1 (LN I1 (by omega) (by omega) q1 q2 (by simpa using q))
def zh(wi:TI)(g:TG)(tb:TS):TS:=λD σ H=>wi σ H λJ H1=>∃W:Nat->Nat->St->Hp->Prop,(∃m,W 0 m σ H1)/\∀i m σ H,W i m σ H ->
 (J.stop i H/\D.nx σ H)\/(J.go i H/\∃N:St->Hp->Prop,(∀σ' H',N σ' H'->∃m',m'<m/\W (i+1) m' σ' H')/\∀x H',J.yld i H x H'->g x σ H' λσ2 H2=>tb { D with nx:=N,ct:=N,bk:=D.nx } σ2 H2)
def uE(fp:List ag)(h:aL):List (ag×Obj):=fp.filterMap λb=>(h.get? b).map λo=>(b,o)
theorem pJ{fp:List ag}{h:aL}{b:ag}{o:Obj}(hb:b∈fp)(e:h.get? b=aa o):(b,o)∈uE fp h:=vR.mpr ⟨b,hb,by rw[e];rfl⟩
theorem Jz{fp:List ag}{h:aL}{p:ag×Obj}(hp:p∈uE fp h):p.1∈fp/\h.get? p.1=aa p.2:=by
 obtain⟨b,hb,e⟩:=vR.mp hp;cases q:h.get? b with
 |none=>rw[q]at e;cases e
 |some o=>
  rw[q]at e;have e':(b,o)=p:=fM e;subst e';exact⟨hb,q⟩
theorem Inv.pinned{af:List (ag×Obj)}{σ:St}{H:Hp}{s:aw}{fp:List ag}(I:Inv X af σ H s)(hf:∀b∈fp,gN X af H b)(ho:∀b∈fp,∃o,s.heap.get? b=aa o/\∀v,o.data≠.cell v):Inv X (af++uE fp s.heap) σ H s:=
 I.x9 λp hp=>(da.mp hp).elim (λz=>I.pin p (dH _ z)) λz=>by
  obtain⟨hb,e⟩:=Jz z;obtain⟨f0,f1,f2,_⟩:=hf p.1 hb;obtain⟨o,e',d⟩:=ho p.1 hb;rw[e]at e';cases e';exact⟨e,f0,f1,f2,d⟩
theorem Inv.oQ{af pl:List (ag×Obj)}{σ:St}{H:Hp}{s:aw}(I:Inv X (af++pl) σ H s):Inv X af σ H s:=I.x9 λp hp=>I.pin p (dH _ (fe _ hp))
theorem gX{iter:aW}{body:List bq}{wi:TI}{g:TG}{tb:TS}{pos:Pos}(hp:PassesOwn (model X.prog X.w) X.A X.env X.xe)(hc:X.calm=true)(hi:PI X tg iter wi)(hg:PG X tg g)(hb:eZ X body tb)
 (hs:∀x,foldedSetIterable iter X.env x=pure x:=by intro _;rfl):PS X (.For tg iter body [] pos) (zh wi g tb):=by
 intro af s σ H D I h;refine wpAny_For (a5 (hi af s σ H _ I h) λv s1 h1=>a5 h1 λitv s2 h2=>?_) hs;obtain⟨it,fp,tn,J,H2,e,I2,T,st2,f2,W,⟨m0,w0⟩,turn⟩:=h2;subst e;have stat:∀{H':Hp},(∀b∈fp,H' b=ac)->∀b∈fp,gN X af H' b:=λhn b hb=>⟨hn b hb,(f2 b hb).2⟩;refine codeAny_forLoop_any (λn s'=>∃i σ' H',Inv X af σ' H' s'/\tn i s'.heap/\(∀b∈fp,H' b=ac)/\W i n σ' H') ?_ m0 ⟨0,σ,H2,I2,st2,λb hb=>(f2 b hb).1,w0⟩;rintro n s3 ⟨i,σ3,H3,I3,st3,fr3,w3⟩;rcases turn i n σ3 H3 w3 with ⟨stop,qn⟩|⟨go,N,hN,step⟩
 ·refine nN hp (a5 (T.done X rfl rfl rfl hc i af s3 σ3 H3 X.xe I3 (stat fr3) st3 stop) λr s4 ⟨hr,I4⟩=>?_);subst hr;exact pZ ⟨σ3,H3,I4,qn⟩
 ·refine nN hp (a5 (T.item X rfl rfl rfl hc i af s3 σ3 H3 X.xe I3 (stat fr3) st3 go) λr s4 ⟨u,hr,h4⟩=>?_);subst hr;refine nN hp (a5 h4 λ_ s5 ⟨x,H5,I5,r5,y5,st5,fr5⟩=>?_);have I5':=I5.pinned (stat fr5) (T.obj _ _ st5);refine nN hp (a5 (hg _ s5 σ3 H5 x u _ I5' r5 (step x H5 y5)) λ_ s6 ⟨σ6,H6,I6,q6⟩=>?_);refine nN hp (a5 (hb _ s6 σ6 H6 _ I6 q6) λf s7 q7=>?_);have again:∀{σ7:St} {H7:Hp},Inv X (af++uE fp s5.heap) σ7 H7 s7->N σ7 H7->∃m,m<n/\∃i σ' H',Inv X af σ' H' s7/\tn i s7.heap/\(∀b∈fp,H' b=ac)/\W i m σ' H':=λ{σ7 H7} I7 n7=>by
   obtain⟨m',hm,w7⟩:=hN σ7 H7 n7;refine⟨m',hm,i+1,σ7,H7,I7.oQ,T.keep _ _ _ st5 λb hb o e=>(I7.pin (b,o) (dH _ (dH _ (pJ hb e)))).1,λb hb=>?_,w7⟩;obtain⟨o,e,d⟩:=T.obj _ _ st5 b hb;exact(I7.pin (b,o) (dH _ (dH _ (pJ hb e)))).2.1
  cases f with
  |next=>obtain⟨σ7,H7,I7,n7⟩:=q7;exact again I7 n7
  |cont=>obtain⟨σ7,H7,I7,n7⟩:=q7;exact again I7 n7
  |brk=>obtain⟨σ7,H7,I7,q7⟩:=q7;exact⟨σ7,H7,I7.oQ,q7⟩
  |ret v=>obtain⟨x7,σ7,H7,I7,r7,q7⟩:=q7;exact⟨x7,σ7,H7,I7.oQ,r7,q7⟩
end
abbrev R2:=V->V->Hp->VK->Prop
def cY(X:Cx)(f:ah->ah->Sem ah)(r:R2):Prop:=
 ∀(af:List (ag×Obj)) (s:aw) (σ:St) (H:Hp) (x y:V) (v u:ah) (Q:VK),Inv X af σ H s->RelV x v->RelV y u->r x y H Q ->
  wpAny (model X.prog X.w) X.A (f v u) (EP X af σ Q) X.xe s
def zw(X:Cx)(f:ah->Sem ah)(r:V->Hp->VK->Prop):Prop:=
 ∀(af:List (ag×Obj)) (s:aw) (σ:St) (H:Hp) (x:V) (v:ah) (Q:VK),Inv X af σ H s->RelV x v->r x H Q ->
  wpAny (model X.prog X.w) X.A (f v) (EP X af σ Q) X.xe s
def fT(X:Cx)(f:ah)(r:List V->Hp->VK->Prop):Prop:=
 ∀(af:List (ag×Obj)) (s:aw) (σ:St) (H:Hp) (xs:List V) (us:List ah) (Q:VK),Inv X af σ H s->Vals xs us->r xs H Q ->
  wpAny (model X.prog X.w) X.A (call f us) (EP X af σ Q) X.xe s
def MO(X:Cx)(r:V->Hp->(Bool->Hp->Prop)->Prop):Prop:=
 ∀(af:List (ag×Obj)) (s:aw) (σ:St) (H:Hp) (x:V) (v:ah) (Q:Bool->Hp->Prop),Inv X af σ H s->RelV x v->r x H Q ->
  wpAny (model X.prog X.w) X.A (truthy v) (TP X af σ Q) X.xe s
def oD(r:R2)(ta tb:TE):TE:=λσ H Q=>ta σ H λx H1=>tb σ H1 λy H2=>r x y H2 Q
def Gv(r:V->Hp->VK->Prop)(ta:TE):TE:=λσ H Q=>ta σ H λx H1=>r x H1 Q
def rI(C:Int->Int->Prop)(g:Int->Int->V):R2:=λx y H Q=>∃i j,x=.int i/\y=.int j/\C i j/\Q (g i j) H
def kD(g:Int->Int->V):R2:=λx y H Q=>∃i j,x=.int i/\y=.int j/\Q (g i j) H
def rU(g:Int->V):V->Hp->VK->Prop:=λx H Q=>∃i,x=.int i/\Q (g i) H
section
variable{X:Cx}{a b c:aW}{ta tb tc:TE}{pos:Pos}
theorem zu(ha:PE X a ta)(hb:PE X b tb){af:List (ag×Obj)}{s:aw}{σ:St}{H:Hp}{R:V->V->Hp->Prop}(I:Inv X af σ H s)
 (h:ta σ H λx H1=>tb σ H1 λy H2=>R x y H2) {Q:ah->aw->Prop} {f:ah->ah->Sem ah}
 (hf:∀v u s2 x y H2,Inv X af σ H2 s2->RelV x v->RelV y u->R x y H2->wpAny (model X.prog X.w) X.A (f v u) Q X.xe s2) :
 wpAny (model X.prog X.w) X.A (eval a X.env) (λv s₁=>wpAny (model X.prog X.w) X.A (eval b X.env) (λu s₂=>wpAny (model X.prog X.w) X.A (f v u) Q X.xe s₂) X.xe s₁) X.xe s:=by
 refine a5 (ha af s σ H _ I h) λv s1 ⟨x,H1,I1,r1,q1⟩=>?_;refine a5 (hb af s1 σ H1 _ I1 q1) λu s2 ⟨y,H2,I2,r2,q2⟩=>?_;exact hf v u s2 x y H2 I2 r1 r2 q2
theorem aG{op:Operator}{r:R2}(ho:cY X (binaryOp op) r)(ha:PE X a ta)(hb:PE X b tb):PE X (.BinOp a op b pos) (oD r ta tb):=by intro af s σ H Q I h;exact wpAny_BinOp (zu ha hb I h λv u s2 x y H2 I2 rx ry q=>ho af s2 σ H2 x y v u Q I2 rx ry q)
theorem E1{op:UnaryOp}{r:V->Hp->VK->Prop}(ho:zw X (unaryOp op) r)(ha:PE X a ta):PE X (.UnaryOp op a pos) (Gv r ta):=by intro af s σ H Q I h;exact UnaryOp_ (a5 (ha af s σ H _ I h) λv s1 ⟨x,H1,I1,r1,q1⟩=>ho af s1 σ H1 x v Q I1 r1 q1)
theorem u0{f:ah->ah->Sem ah}{C:Int->Int->Prop}{g:Int->Int->Int}
 (rule:∀(i j:Int) (t u:Tok) (s:aw) (Q:ah->aw->Prop) (E:ah->aw->Prop),C i j->Q (.int (g i j) s.toks) { s with toks:=s.toks+1 }->wpAny (model X.prog X.w) X.A (f (.int i t) (.int j u)) Q E s) :
 cY X f (rI C λi j=>.int (g i j)):=by
 intro af s σ H x y v u Q I rx ry h;obtain⟨i,j,rfl,rfl,hc,q⟩:=h;obtain⟨t,rfl⟩:=rx;obtain⟨t',rfl⟩:=ry;exact rule i j t t' s _ _ hc ⟨.int (g i j),H,I.tok _,⟨_,rfl⟩,q⟩
theorem Fs{f:ah->ah->Sem ah}{g:Int->Int->Int}
 (rule:∀(i j:Int) (t u:Tok) (s:aw) (Q:ah->aw->Prop) (E:ah->aw->Prop),Q (.int (g i j) s.toks) { s with toks:=s.toks+1 }->wpAny (model X.prog X.w) X.A (f (.int i t) (.int j u)) Q E s) :
 cY X f (kD λi j=>.int (g i j)):=by
 intro af s σ H x y v u Q I rx ry h;obtain⟨i,j,rfl,rfl,q⟩:=h;obtain⟨t,rfl⟩:=rx;obtain⟨t',rfl⟩:=ry;exact rule i j t t' s _ _ ⟨.int (g i j),H,I.tok _,⟨_,rfl⟩,q⟩
theorem Eu{f:ah->ah->Sem ah}{g:Int->Int->Bool}
 (rule:∀(i j:Int) (t u:Tok) (s:aw) (Q:ah->aw->Prop) (E:ah->aw->Prop),Q (.bool (g i j)) s->wpAny (model X.prog X.w) X.A (f (.int i t) (.int j u)) Q E s) :
 cY X f (kD λi j=>.bl (g i j)):=by
 intro af s σ H x y v u Q I rx ry h;obtain⟨i,j,rfl,rfl,q⟩:=h;obtain⟨t,rfl⟩:=rx;obtain⟨t',rfl⟩:=ry;exact rule i j t t' s _ _ ⟨.bl (g i j),H,I,rfl,q⟩
def EA(i j:Int):Prop:=0<=j/\j<=1000000/\i.natAbs<2 ^ 64
def uJ(i j:Int):Prop:=(-(2 ^ 64)<i/\i<2 ^ 64)\/(-(2 ^ 64)<j/\j<2 ^ 64)
theorem uJ.ok{i j:Int}(h:uJ i j):IntMulOk i j:=by
 rcases h with ⟨h1,h2⟩|⟨h1,h2⟩
 ·exact .of_left (intBits_le_64 h1 h2)
 ·exact .of_right (intBits_le_64 h1 h2)
theorem PN:cY X (binaryOp .Add) (kD λi j=>.int (i+j)):=Fs λ_ _ _ _ _ _ _ q=>add_int q
theorem vC:cY X (binaryOp .Sub) (kD λi j=>.int (i-j)):=Fs λ_ _ _ _ _ _ _ q=>sub_int q
theorem fU:cY X (binaryOp .Mult) (rI uJ λi j=>.int (i*j)):=u0 λ_ _ _ _ _ _ _ hc q=>mul_int q hc.ok
theorem cj:cY X (binaryOp .Mod) (rI (λ_ j=>0<j) λi j=>.int (i%j)):=u0 λi j _ _ _ _ _ hc q=>by
 have h1:(0:Int)<j:=hc;exact mod_int' (by omega) (by rw[Int.fmod_eq_emod_of_nonneg i (by omega)];exact q)
theorem IS:cY X (binaryOp .Pow) (rI EA λi j=>.int (i ^ j.toNat)):=u0 λ_ _ _ _ _ _ _ hc q=>pow_int_small hc.1 hc.2.1 hc.2.2 q
theorem Kl{f:ah->Sem ah}{g:Int->Int}
 (rule:∀(i:Int) (t:Tok) (s:aw) (Q:ah->aw->Prop) (E:ah->aw->Prop),Q (.int (g i) s.toks) { s with toks:=s.toks+1 }->wpAny (model X.prog X.w) X.A (f (.int i t)) Q E s) :
 zw X f (rU λi=>.int (g i)):=by
 intro af s σ H x v Q I rx h;obtain⟨i,rfl,q⟩:=h;obtain⟨t,rfl⟩:=rx;exact rule i t s _ _ ⟨.int (g i),H,I.tok _,⟨_,rfl⟩,q⟩
theorem Fa:zw X (unaryOp .USub) (rU λi=>.int (-i)):=Kl λ_ _ _ _ _ q=>neg_int q
end
section
variable{X:Cx}{a b c:aW}{ta tb tc:TE}{pos:Pos}
theorem wY{af:List (ag×Obj)}{σ:St}{H:Hp}{s:aw}{Q:VK}{k k':Bool}(I:Inv X af σ H s)(q:Q (.bl k) H)(e:k=k'):EP X af σ Q (.bool k') s:=by subst e;exact⟨.bl k,H,I,rfl,q⟩
theorem MI:cY X (compareOp .Lt) (kD λi j=>.bl (decide (i<j))):=Eu λ_ _ _ _ _ _ _ q=>lt_int q
theorem Ph:cY X (compareOp .Gt) (kD λi j=>.bl (decide (j<i))):=Eu λ_ _ _ _ _ _ _ q=>gt_int q
theorem K9:cY X (compareOp .Lt) (λx y H Q=>∃i j,x=.str i/\y=.str j/\Q (.bl (decide (i.cps.toList<j.cps.toList))) H):=by intro af s σ H x y v u Q I rx ry h;obtain⟨i,j,rfl,rfl,q⟩:=h;obtain⟨t,rfl⟩:=rx;obtain⟨t',rfl⟩:=ry;exact lt_str (wY I q rfl)
theorem J0:cY X (compareOp .In) (λx y H Q=>∃i j,x=.str i/\y=.str j/\Q (.bl (!(Builtin.Str.occurrences j i 0 j.length 1).isEmpty)) H):=by intro af s σ H x y v u Q I rx ry h;obtain⟨i,j,rfl,rfl,q⟩:=h;obtain⟨t,rfl⟩:=rx;obtain⟨t',rfl⟩:=ry;exact in_str (wY I q rfl)
theorem cY.or{f:ah->ah->Sem ah}{r r':R2}(h:cY X f r)(h':cY X f r'):cY X f (λx y H Q=>r x y H Q\/r' x y H Q):=by
 intro af s σ H x y v u Q I rx ry q;rcases q with q|q
 ·exact h af s σ H x y v u Q I rx ry q
 ·exact h' af s σ H x y v u Q I rx ry q
theorem dA(b:aW){op:CmpOp}(h:op≠.In:=by decide)(h2:op≠.NotIn:=by decide):behindInMarks op b=false:=by
 have e1:(op==CmpOp.In)=false:=by cases op<;>first|rfl|exact absurd rfl h
 have e2:(op==CmpOp.NotIn)=false:=by cases op<;>first|rfl|exact absurd rfl h2
 cases b<;>simp[behindInMarks,e1,e2]
theorem vh{op:CmpOp}{r:R2}(ho:cY X (compareOp op) r)(ha:PE X a ta)(hb:PE X b tb)(hm:behindInMarks op b=false):PE X (.Compare a [op] [b] pos) (oD r ta tb):=by intro af s σ H Q I h;exact wpAny_Compare1 (zu ha hb I h λv u s2 x y H2 I2 rx ry q=>ho af s2 σ H2 x y v u Q I2 rx ry q) hm
def GJ(t:TE):TT:=λσ H Q=>t σ H λx H'=>∃k,x=.bl k/\Q k H'
theorem cO{op:CmpOp}{r:R2}(ho:cY X (compareOp op) r)(ha:PE X a ta)(hb:PE X b tb)(hm:behindInMarks op b=false):PT X (.Compare a [op] [b] pos) (GJ (oD r ta tb)):=by
 intro af s σ H Q I h;refine wpAny_isTrue_Compare1 (a5 (ha af s σ H _ I h) λv s1 ⟨x,H1,I1,r1,q1⟩=>a5 (hb af s1 σ H1 _ I1 q1) λu s2 ⟨y,H2,I2,r2,q2⟩=>
  a5 (ho af s2 σ H2 x y v u _ I2 r1 r2 q2) λc s3 ⟨z,H3,I3,r3,k,e,q3⟩=>?_) hm
 subst e;cases r3;exact pY ⟨H3,I3,q3⟩
def qR(K:aI)(x:V)(H:Hp)(k:Bool):Prop:=
 match x with
 |.non=>k=false
 |.bl b=>k=b
 |.int i=>k=(i != 0)
 |.str y=>y.length<=sizeLine/\k=((y.length:Int) != 0)
 |.byt y=>y.size<=sizeLine/\k=((y.size:Int) != 0)
 |.ref p=>(∃xs,dw K H p xs/\k = !xs.isEmpty)\/(∃xs,e5 K H p xs/\k = !xs.isEmpty)\/∃ak,H p=aa (.dK ak)/\k = !ak.isEmpty
 |_=>False
theorem JM{κ:Type}{ak:List (κ×V)}{vs:List (κ×ah)}(r:KV ak vs):(!vs.isEmpty) = !ak.isEmpty:=by cases r<;>rfl
theorem Cw{xs:List V}{aq:List ah}(r:Vals xs aq):(!aq.toArray.isEmpty) = !xs.isEmpty:=by cases r<;>simp
theorem oY:(sizeLine:Nat)<2 ^ 63:=by rw[eF];decide
theorem D5:MO X (λx H Q=>∃k,qR X.K x H k/\Q k H):=by
 intro af s σ H x v Q I rx h;obtain⟨k,e,q⟩:=h;have hl:=oY;have hs:sizeLine=16777216:=eF;cases x with
 |non=>
  cases rx;have e':k=false:=e;subst e';exact truthy_none ⟨H,I,q⟩
 |bl b=>
  cases rx;have e':k=b:=e;subst e';exact pY ⟨H,I,q⟩
 |int i=>
  obtain⟨t,rfl⟩:=rx;have e':k=(i != 0):=e;subst e';exact PySem.P.truthy_int ⟨H,I,q⟩
 |str y=>
  obtain⟨t,rfl⟩:=rx;obtain⟨hy,e'⟩ : y.length<=sizeLine/\k=((y.length:Int) != 0):=e;subst e';exact PySem.P.truthy_str (by omega) ⟨H,I.tok _,q⟩
 |byt y=>
  obtain⟨t,rfl⟩:=rx;obtain⟨hy,e'⟩ : y.size<=sizeLine/\k=((y.size:Int) != 0):=e;subst e';exact PySem.W.truthy_bytes (by omega) ⟨H,I.tok _,q⟩
 |ref p=>
  cases rx;have e':(∃xs,dw X.K H p xs/\k = !xs.isEmpty)\/(∃xs,e5 X.K H p xs/\k = !xs.isEmpty)\/∃ak,H p=aa (.dK ak)/\k = !ak.isEmpty:=e;rcases e' with ⟨xs,hx,e'⟩|⟨xs,hx,e'⟩|⟨ak,hx,e'⟩
  ·subst e';obtain⟨aq,r,pl,hz⟩:=I.list hx;have hlen:=r.length;exact wpAny_truthy_list pl.isList (by simp only[dI];omega) ⟨H,I.tok _,by rw[Cw r];exact q⟩
  ·subst e';obtain⟨aq,r,pl,hz⟩:=I.tuple hx;have hlen:=r.length;exact truthy_tuple pl (by simp only[dI];omega) ⟨H,I.tok _,by rw[Cw r];exact q⟩
  ·subst e';obtain⟨hz,hS,vs,r,m⟩ : ak.length<=sizeLine/\(p==sysModules)=false/\∃vs,KV ak vs/\s.heap.DictOf (gC X.prog X.w) p vs:=I.hok p _ hx;have hlen:ak.length=vs.length:=tu r;exact wpAny_truthy_dict hS m (by omega) ⟨H,I.tok _,by rw[JM r];exact q⟩
 |_=>exact(show False from e).elim
theorem nZ(ha:PE X a ta)(he:∀whole,isTrue a X.env whole=(do let v <- whole;standAt a.pos;holding [v] (truthy v))) :
 PT X a (λσ H Q=>ta σ H λx H'=>∃k,qR X.K x H' k/\Q k H'):=by
 intro af s σ H Q I h;exact isTrue_plain (a5 (ha af s σ H _ I h) λv s1 ⟨x,H1,I1,r1,q1⟩=>D5 af s1 σ H1 x v Q I1 r1 q1) (he _)
theorem JT:cY X (binaryOp .Add) (λx y H Q=>∃i j,x=.str i/\y=.str j/\i.length+j.length<=sizeLine/\Q (.str (i++j)) H):=by intro af s σ H x y v u Q I rx ry h;obtain⟨i,j,rfl,rfl,hz,q⟩:=h;obtain⟨t,rfl⟩:=rx;obtain⟨t',rfl⟩:=ry;exact add_str (λt' tk=>⟨.str (i++j),H,I.tok _,⟨_,rfl⟩,q⟩) hz
theorem vals1{x:V}{us:List ah}(r:Vals [x] us):∃u,us=[u]/\RelV x u:=by
 cases r with
 |cons r1 r2=>cases r2;exact⟨_,rfl,r1⟩
theorem vals2{x y:V}{us:List ah}(r:Vals [x,y] us):∃u w',us=[u,w']/\RelV x u/\RelV y w':=by
 cases r with
 |cons r1 r2=>
  cases r2 with
  |cons r3 r4=>cases r4;exact⟨_,_,rfl,r1,r3⟩
theorem Ln(hc:X.calm=true):fT X (.builtin "max") (λxs H Q=>∃i j,xs=[.int i,.int j]/\Q (.int (if j>i then j else i)) H):=by
 intro af s σ H xs us Q I r h;obtain⟨i,j,rfl,q⟩:=h;obtain⟨u,w',rfl,⟨t,rfl⟩,⟨t',rfl⟩⟩:=vals2 r;refine max_two_ints (I.ok.hd hc) λh' tk k=>⟨_,H,I.kept k,?_,q⟩;by_cases hj:j>i
 ·rw[a8 hj,a8 hj];exact⟨_,rfl⟩
 ·rw[be hj,be hj];exact⟨_,rfl⟩
theorem Nb(hc:X.calm=true):fT X (.builtin "min") (λxs H Q=>∃i j,xs=[.int i,.int j]/\Q (.int (if j<i then j else i)) H):=by
 intro af s σ H xs us Q I r h;obtain⟨i,j,rfl,q⟩:=h;obtain⟨u,w',rfl,⟨t,rfl⟩,⟨t',rfl⟩⟩:=vals2 r;refine min_two_ints (I.ok.hd hc) λh' tk k=>⟨_,H,I.kept k,?_,q⟩;by_cases hj:j<i
 ·rw[a8 hj,a8 hj];exact⟨_,rfl⟩
 ·rw[be hj,be hj];exact⟨_,rfl⟩
def CS(K:aI)(x:V)(H:Hp)(n:Nat):Prop:=
 match x with
 |.str y=>y.length<=sizeLine/\n=y.length
 |.byt y=>y.size<=sizeLine/\n=y.size
 |.ref p=>(∃xs,dw K H p xs/\n=xs.length)\/∃xs,e5 K H p xs/\n=xs.length
 |_=>False
theorem OA:fT X (.builtin "len") (λxs H Q=>∃x n,xs=[x]/\CS X.K x H n/\Q (.int n) H):=by
 intro af s σ H xs us Q I r h;obtain⟨x,n,rfl,e,q⟩:=h;obtain⟨u,rfl,rx⟩:=vals1 r;have hl:=oY;have hs:sizeLine=16777216:=eF;cases x with
 |str y=>
  obtain⟨t,rfl⟩:=rx;obtain⟨hy,e'⟩ : y.length<=sizeLine/\n=y.length:=e;subst e';exact len_str (by omega) ⟨.int _,H,I.tok _,⟨_,rfl⟩,q⟩
 |byt y=>
  obtain⟨t,rfl⟩:=rx;obtain⟨hy,e'⟩ : y.size<=sizeLine/\n=y.size:=e;subst e';exact PySem.W.len_bytes (by omega) ⟨.int _,H,I.tok _,⟨_,rfl⟩,q⟩
 |ref p=>
  cases rx;have e':(∃xs,dw X.K H p xs/\n=xs.length)\/∃xs,e5 X.K H p xs/\n=xs.length:=e;rcases e' with ⟨xs,hx,e'⟩|⟨xs,hx,e'⟩
  ·subst e';obtain⟨aq,r',pl,hz⟩:=I.list hx;have hlen:=r'.length;exact Calls.call_len_list pl.isList (by simp only[dI];omega) ⟨.int xs.length,H,I.tok _,⟨_,by simp only[dI];rw[hlen]⟩,q⟩
  ·subst e';obtain⟨aq,r',pl,hz⟩:=I.tuple hx;have hlen:=r'.length;exact len_tuple pl (by simp only[dI];omega) ⟨.int xs.length,H,I.tok _,⟨_,by simp only[dI];rw[hlen]⟩,q⟩
 |_=>exact(show False from e).elim
end
structure xw(h:aL)(x dx C:ag)(mA:Str->Option ah):Prop where
 obj:h.get? x=aa (zF C dx)
 ns:h.Ns1 dx mA
 ne:dx≠x
theorem Oe{h:aL}{dx:ag}{mA:Str->Option ah}(n:h.Ns1 dx mA):∃od,h.get? dx=aa od/\∀name,zH name od=aa (mA name):=by
 obtain⟨o,es,ep,ho,hd,hk,_,hm⟩:=n;refine⟨o,ho,λname=>?_⟩;have e:=hm name;unfold nsFind findBy at e;rw[<- Array.find?_toList]at e;unfold zH;rw[hd];dsimp only;split
 ·rename_i y q;rw[q]at e;exact congrArg aa e
 ·rename_i q;rw[q]at e;have a:es.toList.any (·.refKey)=false:=by
   rw[G7];intro y hy;obtain⟨z,t,hkey⟩:=hk y (Ag.mp hy);simp[DictEntry.refKey,hkey]
  have a':¬ es.toList.any (·.refKey)=true:=by rw[a];exact dW
  rw[be a'];exact congrArg aa e
theorem xw.look{h:aL}{x dx C:ag}{mA:Str->Option ah}(I:xw h x dx C mA):∃od,GR h x (zF C dx) C (aa od)/\∀name,zH name od=aa (mA name):=
 let ⟨od,ho,hl⟩:=Oe I.ns
 ⟨od,⟨I.obj,rfl,rfl,ho⟩,hl⟩
section
variable{P:bt}{w:a9}{H H':Hp}{h h':aL}{a C dx:ag}{fs fs':List (Str×V)}
theorem M4(hok:cv P w H h)(e:H a=aa (.ins C dx fs)):∃mA,xw h a dx C mA/\(∀f,mM (fs.lookup f) (mA f))/\PySem.Within mA (fs.map (·.1))/\fs.length<=1000/\H dx=aa (.own a):=by obtain⟨d,z,ne,ob,mA,n,r,q⟩:=(show cF P w H h a (.ins C dx fs)from hok a _ e);exact⟨mA,⟨ob,n,ne⟩,r,q,z,d⟩
end
structure xt(K:aI)(C:ag):Prop where
 pg:GP K C i7=true
 hd:PySem.W.hasDictIn K C=true
 po:PySem.W.plainOver K C=true
 sa:sG K (.ref C) "__setattr__" = aa (aa (.builtin "object.__setattr__"))
theorem xt.get{K:aI}{C:ag}(c:xt K C)(f:Str):GP K C f=true:=c.pg
section
variable{X:Cx}{af:List (ag×Obj)}{σ:St}{H:Hp}{s:aw}{A:bH}{E:ah->aw->Prop}{Q:ah->aw->Prop}{c:ah}{b:Bool}
inductive ie(K:aI)(H:Hp):V->ah->Prop where
 |non:ie K H .non (.type "NoneType")
 |bl (x:Bool):ie K H (.bl x) (.type "bool")
 |int (i:Int):ie K H (.int i) (.type "int")
 |str (x:Str):ie K H (.str x) (.type "str")
 |flt (x:UInt64):ie K H (.flt x) (.type "float")
 |lst {a:ag} {xs:List V} (e:H a=aa (.lst xs)):ie K H (.ref a) (.type "list")
 |frz {a:ag} {o:Obj} {xs:List V} (e:H a=aa (.frz o (.lst xs))):ie K H (.ref a) (.type "list")
 |tup {a:ag} {xs:List V} (e:H a=aa (.tup xs)):ie K H (.ref a) (.type "tuple")
 |dK {a:ag} {ak:List (Key×V)} (e:H a=aa (.dK ak)):ie K H (.ref a) (.type "dict")
 |dT {a:ag} {ak:List (List Key×V)} (e:H a=aa (.dT ak)):ie K H (.ref a) (.type "dict")
 | ins {a C dx:ag} {fs:List (Str×V)} (e:H a=aa (.ins C dx fs)) (cl:xt K C) (ha:sG K (.ref C) "__class__" = aa (aa (.builtin "object.__class__")))
  (hn:GL K (.builtin "object.__class__") "__get__" = aa (aa (.builtin "getset_descriptor.__get__"))) (htk:GQ K (.builtin "object.__class__")=aa true)
  (hm:zI K C (.type "object")=aa true):ie K H (.ref a) (.ref C)
theorem OG{x:V}{u t:ah}(I:Inv X af σ H s)(rx:RelV x u)(ty:ie X.K H x t)(e:eO X.K t c=aa b)(h:∀tk,Q (.bool b) { s with toks:=tk }) :
 wpAny (model X.prog X.w) A (call (.builtin "isinstance") [u,c]) Q E s:=by
 cases ty with
 |non=>cases(show u=fN from rx);exact jA PySem.W.kitx_none I.dX km e (λz=>nomatch z) h
 |bl y=>cases(show u=jD y from rx);exact jA PySem.W.kitx_bool I.dX km e (λz=>nomatch z) h
 |int i=>obtain⟨t,q⟩:=(show∃t,u=Value.int i t from rx);cases q;exact jA PySem.W.kitx_int I.dX km e (λz=>nomatch z) h
 |str y=>obtain⟨t,q⟩:=(show∃t,u=nQ y t from rx);cases q;exact jA PySem.W.kitx_str I.dX km e (λz=>nomatch z) h
 |flt y=>obtain⟨t,q⟩:=(show∃t,u=Value.float y t from rx);cases q;exact jA PySem.W.kitx_float I.dX km e (λz=>nomatch z) h
 | @lst a xs ea=>
  cases(show u=dy a from rx);obtain⟨_,_,n,_,h1⟩:=(show cF X.prog X.w H s.heap a (.lst xs)from I.hok a _ ea);exact jA GN I.dX ⟨_,h1,rfl⟩ e (λz=>nomatch z) h
 | @frz a ob xs ea=>
  cases(show u=dy a from rx);obtain⟨_,_,_,n,_,h1⟩:=(show cF X.prog X.w H s.heap a (.frz ob (.lst xs))from I.hok a _ ea);exact jA GN I.dX ⟨_,h1,rfl⟩ e (λz=>nomatch z) h
 | @tup a xs ea=>
  cases(show u=dy a from rx);obtain⟨_,_,_,p⟩:=(show cF X.prog X.w H s.heap a (.tup xs)from I.hok a _ ea);obtain⟨o,h1,h2,_⟩:=p;exact jA PySem.W.kitx_tuple I.dX ⟨o,h1,h2⟩ e (λz=>nomatch z) h
 | @dK a ak ea=>
  cases(show u=dy a from rx);obtain⟨_,_,vs,_,p⟩:=(show cF X.prog X.w H s.heap a (.dK ak)from I.hok a _ ea);obtain⟨o,es,ep,h1,h2,_⟩:=p;exact jA GO I.dX ⟨o,h1,h2.1⟩ e (λz=>nomatch z) h
 | @dT a ak ea=>
  cases(show u=dy a from rx);obtain⟨_,_,xs,_,o,es,ep,h1,h2,_⟩:=(show cF X.prog X.w H s.heap a (.dT ak)from I.hok a _ ea);exact jA GO I.dX ⟨o,h1,h2.1⟩ e (λz=>nomatch z) h
 | @ins a C dx fs ea cl ha hn htk hm=>
  cases(show u=dy a from rx);obtain⟨mA,O,_⟩:=M4 I.hok ea;obtain⟨od,J,_⟩:=O.look;exact jA (PySem.W.kitx_own (cl.get _) cl.hd ha hn htk hm) I.dX J e (λz=>nomatch z) h
end
structure cE(k:Nat)(A:bH):Prop where
 hd:A.handled=ac
 dp:A.depth+3*k+5<recursionLimit
 un:A.units+16*k+200<cLine
theorem cE.mono{j k:Nat}{A:bH}(r:cE k A)(h:j<=k):cE j A:=⟨r.hd,by have:=r.dp;omega,by have:=r.un;omega⟩
theorem cE.deeper{k:Nat}{A:bH}(r:cE (k+1) A)(env:Env):cE k (A.deeper env):=⟨r.hd,by have:=r.dp;show A.depth+1+3*k+5<_;omega,by have:=r.un;show A.units+3+16*k+200<_;omega⟩
theorem cE.depth{k:Nat}{A:bH}(r:cE k A):A.depth<recursionLimit:=by have:=r.dp;omega
theorem cE.units{k:Nat}{A:bH}(r:cE k A):A.units+64<cLine:=by have:=r.un;omega
def ib:TA:=λ_ H Q=>Q [] H
def gc(ta:TE)(tr:TA):TA:=λσ H Q=>ta σ H λx H1=>tr σ H1 λxs H2=>Q (x::xs) H2
section
variable{X:Cx}{e:aW}{es:List aW}{te:TE}{t:TA}{pos:Pos}
theorem aS:PA X [] ib:=λ_ _ _ _ H Q I h=>wC ⟨[],H,I,.nil,h⟩
theorem ap(ha:PE X e te)(hr:PA X es t)(hs:starEach (e::es) X.env=(false,eval e X.env)::starEach es X.env:=by rfl):PA X (e::es) (gc te t):=by intro pos af s σ H Q I h;rw[hs];show wpAny _ _ (spliced ((false,eval e X.env)::backTo pos (starEach es X.env))) _ _ s;refine tq (a5 (ha af s σ H _ I h) λu s1 ⟨x,H1,I1,r1,q1⟩=>?_);exact a5 (hr pos af s1 σ H1 _ I1 q1) λus s2 ⟨xs,H2,I2,r2,q2⟩=>⟨x::xs,H2,I2,.cons r1 r2,q2⟩
def xh(t:TA):TE:=λσ H Q=>t σ H λxs H1=>xs.length<=sizeLine/\∀p,H1 p=ac->Q (.ref p) (upd H1 p (.tup xs))
def BR(t:TA):TE:=λσ H Q=>t σ H λxs H1=>xs.length<=sizeLine/\∀p,H1 p=ac->Q (.ref p) (upd H1 p (.lst xs))
theorem l0{x1}(h:PA X es t):PE X (.Tuple es x1 pos) (xh t):=by intro af s σ H Q I hq;refine wpAny_Tuple_spliced (a5 (h pos af s σ H _ I hq) λus s1 ⟨xs,H1,I1,r,z,q⟩=>⟨by rw[<- r.length];exact z,?_⟩);have hf:H1 s1.heap.objs.size=ac:=I1.hok.fresh (bO _);refine⟨.ref s1.heap.objs.size,upd H1 s1.heap.objs.size (.tup xs),I1.laid (t':=s1.toks) (λb u e=>dU _ e) (bO _) ?_,rfl,q _ hf⟩;exact⟨z,us,r,⟨_,fw _ rfl,rfl,rfl,_,rfl⟩⟩
theorem cy(h:PA X es t):PE X (.List es pos) (BR t):=by intro af s σ H Q I hq;refine wpAny_List_spliced (a5 (h pos af s σ H _ I hq) λus s1 ⟨xs,H1,I1,r,z,q⟩=>⟨by rw[<- r.length];exact z,?_⟩);have hf:H1 s1.heap.objs.size=ac:=I1.hok.fresh (bO _);refine⟨.ref s1.heap.objs.size,upd H1 s1.heap.objs.size (.lst xs),I1.laid (t':=s1.toks) (λb u e=>dU _ e) (bO _) ?_,rfl,q _ hf⟩;exact⟨z,us,0,r,fw _ rfl⟩
end
abbrev Sp:=List V->Hp->VK->XK->Prop
abbrev f6:=List Env->Hp->aw->XK->ah->aw->Prop
structure kq(P:bt)(w:a9)(K:aI)(mg:Str->Option ah)(base:aL)(A:bH)(outer:List Env)(s:aw)(H:Hp):Prop where
 frames:A.frames=aa outer
 mod:Mod K mg base
 bs:∀b o,base.get? b=aa o->s.heap.get? b=aa o/\H b=ac
 bsz:base.objs.size<=s.heap.objs.size
 fF:s.heap.FunFrames base outer
 frf:∀b∈frs outer,H b=ac
 hok:cv P w H s.heap
 bare:kW s.gens
def CE(outer:List Env)(P:bt)(w:a9)(H:Hp)(s:aw)(Q:VK)(u:ah)(s':aw):Prop:=∃v H',s'.os=s.os/\kW s'.gens/\Un (frs outer) [] H H' s.heap s'.heap/\cv P w H' s'.heap/\RelV v u/\Q v H'
def CR(CX:f6)(outer:List Env)(P:bt)(w:a9)(H:Hp)(s:aw)(Q:VK)(E:XK)(r:Result)(s':aw):Prop:=
 match r with
 |.ok (.ret u)=>CE outer P w H s Q u s'
 |.ok _=>False
 |.error e=>CX outer H s E e s'
structure bJ(P:bt)(w:a9)(K:aI)(mg:Str->Option ah)(base:aL)(CX:f6)(k:Nat)(f:ag)(fd:bD)(ps:List Str)(sp:Sp):Prop where
 len:∀vs H Q E,sp vs H Q E->vs.length=ps.length
 run:∀(A:bH) (outer:List Env) (s:aw) (H:Hp) (args:Args) (us:List ah) (vs:List V) (Q:VK) (E:XK),cE k A->kq P w K mg base A outer s H->kT s fd args (ps.zip us)->Vals vs us->sp vs H Q E ->
  codeAny (model P w) A (.call (.ref f) args) (CR CX outer P w H s Q E) s
theorem bJ.imp{P:bt}{w:a9}{K:aI}{mg:Str->Option ah}{base:aL}{CX:f6}{k:Nat}{f:ag}{fd:bD}{ps:List Str}{sp sp':Sp}(F:bJ P w K mg base CX k f fd ps sp)
 (h:∀vs H Q E,sp' vs H Q E->sp vs H Q E):bJ P w K mg base CX k f fd ps sp':=
 ⟨λvs H Q E q=>F.len vs H Q E (h _ _ _ _ q),λA outer s H args us vs Q E hr he hb hv hs=>F.run A outer s H args us vs Q E hr he hb hv (h _ _ _ _ hs)⟩
section
variable{X:Cx}{af:List (ag×Obj)}{σ:St}{H:Hp}{s s':aw}
theorem Inv.env0(I:Inv X af σ H s):kq X.prog X.w X.K X.mg X.base X.A X.stack s H:=⟨I.ok.frames,I.ok.mod,I.bs,eW I.ok.bsz I.sz,I.stack,I.uP,I.hok,I.bare⟩
theorem Inv.after{Q:VK}{u:ah}(I:Inv X af σ H s)(h:CE X.stack X.prog X.w H s Q u s'):EP X af σ Q u s':=by obtain⟨v,H',os,bare,un,hok,r,q⟩:=h;obtain⟨hh,g,d,t,os'⟩:=s';obtain rfl:os'=s.os:=os;exact⟨v,H',I.call (h':=hh) (g':=g) (d':=d) (t':=t) (ch:=[]) un hok bare (λb z=>absurd z (by simp)),r,q⟩
end
def lD(sp:Sp)(dvs:List V)(E:XK)(t:TA):TE:=λσ H Q=>t σ H λvs H1=>sp (vs++dvs) H1 Q E
def Binds(K:aI)(fd:bD)(ps:List Str)(ds:List ah):Prop:=∀(s:aw) (us:List ah),K.In s.heap->(us++ds).length=ps.length->kT s fd ⟨us,[]⟩ (ps.zip (us++ds))
theorem Binds.all{K:aI}{fd:bD}{ps:List Str}(h:∀us:List ah,us.length=ps.length->bindArgs fd ⟨us,[]⟩=pure (ps.zip us)):Binds K fd ps []:=λs us _ hl=>by
 rw[kg]at hl ⊢;exact .of_eq (h us hl)
def sD(CX:f6)(X:Cx)(E:XK):Prop:=∀(af:List (ag×Obj)) (σ:St) (H:Hp) (s:aw) (e:ah) (s':aw),Inv X af σ H s->CX X.stack H s E e s'->X.xe e s'
section
variable{X:Cx}{CX:f6}{k:Nat}{f C:ag}{fd:bD}{ps:List Str}{sp:Sp}{dvs:List V}{ds:List ah}{E:XK}{x m:Str}{p pos apos:Pos}{e o:aW}{es:List aW}{ta:TE}{t:TA}
theorem MR{af:List (ag×Obj)}{σ:St}{H:Hp}{s:aw}{Q:VK}{us:List ah}{vs:List V}(F:bJ X.prog X.w X.K X.mg X.base CX k f fd ps sp)(hr:cE k X.A)(hb:Binds X.K fd ps ds)(hd:Vals dvs ds)(hx:sD CX X E)
 (I:Inv X af σ H s) (r:Vals vs us) (h:sp (vs++dvs) H Q E):wpAny (model X.prog X.w) X.A (call (.ref f) us) (EP X af σ Q) X.xe s:=by
 have r2:Vals (vs++dvs) (us++ds):=r.append hd;have hl:(us++ds).length=ps.length:=by rw[<- r2.length];exact F.len _ _ _ _ h
 refine sR (qa (F.run X.A X.stack s H ⟨us,[]⟩ (us++ds) (vs++dvs) Q E hr I.env0 (hb s us I.dX hl) r2 h) λr s' hq=>?_);cases r with
 |error e=>exact hx af σ H s e s' I hq
 |ok fl=>
  cases fl with
  |ret u=>exact I.after hq
  |next=>exact eR hq
  |brk=>exact eR hq
  |cont=>exact eR hq
theorem O2(F:bJ X.prog X.w X.K X.mg X.base CX k f fd ps sp)(hr:cE k X.A)(hg:Gl X x)(hm:X.mg x=aa (.ref f))(hk:j8 X.K (.ref f)=true)(hb:Binds X.K fd ps ds)(hd:Vals dvs ds)(hx:sD CX X E)
 (ha:PA X (e::es) t) (hdb:(x==("__debug__" : Str))=false:=by decide) (he:starEach (e::es) X.env=(false,eval e X.env)::starEach es X.env:=by rfl) (hpl:(backTo pos (starEach es X.env)).any (·.1)=false:=by rfl) :
 PE X (.Call (.Name x p) (e::es) [] pos) (lD sp dvs E t):=by
 intro af s σ H Q I h;refine nM (m7 I hg hm ?_ hdb);refine vI (h₀:=X.base) I.ok.mod.kin hk (a5 (ha pos af s σ H _ I h) λus s1 ⟨vs,H1,I1,r,q⟩=>⟨I1.dX,?_⟩) he hpl;exact MR F hr hb hd hx I1 r q
end
structure bZ(N P:List Str)(sc:dJ):Prop where
 kind:sc.kind=.function
 co:sc.isCoroutine=false
 gen:sc.isGenerator=false
 nd:N.Nodup
 pre:N.take P.length=P
 par:∀x∈P,sc.names.lookup x=aa .local\/sc.names.lookup x=aa .cell
 P1:∀y∈sc.names,y.2≠.free
theorem CA{kindOf:Str->Option mz}{x:Str}:∀{binds:List (Str×ah)} {m:Str->Option ah},(∀v,(x,v)∉binds)->bindL kindOf binds m x=m x
 |[],_,_=>rfl
 |(n,v)::r,m,h=>by
  unfold bindL;rw[CA λw hw=>h w (eP _ hw)];split
  ·have:x≠n:=by rintro rfl;exact h v dS
   simp[this]
  ·rfl
theorem Fh{kindOf:Str->Option mz}{x:Str}:∀{binds:List (Str×ah)} {m:Str->Option ah},(∀v,(x,v)∉binds)->bindC kindOf binds m x=m x
 |[],_,_=>rfl
 |(n,v)::r,m,h=>by
  unfold bindC;rw[Fh λw hw=>h w (eP _ hw)];split
  ·rfl
  ·have:x≠n:=by rintro rfl;exact h v dS
   simp[this]
theorem EV{kindOf:Str->Option mz}{x:Str}{v:ah}:∀{P:List Str} {vs:List ah} {i:Nat} {m:Str->Option ah},P.Nodup->P[i]? = aa x->vs[i]? = aa v->kindOf x=aa .local ->
 bindL kindOf (P.zip vs) m x=aa v
 |[],_,_,_,_,h,_,_=>by simp at h
 |_::_,[],_,_,_,_,h,_=>by simp at h
 |p::P,w::vs,0,m,nd,h1,h2,hk=>by
  simp at h1 h2;subst h1;subst h2;show bindL kindOf ((p,w)::P.zip vs) m p=_;unfold bindL;rw[CA λv hv=>(nK.mp nd).1 (sN hv).1,a8 hk];simp
 |p::P,w::vs,i+1,m,nd,h1,h2,hk=>by
  show bindL kindOf ((p,w)::P.zip vs) m x=_;unfold bindL;exact EV (i:=i) (nK.mp nd).2 (by simpa using h1) (by simpa using h2) hk
theorem FT{kindOf:Str->Option mz}{x:Str}{v:ah}:∀{P:List Str} {vs:List ah} {i:Nat} {m:Str->Option ah},P.Nodup->P[i]? = aa x->vs[i]? = aa v->kindOf x≠aa .local ->
 bindC kindOf (P.zip vs) m x=aa v
 |[],_,_,_,_,h,_,_=>by simp at h
 |_::_,[],_,_,_,_,h,_=>by simp at h
 |p::P,w::vs,0,m,nd,h1,h2,hk=>by
  simp at h1 h2;subst h1;subst h2;show bindC kindOf ((p,w)::P.zip vs) m p=_;unfold bindC;rw[Fh λv hv=>(nK.mp nd).1 (sN hv).1,be hk];simp
 |p::P,w::vs,i+1,m,nd,h1,h2,hk=>by
  show bindC kindOf ((p,w)::P.zip vs) m x=_;unfold bindC;exact FT (i:=i) (nK.mp nd).2 (by simpa using h1) (by simpa using h2) hk
def start(N:List Str)(vs:List V):St:=vs.map aa++cG (N.length-vs.length) ac
def dQ(CX:f6)(P:bt)(w:a9)(K:aI)(mg:Str->Option ah)(base:aL)(N:List Str)(qual:Str)(scope:dJ)(f:ag)(cd:ah)(A:bH)(outer:List Env)(s:aw)(H:Hp)(E:XK):Cx where
 prog:=P
 w:=w
 K:=K
 mg:=mg
 base:=base
 A:=A.deeper (envOfC qual scope s.heap.objs.size f cd)
 N:=N
 s₀:=s
 H₀:=H
 env:=envOfC qual scope s.heap.objs.size f cd
 outer:=outer
 stack:=envOfC qual scope s.heap.objs.size f cd::outer
 ex:=[]
 calm:=true
 fn:=λ_=>true
 pn:=[]
 xe:=λe s'=>wpAny (model P w) (A.deeper (envOfC qual scope s.heap.objs.size f cd)) (leaving (envOfC qual scope s.heap.objs.size f cd) e) (λ_ s''=>CX outer H s E e s'') (λe' s''=>CX outer H s E e' s'') s'
theorem E8{sc:dJ}{n:Nat}{x:Str}(h:sc.names.lookup x=aa .cell):∃c,(cellsFrom n sc.names []).lookup x=aa c:=by have q:=vH sc.names n [] (.inl h);exact wx.mp q
theorem yG{CX:f6}{P:bt}{w:a9}{K:aI}{mg:Str->Option ah}{base:aL}{N ps:List Str}{qual:Str}{scope:dJ}{f:ag}{cd:ah}{A:bH}{outer:List Env}{s s1:aw}{H:Hp}{E:XK}{us:List ah}{vs:List V}
 (S:bZ N ps scope) (hd:A.handled=ac) (e0:kq P w K mg base A outer s H) (hl:vs.length=ps.length) (r:Vals vs us)
 (x:InCallC s s.heap.objs.size (bindL (envOfC qual scope s.heap.objs.size f cd).kindOf (ps.zip us) λ_=>ac) (cellsFrom (s.heap.objs.size+1) scope.names []) (bindC (envOfC qual scope s.heap.objs.size f cd).kindOf (ps.zip us) λ_=>ac) s1) :
 Inv (dQ CX P w K mg base N qual scope f cd A outer s H E) [] (start N vs) H s1:=by
 have hpl:ps.length<=N.length:=by have:=congrArg zS S.pre;rw[g6]at this;omega
 obtain⟨h1,tk,rfl,hk⟩:=x.done;have noA:∀b:ag,b∉(dQ CX P w K mg base N qual scope f cd A outer s H E).ex:=λb z=>absurd (show b∈([]:List ag)from z) (by simp);refine⟨⟨e0.mod,S.kind,rfl,rfl,bO _,λy z c h1 h2=>?_,λy hy=>?_,λy c _ h=>?_,λ_=>hd,Aj e0.frames,.inr ⟨rfl,rfl⟩,λb z=>absurd z (noA b),e0.bs,e0.bsz,λb _ _=>noA b,λb z=>absurd z (noA b),e0.fF,e0.frf⟩,
  rfl,e0.bare,Un.kept hk,⟨_,x.toInCall.ns,λi y v h1 h2 h3=>?_⟩,λy c h=>⟨_,x.cell y c h⟩,e0.hok.fresh (bO _),λy c h=>?_,λp hp=>absurd (show p∈([]:List (ag×Obj))from hp) (by simp),e0.hok.kept hk,?_⟩
 ·exact name_of_addr x.apart (lO h1) (lO h2)
 ·have hy:scope.names.lookup y=aa .cell\/scope.names.lookup y=aa .free:=hy;rcases hy with hy|hy
  ·exact E8 hy
  ·exact absurd rfl (S.P1 _ (lO hy))
 ·exact wm (x.above y c (lO h))
 ·have hi:i<vs.length:=by
   unfold start at h2;by_cases hi:i<vs.length
   ·exact hi
   ·rw[GU (by simpa using hi)]at h2;rw[GW]at h2;split at h2<;>cases h2
  have ha:vs[i]? = aa v:=by
   unfold start at h2;rw[zJ (by simpa using hi),d8]at h2;cases e:vs[i]? with
   |none=>rw[e]at h2;cases h2
   |some a=>rw[e]at h2;cases h2;rfl
  obtain⟨u,hu,rv⟩:=r.get ha;have hp:ps[i]? = aa y:=by rw[<- S.pre,zK (by omega)];exact h1
  have ndP:ps.Nodup:=by rw[<- S.pre];exact S.nd.sublist (List.take_sublist _ _)
  refine⟨u,rv,?_⟩;rcases S.par y (sK hp)with k|k
  ·exact .inl ⟨k,EV ndP hp hu k⟩
  ·obtain⟨c,e⟩:=E8 (n:=s.heap.objs.size+1) k;refine .inr ⟨.inl k,c,e,?_⟩;have q:=x.cell y c e;rw[FT ndP hp hu (by show scope.names.lookup y≠_;rw[k];decide)]at q;exact q
 ·exact e0.hok.fresh (wm (x.above y c (lO h)))
 ·unfold start;show _=N.length;rw[cC,bd,zN];omega
theorem xK{CX:f6}{P:bt}{w:a9}{K:aI}{mg:Str->Option ah}{base:aL}{k:Nat}{f:ag}{name qual:Str}{params:nO}{body:List bq}{scope:dJ}{dV kV doc pm cdv ct oc:ah}{an od:Option ag}
 {osl:Array (Option ah)} {N ps:List Str} {sp:Sp} (lk:K.lookup f=aa ⟨oc,od,.func (i6 name qual params body scope dV kV doc pm an cdv ct),osl⟩) (hcd:nH K cdv qual=true) (S:bZ N ps scope)
 (len:∀vs H Q E,sp vs H Q E->vs.length=ps.length)
 (hbody:∀(A:bH) (outer:List Env) (s:aw) (H:Hp) (vs:List V) (Q:VK) (E:XK),cE k (A.deeper (envOfC qual scope s.heap.objs.size f cdv))->sp vs H Q E ->
  ∃t,eZ (dQ CX P w K mg base N qual scope f cdv A outer s H E) body t/\t { nx:=λ_ H'=>Q .non H',rt:=Q } (start N vs) H) :
 bJ P w K mg base CX (k+1) f (i6 name qual params body scope dV kV doc pm an cdv ct) ps sp:=by
 refine⟨len,λA outer s H args us vs Q E hr e0 hb r hsp=>?_⟩;have hl:=len _ _ _ _ hsp;have KX:K.In s.heap:=e0.mod.kin.keeps λb o e=>(e0.bs b o e).1;have lim:s.heap.NoLimit:=e0.mod.nolimit.keeps λb o e=>(e0.bs b o e).1;have hkind:∀y∈ps.zip us,scope.names.lookup y.1=aa .local\/(scope.names.lookup y.1=aa .cell/\((cellsFrom (s.heap.objs.size+1) scope.names []).lookup y.1).isSome=true):=λ⟨n,v⟩ hy=>by
  rcases S.par n (sN hy).1 with q|q
  ·exact .inl q
  ·exact .inr ⟨q,vH _ _ _ (.inl q)⟩
 refine zU hr.depth (KX _ _ lk) rfl S.co S.gen rfl (zD KX hcd) (hb _ _ _ _ ?_);refine zT S.kind hkind λenv he s1 x=>?_;subst he;refine⟨lim.keeps x.toInCall.keep,codeAny_func ?_⟩;obtain⟨t,ht,hq⟩:=hbody A outer s H vs Q E (hr.deeper _) hsp;have I:Inv (dQ CX P w K mg base N qual scope f cdv A outer s H E) [] (start N vs) H s1:=yG S hr.hd e0 hl r x;refine g7 (ht [] s1 (start N vs) H _ I hq) (λfl s' hs=>?_) λe s' hs=>hs;have fin:∀{σ':St} {H':Hp} {v:V} {u:ah},Inv (dQ CX P w K mg base N qual scope f cdv A outer s H E) [] σ' H' s'->RelV v u->Q v H'->CE outer P w H s Q u s':=
  λ{σ' H' v u} J rv q=>⟨v,H',J.os,J.bare,J.base,J.hok,rv,q⟩
 cases fl with
 |ret u=>
  obtain⟨v,σ',H',J,rv,q⟩:=hs;exact fin J rv q
 |next=>
  obtain⟨σ',H',J,q⟩:=hs;exact fin (v:=V.non) (u:=fN) J rfl q
 |brk=>
  obtain⟨_,_,_,q⟩:=hs;exact eR q
 |cont=>
  obtain⟨_,_,_,q⟩:=hs;exact eR q
section
variable{X:Cx}{x:Str}{p pos:Pos}{e:aW}{es:List aW}{t:TA}{id T:String}{r:List V->Hp->VK->Prop}
def pL(r:List V->Hp->VK->Prop)(t:TA):TE:=λσ H Q=>t σ H λvs H1=>r vs H1 Q
theorem dN(hc:fT X (.builtin id) r)(hg:Gl X x)(hm:X.mg x=ac)(hv:bootBuiltins x=aa (.builtin id))(ha:PA X (e::es) t)(hn:x ≠ "__name__" := by decide)(hdb:(x==("__debug__" : Str))=false:=by decide)
 (he:starEach (e::es) X.env=(false,eval e X.env)::starEach es X.env:=by rfl) (hpl:(backTo pos (starEach es X.env)).any (·.1)=false:=by rfl):PE X (.Call (.Name x p) (e::es) [] pos) (pL r t):=by
 intro af s σ H Q I h;refine nM (si I hg hm hv ?_ hn hdb);exact PyProof.Rows.callWith_builtin1 (a5 (ha pos af s σ H _ I h) λus s1 ⟨vs,H1,I1,r1,q1⟩=>hc af s1 σ H1 vs us Q I1 r1 q1) he hpl
theorem iM(hc:fT X (.type T) r)(hg:Gl X x)(hm:X.mg x=ac)(hv:bootBuiltins x=aa (.type T))(ha:PA X (e::es) t)(hn:x ≠ "__name__" := by decide)(hdb:(x==("__debug__" : Str))=false:=by decide)
 (he:starEach (e::es) X.env=(false,eval e X.env)::starEach es X.env:=by rfl) (hpl:(backTo pos (starEach es X.env)).any (·.1)=false:=by rfl):PE X (.Call (.Name x p) (e::es) [] pos) (pL r t):=by
 intro af s σ H Q I h;refine nM (si I hg hm hv ?_ hn hdb);exact Ah (a5 (ha pos af s σ H _ I h) λus s1 ⟨vs,H1,I1,r1,q1⟩=>hc af s1 σ H1 vs us Q I1 r1 q1) he hpl
end
end L2
namespace HT
open PySem PyProof.Rows
section
variable{prog:bt}{w:a9}{A:bH}{E:ah->aw->Prop}{s:aw}
def c5(n d:Nat):Option Int->Nat
 |none=>d
 |some v=>if v<0 then(v+(n:Int)).toNat else min v.toNat n
theorem Ff(n d:Nat)(hd:d<=n)(o:Option Int):c5 n d o<=n:=by
 cases o with
 |none=>exact hd
 |some v=>
  show(if v<0 then(v+(n:Int)).toNat else min v.toNat n)<=n;by_cases hv:v<0
  ·rw[a8 hv];omega
  ·rw[be hv];exact Nat.min_le_right _ _
end
end HT
namespace L2
open PySem PySem.Spec PyProof.Rows
abbrev TO:=St->Hp->(Option Int->Hp->Prop)->Prop
def PO(X:Cx)(e:Option aW)(t:TO):Prop:=
 ∀(af:List (ag×Obj)) (s:aw) (σ:St) (H:Hp) (Q:Option Int->Hp->Prop),Inv X af σ H s->t σ H Q ->
  wpAny (model X.prog X.w) X.A (evalPart e X.env) (λu s'=>∃o H',Inv X af σ H' s'/\IsPart u o/\Q o H') X.xe s
def Cd:TO:=λ_ H Q=>Q ac H
def FM(t:TE):TO:=λσ H Q=>t σ H λx H1=>∃i,x=.int i/\Q (aa i) H1
section
variable{X:Cx}{e:aW}{te:TE}{lo hi:Option aW}{tl th:TO}{pos p2:Pos}
theorem jU:PO X ac Cd:=by intro af s σ H Q I h;rw[evalPart_none];exact bW ⟨ac,H,I,.none,h⟩
theorem iV(h:PE X e te):PO X (aa e) (FM te):=by intro af s σ H Q I hw;rw[evalPart_some];refine a5 (h af s σ H _ I hw) λu s1 ⟨x,H1,I1,r1,q1⟩=>?_;obtain⟨i,rfl,q⟩:=q1;obtain⟨t,rfl⟩:=r1;exact⟨aa i,H1,I1,.int i t,q⟩
def mj(X:Cx)(r:V->Option Int->Option Int->Hp->VK->Prop):Prop:=
 ∀(af:List (ag×Obj)) (s:aw) (σ:St) (H:Hp) (x:V) (v vl vu:ah) (lo hi:Option Int) (sl:ag) (Q:VK),Inv X af σ H s->RelV x v->s.heap.IsSliceOf sl vl vu .none->IsPart vl lo->IsPart vu hi->r x lo hi H Q ->
  ∃T id,typeLookup (.type T) "__getitem__" = pure (aa (.builtin id))/\s.TypeIs v T/\wpAny (model X.prog X.w) X.A (getItem v (.ref sl)) (EP X af σ Q) X.xe s
theorem mj.or{r r':V->Option Int->Option Int->Hp->VK->Prop}(h:mj X r)(h':mj X r'):mj X (λx lo hi H Q=>r x lo hi H Q\/r' x lo hi H Q):=by
 intro af s σ H x v vl vu lo hi sl Q I rx hs pl pu q;rcases q with q|q
 ·exact h af s σ H x v vl vu lo hi sl Q I rx hs pl pu q
 ·exact h' af s σ H x v vl vu lo hi sl Q I rx hs pl pu q
def CZ(r:V->Option Int->Option Int->Hp->VK->Prop)(te:TE)(tl th:TO):TE:=λσ H Q=>te σ H λx H1=>tl σ H1 λl H2=>th σ H2 λu H3=>r x l u H3 Q
theorem je{r:V->Option Int->Option Int->Hp->VK->Prop}(hr:mj X r)(he:PE X e te)(hl:PO X lo tl)(hu:PO X hi th):PE X (.Subscript e (.Slice lo hi ac p2) pos) (CZ r te tl th):=by intro af s σ H Q I h;refine Subscript_ (a5 (he af s σ H _ I h) λv s1 ⟨x,H1,I1,r1,q1⟩=>?_);refine wpAny_Slice (a5 (hl af s1 σ H1 _ I1 q1) λvl s2 ⟨l,H2,I2,pl,q2⟩=>a5 (hu af s2 σ H2 _ I2 q2) λvu s3 ⟨u,H3,I3,pu,q3⟩=>?_);rw[evalPart_none];refine bW ?_;have I4:Inv X af σ H3 { s3 with heap:=s3.heap.push { cls:=.type "slice",data:=.fields #[vl,vu,.none] } }:=I3.kept (t':=s3.toks) λb ob q=>dU _ q;obtain⟨T,id,hT,ht,hg⟩:=hr af { s3 with heap:=s3.heap.push { cls:=.type "slice",data:=.fields #[vl,vu,.none] } } σ H3 x v vl vu l u s3.heap.objs.size Q I4 r1 (Heap.IsSliceOf.new ..) pl pu q3;show wpAny (model X.prog X.w) X.A (subscriptTail e (.Slice lo hi ac p2) v (.ref s3.heap.objs.size)) (EP X af σ Q) X.xe { s3 with heap:=s3.heap.push { cls:=.type "slice", data:=.fields #[vl,vu,.none] } };exact tail_any (ops:=[.ref s3.heap.objs.size,v]) ht hT hg (by with_unfolding_all rfl)
def ot(xs:List V)(lo hi:Option Int):List V:=(xs.drop (HT.c5 xs.length 0 lo)).take (HT.c5 xs.length xs.length hi-HT.c5 xs.length 0 lo)
theorem Pe(xs:List V)(lo hi:Option Int):(ot xs lo hi).length<=xs.length:=by unfold ot;rw[g6,jB];omega
end
def en(n:Nat)(i:Int):Option Nat:=if 0<=i then(if i<n then aa i.toNat else ac)else if -(n:Int)<=i then aa (i+n).toNat else ac
def dM{α:Type}(xs:List α)(i:Int):Option α:=(en xs.length i).bind λj=>xs[j]?
theorem C8{n:Nat}{i:Int}{j:Nat}(h:en n i=aa j):seqIndex? i n=aa j/\j<n/\-(n:Int)<=i/\i<n:=by
 unfold en at h;by_cases h0:0<=i
 ·rw[a8 h0]at h;by_cases h1:i<n
  ·rw[a8 h1]at h;have e:i.toNat=j:=fM h;exact⟨by rw[wa h0 h1,e],by omega,by omega,h1⟩
  ·rw[be h1]at h;cases h
 ·rw[be h0]at h;by_cases h1:-(n:Int)<=i
  ·rw[a8 h1]at h;have e:(i+n).toNat=j:=fM h;exact⟨by rw[v9 (by omega) h1,e],by omega,h1,by omega⟩
  ·rw[be h1]at h;cases h
theorem xg{α:Type}{xs:List α}{i:Int}{v:α}(h:dM xs i=aa v):∃j,seqIndex? i xs.length=aa j/\xs[j]? = aa v/\j<xs.length/\-(xs.length:Int)<=i/\i<xs.length:=by
 unfold dM at h;cases e:en xs.length i with
 |none=>rw[e]at h;cases h
 |some j=>
  rw[e]at h;obtain⟨h1,h2,h3,h4⟩:=C8 e;exact⟨j,h1,h,h2,h3,h4⟩
def BG(b:aW):Prop:=∀o i,subscripted b false o i=operate [o,i] (getItem o i)
def lj(X:Cx)(r:R2):Prop:=
 ∀(value slice:aW) (af:List (ag×Obj)) (s:aw) (σ:St) (H:Hp) (x y:V) (v u:ah) (Q:VK),Inv X af σ H s->RelV x v->RelV y u->r x y H Q ->
  subscripted slice false v u=operate [v,u] (getItem v u)->wpAny (model X.prog X.w) X.A (subscriptTail value slice v u) (EP X af σ Q) X.xe s
def tD(X:Cx)(id:String)(r:V->List V->Hp->VK->Prop):Prop:=
 ∀(af:List (ag×Obj)) (s:aw) (σ:St) (H:Hp) (x:V) (xs:List V) (v:ah) (us:List ah) (Q:VK),Inv X af σ H s->RelV x v->Vals xs us->r x xs H Q ->
  wpAny (model X.prog X.w) X.A (call (.builtin id) (v::us)) (EP X af σ Q) X.xe s
section
variable{X:Cx}{a b:aW}{ta tb:TE}{pos:Pos}
theorem lj.or{r r':R2}(h:lj X r)(h':lj X r'):lj X (λx y H Q=>r x y H Q\/r' x y H Q):=by
 intro value slice af s σ H x y v u Q I rx ry q hs;rcases q with q|q
 ·exact h value slice af s σ H x y v u Q I rx ry q hs
 ·exact h' value slice af s σ H x y v u Q I rx ry q hs
theorem nG{r:R2}(hr:lj X r)(ha:PE X a ta)(hb:PE X b tb)(hs:BG b):PE X (.Subscript a b pos) (oD r ta tb):=by intro af s σ H Q I h;exact Subscript_ (zu ha hb I h λv u s2 x y H2 I2 rx ry q=>hr a b af s2 σ H2 x y v u Q I2 rx ry q (hs _ _))
def Gw(K:aI):R2:=λx y H Q=>∃p xs i v,x=.ref p/\y=.int i/\dw K H p xs/\dM xs i=aa v/\Q v H
def Eh(K:aI):R2:=λx y H Q=>∃p xs i v,x=.ref p/\y=.int i/\e5 K H p xs/\dM xs i=aa v/\Q v H
def DS:R2:=λx y H Q=>∃z i c,x=.str z/\y=.int i/\z.length<=sizeLine/\dM z.cps.toList i=aa c/\Q (.str ⟨#[c]⟩) H
theorem M6:lj X (Gw X.K):=by
 intro value slice af s σ H x y v u Q I rx ry h hs;obtain⟨p,xs,i,z,rfl,rfl,hq,he,q⟩:=h;cases rx;obtain⟨t,rfl⟩:=ry;obtain⟨aq,r,pl,hz⟩:=I.list hq;obtain⟨j,h1,h2,h3,h4,h5⟩:=xg he;obtain⟨w,ew,rw'⟩:=r.get h2;have hl:=r.length;have hn:=oY;have fin:EP X af σ Q w s:=⟨z,H,I,rw',q⟩;by_cases h0:0<=i
 ·have hj:i.toNat=j:=by
   rw[wa h0 h5]at h1;exact fM h1
  exact item_listR pl.isList h0 (by omega) (by rw[hj];simpa using ew) fin hs
 ·have hj:(i+(aq.toArray.size:Int)).toNat=j:=by
   rw[v9 (by omega) h4]at h1;rw[dI,<- hl];exact fM h1
  exact Hs (x:=w) pl.isList.typeIs slot_list_getitem.lookup
   (wpAny_getItem_list_neg (Q:=λr s'=>r=w/\EP X af σ Q r s') pl.isList (by omega) (by rw[dI]<;>omega) (by omega) (by rw[hj];simpa using ew) ⟨rfl,fin⟩) hs
theorem IW:lj X (Eh X.K):=by
 intro value slice af s σ H x y v u Q I rx ry h hs;obtain⟨p,xs,i,z,rfl,rfl,hq,he,q⟩:=h;cases rx;obtain⟨t,rfl⟩:=ry;obtain⟨aq,r,pl,hz⟩:=I.tuple hq;obtain⟨j,h1,h2,h3,h4,h5⟩:=xg he;obtain⟨w,ew,rw'⟩:=r.get h2;have hl:=r.length;have hn:=oY;have fin:EP X af σ Q w s:=⟨z,H,I,rw',q⟩;exact Hs (x:=w) pl.typeIs slot_tuple_getitem.lookup
  (getItem_tuple (j:=j) (Q:=λr s'=>r=w/\EP X af σ Q r s') pl (by omega) (by omega) (by rw[dI,<- hl];exact h1) (by simpa using ew) ⟨rfl,fin⟩) hs
theorem JG:lj X DS:=by
 intro value slice af s σ H x y v u Q I rx ry h hs;obtain⟨z,i,c,rfl,rfl,hz,he,q⟩:=h;obtain⟨t,rfl⟩:=rx;obtain⟨t',rfl⟩:=ry;obtain⟨j,h1,h2,h3,h4,h5⟩:=xg he;have hl:z.cps.toList.length=z.length:=by simp[nU]
 rw[hl]at h1 h4 h5;have hn:=oY;exact tail_any (wc s z t) slot_str_getitem.lookup (getItem_str (c:=c) (by
  have e1:decide (i < -(2 ^ 63:Int))=false:=cp (by omega);have e2:decide (i >= 2 ^ 63)=false:=cp (by omega);rw[e1,e2,Bool.or_false]) (by rw[h1];simpa using h2) ⟨.str ⟨#[c]⟩,H,I.tok _,⟨_,rfl⟩,q⟩) hs
def zk(K:aI):R2:=λx y H Q=>Gw K x y H Q\/Eh K x y H Q\/DS x y H Q
theorem mZ:lj X (zk X.K):=M6.or (IW.or JG)
theorem Pb(aq:List ah)(n j:Nat)(u:ah):sZ (·.setIfInBounds j u) { cls:=.type "list",data:=.seq aq.toArray n }={ cls:=.type "list", data:=.seq (aq.set j u).toArray n }:=by simp[sZ]
theorem Inv.lst{af:List (ag×Obj)}{σ:St}{H:Hp}{s:aw}{p:ag}{xs:List V}(I:Inv X af σ H s)(h:H p=aa (.lst xs)) :
 ∃(aq:List ah) (n:Nat),Vals xs aq/\s.heap.get? p=aa { cls:=.type "list", data:=.seq aq.toArray n }/\xs.length<=sizeLine:=by
 obtain⟨z,aq,n,r,e⟩:=I.hok p _ h;exact⟨aq,n,r,e,z⟩
theorem Inv.J1{af:List (ag×Obj)}{σ:St}{H:Hp}{s:aw}{p:ag}{xs ys:List V}{aq its':List ah}{n n':Nat}{f:Obj->Obj}(I:Inv X af σ H s)(h:H p=aa (.lst xs))
 (ho:s.heap.get? p=aa { cls:=.type "list",data:=.seq aq.toArray n }) (hf:f { cls:=.type "list",data:=.seq aq.toArray n }={ cls:=.type "list", data:=.seq its'.toArray n' }) (r:Vals ys its') (hz:ys.length<=sizeLine) (t:Nat) :
 Inv X af σ (upd H p (.lst ys)) { s with heap:=s.heap.update p f,toks:=t }:=by
 have e:(s.heap.update p f).get? p=aa { cls:=.type "list", data:=.seq its'.toArray n' }:=by rw[qd f ho (by rw[hf]<;>rfl),hf]
 refine I.write (x:=p) (e:=p) (by rw[h];trivial) (.inl rfl) (λb u hb q=>(qc _ _ (dO hb)).trans q) ⟨_,e⟩ ?_;exact⟨hz,its',n',r,e⟩
def DU:V->V->V->Hp->(Hp->Prop)->Prop:=λo i v H Q=>∃p xs k j,o=.ref p/\i=.int k/\H p=aa (.lst xs)/\en xs.length k=aa j/\Q (upd H p (.lst (xs.set j v)))
theorem set_list:D7 X DU:=by
 intro af s σ H o i v ov iv u Q I ro ri rv h;obtain⟨p,xs,k,j,rfl,rfl,hp,hj,q⟩:=h;cases ro;obtain⟨t,rfl⟩:=ri;obtain⟨aq,n,r,ho,hz⟩:=I.lst hp;obtain⟨h1,h2,h3,h4⟩:=C8 hj;have hl:=r.length;have hn:=oY;have I':Inv X af σ (upd H p (.lst (xs.set j v))) { s with heap:=s.heap.update p (sZ (·.setIfInBounds j u)) }:=
  I.J1 hp ho (Pb aq n j u) (r.set rv j) (by rw[kh];exact hz) s.toks
 by_cases h0:0<=k
 ·have hk:k.toNat=j:=by
   rw[wa h0 h4]at h1;exact fM h1
  exact PySem.W.ki_setAt ho h0 (by omega) (by rw[dI,<- hl];exact h4) (by rw[hk];exact⟨_,I',q⟩)
 ·have hk:(k+(aq.toArray.size:Int)).toNat=j:=by
   rw[v9 (by omega) h3]at h1;rw[dI,<- hl];exact fM h1
  exact PySem.W.ki_setBack ho (by omega) (by rw[dI,<- hl];exact h3) (by omega) (by rw[hk];exact⟨_,I',q⟩)
theorem PK(lo hi:Option Int)(n:Nat):(sliceBounds lo hi ac n).1=((HT.c5 n 0 lo:Nat):Int)/\(sliceBounds lo hi ac n).2.1=((HT.c5 n n hi:Nat):Int)/\(sliceBounds lo hi ac n).2.2=1:=by
 refine⟨?_,?_,rfl⟩
 ·cases lo with
  |none=>simp[sliceBounds,HT.c5]
  |some i=>
   simp only[sliceBounds,HT.c5,Hk,show(1:Int)>0 by decide,jK];by_cases h:i<0
   ·simp only[h,jK]<;>omega
   ·simp only[h,iT]<;>omega
 ·cases hi with
  |none=>simp[sliceBounds,HT.c5]
  |some i=>
   simp only[sliceBounds,HT.c5,Hk,show(1:Int)>0 by decide,jK];by_cases h:i<0
   ·simp only[h,jK]<;>omega
   ·simp only[h,iT]<;>omega
theorem Pp(aq:List ah)(lo hi:Option Int):slicePick aq.toArray lo hi ac=((aq.drop (HT.c5 aq.length 0 lo)).take (HT.c5 aq.length aq.length hi-HT.c5 aq.length 0 lo)).toArray:=by obtain⟨h1,h2,h3⟩:=PK lo hi aq.toArray.size;unfold slicePick;rw[h1,h2,h3];simp only[sliceRange_one,pick_run,dI]<;>rfl
def FI(K:aI):V->Option Int->Option Int->Hp->VK->Prop:=λx lo hi H Q=>∃a xs,x=.ref a/\dw K H a xs/\∀p,H p=ac->Q (.ref p) (upd H p (.lst (ot xs lo hi)))
theorem MU:mj X (FI X.K):=by intro af s σ H x v vl vu lo hi sl Q I rx hs pl pu h;obtain⟨a,xs,rfl,hx,q⟩:=h;cases rx;obtain⟨aq,r,ht,hz⟩:=I.list hx;have hlen:=r.length;refine⟨"list", _,slot_list_getitem.lookup,ht.isList.typeIs,?_⟩;refine wpAny_getItem_list_slice ht.isList hs pl pu .none (by simp) ?_ (by rw[dI]<;>omega);rw[Pp,<- hlen];refine⟨.ref s.heap.objs.size,_,I.laid (t':=s.toks) (o:=.lst (ot xs lo hi)) (λb ob q=>dU _ q) (bO _) ?_,rfl,q _ (I.hok.fresh (bO _))⟩;exact⟨eW (Pe xs lo hi) hz,_,0,(r.drop (HT.c5 xs.length 0 lo)).take (HT.c5 xs.length xs.length hi-HT.c5 xs.length 0 lo),fw _ rfl⟩
def xW:V->Bool
 |.non=>true
 |.bl _=>true
 |.int _=>true
 |.str _=>true
 |_=>false
def Ca:V->V->Bool
 |.non,.non=>true
 |.bl a,.bl b=>a==b
 |.bl a,.int b=>(if a then 1 else 0)==b
 |.int a,.bl b=>a==(if b then 1 else 0)
 |.int a,.int b=>a==b
 |.str a,.str b=>a==b
 |_,_=>false
theorem LB{A:bH}{s:aw}{y x:V}{u v:ah}(ry:RelV y u)(rx:RelV x v)(fy:xW y=true)(fx:xW x=true):SeqAt.EqAt A s u v (Ca y x):=by
 cases y with
 |non=>
  cases ry;cases x with
  |non=>cases rx;exact SeqAt.EqAt.same _
  |bl b=>cases rx;exact SeqAt.EqAt.none_bool b
  |int b=>obtain⟨t,rfl⟩:=rx;exact SeqAt.EqAt.none_int b t
  |str b=>obtain⟨t,rfl⟩:=rx;exact SeqAt.EqAt.none_str b t
  |_=>exact absurd (show false=true from fx) dW
 |bl a=>
  cases ry;cases x with
  |non=>cases rx;exact SeqAt.EqAt.bool_none a
  |bl b=>cases rx;exact HE a b
  |int b=>obtain⟨t,rfl⟩:=rx;exact SeqAt.EqAt.bool_int a b t
  |str b=>obtain⟨t,rfl⟩:=rx;exact HF a b t
  |_=>exact absurd (show false=true from fx) dW
 |int a=>
  obtain⟨t',rfl⟩:=ry;cases x with
  |non=>cases rx;exact SeqAt.EqAt.int_none a t'
  |bl b=>cases rx;exact SeqAt.EqAt.int_bool a t' b
  |int b=>obtain⟨t,rfl⟩:=rx;exact SeqAt.EqAt.int_int a t' b t
  |str b=>obtain⟨t,rfl⟩:=rx;exact SeqAt.EqAt.int_str a t' b t
  |_=>exact absurd (show false=true from fx) dW
 |str a=>
  obtain⟨t',rfl⟩:=ry;cases x with
  |non=>cases rx;exact SeqAt.EqAt.str_none a t'
  |bl b=>cases rx;exact HG a t' b
  |int b=>obtain⟨t,rfl⟩:=rx;exact SeqAt.EqAt.str_int a t' b t
  |str b=>obtain⟨t,rfl⟩:=rx;exact SeqAt.EqAt.str_str a t' b t
  |_=>exact absurd (show false=true from fx) dW
 |_=>exact absurd (show false=true from fy) dW
theorem JI:fT X (.type "list") (λxs H Q=>∃p ys,xs=[.ref p]/\(dw X.K H p ys\/e5 X.K H p ys)/\∀l,H l=ac->Q (.ref l) (upd H l (.lst ys))):=by
 intro af s σ H xs us Q I r h;obtain⟨p,ys,rfl,hq,q⟩:=h;obtain⟨u,rfl,rx⟩:=vals1 r;cases rx;have fin:∀(aq:List ah),Vals ys aq->ys.length<=sizeLine->∀(h':aL) (c':Nat),(∀b o',s.heap.get? b=aa o'->h'.get? b=aa o') ->
  h'.get? s.heap.objs.size=aa { cls:=.type "list", dict:=ac,data:=.seq aq.toArray c',slots:=#[] }->EP X af σ Q (.ref s.heap.objs.size) { s with heap:=h' }:=λaq r' hz h' c' kp e=>
  ⟨.ref s.heap.objs.size,_,I.laid (t':=s.toks) kp (bO _) (show cF X.prog X.w _ h' _ (.lst ys)from⟨hz,aq,c',r',e⟩),rfl,q _ (I.hok.fresh (bO _))⟩
 rcases hq with hq|hq
 ·obtain⟨aq,r',pl,hz⟩:=I.list hq;have hlen:=r'.length;obtain⟨o,ho,hc,n,hd⟩:=pl.isList;exact call_list_seq p (.inl rfl) ho hc hd (λh' c' kp e=>fin aq r' hz h' c' kp e) (by simp only[dI]<;>omega)
 ·obtain⟨aq,r',pl,hz⟩:=I.tuple hq;have hlen:=r'.length;obtain⟨o,ho,hc,n,hd⟩:=pl;exact call_list_seq p (.inr rfl) ho hc hd (λh' c' kp e=>fin aq r' hz h' c' kp e) (by simp only[dI]<;>omega)
theorem Jg:fT X (.type "tuple") (λxs H Q=>∃p ys,xs=[.ref p]/\((dw X.K H p ys/\∀l,H l=ac->Q (.ref l) (upd H l (.tup ys)))\/(e5 X.K H p ys/\Q (.ref p) H))):=by
 intro af s σ H xs us Q I r h;obtain⟨p,ys,rfl,h⟩:=h;obtain⟨u,rfl,rx⟩:=vals1 r;cases rx;rcases h with ⟨hq,q⟩|⟨hq,q⟩
 ·obtain⟨aq,r',pl,hz⟩:=I.list hq;have hlen:=r'.length;refine call_tuple_list pl.isList (λh' kp=>?_) (by simp only[dI]<;>omega);have I1:Inv X af σ H { s with heap:=h' }:=I.kept (t':=s.toks) kp;have I2:Inv X af σ (upd H h'.objs.size (.tup ys)) { s with heap:=h'.push { cls:=.type "tuple", data:=.seq aq.toArray } }:=
   I1.laid (t':=s.toks) (λb o e=>dU _ e) (bO _) (show cF X.prog X.w _ _ _ (.tup ys)from⟨hz,aq,r',pB.new _ _⟩)
  exact⟨.ref h'.objs.size,_,I2,rfl,q _ (I1.hok.fresh (bO _))⟩
 ·obtain⟨aq,r',pl,hz⟩:=I.tuple hq;exact call_tuple_same pl ⟨.ref p,H,I,rfl,q⟩
def xU(K:aI)(T:String)(x:V)(H:Hp):Prop:=match x with
 |.str _=>T = "str"
 |.int _=>T = "int"
 | .ref p=>(T = "list" /\ ∃xs,dw K H p xs)\/(T = "tuple" /\ ∃o,K.lookup p=aa o/\o.cls=.type "tuple" /\ o.dict=ac) \/
  (T = "dict" /\ ((∃ak,H p=aa (.dK ak))\/∃ak,H p=aa (.dT ak)))\/(T = "set" /\ ∃S n,H p=aa (.set S n))
 |_=>False
theorem ES{af:List (ag×Obj)}{σ:St}{H:Hp}{s:aw}{T:String}{x:V}{v:ah}(I:Inv X af σ H s)(r:RelV x v)(ty:xU X.K T x H) :
 s.TypeIs v T/\∀a,v=.ref a->∃ob,s.heap.get? a=aa ob/\ob.dict=ac:=by
 cases x with
 |str z=>
  obtain⟨t,rfl⟩:=r;cases(show T = "str" from ty);exact⟨wc s z t,λ_ e=>nomatch e⟩
 |int i=>
  obtain⟨t,rfl⟩:=r;cases(show T = "int" from ty);exact⟨typeIs_int s i t,λ_ e=>nomatch e⟩
 |ref p=>
  cases r;rcases ty with ⟨rfl,xs,hq⟩|⟨rfl,o,hk,hc,hd⟩|⟨rfl,hk⟩|⟨rfl,S,n,hk⟩
  ·obtain⟨aq,_,pl,_⟩:=I.list hq;refine⟨pl.isList.typeIs,λa e=>?_⟩;cases e;obtain⟨o,n,e,c,hd,_⟩:=pl;exact⟨o,e,hd⟩
  ·refine⟨⟨o,I.dX p o hk,hc⟩,λa e=>?_⟩;cases e;exact⟨o,I.dX _ o hk,hd⟩
  ·have z:∃o,s.heap.get? p=aa o/\o.ExactDict:=by
    rcases hk with ⟨ak,hk⟩|⟨ak,hk⟩
    ·obtain⟨_,_,_,_,o,_,_,e,ex,_⟩:=I.hok p _ hk;exact⟨o,e,ex⟩
    ·obtain⟨_,_,_,_,o,_,_,e,ex,_⟩:=I.hok p _ hk;exact⟨o,e,ex⟩
   obtain⟨o,e,ex⟩:=z;refine⟨⟨o,e,ex.1⟩,λa e2=>?_⟩;cases e2;exact⟨o,e,ex.2.1⟩
  ·obtain⟨o,_,_,_,e,ex,_⟩:=I.hok p _ hk;refine⟨⟨o,e,ex.1⟩,λa e2=>?_⟩;cases e2;exact⟨o,e,ex.2.1⟩
 |_=>exact eR ty
def vq(K:aI)(T:String)(r:V->List V->Hp->VK->Prop)(to:TE):TE:=λσ H Q=>to σ H λx H1=>xU K T x H1/\r x [] H1 Q
def pP(K:aI)(T:String)(r:V->List V->Hp->VK->Prop)(to:TE)(t:TA):TE:=λσ H Q=>to σ H λx H1=>xU K T x H1/\t σ H1 λxs H2=>r x xs H2 Q
variable{o e:aW}{es:List aW}{to:TE}{t:TA}{name:Str}{apos cpos:Pos}{T id:String}{r:V->List V->Hp->VK->Prop}
theorem zo(pa:PlainAttrs T)(slot:Slot T name id)(hty:typeOf (.builtin id)=pure (.type "method_descriptor"))(hm:tD X id r)(ho:PE X o to)
 (hbase:attributeBase o name X.env (eval o X.env)=eval o X.env:=by rfl) (hline:(apos.endLine==cpos.line)=true:=by rfl):PE X (.Call (.Attribute o name apos) [] [] cpos) (vq X.K T r to):=by
 intro af s σ H Q I h;refine wpAny_Call_method0_late hbase hline (a5 (ho af s σ H _ I h) λv s1 ⟨x,H1,I1,r1,ty,q1⟩=>?_);obtain⟨h1,h2⟩:=ES I1 r1 ty;exact⟨T,id,pa,slot,hty,h1,h2,Hu rfl (PySem.evalArgs_none (hm af s1 σ H1 x [] v [] Q I1 r1 .nil q1))⟩
theorem fb(pa:PlainAttrs T)(slot:Slot T name id)(hty:typeOf (.builtin id)=pure (.type "method_descriptor"))(hm:tD X id r)(ho:PE X o to)(ha:PA X (e::es) t)
 (hbase:attributeBase o name X.env (eval o X.env)=eval o X.env:=by rfl)
 (hfew:((backTo cpos (starEach (e::es) X.env)).all (λx=>!x.1)&&(backToKw cpos (keywordEach [] X.env)).all (λx=>x.1.isSome)
  && decide ((e::es).length+([]:List Keyword).length+(if([]:List Keyword).isEmpty then 0 else 1)<30))=true:=by rfl)
 (hline:(apos.endLine==cpos.line)=true:=by rfl) (hs:starEach (e::es) X.env=(false,eval e X.env)::starEach es X.env:=by rfl) (hplain:(backTo cpos (starEach es X.env)).any (·.1)=false:=by rfl) :
 PE X (.Call (.Attribute o name apos) (e::es) [] cpos) (pP X.K T r to t):=by
 intro af s σ H Q I h;refine wpAny_Call_method_late hbase hfew hline rfl (a5 (ho af s σ H _ I h) λv s1 ⟨x,H1,I1,r1,ty,q1⟩=>?_);obtain⟨h1,h2⟩:=ES I1 r1 ty;refine⟨T,id,pa,slot,hty,h1,h2,?_⟩;have hA:=ha cpos af s1 σ H1 _ I1 q1;rw[hs]at hA ⊢;refine Hu (by show(false||(backTo cpos (starEach es X.env)).any (·.1))=false;rw[hplain]<;>rfl) (Hw ?_);exact a5 hA λus s2 ⟨vs,H2,I2,r2,q2⟩=>hm af s2 σ H2 x vs v us Q I2 r1 r2 q2
end
def uq(X:Cx)(id:String)(r:V->List V->Hp->VK->Prop):Prop:=
 ∀(af:List (ag×Obj)) (s:aw) (σ:St) (H:Hp) (x:V) (xs:List V) (v:ah) (us:List ah) (Q:VK),Inv X af σ H s->RelV x v->Vals xs us->r x xs H Q ->
  wpAny (model X.prog X.w) X.A (call (.builtin id) (v::us)) (EP X af σ Q) X.xe s
theorem Vals.one:∀{x:V} {us:List ah},Vals [x] us->∃u,us=[u]/\RelV x u
 |_,_,.cons r .nil=>⟨_,rfl,r⟩
theorem Vals.zero:∀{us:List ah},Vals [] us->us=[]
 |_,.nil=>rfl
theorem Vals.dropLast{xs:List V}{us:List ah}(h:Vals xs us):Vals xs.dropLast us.dropLast:=by
 induction h with
 |nil=>exact .nil
 |cons r t ih=>
  cases t with
  |nil=>exact .nil
  |cons q t'=>exact .cons r ih
theorem Vals.eraseIdx:∀{xs:List V} {us:List ah} (i:Nat),Vals xs us->Vals (xs.eraseIdx i) (us.eraseIdx i)
 |_,_,_,.nil=>.nil
 |_,_,0,.cons _ t=>t
 |_,_,i+1,.cons r t=>.cons r (Vals.eraseIdx i t)
theorem Vals.reverse{xs:List V}{us:List ah}(h:Vals xs us):Vals xs.reverse us.reverse:=by
 induction h with
 |nil=>exact .nil
 |cons r t ih=>rw[sL,sL];exact Vals.append ih (.cons r .nil)
theorem L7{α:Type}(l:List α):l.eraseIdx (l.length-1)=l.dropLast:=by
 induction l with
 |nil=>rfl
 |cons a r ih=>
  cases r with
  |nil=>rfl
  |cons b r=>
   have e:(a::b::r).length-1=((b::r).length-1)+1:=by have h1:(a::b::r).length=r.length+2:=rfl;have h2:(b::r).length=r.length+1:=rfl;omega
   rw[e,zL,ih]
   all_goals rfl
theorem De{α:Type}:∀(l:List α) (i:Nat),(l.eraseIdx i).length<=l.length
 |[],_=>bO _
 |_::_,0=>Nat.le_succ _
 |_::r,i+1=>Nat.succ_le_succ (De r i)
section
variable{X:Cx}{af:List (ag×Obj)}{σ:St}{H:Hp}{s:aw}{l b:ag}{xs ys zs:List V}
theorem Inv.vc{aq its':List ah}{n:Nat}{f:Array ah->Array ah}{t':Nat}(I:Inv X af σ H s)(hH:H l=aa (.lst xs))
 (e:s.heap.get? l=aa { cls:=.type "list", data:=.seq aq.toArray n }) (hf:f aq.toArray=its'.toArray) (hv:Vals ys its') (hz:ys.length<=sizeLine) :
 Inv X af σ (upd H l (.lst ys)) { s with heap:=s.heap.update l (sZ f),toks:=t' }:=by
 have q:=PySem.IsL.update e f;rw[hf]at q;refine I.write (x:=l) (e:=l) (by rw[hH];exact trivial) (.inl rfl) (λb' u hb hu=>(qc s.heap (sZ f) (dO hb)).trans hu) ⟨_,q⟩ ?_;exact⟨hz,its',_,hv,q⟩
theorem Inv.PQ{aq:List ah}{t':Nat}(I:Inv X af σ H s)(hv:Vals ys aq)(hz:ys.length<=sizeLine) :
 Inv X af σ (upd H s.heap.objs.size (.lst ys)) { s with heap:=s.heap.push { cls:=.type "list", data:=.seq aq.toArray },toks:=t' }:=
 I.laid (λ_ _ q=>dU _ q) (bO _) ⟨hz,aq,0,hv,fw _ rfl⟩
theorem Inv.fresh(I:Inv X af σ H s):H s.heap.objs.size=ac:=I.hok.fresh (bO _)
theorem Inv.ut(I:Inv X af σ H s)(hH:H l=aa (.lst xs)):xs.length<=sizeLine/\∃(aq:List ah) (n:Nat),Vals xs aq/\xs.length=aq.length/\s.heap.get? l=aa { cls:=.type "list", data:=.seq aq.toArray n }:=by obtain⟨z,aq,n,r,e⟩:=I.hok l _ hH;exact⟨z,aq,n,r,r.length,e⟩
end
section
variable{X:Cx}
def yt:V->List V->Hp->VK->Prop:=λx vs H Q=>∃l xs y,x=.ref l/\vs=[y]/\H l=aa (.lst xs)/\xs.length<sizeLine/\Q .non (upd H l (.lst (xs++[y])))
theorem gT:uq X "list.append" yt:=by intro af s σ H x vs v us Q I rx rv h;obtain⟨l,xs,y,rfl,rfl,hH,hz,q⟩:=h;cases rx;obtain⟨u,rfl,ru⟩:=rv.one;obtain⟨z,aq,n,r,hl,e⟩:=I.ut hH;refine we F.slot_list_append ⟨_,e,rfl⟩ F.entry_list_append (F.args_list_append_2 _ _) (PySem.list_append l aq.toArray n u (by rw[dI];omega)) ⟨e,?_⟩;refine⟨.non,_,I.vc (its':=aq++[u]) hH e (by simp) (r.append (.cons ru .nil)) ?_,rfl,q⟩;rw[cC,sI];omega
def C9:V->List V->Hp->VK->Prop:=λx vs H Q=>∃l xs y,x=.ref l/\vs=[]/\H l=aa (.lst xs)/\xs[xs.length-1]? = aa y/\Q y (upd H l (.lst xs.dropLast))
theorem NA:uq X "list.pop" C9:=by
 intro af s σ H x vs v us Q I rx rv h;obtain⟨l,xs,y,rfl,rfl,hH,hy,q⟩:=h;cases rx;have hus:=rv.zero;subst hus;obtain⟨z,aq,n,r,hl,e⟩:=I.ut hH;obtain⟨u,hu,ru⟩:=r.get hy;have hy':aq.toArray[aq.toArray.size-1]? = aa u:=by show aq.toArray[aq.length-1]? = aa u;rw[<- Af,<- hl];exact hu
 refine we F.slot_list_pop ⟨_,e,rfl⟩ F.entry_list_pop (F.args_list_pop_1 _) (MeetsSeq.list_pop_last l aq.toArray n u hy' (by rw[dI];omega)) ⟨e,?_⟩;refine⟨y,_,I.vc (its':=aq.dropLast) hH e ?_ r.dropLast ?_,ru,q⟩
 ·show aq.toArray.eraseIdxIfInBounds (aq.toArray.size-1)=aq.dropLast.toArray;rw[dI,GS,L7]
 ·rw[List.length_dropLast];omega
def yw:V->List V->Hp->VK->Prop:=λx vs H Q=>∃l xs i k y,x=.ref l/\vs=[.int i]/\H l=aa (.lst xs)/\-(2 ^ 63)<=i/\i<2 ^ 63/\seqIndex? i xs.length=aa k/\xs[k]? = aa y/\Q y (upd H l (.lst (xs.eraseIdx k)))
theorem uU:uq X "list.pop" yw:=by
 intro af s σ H x vs v us Q I rx rv h;obtain⟨l,xs,i,k,y,rfl,rfl,hH,h1,h2,hk,hy,q⟩:=h;cases rx;obtain⟨u,rfl,ru⟩:=rv.one;obtain⟨t,rfl⟩:=ru;obtain⟨z,aq,n,r,hl,e⟩:=I.ut hH;obtain⟨w,hw,rw'⟩:=r.get hy;refine we F.slot_list_pop ⟨_,e,rfl⟩ F.entry_list_pop (F.args_list_pop_2 _ _)
  (MeetsSeq.list_pop_at l aq.toArray n i t k w (fitsIndex_both h1 h2) (by rw[dI,<- hl];exact hk) (by rw[<- Af];exact hw) (by rw[dI];omega)) ⟨e,?_⟩
 refine⟨y,_,I.vc (its':=aq.eraseIdx k) hH e ?_ (r.eraseIdx k) ?_,rw',q⟩
 ·show aq.toArray.eraseIdxIfInBounds k=(aq.eraseIdx k).toArray;rw[GS]
 ·have:=De xs k;omega
def FJ:V->List V->Hp->VK->Prop:=λx vs H Q=>∃l xs,x=.ref l/\vs=[]/\H l=aa (.lst xs)/\Q .non (upd H l (.lst xs.reverse))
theorem Kx:uq X "list.reverse" FJ:=by intro af s σ H x vs v us Q I rx rv h;obtain⟨l,xs,rfl,rfl,hH,q⟩:=h;cases rx;have hus:=rv.zero;subst hus;obtain⟨z,aq,n,r,hl,e⟩:=I.ut hH;refine we F.slot_list_reverse ⟨_,e,rfl⟩ F.entry_list_reverse (F.args_list_reverse_1 _) (AutoSeq1.list_reverse_list_0 l aq.toArray n (by rw[dI];omega)) ⟨e,?_⟩;refine⟨.non,_,I.vc (its':=aq.reverse) hH e (by simp) r.reverse ?_,rfl,q⟩;rw[List.length_reverse];omega
end
section
variable{κ:Type}[DecidableEq κ]
def gZ(ak:List (κ×V))(k:κ):Option V:=(ak.find? λkv=>decide (kv.1=k)).map (·.2)
def putK(ak:List (κ×V))(k:κ)(v:V):List (κ×V):=if(ak.any λkv=>decide (kv.1=k))=true then ak.map (λkv=>if kv.1=k then(kv.1,v)else kv)else ak++[(k,v)]
theorem y3{p:κ×V}{r:List (κ×V)}{k:κ}(e:p.1=k):gZ (p::r) k=aa p.2:=by simp[gZ,kR,e]
theorem zb{p:κ×V}{r:List (κ×V)}{k:κ}(e:¬ p.1=k):gZ (p::r) k=gZ r k:=by simp[gZ,kR,e]
theorem BO(k:κ):∀ak:List (κ×V),(ak.any λkv=>decide (kv.1=k))=(gZ ak k).isSome
 |[]=>rfl
 |p::r=>by
  rw[jC];by_cases e:p.1=k
  ·simp only[y3 e,bR e,Bool.true_or,Option.isSome_some]
  ·rw[zb e,cp e,Ac];exact BO k r
theorem xJ(ak:List (κ×V))(k:κ)(v:V):(putK ak k v).length<=ak.length+1:=by
 unfold putK;split
 ·rw[bd];omega
 ·rw[cC,bU,d9];omega
theorem mM.sF{o:Option V}{u:Option ah}(r:mM o u):o.isSome=u.isSome:=by
 cases o with
 | none=>cases u with
  |none=>rfl
  |some _=>exact(show False from r).elim
 | some _=>cases u with
  |none=>exact(show False from r).elim
  |some _=>rfl
theorem KV.val{ak:List (κ×V)}{vs:List (κ×ah)}(r:KV ak vs)(k:κ):mM (gZ ak k) (valueAt vs k):=by
 unfold KV at r
 induction r with
 |nil=>exact km
 | @cons p q ps qs h t ih=>
  obtain⟨h1,h2⟩:=h;by_cases e:p.1=k
  ·have e':q.1=k:=h1.symm.trans e;have b:valueAt (q::qs) k=aa q.2:=by simp[valueAt,kR,e']
   rw[y3 e,b];exact h2
  ·have e':¬ q.1=k:=λz=>e (h1.trans z);have b:valueAt (q::qs) k=valueAt qs k:=by simp[valueAt,kR,e']
   rw[zb e,b];exact ih
theorem KV.any{ak:List (κ×V)}{vs:List (κ×ah)}(r:KV ak vs)(k:κ):(ak.any λkv=>decide (kv.1=k))=vs.any λkv=>decide (kv.1=k):=by
 unfold KV at r
 induction r with
 |nil=>rfl
 |cons h t ih=>rw[jC,jC,ih,h.1]
theorem KV.repl{ak:List (κ×V)}{vs:List (κ×ah)}(r:KV ak vs)(k:κ){y:V}{u:ah}(ry:RelV y u) :
 KV (ak.map λkv=>if kv.1=k then(kv.1,y)else kv) (vs.map λkv=>if kv.1=k then(kv.1,u)else kv):=by
 unfold KV at r ⊢
 induction r with
 |nil=>exact .nil
 | @cons p q ps qs h t ih=>
  rw[dg,dg];refine .cons ?_ ih;obtain⟨h1,h2⟩:=h;by_cases e:p.1=k
  ·rw[a8 e,a8 (h1.symm.trans e)];exact⟨h1,ry⟩
  ·rw[be e,be (λz=>e (h1.trans z))];exact⟨h1,h2⟩
theorem KV.put{ak:List (κ×V)}{vs:List (κ×ah)}(r:KV ak vs)(k:κ){y:V}{u:ah}(ry:RelV y u):KV (putK ak k y) (stored vs k u):=by
 unfold putK stored;rw[r.any k];by_cases e:(vs.any λkv=>decide (kv.1=k))=true
 ·rw[a8 e,a8 e];exact r.repl k ry
 ·rw[be e,be e];exact Paired.snoc r ⟨rfl,ry⟩
theorem KV.length{ak:List (κ×V)}{vs:List (κ×ah)}(r:KV ak vs):ak.length=vs.length:=tu r
end
theorem rm{P:bt}{w:a9}{k:Key}{u:ah}(r:RelV (kV k) u):(gC P w).is k u=true:=by
 cases k with
 |inl i=>obtain e:=(show u=jD i from r);subst e;exact Mk P w i
 |inr x=>obtain⟨t,e⟩:=(show∃t,u=nQ x t from r);subst e;exact Mf P w x t
theorem BL{P:bt}{w:a9}:∀{ks:List Key} {us:List ah},Vals (ks.map kV) us->ItemsAre (gC P w) ks us
 |[],_,r=>by rw[vV]at r;cases r;exact .nil
 |k::ks,_,r=>by
  rw[dg]at r;cases r with
  |cons h t=>exact .cons (rm h) (BL t)
abbrev KT(H:Hp):List (List Key×V)->List (List Key×ag×ah)->Prop:=mB λp q=>p.1=q.1/\H q.2.1=aa (.tup (p.1.map kV))/\RelV p.2 q.2.2
theorem KT.val{H:Hp}{ak:List (List Key×V)}{xs:List (List Key×ag×ah)}(r:KT H ak xs)(k:List Key):mM (gZ ak k) ((atKey xs k).map (·.2)):=by
 induction r with
 |nil=>exact km
 | @cons p q ps qs h t ih=>
  obtain⟨h1,_,h2⟩:=h;by_cases e:p.1=k
  ·have e':q.1=k:=h1.symm.trans e;have b:atKey (q::qs) k=aa q.2:=by simp[atKey,kR,e']
   rw[y3 e,b];exact h2
  ·have e':¬ q.1=k:=λz=>e (h1.trans z);have b:atKey (q::qs) k=atKey qs k:=by simp[atKey,kR,e']
   rw[zb e,b];exact ih
theorem KT.repl{H:Hp}{ak:List (List Key×V)}{xs:List (List Key×ag×ah)}(r:KT H ak xs)(k:List Key){y:V}{u:ah}(ry:RelV y u) :
 KT H (ak.map λkv=>if kv.1=k then(kv.1,y)else kv) (xs.map (putAt k u)):=by
 induction r with
 |nil=>exact .nil
 | @cons p q ps qs h t ih=>
  rw[dg,dg];refine .cons ?_ ih;obtain⟨h1,h2,h3⟩:=h;unfold putAt;by_cases e:p.1=k
  ·rw[a8 e,a8 (h1.symm.trans e)];exact⟨h1,h2,ry⟩
  ·rw[be e,be (λz=>e (h1.trans z))];exact⟨h1,h2,h3⟩
theorem KT.put{H:Hp}{ak:List (List Key×V)}{xs:List (List Key×ag×ah)}(r:KT H ak xs)(k:List Key){b:ag}{y:V}{u:ah}(hb:H b=aa (.tup (k.map kV)))(ry:RelV y u) :
 KT H (putK ak k y) (storedH xs k b u):=by
 have e:(ak.any λkv=>decide (kv.1=k))=(atKey xs k).isSome:=by rw[BO,(r.val k).sF,wy]
 unfold putK storedH;rw[e];by_cases q:(atKey xs k).isSome=true
 ·rw[a8 q,a8 q];exact r.repl k ry
 ·rw[be q,be q];exact Paired.snoc r ⟨rfl,hb,ry⟩
theorem KT.keeps{H H':Hp}{ak:List (List Key×V)}{xs:List (List Key×ag×ah)}(r:KT H ak xs)(ht:∀b ys,H b=aa (.tup ys)->H' b=aa (.tup ys)):KT H' ak xs:=Paired.yK r λ_ _ z=>⟨z.1,ht _ _ z.2.1,z.2.2⟩
section
variable{P:bt}{w:a9}{H:Hp}{h:aL}{a:ag}
theorem Fw{u:HO}(ok:cv P w H h)(e:Rd H a u):cF P w H h a u:=e.ok ok
theorem yQ{ak:List (Key×V)}(ok:cv P w H h)(e:Rd H a (.dK ak)):ak.length<=sizeLine/\(a==sysModules)=false/\∃vs,KV ak vs/\h.DictOf (gC P w) a vs:=show cF P w H h a (.dK ak)from Fw ok e
theorem D4{ak:List (Key×V)}(ok:cv P w H h)(e:H a=aa (.dK ak)):ak.length<=sizeLine/\(a==sysModules)=false/\∃vs,KV ak vs/\h.DictOf (gC P w) a vs:=yQ ok (.inl e)
theorem uF{ks:List Key}(ok:cv P w H h)(e:H a=aa (.tup (ks.map kV))):(tupleKind (gC P w)).is h ks a:=by obtain⟨_,aq,r,o,h1,h2,_,n,h3⟩:=(show cF P w H h a (.tup (ks.map kV))from ok a _ e);exact⟨o,aq.toArray,n,h1,h2,h3,by simpa using BL r⟩
theorem xV{ak:List (List Key×V)}(ok:cv P w H h)(e:Rd H a (.dT ak)):ak.length<=sizeLine/\(a==sysModules)=false /\
 ∃xs,KT H ak xs/\h.DictOfH (tupleKind (gC P w)) a xs:=by
 obtain⟨z,y,xs,r,o,es,ep,h1,h2,h3,h4,h5⟩:=(show cF P w H h a (.dT ak)from Fw ok e);refine⟨z,y,xs,r,o,es,ep,h1,h2,h3,h4,λx hx=>?_,h5⟩;have all:∀{l:List (List Key×V)} {m:List (List Key×ag×ah)},KT H l m->∀x∈m,(tupleKind (gC P w)).is h x.1 x.2.1:=by
  intro l m q
  induction q with
  |nil=>intro x hx;exact nomatch hx
  | @cons p q ps qs hq t ih=>
   intro x hx;rcases cS.mp hx with e|hx
   ·subst e;exact uF ok (by rw[<- hq.1];exact hq.2.1)
   ·exact ih x hx
 exact all r x hx
theorem M0{ak:List (List Key×V)}(ok:cv P w H h)(e:H a=aa (.dT ak)):ak.length<=sizeLine/\(a==sysModules)=false /\
 ∃xs,KT H ak xs/\h.DictOfH (tupleKind (gC P w)) a xs:=xV ok (.inl e)
end
def jW(H:Hp)(a:ag)(y:V)(r:Option V):Prop:=(∃ak k,Rd H a (.dK ak)/\y=kV k/\r=gZ ak k)\/∃ak k b,Rd H a (.dT ak)/\y=.ref b/\H b=aa (.tup (k.map kV))/\r=gZ ak k
def lY(H:Hp)(a:ag)(y v:V)(H':Hp):Prop:=
 (∃ak k,H a=aa (.dK ak)/\y=kV k/\ak.length<sizeLine/\H'=upd H a (.dK (putK ak k v))) \/
 ∃ak k b,H a=aa (.dT ak)/\y=.ref b/\H b=aa (.tup (k.map kV))/\ak.length<sizeLine/\H'=upd H a (.dT (putK ak k v))
theorem jW.k{H:Hp}{a:ag}{ak:List (Key×V)}{k:Key}(e:H a=aa (.dK ak)):jW H a (kV k) (gZ ak k):=.inl ⟨ak,k,.inl e,rfl,rfl⟩
theorem jW.t{H:Hp}{a b:ag}{ak:List (List Key×V)}{k:List Key}(e:H a=aa (.dT ak))(eb:H b=aa (.tup (k.map kV))):jW H a (.ref b) (gZ ak k):=.inr ⟨ak,k,b,.inl e,rfl,eb,rfl⟩
theorem lY.k{H:Hp}{a:ag}{ak:List (Key×V)}{k:Key}{v:V}(e:H a=aa (.dK ak))(hl:ak.length<sizeLine):lY H a (kV k) v (upd H a (.dK (putK ak k v))):=.inl ⟨ak,k,e,rfl,hl,rfl⟩
theorem lY.t{H:Hp}{a b:ag}{ak:List (List Key×V)}{k:List Key}{v:V}(e:H a=aa (.dT ak))(eb:H b=aa (.tup (k.map kV)))(hl:ak.length<sizeLine) :
 lY H a (.ref b) v (upd H a (.dT (putK ak k v))):=.inr ⟨ak,k,b,e,rfl,eb,hl,rfl⟩
section
variable{X:Cx}{af:List (ag×Obj)}{σ:St}{H:Hp}{s:aw}{a:ag}{y v:V}{u r:ah}{o:Option V}{A:bH}{E:ah->aw->Prop}
theorem Inv.big(I:Inv X af σ H s):sysModules<s.heap.objs.size:=by have h:mainGlobals<s.heap.objs.size:=(I.mod.glob.keeps I.bk).lt;exact Nat.lt_trans (by decide) h
theorem PB{Q:ah->aw->Prop}(hu:A.units+1<cLine)(I:Inv X af σ H s)(g:jW H a y o)(ry:RelV y u)(h:∀s',Inv X af σ H s'->Q (.bool o.isSome) s') :
 wpAny (model X.prog X.w) A (compareOp .In u (.ref a)) Q E s:=by
 rcases g with ⟨ak,k,e,ey,l⟩|⟨ak,k,b,e,ey,eb,l⟩
 ·subst ey;obtain⟨z,hd,vs,rel,dd⟩:=yQ I.hok e;refine wpAny_in_of (rm ry) hd dd.mapOf ?_;rw[<- (rel.val k).sF,<- l];exact h _ (I.tok _)
 ·subst ey;cases(show u=dy b from ry);obtain⟨z,hd,xs,rel,dd⟩:=xV I.hok e;refine wpAny_in_heap (zV hu) (uF I.hok eb) hd dd ?_;have q:=(rel.val k).sF;rw[wy]at q;rw[<- q,<- l];exact h _ (I.tok _)
theorem JA{Q:ah->aw->Prop}(hu:A.units+1<cLine)(I:Inv X af σ H s)(g:jW H a y o)(ry:RelV y u)(h:∀s',Inv X af σ H s'->Q (.bool (!o.isSome)) s') :
 wpAny (model X.prog X.w) A (compareOp .NotIn u (.ref a)) Q E s:=by
 rcases g with ⟨ak,k,e,ey,l⟩|⟨ak,k,b,e,ey,eb,l⟩
 ·subst ey;obtain⟨z,hd,vs,rel,dd⟩:=yQ I.hok e;refine wpAny_notIn_of (rm ry) hd dd.mapOf ?_;rw[<- (rel.val k).sF,<- l];exact h _ (I.tok _)
 ·subst ey;cases(show u=dy b from ry);obtain⟨z,hd,xs,rel,dd⟩:=xV I.hok e;refine wpAny_notIn_heap (zV hu) (uF I.hok eb) hd dd ?_;have q:=(rel.val k).sF;rw[wy]at q;rw[<- q,<- l];exact h _ (I.tok _)
theorem xm{h':aL}{t':Nat}{ob:HO}(I:Inv X af σ H s)(mu:rD (H a))(hs:sS a s.heap h')(he:∃q,h'.get? a=aa q)(new:cF X.prog X.w (upd H a ob) h' a ob) :
 Inv X af σ (upd H a ob) { s with heap:=h',toks:=t' }:=
 I.write (x:=a) (e:=a) mu (.inl rfl) (λb q hb z=>(hs.2 b hb).trans z) he new
theorem B5{P:bt}{w:a9}{H':Hp}{h':aL}{ak:List (Key×V)}{vs:List (Key×ah)}(z:ak.length<=sizeLine)(hd:(a==sysModules)=false)(rel:KV ak vs)(dd:h'.DictOf (gC P w) a vs) :
 cF P w H' h' a (.dK ak):=⟨z,hd,vs,rel,dd⟩
theorem Ml{H':Hp}{Q:Unit->aw->Prop}(hu:A.units+1<cLine)(I:Inv X af σ H s)(g:lY H a y v H')(ry:RelV y u)(rv:RelV v r)(h:∀s',Inv X af σ H' s'->Q () s') :
 wpAny (model X.prog X.w) A (setItem (.ref a) u r) Q E s:=by
 rcases g with ⟨ak,k,e,ey,l,eH⟩|⟨ak,k,b,e,ey,eb,l,eH⟩
 ·subst ey eH;obtain⟨z,hd,vs,rel,dd⟩:=D4 I.hok e;have hz:vs.length<=sizeLine:=by rw[<- rel.length];exact z
  have hl:(putK ak k v).length<=sizeLine:=by have:=xJ ak k v;omega
  refine wpAny_setItem_pairs (hsz:=hz) (rm ry) dd λh' dd' hs=>h _ ?_;have he:∃q,h'.get? a=aa q:=let ⟨q,_,_,hq,_⟩:=dd';⟨q,hq⟩;exact xm I (by rw[e];exact km) hs he (B5 hl hd (rel.put k rv) dd')
 ·subst ey eH;cases(show u=dy b from ry);obtain⟨z,hd,xs,rel,dd⟩:=M0 I.hok e;have hz:xs.length<=sizeLine:=by rw[<- tu rel];exact z
  have hl:(putK ak k v).length<=sizeLine:=by have:=xJ ak k v;omega
  refine wpAny_setItem_heap (hsz:=hz) (zV hu) (uF I.hok eb) dd λh' dd' hs=>h _ ?_;obtain⟨q,es,ep,hq,h2,h3,h4,_,h5⟩:=dd';refine xm I (by rw[e];exact km) hs ⟨q,hq⟩ ⟨hl,hd,_,(rel.put k eb rv).keeps λc ys ec=>?_,q,es,ep,hq,h2,h3,h4,h5⟩;rw[aN (Pk ec e (λz=>nomatch z))];exact ec
end
def DH(ty td:TE):TE:=λσ H Q=>ty σ H λy H1=>td σ H1 λx H2=>∃a o,x=.ref a/\jW H2 a y o/\Q (.bl o.isSome) H2
def CV(ty td:TE):TE:=λσ H Q=>ty σ H λy H1=>td σ H1 λx H2=>∃a o,x=.ref a/\jW H2 a y o/\Q (.bl (!o.isSome)) H2
def dZ(td ty tv:TE):TS:=λD σ H=>tv σ H λv H1=>td σ H1 λx H2=>ty σ H2 λy H3=>∃a H4,x=.ref a/\lY H3 a y v H4/\D.nx σ H4
section
variable{X:Cx}{o i e value:aW}{pos pos' tpos:Pos}{td ty tv:TE}
theorem w6(hu:X.A.units+1<cLine)(hi:PE X i ty)(ho:PE X o td):PC X .In i o (DH ty td):=by intro af s σ H Q I h;refine a5 (hi af s σ H _ I h) λiv s1 ⟨y,H1,I1,ry,q1⟩=>a5 (ho af s1 σ H1 _ I1 q1) λu s2 ⟨x,H2,I2,rx,a,ov,ex,g,q2⟩=>?_;subst ex;obtain rfl:u=dy a:=rx;exact PB hu I2 g ry λs3 I3=>⟨.bl ov.isSome,H2,I3,rfl,q2⟩
theorem Gq(hu:X.A.units+1<cLine)(hi:PE X i ty)(ho:PE X o td):PC X .NotIn i o (CV ty td):=by intro af s σ H Q I h;refine a5 (hi af s σ H _ I h) λiv s1 ⟨y,H1,I1,ry,q1⟩=>a5 (ho af s1 σ H1 _ I1 q1) λu s2 ⟨x,H2,I2,rx,a,ov,ex,g,q2⟩=>?_;subst ex;obtain rfl:u=dy a:=rx;exact JA hu I2 g ry λs3 I3=>⟨.bl (!ov.isSome),H2,I3,rfl,q2⟩
theorem qY(hu:X.A.units+1<cLine)(ho:PE X o td)(hi:PE X i ty)(hv:PE X value tv)(hs:swapsWith value (aa (.Subscript o i pos')) pos.line X.env=pure false) :
 PS X (.Assign [.Subscript o i pos'] value pos) (dZ td ty tv):=by
 intro af s σ H D I h;refine wpAny_Assign_Subscript (a5 (hv af s σ H _ I h) λr s1 ⟨v,H1,I1,rv,q1⟩=>a5 (ho af s1 σ H1 _ I1 q1) λu s2 ⟨x,H2,I2,rx,q2⟩=>a5 (hi af s2 σ H2 _ I2 q2) λiv s3 ⟨y,H3,I3,ry,a,H4,ex,g,q3⟩=>?_) hs;subst ex;obtain rfl:u=dy a:=rx;exact Ml hu I3 g ry rv λs4 I4=>⟨σ,H4,I4,q3⟩
end
theorem FK{P:bt}{w:a9}{H:Hp}(h:aL)(hb:sysModules<h.objs.size):cF P w H (h.push { cls:=.type "dict", data:=.dict #[] }) h.objs.size (.dK []):=⟨iC _,zC.mpr (dO (fY hb)),[],.nil,Heap.DictOf.new h⟩
theorem Oh{P:bt}{w:a9}{H:Hp}(h:aL)(hb:sysModules<h.objs.size):cF P w H (h.push { cls:=.type "dict", data:=.dict #[] }) h.objs.size (.dT []):=⟨iC _,zC.mpr (dO (fY hb)),[],.nil,_,#[],0,fw _ rfl,⟨rfl,rfl,rfl⟩,rfl,rfl,List.nodup_nil⟩
def Df:TE:=λ_ H Q=>∀p,H p=ac->Q (.ref p) (upd H p (.dK []))
def Cr:TE:=λ_ H Q=>∀p,H p=ac->Q (.ref p) (upd H p (.dT []))
section
variable{X:Cx}{pos:Pos}
theorem BJ:PE X (.Dict [] [] pos) Df:=λaf s σ H Q I h=>
 wpAny_Dict_empty ⟨.ref s.heap.objs.size,_,I.laid (a:=s.heap.objs.size) (o:=.dK []) (t':=s.toks) (λ_ _ q=>dU _ q) (bO _) (FK s.heap I.big),rfl,h _ (I.hok.fresh (bO _))⟩
theorem Lq:PE X (.Dict [] [] pos) Cr:=λaf s σ H Q I h=>
 wpAny_Dict_empty ⟨.ref s.heap.objs.size,_,I.laid (a:=s.heap.objs.size) (o:=.dT []) (t':=s.toks) (λ_ _ q=>dU _ q) (bO _) (Oh s.heap I.big),rfl,h _ (I.hok.fresh (bO _))⟩
end
def y9:List (TE×TE)->St->Hp->(List (V×V)->Hp->Prop)->Prop
 |[],_,H,Q=>Q [] H
 |(tk,tv)::r,σ,H,Q=>tk σ H λx H1=>tv σ H1 λy H2=>y9 r σ H2 λps H3=>Q ((x,y)::ps) H3
abbrev VV:List (V×V)->List (ah×ah)->Prop:=mB λp q=>RelV p.1 q.1/\RelV p.2 q.2
def vt(X:Cx)(pos:Pos)(keys:List (Option aW))(values:List aW)(trs:List (TE×TE)):Prop:=
 ∀(af:List (ag×Obj)) (s:aw) (σ:St) (H:Hp) (Q:List (V×V)->Hp->Prop),Inv X af σ H s->y9 trs σ H Q ->
  wpAny (model X.prog X.w) X.A (evalPairs (pairTrees keys values X.env pos)) (λvs s'=>∃ps H',Inv X af σ H' s'/\VV ps vs/\Q ps H') X.xe s
theorem J5{X:Cx}{pos:Pos}:vt X pos [] [] []:=λaf s σ H Q I h=>pairTrees_nil_walk ⟨[],H,I,.nil,h⟩
theorem JK{X:Cx}{pos:Pos}{k v:aW}{ks:List (Option aW)}{vs:List aW}{tk tv:TE}{trs:List (TE×TE)}(hk:PE X k tk)(hv:PE X v tv)(hr:vt X pos ks vs trs) :
 vt X pos (aa k::ks) (v::vs) ((tk,tv)::trs):=λaf s σ H Q I h=>
 pairTrees_cons_walk (a5 (hk af s σ H _ I h) λu s1 ⟨x,H1,I1,rx,q1⟩=>a5 (hv af s1 σ H1 _ I1 q1) λw2 s2 ⟨y,H2,I2,ry,q2⟩=>
  a5 (hr af s2 σ H2 _ I2 q2) λws s3 ⟨ps,H3,I3,rel,q3⟩=>⟨(x,y)::ps,H3,I3,.cons ⟨rx,ry⟩ rel,q3⟩)
def ss(ak more:List (Key×V)):List (Key×V):=more.foldl (λacc kv=>putK acc kv.1 kv.2) ak
theorem KV.merge:∀{more:List (Key×V)} {rs:List (Key×ah)} {ak:List (Key×V)} {vs:List (Key×ah)},KV more rs->KV ak vs->KV (ss ak more) (merged vs rs):=by
 intro more rs ak vs r;unfold KV at r
 induction r generalizing ak vs with
 |nil=>intro q;exact q
 | @cons p q ps qs h t ih=>
  intro r0;have e:KV (putK ak p.1 p.2) (stored vs q.1 q.2):=by have:=r0.put p.1 h.2;rw[<- h.1];exact this
  exact ih e
theorem EX:∀(more ak:List (Key×V)),(ss ak more).length<=ak.length+more.length
 |[],ak=>by show ak.length<=ak.length+0;omega
 |p::r,ak=>by
  have h1:=EX r (putK ak p.1 p.2);have h2:=xJ ak p.1 p.2;show(ss (putK ak p.1 p.2) r).length<=_;rw[bU];omega
theorem Cy{P:bt}{w:a9}:∀{ak:List (Key×V)} {ws:List (ah×ah)},VV (ak.map λkv=>(kV kv.1,kv.2)) ws->∃rs,Carries (gC P w) ws rs/\KV ak rs
 |[],_,r=>by rw[vV]at r;cases r;exact⟨[],km,.nil⟩
 |p::ak,_,r=>by
  rw[dg]at r;cases r with
  | @cons a b as bs h t=>
   obtain⟨rs,c,q⟩:=Cy (P:=P) (w:=w) t;obtain⟨b1,b2⟩:=b;exact⟨(p.1,b2)::rs,⟨rm h.1,rfl,c⟩,.cons ⟨rfl,h.2⟩ q⟩
def yd(trs:List (TE×TE)):TE:=λσ H Q=>∀p,H p=ac->y9 trs σ (upd H p (.dK [])) λps H2=>H2 p=aa (.dK [])/\∃ak:List (Key×V),ps=ak.map (λkv=>(kV kv.1,kv.2))/\ak.length<=15/\Q (.ref p) (upd H2 p (.dK (ss [] ak)))
theorem Mc{X:Cx}{pos:Pos}{keys:List (Option aW)}{values:List aW}{trs:List (TE×TE)}(h:vt X pos keys values trs)(hall:keys.all (·.isSome)=true)(hl:keys.length=values.length)(h0:keys≠[])
 (h15:keys.length<=15):PE X (.Dict keys values pos) (yd trs):=by
 intro af s σ H Q I q;have hn:=I.hok.fresh (bO s.heap.objs.size);have I1:=I.laid (a:=s.heap.objs.size) (o:=.dK []) (h':=s.heap.push { cls:=.type "dict", data:=.dict #[] }) (t':=s.toks) (λ_ _ q=>dU _ q) (bO _) (FK s.heap I.big);refine wpAny_Dict_walk (knd:=gC X.prog X.w) hall hl h0 h15 (a5 (h af _ σ _ _ I1 (q _ hn)) λws s2 ⟨ps,H2,I2,rel,e,ak,ep,lk,q2⟩=>?_);subst ep;obtain⟨rs,c,rk⟩:=Cy (P:=X.prog) (w:=X.w) rel;obtain⟨z,hd,vs0,r0,dd⟩:=D4 I2.hok e;cases r0;refine⟨rs,c,dd,λh' dd' hs=>⟨.ref s.heap.objs.size,_,?_,rfl,q2⟩⟩;have hz:(ss [] ak).length<=sizeLine:=by have h1:=EX ak [];rw[d9]at h1;rw[eF];omega
 have he:∃q,h'.get? s.heap.objs.size=aa q:=let ⟨q,_,_,hq,_⟩:=dd';⟨q,hq⟩;exact xm I2 (by rw[e];exact km) hs he (B5 hz hd (rk.merge .nil) dd')
end L2
namespace Att
open PySem PySem.W PySem.Calls PyProof.Rows
theorem Mz{P:Params}{h:aL}:∀(ns:List Int) (vs:List ah),WellAll P h vs (ns.map WData.int)->IntsAre vs ns:=by
 intro ns
 induction ns with
 |nil=>
  intro vs w;rw[vV]at w;cases w;exact .nil
 |cons n ns ih=>
  intro vs w;rw[dg]at w;cases w with
  |cons a b=>
   cases a;exact .cons _ _ (ih _ b)
theorem Kb{l:OpenLaw}{n:Nat}(hn:l.most=aa n){P:Params}{h:aL}{args:List WData}{vals:List ah}
 (hpre:l.row.toRowW.claim.pre args=true) (hwl:WellAll P h vals args) :
 ∃a vs ns,vals=[dy a]/\args=[WData.list (ns.map WData.int)]/\h.get? a=aa { cls:=.type "list", data:=.seq vs.toArray }/\IntsAre vs ns/\ns.length<=n:=by
 have hsh:WShape.hasAll [] args [.list .int]=true:=(pre_splitW hpre).1;have hc:l.pre.holds [] { args:=args }=true:=(pre_splitW hpre).2;obtain⟨d,r,rfl,h1,h2⟩:=hasAllW_cons hsh;obtain rfl:=hasAllW_nil h2;obtain⟨xs,rfl,h3⟩:=hasW_list h1;obtain⟨ns,rfl⟩:=items_int h3;have hlen:ns.length<=n:=by
  unfold OpenLaw.pre at hc;have h4:(WTm.not (.lt (.lit (.int (n:Int))) (.len (.arg 0)))).holds [] { args:=[.list (ns.map .int)] }=true:=by have h4:=(holds_andW hc).1;rw[hn]at h4;exact h4
  have h5:=condW_of h4 (w_not (w_lt w_lit (w_len_list (w_arg rfl))));rw[bd]at h5;refine Nat.le_of_not_lt λq=>?_;have q':(n:Int)<((ns.length:Nat):Int):=by omega
  first
   |(rw[bR q']at h5;exact absurd h5 (by decide))
   |(simp at h5;omega)
 cases hwl with
 |cons w1 w2=>
  cases w2;cases w1 with
  |list ho hall=>exact⟨_,_,ns,rfl,rfl,ho,Mz ns _ hall,hlen⟩
theorem PL(l:OpenLaw)(args:List WData):l.row.toRowW.claim.post args (.bool true) args=true:=
 postW_of (r:=l.row.toRowW) (X:=(true==true))
  (show WShape.has [] (.bool true) .bool=true by first|rfl|decide|simp[WShape.has,WShape.arms,WShape.armsAll])
  (show(WTm.eq .res (.lit (.bool true))).value [] { args:=args,res:=aa (.bool true),after:=args }=aa (.bool (true==true))from w_eq_bool (w_res rfl) w_lit) rfl
theorem Le{l:OpenLaw}{n:Nat}{q:bt}{loose:List Str}{XP:(Str->Option ah)->aL->Prop}{YP:a9->aL->Prop}{d:DefRec}
 (hn:l.most=aa n) (hdf:d.params.defaults=[])
 (call:∀(w:a9) (s₀ s₁:aw) (mg mb:Str->Option ah) (fa:ag) (o:Obj) (pm cd doc:ah) (a:ag) (vs:List ah) (ns:List Int),
  Ground q loose [] XP w s₀ mg mb s₁.heap->YP w s₁.heap ->
  s₁.heap.get? fa=aa o->o.data=.func (docDef d.name d.params d.body d.scope pm cd doc)->s₁.heap.CodeRec cd d.name->mg d.name=aa (.ref fa) ->
  s₁.heap.get? a=aa { cls:=.type "list", data:=.seq vs.toArray }->IntsAre vs ns->ns.length<=n->s₁.gens = #[] ->
  codeAny (model l.prog w) callerA (.call (.ref fa) ⟨[.ref a],[]⟩) (λr s'=>r=.ok (.ret (.bool true))/\OldK s₁.heap s'.heap/\s'.os=s₁.os/\kW s'.gens) s₁) :
 WalkO q loose XP YP l.row.toRowW d [] (λf vs=>z6 f vs):=by
 intro w s₀ s₁ mg mb G Y fa o pm cd doc dV kV ho hd hcd hD hmg hg args vals as hpre hlay hrd hwl hlo;obtain rfl:dV=.none:=Dflts.none hD hdf;obtain rfl:kV=.none:=Dflts.noKw hD;obtain⟨a,vs,ns,rfl,rfl,hobj,hints,hlen⟩:=Kb hn hpre hwl;refine enter_call (qa (call w s₀ s₁ mg mb fa o pm cd doc a vs ns G Y ho (fd_plain hd) hcd hmg hobj hints hlen hg) λr s' hq=>?_);obtain⟨rfl,h2,h3,h4⟩:=hq;exact⟨.inl ⟨.bool true,.bool true,[],rfl,λ_=>rfl,.bool true,PL l _,λ_=>⟨HC,λ_ hm=>(nomatch hm)⟩⟩,h2,h3,h4⟩
end Att
namespace L2
open PySem PySem.Spec PyProof.Rows
theorem Gb:∀{vs:List ah} {ns:List Int},IntsAre vs ns->Vals (ns.map V.int) vs
 |_,_,.nil=>.nil
 |_,_,.cons n t h=>.cons ⟨t,rfl⟩ (Gb h)
def lN(s:bq):nO:=match s with
 |.FunctionDef _ a _ _ _ _ _ _ _ _=>a
 |_=>{ posonlyargs:=[],args:=[],vararg:=ac,kwonlyargs:=[],kw_defaults:=[],kwarg:=ac,defaults:=[] }
def gu(s:bq):List bq:=match s with
 |.FunctionDef _ _ b _ _ _ _ _ _ _=>b
 |_=>[]
def bA(s:bq):dJ:=match s with
 |.FunctionDef _ _ _ _ _ _ sc _ _ _=>sc
 |_=>{ kind:=.function,names:=[],isGenerator:=false,isCoroutine:=false }
abbrev aR:f6:=λ_ _ _ _ _ _=>False
abbrev E0:XK:=λ_ _ _=>False
theorem uV{X:Cx}:sD aR X E0:=λ_ _ _ _ _ _ _ h=>h.elim
structure bP(K:aI)(x qual:Str)(st:bq)(f:ag)(fd:bD):Prop where
 ex:∃(oc:ah) (od:Option ag) (kV doc pm:ah) (an:Option ag) (cdv ct:ah) (osl:Array (Option ah)),
  fd=i6 x qual (lN st) (gu st) (bA st) .none kV doc pm an cdv ct/\K.lookup f=aa ⟨oc,od,.func fd,osl⟩/\nH K cdv qual=true
 kp:j8 K (.ref f)=true
section
variable{P:bt}{w:a9}{K:aI}{mg:Str->Option ah}{base:aL}
theorem bP.ok{x qual:Str}{st:bq}{f:ag}{fd:bD}{N ps:List Str}{k:Nat}{sp:Sp}(F:bP K x qual st f fd)(S:bZ N ps (bA st))(len:∀vs H Q E,sp vs H Q E->vs.length=ps.length)
 (hbody:∀(cdv:ah) (A:bH) (outer:List Env) (s:aw) (H:Hp) (vs:List V) (Q:VK) (E:XK),cE k (A.deeper (envOfC qual (bA st) s.heap.objs.size f cdv))->sp vs H Q E ->
  ∃t,eZ (dQ aR P w K mg base N qual (bA st) f cdv A outer s H E).kB (gu st) t/\t { nx:=λ_ H'=>Q .non H',rt:=Q } (start N vs) H):bJ P w K mg base aR (k+1) f fd ps sp:=by
 obtain⟨oc,od,kV,doc,pm,an,cdv,ct,osl,rfl,lk,hcd⟩:=F.ex;refine xK lk hcd S len λA outer s H vs Q E hr hsp=>?_;obtain⟨t,h,q⟩:=hbody cdv A outer s H vs Q E hr hsp;exact⟨t,h.kB,q⟩
theorem bP.binds{x qual:Str}{st:bq}{f:ag}{fd:bD}{ps:List Str}(F:bP K x qual st f fd)
 (h:∀(kV doc pm:ah) (an:Option ag) (cdv ct:ah) (us:List ah),us.length=ps.length->bindArgs (i6 x qual (lN st) (gu st) (bA st) .none kV doc pm an cdv ct) ⟨us,[]⟩=pure (ps.zip us)):Binds K fd ps []:=by
 obtain⟨oc,od,kV,doc,pm,an,cdv,ct,osl,rfl,lk,hcd⟩:=F.ex;exact .all (h kV doc pm an cdv ct)
theorem Es{x qual:Str}{st:bq}{f:ag}{oc:ah}{od an:Option ag}{osl:Array (Option ah)}{kV doc pm cdv ct:ah}(l:K.lookup f=aa ⟨oc,od,.func (i6 x qual (lN st) (gu st) (bA st) .none kV doc pm an cdv ct),osl⟩)
 (c:nH K cdv qual=true) (k:j8 K (.ref f)=true):bP K x qual st f (i6 x qual (lN st) (gu st) (bA st) .none kV doc pm an cdv ct):=⟨⟨oc,od,kV,doc,pm,an,cdv,ct,osl,rfl,l,c⟩,k⟩
end
theorem jw{A:bH}{k:Nat}(hr:cE k A):A.units+1<cLine:=Nat.lt_of_le_of_lt (Nat.add_le_add_left (by decide:1<=64) _) hr.units
section
variable{X:Cx}
theorem pv(i:Nat){x:Str}{pos:Pos}(hN:X.N[i]? = aa x:=by rfl)(hv:rR X.env.scope x:=by first|exact ee rfl|exact kj (ee rfl)|exact kj (kj rfl))(hd:(x==("__debug__" : Str))=false:=by decide)
 (hcd:(x==("__classdict__" : Str))=false:=by decide):PE X (.Name x pos) (eB i):=KZ hN hv hd hcd
end
theorem lf{A B:Prop}(h:B):if false=true then A else B:=by rw[be dW];exact h
theorem lr{A B:Prop}(h:A):if true=true then A else B:=by rw[a8 rfl];exact h
def cA(H H':Hp):Prop:=∀b o,H b=aa o->H' b=aa o
theorem cA.refl(H:Hp):cA H H:=λ_ _ h=>h
theorem cA.trans{H H1 H2:Hp}(a:cA H H1)(b:cA H1 H2):cA H H2:=λc o h=>b c o (a c o h)
theorem cA.free{H H':Hp}(e:cA H H'){l:ag}(h:H' l=Option.none):H l=Option.none:=by
 cases q:H l with
 |none=>rfl
 |some o=>
  rw[e l o q]at h;cases h
section
variable{prog:bt}{w:a9}{A:bH}{R:Result->aw->Prop}{s:aw}
theorem LM{elt target iter:aW}{ifs:List aW}{scope:dJ}{pos:Pos}{it acc:ah}{env:Env}(I:Nat->aw->Prop)
 (turn:∀n s,I n s->wpAny (model prog w) A (pyNext it) (λr s₁=>match r with
  |none=>R (.ok .next) s₁
  |some v=>wpAny (model prog w) A (letOwnedTupleGo target it v) (λ_ s₂=>wpAny (model prog w) A (assign target env v) (λ_ s₃=>
   wpAny (model prog w) A (forIn ifs true λc r=>if r=true then do let ok <- isTrue c env (eval c env);pure (mE ok)else pure (mE r)) (λok s₄=>
    if ok=true then wpAny (model prog w) A (eval elt env) (λx s₅=>
     wpAny (model prog w) A (call (.builtin "list.append") [acc,x]) (λ_ s₆=>∃m,m<n/\I m s₆) (λ_ _=>False) s₅) (λ_ _=>False) s₄
    else∃m,m<n/\I m s₄) (λ_ _=>False) s₃) (λ_ _=>False) s₂) (λ_ _=>False) s₁) (λ_ _=>False) s)
 (n:Nat) (h:I n s) :
 codeAny (model prog w) A (.compLoop (.ListComp elt [⟨target,iter,ifs,0⟩] scope pos) 0 it acc env) R s:=by
 refine codeAny_loop rfl I (λn s hI=>?_) n h;show wpAny _ A ((compTurn (.ListComp elt [⟨target,iter,ifs,0⟩] scope pos) 0 it acc env).onRaise (λx=>do noteFrame x env;theTreesLotGoes x)) _ _ s;refine wpAny_noted (g7 (E:=λ_ _=>False) ?_ (λ_ _ q=>q) λ_ _ q=>q.elim);rw[compTurn_list];refine aY (v8 (aY (a5 (turn n s hI) λr s₁ h₁=>?_)));cases r with
 |none=>exact bW h₁
 |some v=>
  refine aY (a5 h₁ λ_ s₂ h₂=>aY (a5 h₂ λ_ s₃ h₃=>aY (a5 h₃ λok s₄ h₄=>?_)));cases ok with
  |false=>exact bW ⟨rfl,h₄⟩
  |true=>exact aY (aY (a5 h₄ λx s₅ h₅=>aY (a5 h₅ λ_ s₆ h₆=>bW (bW ⟨rfl,h₆⟩))))
end
theorem cv.track{P:bt}{w:a9}{H:Hp}{h:aL}{a:ag}{o:HO}(x:cv P w H h)(hn:H a=ac)(new:cF P w (upd H a o) h a o):cv P w (upd H a o) h:=λb u e=>by
 by_cases hb:b=a
 ·subst hb;rw[bG]at e;cases e;exact new
 ·rw[aN hb]at e;exact(x b u e).stay (λc v _ q=>q) (λc q=>by rw[aN (dz q hn)];exact q) λc xs q=>by rw[aN (dz q hn)];exact q
theorem lookup_mem{α:Type}:∀{l:List (Str×α)} {x:Str} {k:α},l.lookup x=aa k->(x,k)∈l
 |[],_,_,h=>by simp at h
 |(n,k')::r,x,k,h=>by
  rw[mx]at h;cases hx:x==n with
  |true=>
   rw[hx]at h;have:x=n:=by simpa using hx
   cases h;subst this;exact dS
  |false=>rw[hx]at h;exact eP _ (lookup_mem h)
theorem uQ{env:Env}:∀{names:List (Str×mz)} {x:Str} {k:mz},
 (names.map λ(n,k)=>if(k==lS&&env.scope.kind==.function&&env.kindOf n==aa .cell)then(n,Ai)else(n,k)).lookup x=aa k ->
 ∃k',names.lookup x=aa k'/\(k=k'\/(k'=.free/\k=.cell))
 |[],_,_,h=>by simp at h
 |(n,k0)::r,x,k,h=>by
  have ih:=@uQ env r x k;have h':vX x ((if(k0==lS&&env.scope.kind==.function&&env.kindOf n==aa .cell)=true then(n,Ai)else(n,k0)) ::
   (r.map λ(n,k)=>if(k==lS&&env.scope.kind==.function&&env.kindOf n==aa .cell)then(n,Ai)else(n,k)))=aa k:=h
  by_cases hc:(k0==lS&&env.scope.kind==.function&&env.kindOf n==aa .cell)=true
  ·rw[a8 hc,mx]at h';rw[mx];cases hx:x==n with
   |true=>
    rw[hx]at h';cases h';simp only[mD]at hc;exact⟨k0,rfl,.inr ⟨by simpa using hc.1.1,rfl⟩⟩
   |false=>rw[hx]at h';exact ih h'
  ·rw[be hc,mx]at h';rw[mx];cases hx:x==n with
   |true=>rw[hx]at h';cases h';exact⟨_,rfl,.inl rfl⟩
   |false=>rw[hx]at h';exact ih h'
theorem xX{env:Env}{f:(Str×mz)->List (Str×ag)->Sem (ForInStep (List (Str×ag)))}
 (hf:∀n k r,f (n,k) r=if(k==lS)=true then(cellOf env n >>= λa=>pure (mE ((n,a)::r)))else pure (mE r)) :
 ∀(names:List (Str×mz)) (acc:List (Str×ag)),(∀y∈names,y.2=.free->∃c,env.cells.lookup y.1=aa c)->(∀x c,acc.lookup x=aa c->env.cells.lookup x=aa c) ->
  ∃cl,forIn names acc f=pure cl/\(∀x c,cl.lookup x=aa c->env.cells.lookup x=aa c)/\(∀x,(∃c,acc.lookup x=aa c)->∃c,cl.lookup x=aa c)/\∀x,(x,lS)∈names->∃c,cl.lookup x=aa c
 |[],acc,_,hacc=>⟨acc,rfl,hacc,λ_ h=>h,λ_ h=>by simp at h⟩
 |(n,k)::r,acc,hn,hacc=>by
  have hr:∀y∈r,y.2=.free->∃c,env.cells.lookup y.1=aa c:=λy hy=>hn y (eP _ hy);by_cases hk:(k==lS)=true
  ·have hk':k=.free:=by simpa using hk
   obtain⟨c,hc⟩:=hn (n,k) dS hk';obtain⟨cl,e,h1,h2,h3⟩:=xX hf r ((n,c)::acc) hr (λx c' h=>by
    rw[mx]at h;cases hx:x==n with
    | true => rw [hx] at h; cases h; have : x = n := by simpa using hx
              subst this;exact hc
    |false=>rw[hx]at h;exact hacc x c' h)
   refine⟨cl,?_,h1,λx ⟨c',hx⟩=>h2 x ?_,λx hx=>?_⟩
   ·rw[List.forIn_cons,hf,a8 hk];have:cellOf env n=pure c:=by unfold cellOf;rw[hc]
    rw[this];exact e
   ·rw[mx];cases x==n with
    |true=>exact⟨_,rfl⟩
    |false=>exact⟨c',hx⟩
   ·rcases cS.mp hx with e|hx
    ·cases e;exact h2 _ ⟨c,by rw[mx];simp⟩
    ·exact h3 x hx
  ·obtain⟨cl,e,h1,h2,h3⟩:=xX hf r acc hr hacc;refine⟨cl,?_,h1,h2,λx hx=>?_⟩
   ·rw[List.forIn_cons,hf,be hk];exact e
   ·rcases cS.mp hx with e|hx
    ·cases e;exact absurd rfl hk
    ·exact h3 x hx
theorem Pa{sc:dJ}{env:Env}(h:∀y∈sc.names,y.2=.free->∃c,env.cells.lookup y.1=aa c) :
 ∃cl,closureFor sc env=pure cl/\(∀x c,cl.lookup x=aa c->env.cells.lookup x=aa c)/\∀x,(x,lS)∈sc.names->∃c,cl.lookup x=aa c:=by
 obtain⟨cl,e,h1,_,h3⟩:=xX (env:=env) (f:=λx r=>match x with|(name,kind)=>if(kind==lS)=true then(cellOf env name >>= λa=>pure (mE ((name,a)::r)))else pure (mE r))
  (λn k r=>rfl) sc.names [] h (λ_ _ h=>by simp at h)
 refine⟨cl,?_,h1,h3⟩;unfold closureFor;refine Eq.trans ?_ e;exact bind_pure _
def pick(ρ:List (Option Nat))(σ:St):St:=ρ.map λo=>o.bind λj=>(σ[j]?).join
def fj(X:Cx)(N':List Str)(sc:dJ)(cl:List (Str×ag))(C:ag)(s:aw)(H:Hp)(fp:List ag):Cx:={ X with N:=N',s₀:=s,H₀:=H,env:=compEnvC sc cl C X.env,outer:=X.stack,ex:=fp,fn:=λ_=>false,xe:=λ_ _=>False }
structure fc(X:Cx)(N':List Str)(ρ:List (Option Nat))(sc:dJ):Prop where
 kind:sc.kind=.function
 lT:∀y∈sc.names,y.2≠.cell
 names:∀y∈sc.names,y.2=.local->sc.names.lookup y.1=aa .local
 free:∀y∈sc.names,y.2=.free->(X.env.kindOf y.1=aa .cell\/X.env.kindOf y.1=aa .free)
 len:ρ.length=N'.length
 ix:∀(i j:Nat),ρ[i]? = aa (aa j)->∃x,N'[i]? = aa x/\X.N[j]? = aa x/\sc.names.lookup x=aa .free
def rW(X:Cx)(ifs:List aW)(t:TT):Prop:=
 ∀(af:List (ag×Obj)) (s:aw) (σ:St) (H:Hp) (Q:Bool->Hp->Prop),Inv X af σ H s->t σ H Q ->
  wpAny (model X.prog X.w) X.A (forIn ifs true λc r=>if r=true then do let ok <- isTrue c X.env (eval c X.env);pure (mE ok)else pure (mE r)) (TP X af σ Q) X.xe s
def Dj:TT:=λ_ H Q=>Q true H
theorem kN{X:Cx}:rW X [] Dj:=λ_ _ _ H _ I h=>wpAny_tests_nil ⟨H,I,h⟩
theorem n9{X:Cx}{c:aW}{t:TT}(h:PT X c t):rW X [c] t:=λaf s σ H Q I hw=>wpAny_tests_one (h af s σ H Q I hw)
def sC(ρ:List (Option Nat))(g:TG):Prop:=∀v σ H Q,g v σ H Q->g v σ H λσ2 H2=>(σ2.length = σ.length/\∀(i j:Nat),ρ[i]? = aa (aa j)->σ2[i]? = σ[i]?)/\Q σ2 H2
def tV(ρ:List (Option Nat))(g:iz):Prop:=∀v σ H Q,g v σ H Q->g v σ H λσ2 H2=>(σ2.length = σ.length/\∀(i j:Nat),ρ[i]? = aa (aa j)->σ2[i]? = σ[i]?)/\Q σ2 H2
theorem ia{ρ:List (Option Nat)}{i:Nat}(h:ρ[i]? = aa ac):sC ρ (gr i):=λv σ H Q q=>by
 refine⟨⟨kh,λk j e=>?_⟩,q⟩;have:i≠k:=by intro z;subst z;rw[h]at e;cases e
 rw[eQ this]
theorem EF{ρ:List (Option Nat)}:tV ρ sj:=λv σ H Q ⟨e,q⟩=>⟨e,⟨rfl,λ_ _ _=>rfl⟩,q⟩
theorem tF{ρ:List (Option Nat)}{i:Nat}{u:iz}(h:ρ[i]? = aa ac)(hu:tV ρ u)(mu:∀v σ H Q Q',(∀a b,Q a b->Q' a b)->u v σ H Q->u v σ H Q'):tV ρ (qX (gr i) u):=λvs σ H Q ⟨v,r,e,q⟩=>by
 refine⟨v,r,e,?_⟩;refine mu _ _ _ _ _ (λa b ⟨⟨l,k⟩,z⟩=>⟨⟨l.trans kh,λi' j' e'=>(k i' j' e').trans ?_⟩,z⟩) (hu _ _ _ _ q);have:i≠i':=by intro z;subst z;rw[h]at e';cases e'
 rw[eQ this]
theorem vm:∀v σ H Q Q',(∀a b,Q a b->Q' a b)->sj v σ H Q->sj v σ H Q':=λ_ _ _ _ _ m ⟨e,q⟩=>⟨e,m _ _ q⟩
theorem BB{i:Nat}{u:iz}(mu:∀v σ H Q Q',(∀a b,Q a b->Q' a b)->u v σ H Q->u v σ H Q'):∀v σ H Q Q',(∀a b,Q a b->Q' a b)->qX (gr i) u v σ H Q->qX (gr i) u v σ H Q':=λ_ _ _ _ _ m ⟨v,r,e,q⟩=>⟨v,r,e,mu _ _ _ _ _ m q⟩
theorem Cq{ρ:List (Option Nat)}{K:aI}{n:Nat}{u:iz}(hu:tV ρ u):sC ρ (yY K n u):=λv σ H Q ⟨a,xs,e,hq,hl,q⟩=>⟨a,xs,e,hq,hl,hu _ _ _ _ q⟩
def PP(J:It)(ρ:List (Option Nat))(g:TG)(tc:TT)(te:TE)(σ:St)(H1:Hp)(Q:VK):Prop:=∃W:Nat->Nat->List V->Hp->Prop,(∃m,W 0 m [] H1)/\∀i m acc H,W i m acc H ->
 (J.stop i H/\∀p,H p=ac->Q (.ref p) (upd H p (.lst acc))) \/
 (J.go i H/\acc.length<sizeLine/\∃N:List V->Hp->Prop,(∀acc' H',N acc' H'->∃m',m'<m/\W (i+1) m' acc' H') /\
  ∀x H',J.yld i H x H'->g x (pick ρ σ) H' λσ2 H2=>tc σ2 H2 λb H3=>if b=true then te σ2 H3 λy H4=>N (acc++[y]) H4 else N acc H3)
def t9(wi:TI)(ρ:List (Option Nat))(g:TG)(tc:TT)(te:TE):TE:=λσ H Q=>wi σ H λJ H1=>PP J ρ g tc te σ H1 Q
section
variable{X:Cx}{elt tg iter:aW}{ifs:List aW}{sc:dJ}{pos cpos:Pos}{N':List Str}{ρ:List (Option Nat)}{wi:TI}{g:TG}{tc:TT}{te:TE}
theorem BW(hcalm:X.calm=true)(S:fc X N' ρ sc)(hi:PI X tg iter wi)
 (hg:∀cl C s H fp,PG (fj X N' sc cl C s H fp) tg g) (gk:sC ρ g) (hc:∀cl C s H fp,rW (fj X N' sc cl C s H fp) ifs tc) (he:∀cl C s H fp,PE (fj X N' sc cl C s H fp) elt te)
 (hs:∀x,foldedSetIterable iter X.env x=pure x)
 (use:Option (ah->Sem Unit)) {R:ah->aw->Prop} {af:List (ag×Obj)} {s:aw} {σ:St} {H:Hp} {Q:VK} (I:Inv X af σ H s) (h:t9 wi ρ g tc te σ H Q)
 (hR:∀s' D C H',Inv X af σ H' s'->Q (.ref D) H'->(∃m,s'.heap.Ns C m)->gN X af H' C->compPost (model X.prog X.w) X.A X.xe use R (.ref D) C (.ok .next) s') :
 wpAny (model X.prog X.w) X.A (comprehension (.ListComp elt [⟨tg,iter,ifs,0⟩] sc pos) sc X.env cpos (newList []) false (eval iter X.env) use) R X.xe s:=by
 obtain⟨cl,hcl,hsub,hall⟩:=Pa (sc:=sc) (env:=X.env) λy hy hf=>I.ok.has y.1 (S.free y hy hf);refine wpAny_comprehension_free rfl hs hcl S.kind S.names (a5 (hi af s σ H _ I h) λv s1 h1=>a5 h1 λitv s2 h2=>?_);obtain⟨it,fp,tn,J,H2,e,I2,T,st2,f2,W,⟨m0,w0⟩,turn⟩:=h2;subst e;refine wpAny_newList (items:=[]) ?_;refine wpAny_newFunctionEnv S.lT (by intro y hy;simp at hy) (λh₁ hns hsb=>?_) S.kind;dsimp only at hns hsb ⊢;generalize hH2:s2.heap.push { cls:=.type "list", data:=.seq ([]:List ah).toArray }=Hh at hns hsb ⊢;have hCs:Hh.objs.size=s2.heap.objs.size+1:=by rw[<- hH2,Heap.size_push]
 generalize hD:s2.heap.objs.size=D at *;generalize hCC:Hh.objs.size=C at *;have hDC:D≠C:=by omega
 have ltC:∀b:Nat,b<s2.heap.objs.size->b≠C/\b≠D/\b<D:=λb h=>by omega
 have ltD:∀b:Nat,b<D->b≠C/\b≠D:=λb h=>by omega
 have old:∀b o,s2.heap.get? b=aa o->h₁.get? b=aa o:=λb o e=>hsb.extBut b o (ltC b (bX e)).1 (dU _ (by rw[<- hH2];exact dU _ e));have newD:h₁.get? D=aa { cls:=.type "list", data:=.seq ([]:List ah).toArray }:=hsb.extBut _ _ hDC (dU _ (by rw[<- hH2,<- hD];exact fw _ rfl));have ltb:∀b∈fp,b<D:=λb hb=>by
  obtain⟨o,e,_⟩:=T.obj _ _ st2 b hb;exact(ltC b (bX e)).2.2
 have fD:gN X af H2 D:=I2.iE (by omega) (I2.hok.fresh (by omega));have fC:gN X af H2 C:=I2.iE (by omega) (I2.hok.fresh (by omega));have nst:∀b,b≠X.env.locals->b∉X.fs->b∉frs X.stack:=λb h1 h2 hb=>by
  rcases cS.mp (I2.rB b hb)with e|e
  ·exact h1 e
  ·exact h2 e
 have ok':(fj X N' sc cl C s2 H2 fp).Ok:=by
  refine⟨I2.ok.mod,S.kind,I2.ok.glob,I2.ok.blt,(by show s2.heap.objs.size<=C;omega),λx y c e1 e2=>I2.ok.inj x y c (hsub _ _ e1) (hsub _ _ e2),λx hx=>?_,λx c z=>(by cases z),I2.ok.hd,I2.ok.frames,.inl rfl,
   λb hb=>⟨(ltD b (ltb b hb)).1,λx c e=>(f2 b hb).2.2.2.2.1 x c (hsub _ _ e)⟩,I2.bs,(by show X.base.objs.size<=s2.heap.objs.size;exact eW I2.ok.bsz I2.sz),λb o e hb=>?_,λb hb=>nst b (f2 b hb).2.1 (f2 b hb).2.2.1,I2.stack,I2.uP⟩
  ·have hx':∃k',sc.names.lookup x=aa k'/\(k'=.cell\/k'=.free):=by
    rcases hx with hx|hx
    ·obtain⟨k',e1,e2⟩:=uQ (env:=X.env) (names:=sc.names) hx;rcases e2 with e2|⟨e2,_⟩
     ·exact⟨k',e1,.inl e2.symm⟩
     ·exact⟨k',e1,.inr e2⟩
    ·obtain⟨k',e1,e2⟩:=uQ (env:=X.env) (names:=sc.names) hx;rcases e2 with e2|⟨e2,_⟩
     ·exact⟨k',e1,.inr e2.symm⟩
     ·exact⟨k',e1,.inr e2⟩
   obtain⟨k',e1,e2⟩:=hx';have hm:=lookup_mem e1;rcases e2 with e2|e2
   ·exact absurd e2 (S.lT _ hm)
   ·subst e2;exact hall x hm
  ·rcases(f2 b hb).2.2.2.1 with z|z
   ·exact I2.ok.nW b o e z
   ·exact absurd (fK (bX e) (eW I2.ok.bsz z)) (ki _)
 have HJ:∀p∈X.pn++af,p.1<D:=λp hp=>(ltC p.1 (bX (I2.pin p hp).1)).2.2;have P4:∀x c,cl.lookup x=aa c->c<D:=λx c e=>by
  obtain⟨v,q⟩:=I2.cell x c (hsub _ _ e);exact(ltC c q.lt).2.2
 have I':∀tk,Inv (fj X N' sc cl C s2 H2 fp) (af++[(D,{ cls:=.type "list", data:=.seq ([]:List ah).toArray })]) (pick ρ σ) H2 { s2 with heap:=h₁,toks:=tk }:=λtk=>by
  refine⟨ok',rfl,I2.bare,Un.kept old,⟨_,hns,λi x v e1 e2 e3=>?_⟩,λx c e=>?_,fC.1,λx c e=>I2.gG x c (hsub _ _ e),λp hp=>?_,I2.hok.kept old,?_⟩
  ·have e2':∃j,ρ[i]? = aa (aa j)/\σ[j]? = aa (aa v):=by
    unfold pick at e2;rw[d8]at e2;cases hr:ρ[i]? with
    |none=>rw[hr]at e2;cases e2
    |some o=>
     rw[hr]at e2;cases o with
     |none=>cases e2
     |some j=>
      refine⟨j,rfl,?_⟩;have e2:(σ[j]?).join=aa v:=fM e2;cases hq:σ[j]? with
      |none=>rw[hq]at e2;cases e2
      | some o' => rw [hq] at e2; have e2 : o' = aa v := e2
                   rw[e2]
   obtain⟨j,hj,hv⟩:=e2';obtain⟨y,ey,eN,ef⟩:=S.ix i j hj;have e1':N'[i]? = aa x:=e1;rw[ey]at e1';cases e1';obtain⟨m,hn,hl⟩:=I2.loc;have hm:=lookup_mem ef;have kX:=S.free _ hm rfl;obtain⟨u,ru,lk⟩:=hl j x v eN hv (by rcases kX with k|k;exact .inr (.inl k);exact .inr (.inr k));refine⟨u,ru,.inr ⟨?_,?_⟩⟩
   ·show(relabel sc X.env).names.lookup x=aa .cell\/(relabel sc X.env).names.lookup x=aa .free;rcases e3 with e3|e3|e3
    ·obtain⟨k',q1,q2⟩:=uQ (env:=X.env) (names:=sc.names) e3;rw[ef]at q1;cases q1;rcases q2 with q2|⟨_,q2⟩<;>cases q2
    ·exact .inl e3
    ·exact .inr e3
   ·obtain⟨c,hc'⟩:=hall x hm;refine⟨c,hc',?_⟩;rcases lk with ⟨k,_⟩|⟨_,c',ec,z⟩
    ·rcases kX with k'|k'<;>(rw[k]at k';cases k')
    ·rw[hsub _ _ hc']at ec;cases ec;obtain⟨o,ho,hd⟩:=z;exact⟨o,old _ _ ho,hd⟩
  ·obtain⟨v,o,ho,hd⟩:=I2.cell x c (hsub _ _ e);exact⟨v,o,old _ _ ho,hd⟩
  ·have hp':p∈X.pn++af\/p=(D,{ cls:=.type "list", data:=.seq ([]:List ah).toArray }):=by
    rcases da.mp hp with z|z
    ·exact .inl (fe _ z)
    ·rcases da.mp z with z|z
     ·exact .inl (dH _ z)
     ·exact .inr (by simpa using z)
   rcases hp' with z|z
   ·obtain⟨q1,q2,q3,q4,q5⟩:=I2.pin p z;exact⟨old _ _ q1,q2,(ltD p.1 (HJ p z)).1,nst _ q3 q4,q5⟩
   ·subst z;exact⟨newD,fD.1,hDC,nst _ fD.2.1 fD.2.2.1,λv z=>by cases z⟩
  ·show(pick ρ σ).length=N'.length;unfold pick;rw[bd];exact S.len
 have stat:∀{H':Hp} {o:Obj},(∀b∈fp,H' b=ac)->∀b∈fp,gN (fj X N' sc cl C s2 H2 fp) (af++[(D,o)]) H' b:=λ{H' o} hn b hb=>by
  refine⟨hn b hb,(ltD b (ltb b hb)).1,nst b (f2 b hb).2.1 (f2 b hb).2.2.1,.inl hb,λx c e=>(f2 b hb).2.2.2.2.1 x c (hsub _ _ e),λp hp=>?_⟩;rcases da.mp hp with z|z
  ·exact(f2 b hb).2.2.2.2.2 p (fe _ z)
  ·rcases da.mp z with z|z
   ·exact(f2 b hb).2.2.2.2.2 p (dH _ z)
   ·have e:p=(D,o):=by simpa using z
    subst e;exact dO (ltD b (ltb b hb)).2
 have loop:∀tk,codeAny (model X.prog X.w) X.A (.compLoop (.ListComp elt [⟨tg,iter,ifs,0⟩] sc pos) 0 (.ref it) (.ref D) (compEnvC sc cl C X.env)) (compPost (model X.prog X.w) X.A X.xe use R (.ref D) C) { s2 with heap:=h₁,toks:=tk }:=λtk=>by
  refine LM (λn s'=>∃(i:Nat) (acc:List V) (aq:List ah) (k:Nat) (H':Hp),Inv (fj X N' sc cl C s2 H2 fp) (af++[(D,{ cls:=.type "list", data:=.seq aq.toArray k })]) (pick ρ σ) H' s'/\Vals acc aq/\acc.length<=sizeLine/\tn i s'.heap/\(∀b∈fp,H' b=ac)/\W i n acc H')
   ?_ m0 ⟨0,[],[],0,H2,I' tk,.nil,iC _,T.keep _ _ _ st2 λb hb o e=>old b o e,λb hb=>(f2 b hb).1,w0⟩
  rintro n s3 ⟨i,acc,aq,k,H3,I3,va,hz0,st3,fr3,w3⟩;rcases turn i n acc H3 w3 with ⟨stop,qn⟩|⟨go,hz,Nn,hN,step⟩
  ·refine a5 (T.done (fj X N' sc cl C s2 H2 fp) rfl rfl rfl hcalm i _ s3 _ H3 (λ_ _=>False) I3 (stat fr3) st3 stop) λr s4 ⟨hr,I4⟩=>?_;subst hr;obtain⟨p1,p2,p3,p4,p5⟩:=I4.pin (D,{ cls:=.type "list",data:=.seq aq.toArray k }) (by simp);have p1:s4.heap.get? D=aa { cls:=.type "list", data:=.seq aq.toArray k }:=p1;have p2:H3 D=ac:=p2;have B:=I4.base;have upn:∀b o,H3 b=aa o->upd H3 D (.lst acc) b=aa o:=λb o e=>by rw[aN (dz e p2)];exact e
   have IX:Inv X af σ (upd H3 D (.lst acc)) s4:=by
    refine I2.call' (ch:=fp) I4.os ⟨λb o q1 q2 q3 q4=>B.keep b o q1 q2 q3 q4,λb o q1 q2 q3 q4=>B.slot b o q1 q2 q3 q4,λb o q1 q2 q3=>?_,λb o q1 q2=>B.there b o q1 q2,
     λb xs q=>upn _ _ (B.tups b xs q),λb o u q=>upn _ _ (B.i8 b o u q),λb w ps q=>?_⟩ (I4.hok.track p2 ⟨hz0,aq,k,va,p1⟩) I4.bare λb hb=>⟨(f2 b hb).2.2.2.1,(f2 b hb).2.1,(f2 b hb).2.2.2.2.1,(f2 b hb).2.2.2.2.2⟩
    ·rw[aN (ltC b (bX q1)).2.1];exact B.free b o q1 q2 q3
    ·obtain⟨more,q'⟩:=B.i9 b w ps q;exact⟨more,upn _ _ q'⟩
   obtain⟨m,hm,_⟩:=I4.loc;refine hR s4 D C _ IX (qn D p2) ⟨m,hm⟩ (I2.iE (by omega) ?_);rw[aN (dO hDC)];exact I4.free
  ·refine a5 (T.item (fj X N' sc cl C s2 H2 fp) rfl rfl rfl hcalm i _ s3 _ H3 (λ_ _=>False) I3 (stat fr3) st3 go) λr s4 ⟨u,hr,h4⟩=>?_;subst hr;refine a5 h4 λ_ s5 ⟨x,H5,I5,r5,y5,st5,fr5⟩=>?_;have I5':=I5.pinned (stat fr5) (T.obj _ _ st5);refine a5 (hg cl C s2 H2 fp _ s5 _ H5 x u _ I5' r5 (gk _ _ _ _ (step x H5 y5))) λ_ s6 ⟨σ6,H6,I6,⟨l6,k6⟩,q6⟩=>?_;refine a5 (hc cl C s2 H2 fp _ s6 σ6 H6 _ I6 q6) λok s7 ⟨H7,I7,q7⟩=>?_;have wk:∀{qg:List (ag×Obj)} {H':Hp} {s':aw},Inv (fj X N' sc cl C s2 H2 fp) qg σ6 H' s'->Inv (fj X N' sc cl C s2 H2 fp) qg (pick ρ σ) H' s':=λ{qg H' s'} J'=>
    J'.weak l6.symm λj v e=>by
     have:∃j',ρ[j]? = aa (aa j'):=by
      unfold pick at e;rw[d8]at e;cases hr:ρ[j]? with
      |none=>rw[hr]at e;cases e
      |some o=>
       rw[hr]at e;cases o with
       |none=>cases e
       |some j'=>exact⟨j',rfl⟩
     obtain⟨j',hj'⟩:=this;rw[k6 j j' hj'];exact e
   cases ok with
   |false=>
    have q7:Nn acc H7:=by simpa using q7
    rw[be dW];obtain⟨m',hm,w7⟩:=hN acc H7 q7;refine⟨m',hm,i+1,acc,aq,k,H7,wk I7.oQ,va,hz0,T.keep _ _ _ st5 λb hb o e=>(I7.pin (b,o) (dH _ (dH _ (pJ hb e)))).1,λb hb=>?_,w7⟩;obtain⟨o,e,d⟩:=T.obj _ _ st5 b hb;exact(I7.pin (b,o) (dH _ (dH _ (pJ hb e)))).2.1
   |true=>
    have q7:te σ6 H7 λy H4=>Nn (acc++[y]) H4:=by simpa using q7
    rw[a8 rfl];refine a5 (he cl C s2 H2 fp _ s7 σ6 H7 _ I7 q7) λxv s8 ⟨y,H8,I8,r8,n8⟩=>?_;obtain⟨p1,p2,p3,p4,p5⟩:=I8.pin (D,{ cls:=.type "list",data:=.seq aq.toArray k }) (by simp);have p1:s8.heap.get? D=aa { cls:=.type "list",data:=.seq aq.toArray k }:=p1;have p2:H8 D=ac:=p2;refine wpAny_list_append_plain ⟨k,p1⟩ (λh' pl sb=>?_) (by rw[dI,<- va.length];omega);obtain⟨k',pl⟩:=pl;obtain⟨m',hm,w8⟩:=hN _ _ n8;have Ia:Inv (fj X N' sc cl C s2 H2 fp) af σ6 H8 s8:=I8.oQ.oQ;have Ib:Inv (fj X N' sc cl C s2 H2 fp) af σ6 H8 { s8 with heap:=h' }:=Ia.turned (t':=s8.toks) (it:=D) (λb o hb e=>(sb.2 b hb).trans e) p2 hDC (.inr (by show s2.heap.objs.size<=D;omega)) (λx c e=>(ltD c (P4 x c e)).2) λp hp=>(ltD p.1 (HJ p hp)).2;have pl':h'.get? D=aa { cls:=.type "list", data:=.seq (aq++[xv]).toArray k' }:=by rw[pl];simp
    have Ic:Inv (fj X N' sc cl C s2 H2 fp) (af++[(D,{ cls:=.type "list", data:=.seq (aq++[xv]).toArray k' })]) σ6 H8 { s8 with heap:=h' }:=Ib.x9 λp hp=>by
     rcases da.mp hp with z|z
     ·exact Ib.pin p (dH _ z)
     ·have e:p=(D,{ cls:=.type "list", data:=.seq (aq++[xv]).toArray k' }):=by simpa using z
      subst e;exact⟨pl',p2,p3,p4,λv z=>by cases z⟩
    refine⟨m',hm,i+1,acc++[y],aq++[xv],k',H8,wk Ic,va.append (.cons r8 .nil),(by rw[cC,sI];omega),T.keep _ _ _ st5 λb hb o e=>?_,λb hb=>?_,w8⟩
    ·exact(sb.2 b (ltD b (ltb b hb)).2).trans (I8.pin (b,o) (dH _ (dH _ (pJ hb e)))).1
    ·obtain⟨o,e,d⟩:=T.obj _ _ st5 b hb;exact(I8.pin (b,o) (dH _ (dH _ (pJ hb e)))).2.1
 refine codeAny_compStart_list (loop _) (T.self X.A 0 _ _ _ (T.keep _ _ _ st2 λb hb o e=>old b o e) (loop _))
theorem iA(hcalm:X.calm=true)(S:fc X N' ρ sc)(hi:PI X tg iter wi)
 (hg:∀cl C s H fp,PG (fj X N' sc cl C s H fp) tg g) (gk:sC ρ g) (hc:∀cl C s H fp,rW (fj X N' sc cl C s H fp) ifs tc) (he:∀cl C s H fp,PE (fj X N' sc cl C s H fp) elt te)
 (hs:∀x,foldedSetIterable iter X.env x=pure x:=by intro _;rfl) :
 PE X (.ListComp elt [⟨tg,iter,ifs,0⟩] sc pos) (t9 wi ρ g tc te):=by
 intro af s σ H Q I h;rw[eval_ListComp];refine BW hcalm S hi hg gk hc he hs ac I h λs' D C H' I' q ⟨m,hm⟩ f=>⟨m,hm,λh' sb=>?_⟩;exact⟨.ref D,H',I'.turned (t':=s'.toks) (it:=C) (λb o hb e=>(sb.2 b hb).trans e) f.1 f.2.1 f.2.2.2.1 f.2.2.2.2.1 f.2.2.2.2.2,rfl,q⟩
theorem F3{i:Nat}{x:Str}{px:Pos}(hcalm:X.calm=true)(hN:X.N.Nodup)(hix:X.N[i]? = aa x)(hx:Loc X.env.scope x)(S:fc X N' ρ sc)(hi:PI X tg iter wi)
 (hg:∀cl C s H fp,PG (fj X N' sc cl C s H fp) tg g) (gk:sC ρ g) (hc:∀cl C s H fp,rW (fj X N' sc cl C s H fp) ifs tc) (he:∀cl C s H fp,PE (fj X N' sc cl C s H fp) elt te)
 (hsw:swapsWith (.ListComp elt [⟨tg,iter,ifs,0⟩] sc pos) (aa (.Name x px)) cpos.line X.env=pure true:=by rfl)
 (hs:∀x,foldedSetIterable iter X.env x=pure x:=by intro _;rfl)
 (hf:X.fn x=true\/X.env.scope.names.lookup x=aa .local:=by first|exact .inl rfl|exact .inr rfl|assumption) :
 PS X (.Assign [.Name x px] (.ListComp elt [⟨tg,iter,ifs,0⟩] sc pos) cpos) (jv (t9 wi ρ g tc te) (gr i)):=by
 intro af s σ H D I h;rw[exec_Assign_Name_used _ _ _ _ hsw];refine aY (v8 (aY ?_));show wpAny _ X.A (do let _ <- comprehension (.ListComp elt [⟨tg,iter,ifs,0⟩] sc pos) sc X.env _ (newList []) false (eval iter X.env) (aa (assign (.Name x px) X.env))) _ _ s;refine aY (a5 (BW (Q:=λy H1=>D.nx (σ.set i (aa y)) H1) (R:=λ_ s'=>SP X af D .next s') hcalm S hi hg gk hc he hs (aa (assign (.Name x px) X.env)) I h λs' Da C H' I' q ⟨m,hm⟩ f=>?_) λ_ s' hq=>bW (bW hq));show wpAny _ X.A (assign (.Name x px) X.env (.ref Da)) _ _ _;refine wpAny_assign_Name (FS I' hN hix hx (v:=.ref Da) rfl (λs2 I2 ⟨a,sb,ha⟩=>⟨m,hm.sameBut sb ?_,λh' sb2=>?_⟩) hf)
 ·rcases ha with e|e
  ·subst e;exact f.2.1
  ·exactλz=>f.2.2.2.2.1 x a e z.symm
 ·exact⟨_,H',I2.turned (t':=s2.toks) (it:=C) (λb o hb e=>(sb2.2 b hb).trans e) f.1 f.2.1 f.2.2.2.1 f.2.2.2.2.1 f.2.2.2.2.2,q⟩
end
structure It.Of(J:It)(Ok:Hp->Prop)(xs:List V):Prop where
 go:∀i H,Ok H->i<xs.length->J.go i H
 yld:∀i H x H',Ok H->i<xs.length->J.yld i H x H'->H'=H/\xs[i]? = aa x
 stop:∀H,Ok H->J.stop xs.length H
theorem Ey{K:aI}{a:ag}{xs:List V}:(qx K a).Of (λH=>dw K H a xs) xs:=⟨λi H h hi=>⟨xs,xs[i],h,by simp[hi]⟩,λi H x H' h _ y=>⟨y.1,y.2 xs h⟩,λH h=>⟨xs,h,bO _⟩⟩
theorem Gi{K:aI}{a:ag}{xs:List V}:(rE K a).Of (λH=>e5 K H a xs) xs:=⟨λi H h hi=>⟨xs,xs[i],h,by simp[hi]⟩,λi H x H' h _ y=>⟨y.1,y.2 xs h⟩,λH h=>⟨xs,h,bO _⟩⟩
def mS(lo:Int)(n:Nat):List V:=(cI n).map λi=>V.int (lo+(i:Nat))
theorem yI(lo:Int)(n:Nat):(mS lo n).length=n:=by simp[mS]
theorem IU{lo:Int}{n i:Nat}(h:i<n):(mS lo n)[i]? = aa (.int (lo+i)):=by simp[mS,h]
theorem J6{lo:Int}{n:Nat}:(pF lo n).Of (λ_=>True) (mS lo n):=⟨λi H _ hi=>by rw[yI]at hi;exact hi,λi H x H' _ hi y=>⟨y.1,by rw[yI]at hi;rw[y.2];exact IU hi⟩,λH _=>by rw[yI];exact bO _⟩
def sgn(c:Nat):V:=.str ⟨#[c]⟩
def nq(x:Str):List V:=x.cps.toList.map sgn
theorem Fm(x:Str):(nq x).length=x.length:=by simp[nq,nU]
def mO(x:Str):It:=⟨λi _=>i<x.length,λi H y H'=>H'=H/\(nq x)[i]? = aa y,λi _=>i=x.length⟩
theorem BP{x:Str}:(mO x).Of (λ_=>True) (nq x):=⟨λi H _ hi=>by rw[Fm]at hi;exact hi,λi H y H' _ _ h=>h,λH _=>Fm x⟩
theorem B7{P:bt}{w:a9}{K:aI}{tg:aW}(it:ag)(x:Str)(t:Tok)(ty:String)
 (hty:["enumerate","zip","dict_itemiterator","dict_reverseitemiterator","odict_iterator","itertools.zip_longest","itertools.pairwise"].contains ty=false)
 (W:∀A':bH,A'.handled=ac->Walks P w A' it [it] [it] x.cps.size (SignAt x) (λi h=>h.IsStrIter it ty x t i))
 (sf:∀(A:bH) (i:Nat) (s:aw) (Q:ah->aw->Prop) (E:ah->aw->Prop),s.heap.IsStrIter it ty x t i->Q (.ref it) s->wpAny (model P w) A (pyIter (.ref it)) Q E s) :
 Turn P w K tg (mO x) [it] it (λi h=>h.IsStrIter it ty x t i) where
 mem:=by simp
 obj:=λi h st b hb=>by
  have e:b=it:=by simpa using hb
  subst e;obtain⟨o,e,c,d⟩:=st;exact⟨o,e,λv z=>by rw[d]at z;cases z⟩
 keep:=λi h h' st k=>let ⟨o,ho,r⟩:=st;⟨o,k it (by simp) o ho,r⟩
 item:=by intro X hP hw hK hc i af s σ H E I hf st hg;subst hP hw hK;obtain⟨f0,f1,f2,f3,f4,f5⟩:=hf it (by simp);refine(W X.A (I.ok.hd hc)).item i s _ _ hg st λv h' tk hv st' kk=>?_;obtain⟨c,u,e,rfl⟩:=hv;have I1:Inv X af σ H { s with heap:=h',toks:=tk }:=I.turned (λb o hb e=>kk b o (by simpa using hb) e) f0 f1 f3 f4 f5;obtain⟨o,e',c',d'⟩:=id st';refine⟨_,rfl,q9 (s:={ s with heap:=h',toks:=tk }) e' c' d' hty ⟨sgn c,H,I1,⟨u,rfl⟩,⟨rfl,?_⟩,st',λb hb=>(hf b hb).1⟩⟩;unfold nq;rw[d8,Af,e];rfl
 done:=by intro X hP hw hK hc i af s σ H E I hf st hg;subst hP hw hK;obtain⟨f0,f1,f2,f3,f4,f5⟩:=hf it (by simp);have hg:i=x.length:=hg;subst hg;exact(W X.A (I.ok.hd hc)).done s _ _ st λh' tk kk=>⟨rfl,I.turned (λb o hb e=>kk b o (by simpa using hb) e) f0 f1 f3 f4 f5⟩
 self:=sf
section
variable{X:Cx}{tg:aW}
def DL(tl:TE):TI:=λσ H R=>tl σ H λx H1=>∃z,x=.str z/\R (mO z) H1
theorem Kf{l:aW}{tl:TE}(hl:PE X l tl):PI X tg l (DL tl):=by
 intro af s σ H R I h;refine a5 (hl af s σ H _ I h) λv s1 ⟨x,H1,I1,r1,q1⟩=>?_;obtain⟨z,e,q⟩:=q1;subst e;obtain⟨t,rfl⟩:=r1;cases ha:z.cps.all (· < 128)
 ·refine wpAny_pyIter_wide ha ?_;refine⟨s1.heap.objs.size,[s1.heap.objs.size],_,mO z,H1,rfl,I1.kept (t':=s1.toks) λb o e=>dU _ e,B7 _ z t "str_iterator" (by decide) (λA' hA=>Walks.strWide hA _ z t) (λ_ _ _ _ _ st hQ=>wpAny_pyIter_striter_wide st hQ),⟨_,fw _ rfl,rfl,rfl⟩,λb hb=>?_,q⟩;have e:b=s1.heap.objs.size:=by simpa using hb
  subst e;exact I1.iE (bO _) (I1.hok.fresh (bO _))
 ·refine wpAny_pyIter_ascii ha ?_;refine⟨s1.heap.objs.size,[s1.heap.objs.size],_,mO z,H1,rfl,I1.kept (t':=s1.toks) λb o e=>dU _ e,B7 _ z t "str_ascii_iterator" (by decide) (λA' hA=>Walks.strAscii hA _ z t) (λ_ _ _ _ _ st hQ=>wpAny_pyIter_striter_ascii st hQ),⟨_,fw _ rfl,rfl,rfl⟩,λb hb=>?_,q⟩;have e:b=s1.heap.objs.size:=by simpa using hb
  subst e;exact I1.iE (bO _) (I1.hok.fresh (bO _))
theorem EL:∀{bs:List Bool} {us:List ah},Vals (bs.map V.bl) us->us=bs.map jD
 |[],_,.nil=>rfl
 |b::r,_,.cons q t=>by rw[EL t,show _=jD b from q];rfl
theorem range_any(bs:List Bool):(cI bs.length).any (λi=>bs.getD i false)=bs.any id:=by
 induction bs with
 |nil=>rfl
 |cons b r ih=>
  rw[bU,GX,jC,vW,jC]
  congr 1
def DP(K:aI)(f:List Bool->Bool):List V->Hp->VK->Prop:=λxs H Q=>∃a bs,xs=[.ref a]/\dw K H a (bs.map V.bl)/\Q (.bl (f bs)) H
theorem K4{P:bt}{w:a9}{A:bH}(bs:List Bool):TruthOf P w A (λi v=>(bs.map jD).toArray[i]? = aa v) (λi=>bs.getD i false):=by
 intro i v s Q E hv hq;have:v=.bool (bs.getD i false):=by
  rw[List.getElem?_toArray,d8]at hv;cases hb:bs[i]? with
  |none=>rw[hb]at hv;cases hv
  |some b=>
   rw[hb]at hv;rw[fX,hb];exact(fM hv).symm
 subst this;exact pY hq
theorem K8(hc:X.calm=true):fT X (.builtin "any") (DP X.K (·.any id)):=by
 intro af s σ H xs us Q I r h;obtain⟨a,bs,rfl,hq,q⟩:=h;obtain⟨u,rfl,ru⟩:=vals1 r;cases ru;obtain⟨aq,rv,p,hz⟩:=I.list hq;have e:=EL rv;subst e;have hlt:a<s.heap.objs.size:=by obtain⟨o,n,e,_⟩:=p;exact bX e
 refine call_any_walk (zW p.isList ⟨_,_,_,_,_,_,λi=>bs.getD i false,rfl,Walks.list (A:=X.A.in1) (I.ok.hd hc) _ a (fY hlt) (bs.map jD).toArray,⟨⟨_,fw _ rfl,rfl,rfl⟩,(p.keeps λb o e=>dU _ e).isList⟩,K4 bs,λh' tk kk=>?_⟩);refine⟨.bl (bs.any id),H,I.kept λb o e=>kk b o (by simpa using fY (bX e)) (dU _ e),?_,q⟩;show jD _=jD _;rw[<- range_any];simp
theorem OJ:cY X (compareOp .Gt) (λx y H Q=>∃i j,x=.str i/\y=.str j/\Q (.bl (decide (j.cps.toList<i.cps.toList))) H):=by intro af s σ H x y v u Q I rx ry h;obtain⟨i,j,rfl,rfl,q⟩:=h;obtain⟨t,rfl⟩:=rx;obtain⟨t',rfl⟩:=ry;exact PySem.P.gt_str (wY I q rfl)
def oO(x:Str)(lo hi:Option Int):Str:=⟨((x.cps.toList.drop (HT.c5 x.length 0 lo)).take (HT.c5 x.length x.length hi-HT.c5 x.length 0 lo)).toArray⟩
theorem Mh(lo hi:Option Int)(n:Nat):Hz lo hi 1 n=(cI (HT.c5 n n hi-HT.c5 n 0 lo)).map (λk=>HT.c5 n 0 lo+k):=by
 have h1:∀(v:Option Int) (d:Nat),d<=n->(match v with|none=>(d:Int)|some i=>max 0 (min (if i<0 then i+(n:Int)else i) (n:Int)))=((HT.c5 n d v:Nat):Int):=by
  intro v d hd;cases v with
  |none=>rfl
  |some i=>
   show max 0 (min (if i<0 then i+(n:Int)else i) (n:Int))=(((if i<0 then(i+(n:Int)).toNat else min i.toNat n):Nat):Int);by_cases hv:i<0
   ·simp only[a8 hv];omega
   ·simp only[be hv];omega
 have fin:∀(p q:Int) (a b:Nat),p=(a:Int)->q=(b:Int)->sliceRange p q 1=(cI (b-a)).map (λk=>a+k):=by
  intro p q a b e1 e2;subst e1 e2;unfold sliceRange;simp only[show((1:Int)>0)=True from by simp,jK];by_cases hlt:(a:Int)<b
  ·have e3:(((b:Int)-a+1-1)/1).toNat=b-a:=by first|omega|(simp;done)|(simp;omega)
   simp only[hlt,jK,e3];refine G1 λk _=>?_;omega
  ·have:b-a=0:=by omega
   simp[hlt,this]
 unfold Hz;refine fin _ _ _ _ ?_ ?_
 ·have:=h1 lo 0 (iC _);cases lo with
  |none=>exact this
  |some i=>exact this
 ·have:=h1 hi n (bO _);cases hi with
  |none=>exact this
  |some i=>exact this
theorem Jd(x:Str)(lo hi:Option Int):Txt.slice x lo hi=oO x lo hi:=by
 have hle:HT.c5 x.length x.length hi<=x.length:=HT.Ff _ _ (bO _) hi;have ha:HT.c5 x.length 0 lo<=x.length:=HT.Ff _ _ (iC _) lo;unfold Txt.slice oO;rw[Mh];generalize HT.c5 x.length 0 lo=a at *;generalize HT.c5 x.length x.length hi=b at *;have hp:((cI (b-a)).map (λk=>a+k)).filterMap (λi=>x.cps[i]?)=(x.cps.toList.drop a).take (b-a):=by have h:=StrLaws.picks x.cps.toList (b-a) a (by simp[nU]at hle ha ⊢;omega);simpa using h
 split
 ·rename_i h;simp only[bd,zP,rQ,Bool.true_and,nu]at h;have e:a=0\/x.length=0:=by omega
  have e2:(x.cps.toList.drop a).take (b-a)=x.cps.toList:=by
   rw[h];rcases e with e|e
   ·subst e;rw[nL];exact mv (by simp[nU])
   ·have:x.cps.toList=[]:=List.eq_nil_of_length_eq_zero (by simpa [nU]using e);rw[this];simp
  rw[e2]
 ·rw[hp]
def DN:V->Option Int->Option Int->Hp->VK->Prop:=λx lo hi H Q=>∃z,x=.str z/\z.length<=sizeLine/\Q (.str (oO z lo hi)) H
theorem Pm:mj X DN:=by
 intro af s σ H x v vl vu lo hi sl Q I rx hs pl pu h;obtain⟨z,rfl,hz,q⟩:=h;obtain⟨t,rfl⟩:=rx;have fin:∀(l u:Option (Int×Tok)),vl=partValue l->vu=partValue u->lo=l.map (·.1)->hi=u.map (·.1) ->
  wpAny (model X.prog X.w) X.A (getItem (.str z t) (.ref sl)) (EP X af σ Q) X.xe s:=by
  intro l u e1 e2 e3 e4;subst e1 e2 e3 e4;refine wpAny_getItem_str_slice (l:=l) (u:=u) (st:=ac) hs rfl ?_;refine post_val_or_str ⟨eW (Txt.slice_le z _ _) hz,λt' k=>?_⟩;refine⟨.str (oO z _ _),H,I.tok k,⟨t',?_⟩,q⟩;show nQ (Txt.slice z _ _) t'=_;rw[Jd]
 refine⟨"str", _,F.slot_str_getitem.lookup,wc _ _ _,?_⟩;cases pl with
 | none=>cases pu with
  |none=>exact fin ac ac rfl rfl rfl rfl
  |int j tj=>exact fin ac (aa (j,tj)) rfl rfl rfl rfl
 | int i ti=>cases pu with
  |none=>exact fin (aa (i,ti)) ac rfl rfl rfl rfl
  |int j tj=>exact fin (aa (i,ti)) (aa (j,tj)) rfl rfl rfl rfl
def CD(neg:Bool):R2:=λx y H Q=>∃c z,x=sgn c/\y=.str z/\Q (.bl (if neg then !decide (c∈z.cps.toList)else decide (c∈z.cps.toList))) H
theorem Ma:cY X (compareOp .In) (CD false):=by intro af s σ H x y v u Q I rx ry h;obtain⟨c,z,rfl,rfl,q⟩:=h;refine J0 af s σ H _ _ v u Q I rx ry ⟨_,z,rfl,rfl,?_⟩;rw[StrLaws.found_one];exact q
def DV(K:aI):List V->Hp->VK->Prop:=λxs H Q=>∃x t T b,xs=[x,.ty T]/\ie K H x t/\eO K t (.type T)=aa b/\Q (.bl b) H
theorem K3:fT X (.builtin "isinstance") (DV X.K):=by intro af s σ H xs us Q I r h;obtain⟨x,t,T,b,rfl,ty,e,q⟩:=h;obtain⟨u,w',rfl,rx,rt⟩:=vals2 r;cases(show w'=Ae T from rt);exact OG I rx ty e λtk=>⟨.bl b,H,I.tok tk,rfl,q⟩
end
def Fc(osc:dJ)(N N':List Str)(ρ:List (Option Nat))(sc:dJ):Bool:=
 sc.names.all (λy=>!(decide (y.2=.cell)))&&sc.names.all (λy=>!(decide (y.2=.local))||decide (sc.names.lookup y.1=aa .local)) &&
 sc.names.all (λy=>!(decide (y.2=.free))||(decide (osc.names.lookup y.1=aa .cell)||decide (osc.names.lookup y.1=aa .free))) &&
 decide (ρ.length=N'.length)&&(cI ρ.length).all λi=>match ρ[i]? with
  |some (aa j)=>(match N'[i]? with|some x=>decide (N[j]? = aa x)&&decide (sc.names.lookup x=aa .free)|none=>false)
  |_=>true
theorem fc.of{X:Cx}{N':List Str}{ρ:List (Option Nat)}{sc:dJ}(hk:sc.kind=.function)(h:Fc X.env.scope X.N N' ρ sc=true):fc X N' ρ sc:=by
 unfold Fc at h;simp only[mD,sM,Bool.or_eq_true,Aa,qL,decide_eq_false_iff_not]at h;obtain⟨⟨⟨⟨h1,h2⟩,h3⟩,h4⟩,h5⟩:=h;refine⟨hk,λy hy=>h1 y hy,λy hy e=>(h2 y hy).resolve_left (λz=>z e),λy hy e=>(h3 y hy).resolve_left (λz=>z e),h4,λi j e=>?_⟩;have hi:i < ρ.length:=(dG.mp e).1;have q:=h5 i (gF.mpr hi);rw[e]at q;cases hN:N'[i]? with
 |none=>rw[hN]at q;cases q
 |some x=>
  rw[hN]at q;simp only[mD,qL]at q;exact⟨x,rfl,q.1,q.2⟩
structure bN(P:bt)(w:a9)(K:aI)(mg:Str->Option ah)(base:aL)(CX:f6)(k:Nat)(x:Str)(ps:List Str)(sp:Sp):Prop where
 ex:∃(f:ag) (fd:bD),mg x=aa (.ref f)/\j8 K (.ref f)=true/\Binds K fd ps []/\bJ P w K mg base CX k f fd ps sp
theorem iZ{X:Cx}{CX:f6}{k:Nat}{x:Str}{ps:List Str}{sp:Sp}{E:XK}{e:aW}{es:List aW}{t:TA}{p pos:Pos}(C:bN X.prog X.w X.K X.mg X.base CX k x ps sp)(hr:cE k X.A)(hg:Gl X x)(hx:sD CX X E)
 (ha:PA X (e::es) t) (hdb:(x==("__debug__" : Str))=false:=by decide) (he:starEach (e::es) X.env=(false,eval e X.env)::starEach es X.env:=by rfl) (hpl:(backTo pos (starEach es X.env)).any (·.1)=false:=by rfl) :
 PE X (.Call (.Name x p) (e::es) [] pos) (lD sp [] E t):=by
 obtain⟨f,fd,hm,hk,hb,F⟩:=C.ex;exact O2 F hr hg hm hk hb .nil hx ha hdb he hpl
theorem DK{X:Cx}{x:Str}{T:String}{pos:Pos}(hg:Gl X x)(hm:X.mg x=ac)(hv:bootBuiltins x=aa (.type T))(hn:x ≠ "__name__" := by decide)(hd:(x==("__debug__" : Str))=false:=by decide):PE X (.Name x pos) (tC (.ty T)):=Oc hg hm hv rfl hn hd
structure cn(K:aI)(mg:Str->Option ah)(x:Str)(st:bq)(ps:List Str):Prop where
 ex:∃(f:ag) (fd:bD),mg x=aa (.ref f)/\j8 K (.ref f)=true/\Binds K fd ps []/\(∀(s:aw) (us:List ah),us.length=ps.length->kT s fd ⟨us,[]⟩ (ps.zip us))/\bP K x x st f fd
theorem vf{K:aI}{h:aL}{mg:Str->Option ah}{x:Str}{st:bq}{ps:List Str}{f:ag}{oc:ah}{od an:Option ag}{osl:Array (Option ah)}{kV doc pm cdv ct:ah}(X:K.In h)(G:h.Ns mainGlobals mg)
 (hb:∀(kV doc pm:ah) (an:Option ag) (cdv ct:ah) (us:List ah),us.length=ps.length->bindArgs (i6 x x (lN st) (gu st) (bA st) .none kV doc pm an cdv ct) ⟨us,[]⟩=pure (ps.zip us))
 (a:cK K mainGlobals x=aa (aa (.ref f))) (l:K.lookup f=aa ⟨oc,od,.func (i6 x x (lN st) (gu st) (bA st) .none kV doc pm an cdv ct),osl⟩)
 (c:nH K cdv x=true) (k:j8 K (.ref f)=true):cn K mg x st ps:=by
 have F:=Es (st:=st) l c k;exact⟨f,_,fW X G a,k,F.binds hb,λs us hl=>.of_eq (hb kV doc pm an cdv ct us hl),F⟩
theorem cn.cal{P:bt}{w:a9}{K:aI}{mg:Str->Option ah}{base:aL}{CX:f6}{k:Nat}{x:Str}{st:bq}{ps:List Str}{sp:Sp}(F:cn K mg x st ps)(h:∀f fd,bP K x x st f fd->bJ P w K mg base CX k f fd ps sp) :
 bN P w K mg base CX k x ps sp:=by
 obtain⟨f,fd,h1,h2,h3,_,h4⟩:=F.ex;exact⟨f,fd,h1,h2,h3,h f fd h4⟩
end L2
namespace Mi
open PySem
inductive D where
 |non|bl (b:Bool)|int (i:Int)|str (x:Str)|lst (ds:List D)|tup (ds:List D)
mutual
def D.dep:D->Nat
 |.lst ds=>dF ds+1
 |.tup ds=>dF ds+1
 |_=>0
def dF:List D->Nat
 |[]=>0
 |d::r=>max d.dep (dF r)
end
mutual
/-- Python's == -/
def bM:D->D->Bool
 |.non,.non=>true
 |.bl a,.bl b=>a==b
 |.bl a,.int b=>(if a then 1 else 0)==b
 |.int a,.bl b=>a==(if b then 1 else 0)
 |.int a,.int b=>a==b
 |.str a,.str b=>a==b
 |.lst a,.lst b=>gW a b
 |.tup a,.tup b=>gW a b
 |_,_=>false
def gW:List D->List D->Bool
 |[],[]=>true
 |a::r,b::s=>bM a b&&gW r s
 |_,_=>false
end
mutual
/-- no list in it -/
def uf:D->Bool
 |.lst _=>false
 |.tup ds=>jy ds
 |_=>true
def jy:List D->Bool
 |[]=>true
 |d::r=>uf d&&jy r
end
def en(n:Nat)(i:Int):Option Nat:=if 0<=i then(if i<n then aa i.toNat else ac)else if -(n:Int)<=i then aa (i+n).toNat else ac
def dM{α:Type}(xs:List α)(i:Int):Option α:=(en xs.length i).bind λj=>xs[j]?
def c5(n d:Nat):Option Int->Nat
 |none=>d
 |some v=>if v<0 then(v+(n:Int)).toNat else min v.toNat n
def eI{α:Type}(xs:List α)(lo hi:Option Int):List α:=(xs.drop (c5 xs.length 0 lo)).take (c5 xs.length xs.length hi-c5 xs.length 0 lo)
abbrev Ky:=Sum Bool Str
structure Kp where
 a:Nat
 c:Nat
 q:Str
 ga:List Nat
 deriving DecidableEq
inductive W where
 |d (x:D)|dk (ak:List (Ky×D))|dt (ak:List (List Ky×D))|df (ak:List (List Ky×D))|ex (c:String)|fn (κ:Kp) (aJ:List D)
abbrev Env:=List (Option W)
structure dq where
 cls:String
 val:List D
inductive Rs(α:Type) where
 |ok (a:α)|ex (x:dq)|no
def Rs.bind{α β:Type}:Rs α->(α->Rs β)->Rs β
 |.ok a,f=>f a
 |.ex x,_=>.ex x
 |.no,_=>.no
@[simp] theorem aO {α β:Type} (a:α) (f:α->Rs β):(Rs.ok a).bind f=f a:=rfl
@[simp] theorem Q6 {α β:Type} (x:dq) (f:α->Rs β):(Rs.ex x).bind f=.ex x:=rfl
@[simp] theorem Q3 {α β:Type} (f:α->Rs β):(Rs.no).bind f=.no:=rfl
def Fin{α:Type}(r:Rs α)(k:α->Prop):Prop:=match r with
 |.ok a=>k a
 |_=>False
theorem aE{α β:Type}{r:Rs α}{f:α->Rs β}{k:β->Prop}:Fin (r.bind f) k↔Fin r λa=>Fin (f a) k:=by cases r<;>exact Iff.rfl
theorem Fin.mono{α:Type}{r:Rs α}{k k':α->Prop}(h:Fin r k)(m:∀a,k a->k' a):Fin r k':=by
 cases r with
 |ok a=>exact m a h
 |ex x=>exact h
 |no=>exact h
theorem mW{α:Type}{r s:Rs α}{k:α->Prop}(h:Fin (if true=true then r else s) k):Fin r k:=by simpa using h
theorem ng{α:Type}{r s:Rs α}{k:α->Prop}(h:Fin (if false=true then r else s) k):Fin s k:=by simpa using h
theorem m6{α:Type}{a:α}{k:α->Prop}(h:Fin (.ok a) k):k a:=h
def dE{α:Type}:Option α->Rs α
 |some a=>.ok a
 |none=>.no
def br{α:Type}(c:Prop)[Decidable c](r:Rs α):Rs α:=if c then r else .no
theorem aF{α:Type}{c:Prop}[Decidable c]{r:Rs α}(h:c):br c r=r:=a8 h
theorem c9{α:Type}{c:Prop}[Decidable c]{r:Rs α}{k:α->Prop}(h:Fin (br c r) k):c/\Fin r k:=by
 unfold br at h;split at h
 ·exact⟨‹_›,h⟩
 ·exact h.elim
abbrev E:=Env->Rs D
abbrev C:=Env->Rs Bool
def mC(d:D):E:=λ_=>.ok d
def mV(i:Nat):E:=λe=>match e[i]? with
 |some (aa (.d x))=>.ok x
 |_=>.no
def m1(f:D->Rs D)(a:E):E:=λe=>(a e).bind f
def m2(f:D->D->Rs D)(a b:E):E:=λe=>(a e).bind λx=>(b e).bind λy=>f x y
def eS:List E->Env->Rs (List D)
 |[],_=>.ok []
 |a::r,e=>(a e).bind λx=>(eS r e).bind λxs=>.ok (x::xs)
def mN(f:List D->Rs D)(as:List E):E:=λe=>(eS as e).bind f
def dTup(ds:List D):Rs D:=br (ds.length<=16777216) (.ok (.tup ds))
def bg(ds:List D):Rs D:=br (ds.length<=16777216) (.ok (.lst ds))
def pO:D->Rs Bool
 |.bl b=>.ok b
 |_=>.no
def wT(a b:E):E:=λe=>(a e).bind λx=>(pO x).bind λc=>if c=true then b e else .ok (.bl false)
def oj(a b:E):E:=λe=>(a e).bind λx=>(pO x).bind λc=>if c=true then .ok (.bl true)else b e
def lA(c:C)(a b:E):E:=λe=>(c e).bind λk=>if k=true then a e else b e
def t6(f g:D->D->Rs D)(a b c:E):E:=λe=>(a e).bind λx=>(b e).bind λy=>(f x y).bind λz=>(pO z).bind λk=>if k=true then(c e).bind λw=>g y w else .ok (.bl false)
def m3:D->Rs Int
 |.int i=>.ok i
 |_=>.no
def iX:Option E->Env->Rs (Option Int)
 |none,_=>.ok ac
 |some a,e=>(a e).bind λx=>(m3 x).bind λi=>.ok (aa i)
def iF(x:Str)(lo hi:Option Int):Str:=⟨(eI x.cps.toList lo hi).toArray⟩
def dj(x:D)(lo hi:Option Int):Rs D:=match x with
 |.lst ds=>.ok (.lst (eI ds lo hi))
 |.str z=>br (z.length<=16777216) (.ok (.str (iF z lo hi)))
 |_=>.no
def cR(f:D->Option Int->Option Int->Rs D)(a:E)(lo hi:Option E):E:=λe=>(a e).bind λx=>(iX lo e).bind λl=>(iX hi e).bind λh=>f x l h
def cB(a:E):C:=λe=>(a e).bind pO
def fq(a b:C):C:=λe=>(a e).bind λc=>if c=true then b e else .ok false
def ju(a b:C):C:=λe=>(a e).bind λc=>if c=true then .ok true else b e
def iu(a:C):C:=λe=>(a e).bind λc=>.ok (!c)
def CW:D->Rs Bool
 |.non=>.ok false
 |.bl b=>.ok b
 |.int i=>.ok (i != 0)
 |.str y=>br (y.length<=16777216) (.ok ((y.length:Int) != 0))
 |.lst ds=>.ok (!ds.isEmpty)
 |.tup ds=>.ok (!ds.isEmpty)
def eK(a:E):C:=λe=>(a e).bind CW
abbrev I:=Env->Rs (List D)
def tH:D->Rs (List D)
 |.lst ds=>.ok ds
 |.tup ds=>.ok ds
 |.str x=>.ok (x.cps.toList.map λc=>.str ⟨#[c]⟩)
 |_=>.no
def dh(a:E):I:=λe=>(a e).bind tH
def dB(lo hi:Int):List D:=(cI (hi-lo).toNat).map λk=>.int (lo+(k:Nat))
def okR(i:Int):Prop:=-(2 ^ 62)<=i/\i<2 ^ 62
instance (i:Int):Decidable (okR i):=inferInstanceAs (Decidable (_/\_))
def f8(a:E):I:=λe=>(a e).bind λx=>(m3 x).bind λj=>br (okR j) (.ok (dB 0 j))
def iO(k:Nat):List D->List D
 |[]=>[]
 |d::r=>.tup [.int k,d]::iO (k+1) r
def Fe:D->Rs (List D)
 |.lst ds=>.ok ds
 |_=>.no
def xl(a:E):I:=λe=>(a e).bind λx=>(Fe x).bind λds=>.ok (iO 0 ds)
inductive Tg where
 |n (i:Nat)|t (is:List Nat)
def lL:List Nat->List D->Env->Rs Env
 |[],[],e=>.ok e
 |i::is,d::ds,e=>lL is ds (e.set i (aa (.d d)))
 |_,_,_=>.no
def Tg.put:Tg->D->Env->Rs Env
 |.n i,d,e=>.ok (e.set i (aa (.d d)))
 |.t is,.tup ds,e=>lL is ds e
 |_,_,_=>.no
def j4(ρ:List (Option Nat))(e:Env):Env:=ρ.map λo=>o.bind λj=>(e[j]?).join
def dC(tg:Tg)(c:C)(a:E)(e:Env):List D->Rs (List D)
 |[]=>.ok []
 |x::r=>(tg.put x e).bind λe1=>(c e1).bind λk=>if k=true then(a e1).bind λy=>(dC tg c a e r).bind λys=>.ok (y::ys)else dC tg c a e r
def ej:C:=λ_=>.ok true
def eL(ρ:List (Option Nat))(it:I)(tg:Tg)(c:C)(a:E):E:=λe=>(it e).bind λxs=>br (xs.length<=16777216) ((dC tg c a (j4 ρ e) xs).bind λys=>.ok (.lst ys))
abbrev Fn:=List W->Rs W
abbrev EW:=Env->Rs W
def wD(a:E):EW:=λe=>(a e).bind λx=>.ok (.d x)
def wV(i:Nat):EW:=λe=>match e[i]? with
 |some (aa w)=>.ok w
 |_=>.no
def b8:List EW->Env->Rs (List W)
 |[],_=>.ok []
 |a::r,e=>(a e).bind λx=>(b8 r e).bind λxs=>.ok (x::xs)
def jz(f:Fn)(as:List EW):EW:=λe=>(b8 as e).bind f
def oX:W->Rs D
 |.d x=>.ok x
 |_=>.no
def ba(f:Fn)(as:List EW):E:=λe=>(jz f as e).bind oX
inductive Out where
 |nx (e:Env)|rt (w:W)|bk (e:Env)|ct (e:Env)
abbrev S:=Env->Rs Out
def bu:S:=λe=>.ok (.nx e)
def aD(s t:S):S:=λe=>(s e).bind λo=>match o with
 |.nx e'=>t e'
 |o=>.ok o
def lg(i:Nat)(a:EW):S:=λe=>(a e).bind λw=>.ok (.nx (e.set i (aa w)))
def a4(i:Nat)(a:E):S:=λe=>(a e).bind λd=>.ok (.nx (e.set i (aa (.d d))))
def El(tg:Tg)(a:E):S:=λe=>(a e).bind λd=>(tg.put d e).bind λe'=>.ok (.nx e')
def gO(a:E):S:=λe=>(a e).bind λ_=>.ok (.nx e)
def bL(a:EW):S:=λe=>(a e).bind λw=>.ok (.rt w)
def a7(c:C)(s t:S):S:=λe=>(c e).bind λk=>if k=true then s e else t e
def fZ:S:=λ_=>.no
def fu(tg:Tg)(body:S):List D->Env->Rs Out
 |[],e=>.ok (.nx e)
 | x::r,e=>(tg.put x e).bind λe1=>(body e1).bind λo=>match o with
  |.nx e2=>fu tg body r e2
  |.ct e2=>fu tg body r e2
  |.bk e2=>.ok (.nx e2)
  |.rt w=>.ok (.rt w)
def dL(it:I)(tg:Tg)(body:S):S:=λe=>(it e).bind λxs=>fu tg body xs e
def jO(c:C)(body:S):Nat->Env->Rs Out
 |0,_=>.no
 | n+1,e=>(c e).bind λk=>if k=true then(body e).bind λo=>match o with
  |.nx e2=>jO c body n e2
  |.ct e2=>jO c body n e2
  |.bk e2=>.ok (.nx e2)
  |.rt w=>.ok (.rt w)
  else .ok (.nx e)
def lE(n:Nat)(c:C)(body:S):S:=jO c body n
def getL(e:Env)(i:Nat):Rs (List D):=match e[i]? with
 |some (aa (.d (.lst ds)))=>.ok ds
 |_=>.no
def putL(e:Env)(i:Nat)(ds:List D):Env:=e.set i (aa (.d (.lst ds)))
def c7(i:Nat)(a:E):S:=λe=>(a e).bind λd=>(getL e i).bind λds=>br (ds.length<16777216) (.ok (.nx (putL e i (ds++[d]))))
def w9(i:Nat):S:=λe=>(getL e i).bind λds=>.ok (.nx (putL e i ds.reverse))
def ve(x y:Nat):S:=λe=>(getL e y).bind λds=>(dE ds[ds.length-1]?).bind λd=>.ok (.nx ((putL e y ds.dropLast).set x (aa (.d d))))
def jS(ds:List D)(i:Int):Rs (D×List D):=br (-(2 ^ 63)<=i/\i<2 ^ 63) ((dE (en ds.length i)).bind λk=>(dE ds[k]?).bind λd=>.ok (d,ds.eraseIdx k))
def ii(x y:Nat)(k:E):S:=λe=>(k e).bind λz=>(m3 z).bind λi=>(getL e y).bind λds=>(jS ds i).bind λp=>.ok (.nx ((putL e y p.2).set x (aa (.d p.1))))
def uv(x y:Nat)(k:E):S:=λe=>(k e).bind λz=>(m3 z).bind λi=>(getL e y).bind λds=>(jS ds i).bind λp=>(getL (putL e y p.2) x).bind λes=>
 br (es.length<16777216) (.ok (.nx (putL (putL e y p.2) x (es++[p.1]))))
def qJ(x:Nat)(k a:E):S:=λe=>(a e).bind λd=>(k e).bind λz=>(m3 z).bind λi=>(getL e x).bind λds=>(dE (en ds.length i)).bind λj=>.ok (.nx (putL e x (ds.set j d)))
def nz:D->Option Ky
 |.bl i=>aa (.inl i)
 |.str x=>aa (.inr x)
 |_=>ac
def mT:List D->Option (List Ky)
 |[]=>aa []
 | d::r=>match nz d,mT r with
  |some k,aa ks=>aa (k::ks)
  |_,_=>ac
def jj{κ:Type}[DecidableEq κ](ak:List (κ×D))(k:κ):Option D:=(ak.find? λkv=>decide (kv.1=k)).map (·.2)
def qt(w:W)(k:D):Rs (Option D):=match w with
 |.dk ak=>(dE (nz k)).bind λk=>.ok (jj ak k)
 | .dt ak=>match k with
  |.tup ds=>(dE (mT ds)).bind λk=>.ok (jj ak k)
  |_=>.no
 | .df ak=>match k with
  |.tup ds=>(dE (mT ds)).bind λk=>.ok (jj ak k)
  |_=>.no
 |_=>.no
def putK{κ:Type}[DecidableEq κ](k:κ)(v:D)(ak:List (κ×D)):List (κ×D):=if(ak.any λkv=>decide (kv.1=k))=true then ak.map (λkv=>if kv.1=k then(kv.1,v)else kv)else ak++[(k,v)]
def sw(w:W)(k v:D):Rs W:=match w with
 |.dk ak=>br (ak.length<16777216) ((dE (nz k)).bind λk=>.ok (.dk (putK k v ak)))
 | .dt ak=>match k with
  |.tup ds=>br (ak.length<16777216) ((dE (mT ds)).bind λk=>.ok (.dt (putK k v ak)))
  |_=>.no
 |_=>.no
def kI(i:Nat)(k:E):E:=λe=>(k e).bind λd=>(wV i e).bind λw=>(qt w d).bind λo=>.ok (.bl o.isSome)
def gV(i:Nat)(k:E):E:=λe=>(k e).bind λd=>(wV i e).bind λw=>(qt w d).bind λo=>.ok (.bl (!o.isSome))
def dZ(i:Nat)(k v:E):S:=λe=>(v e).bind λx=>(k e).bind λd=>(wV i e).bind λw=>(sw w d x).bind λw'=>.ok (.nx (e.set i (aa w')))
def nC:Out->Rs W
 |.rt w=>.ok w
 |.nx _=>.ok (.d .non)
 |_=>.no
def c6(k n:Nat)(body:S):Fn:=λws=>br (ws.length=k) ((body (ws.map aa++cG (n-ws.length) ac)).bind nC)
def jL:Out->Rs W
 |.rt w=>.ok w
 |_=>.no
def fk(k n:Nat)(body:S):Fn:=λws=>br (ws.length=k) ((body (ws.map aa++cG (n-ws.length) ac)).bind jL)
def lc(i j:Int):Prop:=(-(2 ^ 64)<i/\i<2 ^ 64)\/(-(2 ^ 64)<j/\j<2 ^ 64)
instance (i j:Int):Decidable (lc i j):=inferInstanceAs (Decidable (_\/_))
def lp(j:Int):Prop:=0<j/\j.natAbs.log2<9000
instance (j:Int):Decidable (lp j):=inferInstanceAs (Decidable (_/\_))
def Bq(i j:Int):Prop:=0<=j/\j<=1000000/\i.natAbs<2 ^ 64
instance (i j:Int):Decidable (Bq i j):=inferInstanceAs (Decidable (_/\_))
def aZ:D->D->Rs D
 |.int i,.int j=>.ok (.int (i+j))
 |.str i,.str j=>br (i.length+j.length<=16777216) (.ok (.str (i++j)))
 |.lst i,.lst j=>br (i.length+j.length<=16777216) (.ok (.lst (i++j)))
 |_,_=>.no
def jV:D->D->Rs D
 |.int i,.int j=>.ok (.int (i-j))
 |_,_=>.no
def bT:D->D->Rs D
 |.int i,.int j=>br (lc i j) (.ok (.int (i*j)))
 |_,_=>.no
def bn:D->D->Rs D
 |.int i,.int j=>br (lp j) (.ok (.int (i/j)))
 |_,_=>.no
def aQ:D->D->Rs D
 |.int i,.int j=>br (0<j) (.ok (.int (i%j)))
 |_,_=>.no
def yH:D->D->Rs D
 |.int i,.int j=>br (Bq i j) (.ok (.int (i ^ j.toNat)))
 |_,_=>.no
def qC:D->Rs D
 |.int i=>.ok (.int (-i))
 |_=>.no
def eo:D->D->Rs D
 |.int i,.int j=>.ok (.bl (decide (i<j)))
 |.str i,.str j=>.ok (.bl (decide (i.cps.toList<j.cps.toList)))
 |_,_=>.no
def ku:D->D->Rs D
 |.int i,.int j=>.ok (.bl (decide (j<i)))
 |.str i,.str j=>.ok (.bl (decide (j.cps.toList<i.cps.toList)))
 |_,_=>.no
def pI:D->D->Rs D
 |.int i,.int j=>.ok (.bl (decide (i<=j)))
 |_,_=>.no
def bQ(x y:D):Rs D:=br (x.dep<=16) (.ok (.bl (bM x y)))
def fh(x y:D):Rs D:=br (x.dep<=16) (.ok (.bl (!bM x y)))
def f9(x y:D):Rs D:=match y with
 |.lst ds=>br (dF ds<=16) (.ok (.bl (ds.any λe=>bM e x)))
 |.tup ds=>br (dF ds<=16) (.ok (.bl (ds.any λe=>bM e x)))
 | .str z=>match x with
  |.str s=>br (s.length=1) (.ok (.bl (decide (s.cps.getD 0 0∈z.cps.toList))))
  |_=>.no
 |_=>.no
def gb(x y:D):Rs D:=match y with
 |.lst ds=>br (dF ds<=16) (.ok (.bl (!ds.any λe=>bM e x)))
 |.tup ds=>br (dF ds<=16) (.ok (.bl (!ds.any λe=>bM e x)))
 |_=>.no
def av(x y:D):Rs D:=match x,y with
 |.lst ds,.int i=>dE (dM ds i)
 |.tup ds,.int i=>dE (dM ds i)
 |.str z,.int i=>br (z.length<=16777216) ((dE (dM z.cps.toList i)).bind λc=>.ok (.str ⟨#[c]⟩))
 |_,_=>.no
def bV:List D->Rs D
 |[.lst ds]=>.ok (.int ds.length)
 |[.tup ds]=>.ok (.int ds.length)
 |[.str z]=>br (z.length<=16777216) (.ok (.int z.length))
 |_=>.no
def iJ:List D->Rs D
 |[.int i,.int j]=>.ok (.int (max i j))
 |_=>.no
def kK:List D->Rs D
 |[.int i,.int j]=>.ok (.int (min i j))
 |_=>.no
def jN:List D->Option (List Bool)
 |[]=>aa []
 |.bl b::r=>(jN r).map (b :: ·)
 |_=>ac
def xM:List D->Rs D
 |[.lst ds]=>(dE (jN ds)).bind λbs=>.ok (.bl (bs.all id))
 |_=>.no
def xj:List D->Rs D
 |[.lst ds]=>(dE (jN ds)).bind λbs=>.ok (.bl (bs.any id))
 |_=>.no
def gB:List D->Rs D
 |[.lst ds]=>.ok (.lst ds)
 |[.tup ds]=>.ok (.lst ds)
 |_=>.no
def pk:List D->Rs D
 |[.lst ds]=>.ok (.tup ds)
 |[.tup ds]=>.ok (.tup ds)
 |_=>.no
def ug(t:String):D->Bool
 |.non=>false
 |.bl _=>t == "bool" || t == "int"
 |.int _=>t == "int"
 |.str _=>t == "str"
 |.lst _=>t == "list"
 |.tup _=>t == "tuple"
def Dg:D->String
 |.non => "NoneType" | .bl _ => "bool" | .int _ => "int" | .str _ => "str" | .lst _ => "list" | .tup _ => "tuple"
def ua(ts:List String)(x:D):Rs D:=.ok (.bl (ts.any λt=>ug t x))
def k4:List D->Option (List Str)
 |[]=>aa []
 |.str b::r=>(k4 r).map (b :: ·)
 |_=>ac
def u5(x y:D):Rs D:=match x,y with
 |.str sep,.lst ds=>(dE (k4 ds)).bind λys=>br ((ys.map (·.length)).sum+ys.length*sep.length<=16777216) (.ok (.str (jF sep ys)))
 |_,_=>.no
def met(val:Nat->Str):Nat->List Str
 |0=>[]
 |i+1=>if val i∈met val i then met val i else met val i++[val i]
end Mi
namespace L2
open PySem PySem.Spec PyProof.Rows
open Mi (D dF bM gW)
mutual
theorem wQ:∀d:D,bM d d=true
 |.non=>rfl
 |.bl b=>by simp[bM]
 |.int i=>by simp[bM]
 |.str x=>by simp[bM]
 |.lst ds=>by rw[bM];exact zl ds
 |.tup ds=>by rw[bM];exact zl ds
theorem zl:∀ds:List D,gW ds ds=true
 |[]=>rfl
 |d::r=>by rw[gW,wQ d,zl r];rfl
end
theorem rM:∀{ds es:List D},ds.length≠es.length->gW ds es=false
 |[],[],h=>absurd rfl h
 |[],_::_,_=>rfl
 |_::_,[],_=>rfl
 |d::r,e::s,h=>by rw[gW,rM (λz=>h (by rw[bU,bU,z])),wv]
theorem sg:∀{ds es:List D},ds.length=es.length->gW ds es=(cI ds.length).all λj=>bM (ds.getD j .non) (es.getD j .non)
 |[],[],_=>rfl
 |[],_::_,h=>by simp at h
 |_::_,[],h=>by simp at h
 |d::r,e::s,h=>by
  rw[gW,sg (by simpa using h),bU,GX,List.all_cons,List.all_map];rfl
mutual
/-- the value v in the heap H is the tree d -/
def Rep(K:aI)(H:Hp):D->V->Prop
 |.non,v=>v=.non
 |.bl b,v=>v=.bl b
 |.int i,v=>v=.int i
 |.str x,v=>v=.str x
 |.lst ds,v=>∃a xs,v=.ref a/\dw K H a xs/\bx K H ds xs
 |.tup ds,v=>∃a xs,v=.ref a/\e5 K H a xs/\bx K H ds xs
def bx(K:aI)(H:Hp):List D->List V->Prop
 |[],vs=>vs=[]
 |d::ds,vs=>∃v r,vs=v::r/\Rep K H d v/\bx K H ds r
end
theorem bx.length{K:aI}{H:Hp}:∀{ds:List D} {vs:List V},bx K H ds vs->ds.length=vs.length
 |[],vs,h=>by rw[bx]at h;subst h;rfl
 |d::ds,vs,h=>by
  rw[bx]at h;obtain⟨v,r,rfl,_,q⟩:=h;rw[bU,bU,bx.length q]
theorem bx.get{K:aI}{H:Hp}:∀{ds:List D} {vs:List V} {j:Nat} {v:V},bx K H ds vs->vs[j]? = aa v->Rep K H (ds.getD j .non) v
 |[],vs,j,v,h,e=>by rw[bx]at h;subst h;simp at e
 |d::ds,vs,0,v,h,e=>by
  rw[bx]at h;obtain⟨v',r,rfl,p,q⟩:=h;simp at e;subst e;exact p
 |d::ds,vs,j+1,v,h,e=>by
  rw[bx]at h;obtain⟨v',r,rfl,p,q⟩:=h;have:=bx.get (j:=j) (v:=v) q (by simpa using e);simpa using this
section
variable{X:Cx}{af:List (ag×Obj)}{σ:St}{H:Hp}{s:aw}
theorem Inv.FH(I:Inv X af σ H s){a:ag}{xs ys:List V}(h:dw X.K H a xs)(h':e5 X.K H a ys):False:=by obtain⟨aq,_,p,_⟩:=I.list h;obtain⟨its',_,q,_⟩:=I.tuple h';obtain⟨o,n,e,c,_⟩:=p;obtain⟨o',e',c',_⟩:=q;rw[e]at e';cases e';rw[c]at c';exact absurd (wE c') (by decide)
mutual
theorem Rep.inj(I:Inv X af σ H s):∀{d e:D} {v:V},Rep X.K H d v->Rep X.K H e v->d=e
 |.non,e,v,h,h'=>by
  rw[Rep]at h;subst h;cases e<;>rw[Rep]at h'<;>first|rfl|(obtain⟨_,_,z,_⟩:=h';cases z)|cases h'
 |.bl b,e,v,h,h'=>by
  rw[Rep]at h;subst h;cases e<;>rw[Rep]at h'<;>first|(obtain⟨_,_,z,_⟩:=h';cases z)|(cases h';rfl)|cases h'
 |.int b,e,v,h,h'=>by
  rw[Rep]at h;subst h;cases e<;>rw[Rep]at h'<;>first|(obtain⟨_,_,z,_⟩:=h';cases z)|(cases h';rfl)|cases h'
 |.str b,e,v,h,h'=>by
  rw[Rep]at h;subst h;cases e<;>rw[Rep]at h'<;>first|(obtain⟨_,_,z,_⟩:=h';cases z)|(cases h';rfl)|cases h'
 |.lst ds,e,v,h,h'=>by
  rw[Rep]at h;obtain⟨a,xs,rfl,q,r⟩:=h;cases e with
  |lst es=>
   rw[Rep]at h';obtain⟨a',xs',z,q',r'⟩:=h';cases z;rw[I.uo q' q]at r';rw[bx.inj I r r']
  |tup es=>
   rw[Rep]at h';obtain⟨a',xs',z,q',r'⟩:=h';cases z;exact(I.FH q q').elim
  |_=>rw[Rep]at h';cases h'
 |.tup ds,e,v,h,h'=>by
  rw[Rep]at h;obtain⟨a,xs,rfl,q,r⟩:=h;cases e with
  |tup es=>
   rw[Rep]at h';obtain⟨a',xs',z,q',r'⟩:=h';cases z;rw[I.y4 q' q]at r';rw[bx.inj I r r']
  |lst es=>
   rw[Rep]at h';obtain⟨a',xs',z,q',r'⟩:=h';cases z;exact(I.FH q' q).elim
  |_=>rw[Rep]at h';cases h'
theorem bx.inj(I:Inv X af σ H s):∀{ds es:List D} {vs:List V},bx X.K H ds vs->bx X.K H es vs->ds=es
 |[],es,vs,h,h'=>by
  rw[bx]at h;subst h;cases es with
  |nil=>rfl
  |cons e es=>rw[bx]at h';obtain⟨_,_,z,_⟩:=h';cases z
 |d::ds,es,vs,h,h'=>by
  rw[bx]at h;obtain⟨v,r,rfl,p,q⟩:=h;cases es with
  |nil=>rw[bx]at h';cases h'
  |cons e es=>
   rw[bx]at h';obtain⟨v',r',z,p',q'⟩:=h';cases z;rw[Rep.inj I p p',bx.inj I q q']
end
theorem y0:∀{ds:List D} {j:Nat},(ds.getD j .non).dep<=dF ds
 |[],j=>by simp[D.dep]
 |d::ds,0=>by simp[dF];omega
 |d::ds,j+1=>by
  have:=y0 (ds:=ds) (j:=j);have e:(d::ds).getD (j+1) .non=ds.getD j .non:=by simp
  rw[e,dF];omega
def _root_.Mi.D.flat:D->Bool
 |.lst _=>false
 |.tup _=>false
 |_=>true
def _root_.Mi.D.toV:D->V
 |.non=>.non|.bl b=>.bl b|.int i=>.int i|.str x=>.str x|.lst _=>.non|.tup _=>.non
theorem Rep.flat{K:aI}:∀{d:D} {v:V},d.flat=true->Rep K H d v->v=d.toV/\xW v=true
 |.non,v,_,h=>by rw[Rep]at h;subst h;exact⟨rfl,rfl⟩
 |.bl b,v,_,h=>by rw[Rep]at h;subst h;exact⟨rfl,rfl⟩
 |.int b,v,_,h=>by rw[Rep]at h;subst h;exact⟨rfl,rfl⟩
 |.str b,v,_,h=>by rw[Rep]at h;subst h;exact⟨rfl,rfl⟩
 |.lst _,v,z,h=>by cases z
 |.tup _,v,z,h=>by cases z
theorem OW:∀{d e:D},d.flat=true->e.flat=true->bM d e=Ca d.toV e.toV:=by intro d e h1 h2;cases d<;>cases e<;>first|rfl|exact absurd (show false=true from h1) dW|exact absurd (show false=true from h2) dW
open SeqAt in
theorem GF(I:Inv X af σ H s):∀(n:Nat) (d e:D) (A:bH) {x y:V} {u u':ah},d.dep<=n->A.units+n<cLine->Rep X.K H d x->Rep X.K H e y->RelV x u->RelV y u'->EqAt A s u u' (bM d e):=by
 intro n
 induction n using Nat.strongRecOn with
 |ind n ih=>
  intro d e A x y u u' hd hu h h' r r';have hu0:A.units<cLine:=by omega
  by_cases hdf:d.flat=true
  ·obtain⟨ex,fx⟩:=h.flat hdf;subst ex;by_cases hef:e.flat=true
   ·obtain⟨ey,fy⟩:=h'.flat hef;subst ey;rw[OW hdf hef];exact LB r r' fx fy
   ·cases e with
    |lst es=>
     rw[Rep]at h';obtain⟨a,xs,rfl,q,_⟩:=h';cases r';obtain⟨aq,_,p,_⟩:=I.list q;cases d with
     |non=>cases r;exact EqAt.none_list p.isList hu0
     |bl b=>cases r;exact EqAt.bool_list b p.isList hu0
     |int b=>obtain⟨t,rfl⟩:=r;exact EqAt.int_list b t p.isList hu0
     |str b=>obtain⟨t,rfl⟩:=r;exact EqAt.str_list b t p.isList hu0
     |_=>cases hdf
    |tup es=>
     rw[Rep]at h';obtain⟨a,xs,rfl,q,_⟩:=h';cases r';obtain⟨aq,_,p,_⟩:=I.tuple q;cases d with
     |non=>cases r;exact EqAt.none_tuple p hu0
     |bl b=>cases r;exact EqAt.bool_tuple b p hu0
     |int b=>obtain⟨t,rfl⟩:=r;exact EqAt.int_tuple b t p hu0
     |str b=>obtain⟨t,rfl⟩:=r;exact EqAt.str_tuple b t p hu0
     |_=>cases hdf
    |_=>exact absurd rfl hef
  ·by_cases hef:e.flat=true
   ·obtain⟨ey,fy⟩:=h'.flat hef;subst ey;cases d with
    |lst ds=>
     rw[Rep]at h;obtain⟨a,xs,rfl,q,_⟩:=h;cases r;obtain⟨aq,_,p,_⟩:=I.list q;cases e with
     |non=>cases r';exact EqAt.list_none p.isList hu0
     |bl b=>cases r';exact EqAt.list_bool b p.isList hu0
     |int b=>obtain⟨t,rfl⟩:=r';exact EqAt.list_int b t p.isList hu0
     |str b=>obtain⟨t,rfl⟩:=r';exact EqAt.list_str b t p.isList hu0
     |_=>cases hef
    |tup ds=>
     rw[Rep]at h;obtain⟨a,xs,rfl,q,_⟩:=h;cases r;obtain⟨aq,_,p,_⟩:=I.tuple q;cases e with
     |non=>cases r';exact EqAt.tuple_none p hu0
     |bl b=>cases r';exact EqAt.tuple_bool b p hu0
     |int b=>obtain⟨t,rfl⟩:=r';exact EqAt.tuple_int b t p hu0
     |str b=>obtain⟨t,rfl⟩:=r';exact EqAt.tuple_str b t p hu0
     |_=>cases hef
    |_=>exact absurd rfl hdf
   ·-- both are lists or tuples
    have item:∀{ds es:List D} {xs ys:List V} {aq its':List ah},dF ds+1<=n->bx X.K H ds xs->bx X.K H es ys->Vals xs aq->Vals ys its' ->
     ∀j (h1:j<aq.toArray.size) (h2:j<its'.toArray.size),EqAt A.in1 s aq.toArray[j] its'.toArray[j] (bM (ds.getD j .non) (es.getD j .non)):=by
     intro ds es xs ys aq its' hn q q' v v' j h1 h2;have h1':j<aq.length:=by simpa using h1
     have h2':j<its'.length:=by simpa using h2
     have e1:j<xs.length:=by rw[v.length];exact h1'
     have e2:j<ys.length:=by rw[v'.length];exact h2'
     have g1:xs[j]? = aa xs[j]:=by simp[e1]
     have g2:ys[j]? = aa ys[j]:=by simp[e2]
     obtain⟨w1,k1,r1⟩:=v.get g1;obtain⟨w2,k2,r2⟩:=v'.get g2;have t1:aq.toArray[j]=w1:=by obtain⟨_,k1⟩:=dG.mp k1;simpa using k1
     have t2:its'.toArray[j]=w2:=by obtain⟨_,k2⟩:=dG.mp k2;simpa using k2
     rw[t1,t2];have:=y0 (ds:=ds) (j:=j);refine ih (n-1) (by omega) _ _ A.in1 (by omega) ?_ (q.get g1) (q'.get g2) r1 r2;show A.units+1+(n-1)<cLine;omega
    cases d with
    |lst ds=>
     rw[Rep]at h;obtain⟨a,xs,rfl,q,rr⟩:=h;cases r;obtain⟨aq,v,p,_⟩:=I.list q;have hn:dF ds+1<=n:=by simpa [D.dep]using hd
     cases e with
     |lst es=>
      rw[Rep]at h';obtain⟨b,ys,rfl,q',rr'⟩:=h';cases r';obtain⟨its',v',p',_⟩:=I.list q';by_cases hab:a=b
      ·subst hab;rw[I.uo q' q]at rr';rw[bx.inj I rr rr',wQ];exact EqAt.same _
      ·have l1:=rr.length;have l2:=rr'.length;have l3:=v.length;have l4:=v'.length;by_cases hl:ds.length=es.length
       ·rw[bM,sg hl];have:=RcAt.lists p.isList p'.isList (by simp;omega) hu0 (item hn rr rr' v v');have e:aq.toArray.size=ds.length:=by simp;omega
        rw[e]at this;exact .of_refs hab this
       ·rw[bM,rM hl];exact .of_refs hab (RcAt.lists_lengths p.isList p'.isList (by simp;omega) hu0)
     |tup es=>
      rw[Rep]at h';obtain⟨b,ys,rfl,q',_⟩:=h';cases r';obtain⟨its',_,p',_⟩:=I.tuple q';exact EqAt.list_tuple p.isList p' hu0
     |_=>exact absurd rfl hef
    |tup ds=>
     rw[Rep]at h;obtain⟨a,xs,rfl,q,rr⟩:=h;cases r;obtain⟨aq,v,p,_⟩:=I.tuple q;have hn:dF ds+1<=n:=by simpa [D.dep]using hd
     cases e with
     |tup es=>
      rw[Rep]at h';obtain⟨b,ys,rfl,q',rr'⟩:=h';cases r';obtain⟨its',v',p',_⟩:=I.tuple q';by_cases hab:a=b
      ·subst hab;rw[I.y4 q' q]at rr';rw[bx.inj I rr rr',wQ];exact EqAt.same _
      ·have l1:=rr.length;have l2:=rr'.length;have l3:=v.length;have l4:=v'.length;have R:=RcAt.tuples p p' hu0 (item hn rr rr' v v');have e1:aq.toArray.size=ds.length:=by simp;omega
       have e2:its'.toArray.size=es.length:=by simp;omega
       rw[e1,e2]at R;by_cases hl:ds.length=es.length
       ·rw[bM,sg hl];rw[hl,Nat.min_self,rQ,Bool.and_true,<- hl]at R;exact .of_refs hab R
       ·rw[bM,rM hl];have:(ds.length==es.length)=false:=by simpa using hl
        rw[this,wv]at R;exact .of_refs hab R
     |lst es=>
      rw[Rep]at h';obtain⟨b,ys,rfl,q',_⟩:=h';cases r';obtain⟨its',_,p',_⟩:=I.list q';exact EqAt.tuple_list p p'.isList hu0
     |_=>exact absurd rfl hef
    |_=>exact absurd rfl hdf
def vp(K:aI)(neg:Bool):R2:=λx y H Q=>∃(p:ag) (xs:List V) (d:D) (ds:List D),y=.ref p/\(dw K H p xs\/e5 K H p xs)/\Rep K H d x/\bx K H ds xs/\dF ds<=16 /\
 Q (.bl (if neg then !ds.any (λe=>bM e d)else ds.any (λe=>bM e d))) H
theorem bx.main{K:aI}:∀{ds:List D} {xs:List V} {us:List ah},bx K H ds xs->Vals xs us->∀u∈us,∃b∈ds,∃y,Rep K H b y/\RelV y u
 |[],xs,us,hr,hv,u,hu=>by
  rw[bx]at hr;subst hr;cases hv;cases hu
 |b::bs,xs,us,hr,hv,u,hu=>by
  rw[bx]at hr;obtain⟨y,r,rfl,p,q⟩:=hr;cases hv with
  |cons ry t=>
   rcases cS.mp hu with rfl|hu
   ·exact⟨b,dS,_,p,ry⟩
   ·obtain⟨b',hb',w⟩:=bx.main q t u hu;exact⟨b',eP _ hb',w⟩
theorem bx.any{K:aI}{e:ah->Bool}{f:D->Bool}(key:∀b y u,Rep K H b y->RelV y u->e u=f b):∀{ds:List D} {xs:List V} {us:List ah},bx K H ds xs->Vals xs us->us.any e=ds.any f
 |[],xs,us,hr,hv=>by
  rw[bx]at hr;subst hr;cases hv;rfl
 |b::bs,xs,us,hr,hv=>by
  rw[bx]at hr;obtain⟨y,r,rfl,p,q⟩:=hr;cases hv with
  |cons ry t=>rw[jC,jC,key b y _ p ry,bx.any key q t]
theorem Br:∀{ds:List D} {b:D},b∈ds->b.dep<=dF ds
 |d::ds,b,h=>by
  rw[dF];rcases cS.mp h with rfl|h
  ·omega
  ·have:=Br h;omega
open Classical in
theorem tO(I:Inv X af σ H s){A:bH}(hu:A.units+16<cLine){d:D}{x:V}{v:ah}(hx:Rep X.K H d x)(rx:RelV x v){ds:List D}{xs:List V}{us:List ah}(hd:dF ds<=16)(hr:bx X.K H ds xs)(hv:Vals xs us) :
 ∃e:ah->Bool,(∀u∈us,SeqAt.EqAt A s u v (e u))/\us.any e=ds.any (λb=>bM b d):=by
 have key:∀b y u,Rep X.K H b y->RelV y u->(λu=>decide (∃b y,Rep X.K H b y/\RelV y u/\bM b d=true)) u=bM b d:=by
  intro b y u hb hy;cases hp:bM b d with
  |true=>exact bR ⟨b,y,hb,hy,hp⟩
  |false=>
   refine cp ?_;rintro⟨b',y',hb',hy',hp'⟩;have:=hy.inj hy';subst this;rw[Rep.inj I hb hb',hp']at hp;cases hp
 refine⟨λu=>decide (∃b y,Rep X.K H b y/\RelV y u/\bM b d=true),λu hu'=>?_,bx.any key hr hv⟩;obtain⟨b,hb,y,rb,ry⟩:=bx.main hr hv u hu';rw[key b y u rb ry];exact GF I 16 b d A (eW (Br hb) hd) hu rb hx ry rx
theorem KW(hu:X.A.units+64<cLine):cY X (compareOp .In) (vp X.K false):=by
 intro af s σ H x y v u Q I rx ry h;obtain⟨p,xs,d,ds,rfl,hq,hx,hr,hd,q⟩:=h;cases ry;have hu1:X.A.in1.units+16<cLine:=by show X.A.units+1+16<cLine;omega
 rcases hq with hq|hq
 ·obtain⟨aq,r,pl,hz⟩:=I.list hq;obtain⟨e,he,ea⟩:=tO I hu1 hx rx hd hr r;refine SeqAt.in_listAt e pl.isList (λw hw=>he w (by simpa using hw)) ⟨.bl _,H,I,rfl,?_⟩;rw[show aq.toArray.any e=aq.any e by simp,ea];exact q
 ·obtain⟨aq,r,pl,hz⟩:=I.tuple hq;obtain⟨e,he,ea⟩:=tO I hu1 hx rx hd hr r;refine SeqAt.in_tupleAt e pl (λw hw=>he w (by simpa using hw)) ⟨.bl _,H,I,rfl,?_⟩;rw[show aq.toArray.any e=aq.any e by simp,ea];exact q
theorem rA(hu:X.A.units+64<cLine):cY X (compareOp .NotIn) (vp X.K true):=by
 intro af s σ H x y v u Q I rx ry h;obtain⟨p,xs,d,ds,rfl,hq,hx,hr,hd,q⟩:=h;cases ry;have hu1:X.A.in1.units+16<cLine:=by show X.A.units+1+16<cLine;omega
 rcases hq with hq|hq
 ·obtain⟨aq,r,pl,hz⟩:=I.list hq;obtain⟨e,he,ea⟩:=tO I hu1 hx rx hd hr r;refine SeqAt.notIn_listAt e pl.isList (λw hw=>he w (by simpa using hw)) ⟨.bl _,H,I,rfl,?_⟩;rw[show aq.toArray.any e=aq.any e by simp,ea];exact q
 ·obtain⟨aq,r,pl,hz⟩:=I.tuple hq;obtain⟨e,he,ea⟩:=tO I hu1 hx rx hd hr r;refine SeqAt.notIn_tupleAt e pl (λw hw=>he w (by simpa using hw)) ⟨.bl _,H,I,rfl,?_⟩;rw[show aq.toArray.any e=aq.any e by simp,ea];exact q
end
end L2
namespace L2
open PySem PySem.Spec PyProof.Rows
theorem qH{H:Hp}{p:ag}{o:HO}(hp:H p=ac):cA H (upd H p o):=λb u e=>by rw[aN (dz e hp)];exact e
theorem E5:∀{ys:List Str} {us:List ah},Vals (ys.map V.str) us->StrsAre us ys
 |[],_,.nil=>.nil
 |y::ys,_,.cons r t=>by
  obtain⟨tk,rfl⟩:=(show∃tk,_=nQ y tk from r);exact .cons y tk (E5 t)
section
variable{X:Cx}
def rJoin(K:aI):V->List V->Hp->VK->Prop:=λx vs H Q=>∃(sep:Str) (p:ag) (ys:List Str),x=.str sep/\vs=[.ref p]/\dw K H p (ys.map V.str)/\(ys.map (·.length)).sum+ys.length*sep.length<=16777216/\Q (.str (jF sep ys)) H
theorem Ej:tD X "str.join" (rJoin X.K):=by intro af s σ H x vs v us Q I rx rv h;obtain⟨sep,p,ys,rfl,rfl,hq,hz,q⟩:=h;obtain⟨t,rfl⟩:=rx;obtain⟨u,rfl,ru⟩:=rv.one;cases ru;obtain⟨aq,r,pl,_⟩:=I.list hq;refine join_list pl.isList (by simpa using E5 r) hz λt' k=>⟨.str (jF sep ys),H,I.tok k,⟨t',?_⟩,q⟩;show nQ (Builtin.Str.glued sep ys) t'=_;rw[StrLaws.glued_eq_join]
def GK(i j:Int):Prop:=0<j/\j.natAbs.log2<9000
theorem d3:cY X (binaryOp .FloorDiv) (rI GK λi j=>.int (i/j)):=u0 λi j _ _ _ _ _ hc q=>by
 refine floordiv_int (by have:=hc.1;omega) ?_ (.inl (PyProof.noPylong_of_log2 hc.2));rw[Int.fdiv_eq_ediv_of_nonneg i (by have:=hc.1;omega)];exact q
theorem Je(hc:X.calm=true):fT X (.builtin "max") (λxs H Q=>∃i j z,xs=[.int i,.int j]/\max i j=z/\Q (.int z) H):=by intro af s σ H xs us Q I r ⟨i,j,z,e1,e2,q⟩;subst e2;refine Ln hc af s σ H xs us Q I r ⟨i,j,e1,?_⟩;rw[show(if j>i then j else i)=max i j by split<;>omega];exact q
theorem IR(hc:X.calm=true):fT X (.builtin "min") (λxs H Q=>∃i j z,xs=[.int i,.int j]/\min i j=z/\Q (.int z) H):=by intro af s σ H xs us Q I r ⟨i,j,z,e1,e2,q⟩;subst e2;refine Nb hc af s σ H xs us Q I r ⟨i,j,e1,?_⟩;rw[show(if j<i then j else i)=min i j by split<;>omega];exact q
end
end L2
namespace A
open PySem L2 PyProof.Rows
open Mi (D W Rs Fin aE)
inductive P2{α β:Type}(F:α->β->Prop):List α->List β->Prop
 |nil:P2 F [] []
 |cons {a b l m}:F a b->P2 F l m->P2 F (a::l) (b::m)
section
variable{α β:Type}{F G:α->β->Prop}
theorem P2.imp(h:∀a b,F a b->G a b):∀{l m},P2 F l m->P2 G l m
 |_,_,.nil=>.nil
 |_,_,.cons x t=>.cons (h _ _ x) (t.imp h)
theorem P2.len:∀{l m},P2 F l m->l.length=m.length
 |_,_,.nil=>rfl
 |_,_,.cons _ t=>by rw[bU,bU,t.len]
theorem P2.append:∀{l m l' m'},P2 F l m->P2 F l' m'->P2 F (l++l') (m++m')
 |_,_,_,_,.nil,s=>s
 |_,_,_,_,.cons x t,s=>.cons x (t.append s)
theorem P2.get:∀{l m} {i:Nat} {a b},P2 F l m->l[i]? = aa a->m[i]? = aa b->F a b
 |_,_,_,_,_,.nil,e,_=>by simp at e
 |_,_,0,_,_,.cons x _,e,e'=>by simp at e e';subst e e';exact x
 |_,_,i+1,a,b,.cons _ t,e,e'=>t.get (i:=i) (by simpa using e) (by simpa using e')
theorem P2.getL{l m}{i:Nat}{a}(t:P2 F l m)(e:l[i]? = aa a):∃b,m[i]? = aa b/\F a b:=by
 have h:i<m.length:=by rw[<- t.len];exact(dG.mp e).1
 exact⟨m[i],by simp[h],t.get e (by simp[h])⟩
theorem P2.Dz{l m}{i:Nat}{b}(t:P2 F l m)(e:m[i]? = aa b):∃a,l[i]? = aa a/\F a b:=by
 have h:i<l.length:=by rw[t.len];exact(dG.mp e).1
 exact⟨l[i],by simp[h],t.get (by simp[h]) e⟩
theorem P2.set{a b}(x:F a b):∀{l m} (i:Nat),P2 F l m->P2 F (l.set i a) (m.set i b)
 |_,_,_,.nil=>.nil
 |_,_,0,.cons _ t=>.cons x t
 |_,_,i+1,.cons y t=>.cons y (t.set x i)
theorem P2.take:∀{l m} (n:Nat),P2 F l m->P2 F (l.take n) (m.take n)
 |_,_,0,_=>.nil
 |_,_,_+1,.nil=>.nil
 |_,_,n+1,.cons x t=>.cons x (t.take n)
theorem P2.drop:∀{l m} (n:Nat),P2 F l m->P2 F (l.drop n) (m.drop n)
 |_,_,0,t=>t
 |_,_,_+1,.nil=>.nil
 |_,_,n+1,.cons _ t=>t.drop n
theorem P2.erase:∀{l m} (n:Nat),P2 F l m->P2 F (l.eraseIdx n) (m.eraseIdx n)
 |_,_,_,.nil=>.nil
 |_,_,0,.cons _ t=>t
 |_,_,n+1,.cons x t=>.cons x (t.erase n)
theorem P2.rev:∀{l m},P2 F l m->P2 F l.reverse m.reverse
 |_,_,.nil=>.nil
 |_,_,.cons x t=>by rw[sL,sL];exact t.rev.append (.cons x .nil)
theorem P2.dropLast:∀{l m},P2 F l m->P2 F l.dropLast m.dropLast
 |_,_,.nil=>.nil
 |_,_,.cons x .nil=>.nil
 |_,_,.cons x (.cons y t)=>.cons x (P2.dropLast (.cons y t))
end
def Lst(H:Hp)(a:ag)(xs:List V):Prop:=H a=aa (.lst xs)\/∃o,H a=aa (.frz o (.lst xs))
mutual
def Rep(H:Hp):D->V->Prop
 |.non,v=>v=.non
 |.bl b,v=>v=.bl b
 |.int i,v=>v=.int i
 |.str x,v=>v=.str x
 |.lst ds,v=>∃a xs,v=.ref a/\Lst H a xs/\bx H ds xs
 |.tup ds,v=>∃a xs,v=.ref a/\H a=aa (.tup xs)/\bx H ds xs
def bx(H:Hp):List D->List V->Prop
 |[],vs=>vs=[]
 |d::ds,vs=>∃v r,vs=v::r/\Rep H d v/\bx H ds r
end
theorem nA{H:Hp}:∀{ds:List D} {vs:List V},bx H ds vs↔P2 (Rep H) ds vs
 |[],vs=>by
  rw[bx];exact⟨λh=>by subst h;exact .nil,λh=>by cases h;rfl⟩
 |d::ds,vs=>by
  rw[bx];constructor
  ·rintro⟨v,r,rfl,p,q⟩;exact .cons p (nA.mp q)
  ·intro h;cases h with
   |cons p q=>exact⟨_,_,rfl,p,nA.mpr q⟩
@[simp] theorem Di {H:Hp} {v:V}:Rep H .non v↔v=.non:=by rw[Rep]
@[simp] theorem pe {H:Hp} {v:V} {b:Bool}:Rep H (.bl b) v↔v=.bl b:=by rw[Rep]
@[simp] theorem rG {H:Hp} {v:V} {b:Int}:Rep H (.int b) v↔v=.int b:=by rw[Rep]
@[simp] theorem me {H:Hp} {v:V} {b:Str}:Rep H (.str b) v↔v=.str b:=by rw[Rep]
theorem mf{H:Hp}{v:V}{ds:List D}:Rep H (.lst ds) v↔∃a xs,v=.ref a/\Lst H a xs/\P2 (Rep H) ds xs:=by rw[Rep];exact⟨λ⟨a,xs,e,l,r⟩=>⟨a,xs,e,l,nA.mp r⟩,λ⟨a,xs,e,l,r⟩=>⟨a,xs,e,l,nA.mpr r⟩⟩
theorem jY{H:Hp}{v:V}{ds:List D}:Rep H (.tup ds) v↔∃a xs,v=.ref a/\H a=aa (.tup xs)/\P2 (Rep H) ds xs:=by rw[Rep];exact⟨λ⟨a,xs,e,l,r⟩=>⟨a,xs,e,l,nA.mp r⟩,λ⟨a,xs,e,l,r⟩=>⟨a,xs,e,l,nA.mpr r⟩⟩
theorem Lst.same{H H':Hp}{a:ag}{xs:List V}(s:cA H H')(h:Lst H a xs):Lst H' a xs:=by
 rcases h with h|⟨o,h⟩
 ·exact .inl (s _ _ h)
 ·exact .inr ⟨o,s _ _ h⟩
theorem Lst.sq{K:aI}{H:Hp}{a:ag}{xs:List V}(h:Lst H a xs):dw K H a xs:=.inl h
mutual
theorem j1{H H':Hp}(s:cA H H'):∀{d:D} {v:V},Rep H d v->Rep H' d v
 |.non,v,h=>by rw[Rep]at h ⊢;exact h
 |.bl b,v,h=>by rw[Rep]at h ⊢;exact h
 |.int i,v,h=>by rw[Rep]at h ⊢;exact h
 |.str x,v,h=>by rw[Rep]at h ⊢;exact h
 |.lst ds,v,h=>by
  rw[Rep]at h ⊢;obtain⟨a,xs,e,q,r⟩:=h;exact⟨a,xs,e,q.same s,xo s r⟩
 |.tup ds,v,h=>by
  rw[Rep]at h ⊢;obtain⟨a,xs,e,q,r⟩:=h;exact⟨a,xs,e,s _ _ q,xo s r⟩
theorem xo{H H':Hp}(s:cA H H'):∀{ds:List D} {vs:List V},bx H ds vs->bx H' ds vs
 |[],vs,h=>by rw[bx]at h ⊢;exact h
 |d::ds,vs,h=>by
  rw[bx]at h ⊢;obtain⟨v,r,e,p,q⟩:=h;exact⟨v,r,e,j1 s p,xo s q⟩
end
theorem ft{H H':Hp}(s:cA H H'){ds:List D}{vs:List V}(h:P2 (Rep H) ds vs):P2 (Rep H') ds vs:=h.imp λ_ _=>j1 s
mutual
theorem lI(K:aI){H:Hp}:∀{d:D} {v:V},Rep H d v->L2.Rep K H d v
 |.non,v,h=>by rw[Rep]at h;rw[L2.Rep];exact h
 |.bl b,v,h=>by rw[Rep]at h;rw[L2.Rep];exact h
 |.int i,v,h=>by rw[Rep]at h;rw[L2.Rep];exact h
 |.str x,v,h=>by rw[Rep]at h;rw[L2.Rep];exact h
 |.lst ds,v,h=>by
  rw[Rep]at h;rw[L2.Rep];obtain⟨a,xs,e,q,r⟩:=h;exact⟨a,xs,e,q.sq,uR K r⟩
 |.tup ds,v,h=>by
  rw[Rep]at h;rw[L2.Rep];obtain⟨a,xs,e,q,r⟩:=h;exact⟨a,xs,e,.inl (.inl q),uR K r⟩
theorem uR(K:aI){H:Hp}:∀{ds:List D} {vs:List V},bx H ds vs->L2.bx K H ds vs
 |[],vs,h=>by rw[bx]at h;rw[L2.bx];exact h
 |d::ds,vs,h=>by
  rw[bx]at h;rw[L2.bx];obtain⟨v,r,e,p,q⟩:=h;exact⟨v,r,e,lI K p,uR K q⟩
end
def NT:HO->Prop
 |.tbl _ _=>False
 |_=>True
def NW:HO->Prop
 |.tbl _ _=>False
 |.frz _ (.lst _)=>False
 |_=>True
theorem NW.nt:∀{o:HO},NW o->NT o:=λ{o} c=>by cases o<;>first|exact c.elim|trivial
structure Old(H H':Hp):Prop where
 nt:∀a o,H a=aa o->NT o->H' a=aa o
 dom:∀a,H' a=ac->H a=ac
 tb:∀a w ps,H a=aa (.tbl w ps)->∃ps',H' a=aa (.tbl w ps')
theorem Old.at{H H':Hp}(s:Old H H'){a:ag}{o:HO}(q:H a=aa o)(n:NT o:=by trivial):H' a=aa o:=s.nt a o q n
theorem Old.free{H H':Hp}(s:Old H H'){a:ag}(h:H' a=ac):H a=ac:=s.dom a h
theorem Old.refl(H:Hp):Old H H:=⟨λ_ _ e _=>e,λ_ e=>e,λ_ _ ps e=>⟨ps,e⟩⟩
theorem Old.trans{H H1 H2:Hp}(a:Old H H1)(b:Old H1 H2):Old H H2:=⟨λx o e n=>b.nt x o (a.nt x o e n) n,λx e=>a.dom x (b.dom x e),λx w ps e=>let ⟨p1,e1⟩:=a.tb x w ps e;b.tb x w p1 e1⟩
theorem Old.of{H H':Hp}(s:cA H H'):Old H H':=⟨λa o e _=>s a o e,λa e=>s.free e,λa w ps e=>⟨ps,s a _ e⟩⟩
theorem Old.tab{H H':Hp}(s:Old H H'){a:ag}{w:Str}{ps:Array ah}{o:HO}(q:H a=aa (.tbl w ps))(n:NT o):¬ H' a=aa o:=λe=>by
 obtain⟨p,z⟩:=s.tb a w ps q;rw[e]at z;cases z;exact n
theorem Old.put{H0 H:Hp}(s:Old H0 H){p:ag}{o u:HO}(h0:H0 p=ac)(h:H p=aa u):Old H0 (upd H p o):=
 ⟨λa v e n=>by rw[aN (dz e h0)];exact s.nt a v e n,λa e=>by
  by_cases hp:a=p
  ·subst hp;exact h0
  ·rw[aN hp]at e;exact s.dom a e,λa w ps e=>by rw[aN (dz e h0)];exact s.tb a w ps e⟩
def gz(c:ag)(q:Str):aL->Prop:=λh=>∃o vs t,h.get? c=aa o/\o.data=.fields vs/\vs[1]? = aa (.str q t)
class bY where
 l:List (ag×Str)
 cl:String->ag
variable[Tb:bY]
structure gJ(H:Hp):Prop where
 has:∀p∈Tb.l,∃ps,H p.1=aa (.tbl p.2 ps)
 cd:∀T q ps,H T=aa (.tbl q ps)->qb ps.toList/\∀pos v,codeAmong pos ps.toList=aa v->∃c,v=.ref c/\H c=aa (.ext (gz c q))
 fz:∀a o xs,H a=aa (.frz o (.lst xs))->∀x∈xs,∃i,x=V.int i
theorem gJ.new{H:Hp}(k:gJ H){p:ag}{o:HO}(h:H p=ac)(n:NW o):gJ (upd H p o):=⟨λr hr=>let ⟨ps,e⟩:=k.has r hr;⟨ps,by rw[aN (dz e h)];exact e⟩,λT q ps e=>by
 by_cases hp:T=p
 ·subst hp;rw[bG]at e;cases e;exact n.elim
 ·rw[aN hp]at e;obtain⟨t,r⟩:=k.cd T q ps e;refine⟨t,λpos v z=>?_⟩;obtain⟨c,e1,e2⟩:=r pos v z;exact⟨c,e1,by rw[aN (dz e2 h)];exact e2⟩,λa q xs e=>by
 by_cases hp:a=p
 ·subst hp;rw[bG]at e;cases e;exact n.elim
 ·rw[aN hp]at e;exact k.fz a q xs e⟩
def Cell:HO->Prop
 |.lst _=>True
 |.dK _=>True
 |.dT _=>True
 |.ext _=>True
 |_=>False
theorem Cell.nw:∀{o:HO},Cell o->NW o:=λ{o} c=>by cases o<;>first|exact c.elim|trivial
theorem Cell.nt:∀{o:HO},Cell o->NT o:=λ{o} c=>by cases o<;>first|exact c.elim|trivial
def qT:HO->Prop
 |.lst _=>True
 |.dK _=>True
 |.dT _=>True
 |_=>False
theorem qT.cell:∀{o:HO},qT o->Cell o:=λ{o} c=>by cases o<;>first|exact c.elim|trivial
theorem gJ.put{H:Hp}(k:gJ H){p:ag}{o u:HO}(h:H p=aa u)(c:qT u)(n:NW o):gJ (upd H p o):=⟨λr hr=>let ⟨ps,e⟩:=k.has r hr;⟨ps,by rw[aN (λy=>by rw[y,h]at e;cases e;exact c.elim)];exact e⟩,λT q ps e=>by
 by_cases hp:T=p
 ·subst hp;rw[bG]at e;cases e;exact n.elim
 ·rw[aN hp]at e;obtain⟨t,r⟩:=k.cd T q ps e;refine⟨t,λpos v z=>?_⟩;obtain⟨x,e1,e2⟩:=r pos v z;refine⟨x,e1,?_⟩;rw[aN (λy=>by subst y;rw[h]at e2;cases e2;exact c.elim)];exact e2,λa q xs e=>by
 by_cases hp:a=p
 ·subst hp;rw[bG]at e;cases e;exact n.elim
 ·rw[aN hp]at e;exact k.fz a q xs e⟩
structure Vw(H Hv:Hp):Prop where
 sub:cA Hv H
 tup:∀a xs,H a=aa (.tup xs)->Hv a=aa (.tup xs)
 frz:∀a o u,H a=aa (.frz o u)->Hv a=aa (.frz o u)
 cd:gJ H
 nv:∀a o,Hv a=aa o->NT o
structure bC(H Hv H' Hv':Hp):Prop where
 old:Old H H'
 vis:cA Hv Hv'
 vw:Vw H' Hv'
 hid:∀a o,H a=aa o->Hv a=ac->Hv' a=ac
theorem bC.refl{H Hv:Hp}(v:Vw H Hv):bC H Hv H Hv:=⟨Old.refl _,cA.refl _,v,λ_ _ _ e=>e⟩
theorem Old.some{H H':Hp}(s:Old H H'){a:ag}{o:HO}(q:H a=aa o):∃o',H' a=aa o':=by
 cases h:H' a with
 |none=>rw[s.dom a h]at q;cases q
 |some o'=>exact⟨o',rfl⟩
theorem bC.trans{H Hv H1 Hv1 H2 Hv2:Hp}(g:bC H Hv H1 Hv1)(k:bC H1 Hv1 H2 Hv2):bC H Hv H2 Hv2:=⟨g.old.trans k.old,g.vis.trans k.vis,k.vw,λa o e n=>let ⟨o',e'⟩:=g.old.some e;k.hid a o' e' (g.hid a o e n)⟩
theorem mR{H Hv:Hp}(v:Vw H Hv){p:ag}(h:H p=ac):Hv p=ac:=v.sub.free h
theorem bC.new{H Hv:Hp}(v:Vw H Hv){p:ag}{o:HO}(h:H p=ac)(nt:NW o:=by trivial):bC H Hv (upd H p o) (upd Hv p o):=by
 refine⟨.of (qH h),qH (mR v h),⟨λb u e=>?_,λb xs e=>?_,λb q u e=>?_,v.cd.new h nt,λb u e=>?_⟩,λb u e n=>?_⟩
 ·by_cases hb:b=p
  ·subst hb;rw[bG]at e ⊢;exact e
  ·rw[aN hb]at e ⊢;exact v.sub b u e
 ·by_cases hb:b=p
  ·subst hb;rw[bG]at e ⊢;exact e
  ·rw[aN hb]at e ⊢;exact v.tup b xs e
 ·by_cases hb:b=p
  ·subst hb;rw[bG]at e ⊢;exact e
  ·rw[aN hb]at e ⊢;exact v.frz b q u e
 ·by_cases hb:b=p
  ·subst hb;rw[bG]at e;cases e;exact nt.nt
  ·rw[aN hb]at e;exact v.nv b u e
 ·rw[aN (dz e h)];exact n
theorem bC.oN{H Hv:Hp}(v:Vw H Hv){p:ag}{o:HO}(c:Cell o)(h:H p=ac):bC H Hv (upd H p o) Hv:=by
 refine⟨.of (qH h),cA.refl _,⟨λb u e=>?_,λb xs e=>?_,λb q u e=>?_,v.cd.new h c.nw,v.nv⟩,λb u e n=>n⟩
 ·rw[aN (dz (v.sub b u e) h)];exact v.sub b u e
 ·by_cases hb:b=p
  ·subst hb;rw[bG]at e;cases e;exact c.elim
  ·rw[aN hb]at e;exact v.tup b xs e
 ·by_cases hb:b=p
  ·subst hb;rw[bG]at e;cases e;exact c.elim
  ·rw[aN hb]at e;exact v.frz b q u e
theorem Vw.show{H Hv:Hp}(v:Vw H Hv){a:ag}{o:HO}(h:H a=aa o)(n:Hv a=ac)(nt:NT o):Vw H (upd Hv a o)/\cA Hv (upd Hv a o):=by
 refine⟨⟨λb u e=>?_,λb xs e=>?_,λb q u e=>?_,v.cd,λb u e=>?_⟩,qH n⟩
 ·by_cases hb:b=a
  ·subst hb;rw[bG]at e;rw[h];exact e
  ·rw[aN hb]at e;exact v.sub b u e
 ·by_cases hb:b=a
  ·subst hb;rw[bG];rw[h]at e;exact e
  ·rw[aN hb];exact v.tup b xs e
 ·by_cases hb:b=a
  ·subst hb;rw[bG];rw[h]at e;exact e
  ·rw[aN hb];exact v.frz b q u e
 ·by_cases hb:b=a
  ·subst hb;rw[bG]at e;cases e;exact nt
  ·rw[aN hb]at e;exact v.nv b u e
theorem Lst.old{H H':Hp}{a:ag}{xs:List V}(s:Old H H')(h:Lst H a xs):Lst H' a xs:=by
 rcases h with h|⟨o,h⟩
 ·exact .inl (s.at h)
 ·exact .inr ⟨o,s.at h⟩
mutual
theorem D8{H H':Hp}(t:∀a xs,H a=aa (.tup xs)->H' a=aa (.tup xs)):∀{d:D} {v:V},Mi.uf d=true->Rep H d v->Rep H' d v
 |.non,v,_,h=>by rw[Rep]at h ⊢;exact h
 |.bl b,v,_,h=>by rw[Rep]at h ⊢;exact h
 |.int i,v,_,h=>by rw[Rep]at h ⊢;exact h
 |.str x,v,_,h=>by rw[Rep]at h ⊢;exact h
 |.lst ds,v,z,h=>by rw[Mi.uf]at z;cases z
 |.tup ds,v,z,h=>by
  rw[Mi.uf]at z;rw[Rep]at h ⊢;obtain⟨a,xs,e,q,r⟩:=h;exact⟨a,xs,e,t _ _ q,EC t z r⟩
theorem EC{H H':Hp}(t:∀a xs,H a=aa (.tup xs)->H' a=aa (.tup xs)):∀{ds:List D} {vs:List V},Mi.jy ds=true->bx H ds vs->bx H' ds vs
 |[],vs,_,h=>by rw[bx]at h ⊢;exact h
 |d::ds,vs,z,h=>by
  rw[Mi.jy,mD]at z;rw[bx]at h ⊢;obtain⟨v,r,e,p,q⟩:=h;exact⟨v,r,e,D8 t z.1 p,EC t z.2 q⟩
end
def eM{κ:Type}(H:Hp)(ak:List (κ×D))(kv:List (κ×V)):Prop:=P2 (λp q=>p.1=q.1/\Rep H p.2 q.2) ak kv
theorem eM.same{κ:Type}{H H':Hp}(s:cA H H'){ak:List (κ×D)}{kv:List (κ×V)}(h:eM H ak kv):eM H' ak kv:=P2.imp (λ_ _ z=>⟨z.1,j1 s z.2⟩) h
def d6(Hv:Hp):W->HO->Prop
 |.d (.lst ds),.lst xs=>P2 (Rep Hv) ds xs
 |.dk ak,.dK kv=>eM Hv ak kv
 |.dt ak,.dT kv=>eM Hv ak kv
 |_,_=>False
theorem d6.same{H H':Hp}(s:cA H H'):∀{w:W} {o:HO},d6 H w o->d6 H' w o:=λ{w o} h=>by
 cases w with
 |d x=>
  cases x with
  | lst ds=>cases o with
   |lst xs=>exact ft s h
   |_=>exact h.elim
  |_=>cases o<;>exact h.elim
 | dk ak=>cases o with
  |dK kv=>exact eM.same s h
  |_=>exact h.elim
 | dt ak=>cases o with
  |dT kv=>exact eM.same s h
  |_=>exact h.elim
 |df ak=>exact h.elim
 |ex c=>exact h.elim
 |fn c=>exact h.elim
theorem d6.CP{H:Hp}{w:W}{o:HO}(h:d6 H w o):qT o:=by
 cases w with
 |d x=>
  cases x with
  | lst ds=>cases o with
   |lst xs=>trivial
   |_=>exact h.elim
  |_=>cases o<;>exact h.elim
 | dk ak=>cases o with
  |dK kv=>trivial
  |_=>exact h.elim
 | dt ak=>cases o with
  |dT kv=>trivial
  |_=>exact h.elim
 |df ak=>exact h.elim
 |ex c=>exact h.elim
 |fn c=>exact h.elim
theorem d6.cell{H:Hp}{w:W}{o:HO}(h:d6 H w o):Cell o:=h.CP.cell
theorem d6.nw{H:Hp}{w:W}{o:HO}(h:d6 H w o):NW o:=h.cell.nw
theorem d6.nt{H:Hp}{w:W}{o:HO}(h:d6 H w o):NT o:=h.cell.nt
def iI(a C:ag):aL->Prop:=λh=>∃o,h.get? a=aa o/\o.cls=.ref C/\o.dict=ac/\∃vs,o.data=.fields vs
def fH(H:Hp):W->V->Prop
 |.d x,v=>Rep H x v
 |.dk ak,v=>∃a kv,v=.ref a/\H a=aa (.dK kv)/\eM H ak kv
 |.dt ak,v=>∃a kv,v=.ref a/\H a=aa (.dT kv)/\eM H ak kv
 |.df ak,v=>∃a ob kv,v=.ref a/\H a=aa (.frz ob (.dT kv))/\eM H ak kv
 |.ex c,v=>∃a,v=.ref a/\H a=aa (.ext (iI a (Tb.cl c)))
 |.fn κ aJ,v=>v=.ref κ.a/\H κ.c=aa (.ext (gz κ.c κ.q))/\P2 (λd a=>Rep H d (.ref a)) aJ κ.ga
theorem oR{H H':Hp}(s:cA H H'):∀{w:W} {v:V},fH H w v->fH H' w v
 |.d x,v,h=>j1 (d:=x) s h
 |.dk ak,v,⟨a,kv,e,q,r⟩=>⟨a,kv,e,s _ _ q,r.same s⟩
 |.dt ak,v,⟨a,kv,e,q,r⟩=>⟨a,kv,e,s _ _ q,r.same s⟩
 |.df ak,v,⟨a,ob,kv,e,q,r⟩=>⟨a,ob,kv,e,s _ _ q,r.same s⟩
 |.ex c,v,⟨a,e,q⟩=>⟨a,e,s _ _ q⟩
 |.fn κ aJ,v,⟨e,q,r⟩=>⟨e,s _ _ q,r.imp λ_ _ z=>j1 s z⟩
theorem uT{H:Hp}{w:W}{a:ag}{o:HO}(h:H a=aa o)(c:d6 H w o):fH H w (.ref a):=by
 cases w with
 |d x=>
  cases x with
  | lst ds=>cases o with
   |lst xs=>exact mf.mpr ⟨a,xs,rfl,.inl h,c⟩
   |_=>exact c.elim
  |_=>cases o<;>exact c.elim
 | dk ak=>cases o with
  |dK kv=>exact⟨a,kv,rfl,h,c⟩
  |_=>exact c.elim
 | dt ak=>cases o with
  |dT kv=>exact⟨a,kv,rfl,h,c⟩
  |_=>exact c.elim
 |df ak=>exact c.elim
 |ex z=>exact c.elim
 |fn z=>exact c.elim
def Own(H Hv:Hp)(w:W)(v:V):Prop:=∃a o,v=.ref a/\H a=aa o/\Hv a=ac/\d6 Hv w o
def RB(H Hv:Hp)(w:W)(v:V):Prop:=fH Hv w v\/∃a o,v=.ref a/\H a=aa o/\d6 Hv w o
theorem RB.grow{H Hv H' Hv':Hp}(g:bC H Hv H' Hv'){w:W}{v:V}(h:RB H Hv w v):RB H' Hv' w v:=by
 rcases h with h|⟨a,o,e,q,c⟩
 ·exact .inl (oR g.vis h)
 ·exact .inr ⟨a,o,e,g.old.at q c.nt,c.same g.vis⟩
theorem Own.grow{H Hv H' Hv':Hp}(g:bC H Hv H' Hv'){w:W}{v:V}(h:Own H Hv w v):Own H' Hv' w v:=by obtain⟨a,o,e,q,n,c⟩:=h;exact⟨a,o,e,g.old.at q c.nt,g.hid _ _ q n,c.same g.vis⟩
theorem RB.full{H Hv:Hp}(v:Vw H Hv){w:W}{x:V}(h:RB H Hv w x):fH H w x:=by
 rcases h with h|⟨a,o,rfl,q,c⟩
 ·exact oR v.sub h
 ·exact uT q (c.same v.sub)
abbrev RD(H Hv:Hp)(d:D)(v:V):Prop:=RB H Hv (.d d) v
theorem RD.rV{H Hv:Hp}{d:D}{v:V}(h:RD H Hv d v)(n:∀ds,d≠.lst ds):Rep Hv d v:=by
 rcases h with h|⟨a,o,e,q,c⟩
 ·exact h
 ·cases d with
  |lst ds=>exact absurd rfl (n ds)
  |_=>cases o<;>exact c.elim
theorem RD.lst{H Hv:Hp}(w:Vw H Hv){ds:List D}{v:V}(h:RD H Hv (.lst ds) v):∃a xs,v=.ref a/\Lst H a xs/\P2 (Rep Hv) ds xs:=by
 rcases h with h|⟨a,o,e,q,c⟩
 ·obtain⟨a,xs,e,l,r⟩:=mf.mp h;exact⟨a,xs,e,l.same w.sub,r⟩
 ·cases o with
  |lst xs=>exact⟨a,xs,e,.inl q,c⟩
  |_=>exact c.elim
theorem RD.tup{H Hv:Hp}(w:Vw H Hv){ds:List D}{v:V}(h:RD H Hv (.tup ds) v):∃a xs,v=.ref a/\H a=aa (.tup xs)/\Hv a=aa (.tup xs)/\P2 (Rep Hv) ds xs:=by obtain⟨a,xs,e,l,r⟩:=jY.mp (h.rV λ_ z=>by cases z);exact⟨a,xs,e,w.sub _ _ l,l,r⟩
theorem RD.int{H Hv:Hp}{i:Int}{v:V}(h:RD H Hv (.int i) v):v=.int i:=rG.mp (h.rV λ_ z=>by cases z)
theorem RD.str{H Hv:Hp}{i:Str}{v:V}(h:RD H Hv (.str i) v):v=.str i:=me.mp (h.rV λ_ z=>by cases z)
theorem RD.bl{H Hv:Hp}{i:Bool}{v:V}(h:RD H Hv (.bl i) v):v=.bl i:=pe.mp (h.rV λ_ z=>by cases z)
theorem RD.non{H Hv:Hp}{v:V}(h:RD H Hv .non v):v=.non:=Di.mp (h.rV λ_ z=>by cases z)
theorem RD.full{H Hv:Hp}(v:Vw H Hv){d:D}{x:V}(h:RD H Hv d x):Rep H d x:=RB.full v h
abbrev Kd:=Hp->Hp->Hp->W->V->Prop
def qP:Kd:=λ_ H' Hv' w v=>RB H' Hv' w v
def qV:Kd:=λ_ _ Hv' w v=>fH Hv' w v
def qN:Kd:=λH H' Hv' w v=>∃a o,v=.ref a/\H a=ac/\H' a=aa o/\Hv' a=ac/\d6 Hv' w o
theorem iD{H H' Hv':Hp}{i:Int}:qV H H' Hv' (.d (.int i)) (.int i):=(rG (H:=Hv')).mpr rfl
theorem oq{H H' Hv':Hp}{i:Str}:qV H H' Hv' (.d (.str i)) (.str i):=(me (H:=Hv')).mpr rfl
theorem fv{H H' Hv':Hp}{i:Bool}:qV H H' Hv' (.d (.bl i)) (.bl i):=(pe (H:=Hv')).mpr rfl
theorem yC{H H' Hv':Hp}:qV H H' Hv' (.d .non) .non:=(Di (H:=Hv')).mpr rfl
class KM (κ:Kd):Prop where
 mono:∀{H H1 H' Hv' w v},Old H H1->κ H1 H' Hv' w v->κ H H' Hv' w v
instance:KM qP:=⟨λ_ h=>h⟩
instance:KM qV:=⟨λ_ h=>h⟩
instance:KM qN:=⟨λs ⟨a,o,e,n,r⟩=>⟨a,o,e,s.free n,r⟩⟩
structure R0(M:Nat->Bool)(e:Mi.Env)(σ:L2.St)(H Hv:Hp):Prop where
 vw:Vw H Hv
 len:σ.length=e.length
 nob:∀i w,e[i]? = aa (aa w)->M i=false->∃v,σ[i]? = aa (aa v)/\fH Hv w v
 own:∀i w,e[i]? = aa (aa w)->M i=true->∃v,σ[i]? = aa (aa v)/\Own H Hv w v
theorem R0.grow{M:Nat->Bool}{e:Mi.Env}{σ:L2.St}{H Hv H' Hv':Hp}(r:R0 M e σ H Hv)(g:bC H Hv H' Hv'):R0 M e σ H' Hv':=⟨g.vw,r.len,λi w h m=>let ⟨v,q,z⟩:=r.nob i w h m;⟨v,q,oR g.vis z⟩,λi w h m=>let ⟨v,q,z⟩:=r.own i w h m;⟨v,q,z.grow g⟩⟩
structure R1(M:Nat->Bool)(H0 Hv0:Hp)(e:Mi.Env)(σ:L2.St)(H Hv:Hp):Prop extends R0 M e σ H Hv where
 gw:bC H0 Hv0 H Hv
 fresh:∀i w a,e[i]? = aa (aa w)->M i=true->σ[i]? = aa (aa (.ref a))->H0 a=ac
 sep:∀i j w w' a b,i≠j->e[i]? = aa (aa w)->e[j]? = aa (aa w')->M i=true->M j=true->σ[i]? = aa (aa (.ref a))->σ[j]? = aa (aa (.ref b))->a≠b
theorem R1.grow{M:Nat->Bool}{H0 Hv0:Hp}{e:Mi.Env}{σ:L2.St}{H Hv H' Hv':Hp}(r:R1 M H0 Hv0 e σ H Hv)(g:bC H Hv H' Hv'):R1 M H0 Hv0 e σ H' Hv':=⟨r.toR0.grow g,r.gw.trans g,r.fresh,r.sep⟩
end A
namespace A
open PySem L2 PyProof.Rows
open Mi (D W Rs Fin aE)
variable[Tb:bY]
abbrev pE:=Mi.Env
class KG (κ:Kd):Prop where
 go:∀{H H1 Hv1 H2 Hv2 w v},bC H1 Hv1 H2 Hv2->κ H H1 Hv1 w v->κ H H2 Hv2 w v
instance:KG qP:=⟨λg h=>h.grow g⟩
instance:KG qV:=⟨λg h=>oR g.vis h⟩
instance:KG qN:=⟨λg ⟨a,o,e,n,q,z,c⟩=>⟨a,o,e,n,g.old.at q c.nt,g.hid _ _ q z,c.same g.vis⟩⟩
def AW(M:Nat->Bool)(κ:Kd)(t:TE)(m:Mi.EW):Prop:=∀e σ H Hv Q,R0 M e σ H Hv->Fin (m e) (λw=>∀v H' Hv',bC H Hv H' Hv'->κ H H' Hv' w v->Q v H')->t σ H Q
def AE(M:Nat->Bool)(κ:Kd)(t:TE)(m:Mi.E):Prop:=∀e σ H Hv Q,R0 M e σ H Hv->Fin (m e) (λd=>∀v H' Hv',bC H Hv H' Hv'->κ H H' Hv' (.d d) v->Q v H')->t σ H Q
def AT(M:Nat->Bool)(t:TT)(m:Mi.C):Prop:=∀e σ H Hv Q,R0 M e σ H Hv->Fin (m e) (λb=>∀H' Hv',bC H Hv H' Hv'->Q b H')->t σ H Q
def AA(M:Nat->Bool)(κ:Kd)(t:TA)(m:pE->Rs (List D)):Prop:=∀e σ H Hv Q,R0 M e σ H Hv->Fin (m e) (λds=>∀vs H' Hv',bC H Hv H' Hv'->P2 (λd v=>κ H H' Hv' (.d d) v) ds vs->Q vs H')->t σ H Q
def AAW(M:Nat->Bool)(κ:Kd)(t:TA)(m:pE->Rs (List W)):Prop:=∀e σ H Hv Q,R0 M e σ H Hv->Fin (m e) (λws=>∀vs H' Hv',bC H Hv H' Hv'->P2 (λw v=>κ H H' Hv' w v) ws vs->Q vs H')->t σ H Q
def AO(M:Nat->Bool)(t:TO)(m:pE->Rs (Option Int)):Prop:=∀e σ H Hv Q,R0 M e σ H Hv->Fin (m e) (λo=>∀H' Hv',bC H Hv H' Hv'->Q o H')->t σ H Q
section
variable{M:Nat->Bool}{κ:Kd}{t ta tb tc te:TE}{a b c:Mi.E}{r r':R2}{f g:D->D->Rs D}
theorem AE.w(h:AE M κ t a):AW M κ t (Mi.wD a):=λe σ H Hv Q I q=>h e σ H Hv Q I ((aE.mp q).mono λd z=>z)
theorem Kz{H H' Hv':Hp}{w:W}{v:V}(h:qV H H' Hv' w v):qP H H' Hv' w v:=.inl h
theorem Jx{H H' Hv':Hp}{w:W}{v:V}(h:qN H H' Hv' w v):qP H H' Hv' w v:=by obtain⟨a,o,e,_,q,_,c⟩:=h;exact .inr ⟨a,o,e,q,c⟩
theorem CI{H Hv H' Hv':Hp}(g:bC H Hv H' Hv'){w:W}{v:V}(h:qN H H' Hv' w v):∃kn,bC H Hv H' kn/\fH kn w v:=by obtain⟨a,o,rfl,n,q,z,c⟩:=h;obtain⟨vw,s⟩:=g.vw.show q z c.nt;refine⟨upd Hv' a o,⟨g.old,g.vis.trans s,vw,λb u e m=>?_⟩,uT bG (c.same s)⟩;rw[aN (dz e n)];exact g.hid b u e m
theorem AW.nv(h:AW M qN t m):AW M qV t m:=λe σ H Hv Q I q=>h e σ H Hv Q I (q.mono λw z v H' Hv' g k=>let ⟨kn,g',r⟩:=CI g k;z v H' kn g' r)
theorem AE.p(h:AE M qV t a):AE M qP t a:=λe σ H Hv Q I q=>h e σ H Hv Q I (q.mono λw z v H' Hv' g k=>z v H' Hv' g (Kz k))
theorem AE.np(h:AE M qN t a):AE M qP t a:=λe σ H Hv Q I q=>h e σ H Hv Q I (q.mono λw z v H' Hv' g k=>z v H' Hv' g (Jx k))
theorem AE.nv(h:AE M qN t a):AE M qV t a:=λe σ H Hv Q I q=>h e σ H Hv Q I (q.mono λw z v H' Hv' g k=>let ⟨kn,g',r⟩:=CI g k;z v H' kn g' r)
theorem aC{i:Int}:AE M qV (tC (.int i)) (Mi.mC (.int i)):=λe σ H Hv Q I h=>h _ H Hv (.refl I.vw) iD
theorem gQ{i:Str}:AE M qV (tC (.str i)) (Mi.mC (.str i)):=λe σ H Hv Q I h=>h _ H Hv (.refl I.vw) oq
theorem jo{i:Bool}:AE M qV (tC (.bl i)) (Mi.mC (.bl i)):=λe σ H Hv Q I h=>h _ H Hv (.refl I.vw) fv
theorem Px:AE M qV (tC .non) (Mi.mC .non):=λe σ H Hv Q I h=>h _ H Hv (.refl I.vw) yC
theorem EO{e:pE}{i:Nat}{k:D->Prop}(h:Fin (Mi.mV i e) k):∃d,e[i]? = aa (aa (.d d))/\k d:=by
 unfold Mi.mV at h;split at h
 ·exact⟨_,‹_›,h⟩
 ·exact h.elim
theorem oH{e:pE}{i:Nat}{k:W->Prop}(h:Fin (Mi.wV i e) k):∃w,e[i]? = aa (aa w)/\k w:=by
 unfold Mi.wV at h;split at h
 ·exact⟨_,‹_›,h⟩
 ·exact h.elim
theorem DM(i:Nat)(hm:M i=false):AE M qV (eB i) (Mi.mV i):=λe σ H Hv Q I h=>by
 obtain⟨d,he,k⟩:=EO h;obtain⟨v,q,z⟩:=I.nob i _ he hm;exact⟨v,q,k v H Hv (.refl I.vw) z⟩
theorem N8{H Hv:Hp}{w:W}{v:V}(h:Own H Hv w v):RB H Hv w v:=by obtain⟨a,o,e,q,_,c⟩:=h;exact .inr ⟨a,o,e,q,c⟩
theorem R0.any{e:pE}{σ:L2.St}{H Hv:Hp}(I:R0 M e σ H Hv){i:Nat}{w:W}(he:e[i]? = aa (aa w)):∃v,σ[i]? = aa (aa v)/\RB H Hv w v:=by
 cases hm:M i with
 |false=>
  obtain⟨v,q,z⟩:=I.nob i w he hm;exact⟨v,q,.inl z⟩
 |true=>
  obtain⟨v,q,z⟩:=I.own i w he hm;exact⟨v,q,N8 z⟩
theorem ao(i:Nat):AE M qP (eB i) (Mi.mV i):=λe σ H Hv Q I h=>by
 obtain⟨d,he,k⟩:=EO h;obtain⟨v,q,z⟩:=I.any he;exact⟨v,q,k v H Hv (.refl I.vw) z⟩
theorem Oa(i:Nat)(hm:M i=false):AW M qV (eB i) (Mi.wV i):=λe σ H Hv Q I h=>by
 obtain⟨d,he,k⟩:=oH h;obtain⟨v,q,z⟩:=I.nob i _ he hm;exact⟨v,q,k v H Hv (.refl I.vw) z⟩
def B2(κ:Kd)(r:R2)(f:D->D->Rs D):Prop:=∀x y v u H Hv Q,Vw H Hv->RD H Hv x v->RD H Hv y u->Fin (f x y) (λd=>∀w H' Hv',bC H Hv H' Hv'->κ H H' Hv' (.d d) w->Q w H')->r v u H Q
def B1(κ:Kd)(r:V->Hp->VK->Prop)(f:D->Rs D):Prop:=∀x v H Hv Q,Vw H Hv->RD H Hv x v->Fin (f x) (λd=>∀w H' Hv',bC H Hv H' Hv'->κ H H' Hv' (.d d) w->Q w H')->r v H Q
def BN(κ:Kd)(r:List V->Hp->VK->Prop)(f:List D->Rs D):Prop:=∀ds vs H Hv Q,Vw H Hv->P2 (RD H Hv) ds vs->Fin (f ds) (λd=>∀w H' Hv',bC H Hv H' Hv'->κ H H' Hv' (.d d) w->Q w H')->r vs H Q
theorem am[KM κ](hr:B2 κ r f)(ha:AE M qP ta a)(hb:AE M qP tb b):AE M κ (oD r ta tb) (Mi.m2 f a b):=λe σ H Hv Q I h=>
 ha e σ H Hv _ I ((aE.mp h).mono λx hx v H1 Hv1 g1 rx=>hb e σ H1 Hv1 _ (I.grow g1) ((aE.mp hx).mono λy hy u H2 Hv2 g2 ry=>
  hr x y v u H2 Hv2 Q g2.vw (RB.grow g2 rx) ry (hy.mono λd hd w H3 Hv3 g3 rw=>hd w H3 Hv3 (g1.trans (g2.trans g3)) (KM.mono (g1.old.trans g2.old) rw))))
theorem Ft[KM κ]{r:V->Hp->VK->Prop}{f:D->Rs D}(hr:B1 κ r f)(ha:AE M qP ta a):AE M κ (Gv r ta) (Mi.m1 f a):=λe σ H Hv Q I h=>
 ha e σ H Hv _ I ((aE.mp h).mono λx hx v H1 Hv1 g1 rx=>hr x v H1 Hv1 Q g1.vw rx (hx.mono λd hd w H3 Hv3 g3 rw=>hd w H3 Hv3 (g1.trans g3) (KM.mono g1.old rw)))
theorem DQ{x:D}{k:Bool->Prop}(h:Fin (Mi.pO x) k):∃b,x=.bl b/\k b:=by
 cases x with
 |bl b=>exact⟨b,rfl,h⟩
 |_=>exact h.elim
theorem qQ{x:D}{k:Int->Prop}(h:Fin (Mi.m3 x) k):∃b,x=.int b/\k b:=by
 cases x with
 |int b=>exact⟨b,rfl,h⟩
 |_=>exact h.elim
theorem Nv(ha:AE M qP ta a)(hb:AE M qV tb b):AE M qV (Fp ta tb) (Mi.oj a b):=λe σ H Hv Q I h=>
 ha e σ H Hv _ I ((aE.mp h).mono λx hx v H1 Hv1 g1 rx=>by
  obtain⟨k,rfl,hk⟩:=DQ (aE.mp hx);cases RD.bl rx;refine⟨k,rfl,?_⟩;cases k with
  |false=>exact lf (hb e σ H1 Hv1 Q (I.grow g1) (Fin.mono (Mi.ng hk) λd hd w H2 Hv2 g2 rw=>hd w H2 Hv2 (g1.trans g2) rw))
  |true=>exact lr ((Mi.m6 (Mi.mW hk)) _ H1 Hv1 g1 fv))
theorem yR[KM κ]{tt:TT}{k:Mi.C}(hc:AT M tt k)(ha:AE M κ ta a)(hb:AE M κ tb b):AE M κ (E6 tt ta tb) (Mi.lA k a b):=λe σ H Hv Q I h=>
 hc e σ H Hv _ I ((aE.mp h).mono λx hx H1 Hv1 g1=>by
  cases x with
  |true=>exact lr (ha e σ H1 Hv1 Q (I.grow g1) (Fin.mono (Mi.mW hx) λd hd w H2 Hv2 g2 rw=>hd w H2 Hv2 (g1.trans g2) (KM.mono g1.old rw)))
  |false=>exact lf (hb e σ H1 Hv1 Q (I.grow g1) (Fin.mono (Mi.ng hx) λd hd w H2 Hv2 g2 rw=>hd w H2 Hv2 (g1.trans g2) (KM.mono g1.old rw))))
theorem j3:AO M Cd (Mi.iX ac):=λe σ H Hv Q I h=>h H Hv (.refl I.vw)
theorem iW(ha:AE M qP ta a):AO M (FM ta) (Mi.iX (aa a)):=λe σ H Hv Q I h=>
 ha e σ H Hv _ I ((aE.mp h).mono λx hx v H1 Hv1 g1 rx=>by
  obtain⟨i,rfl,hk⟩:=qQ (aE.mp hx);exact⟨i,RD.int rx,hk H1 Hv1 g1⟩)
def BS(κ:Kd)(r:V->Option Int->Option Int->Hp->VK->Prop)(f:D->Option Int->Option Int->Rs D):Prop:=∀x lo hi v H Hv Q,Vw H Hv->RD H Hv x v->Fin (f x lo hi) (λd=>∀w H' Hv',bC H Hv H' Hv'->κ H H' Hv' (.d d) w->Q w H')->r v lo hi H Q
theorem js[KM κ]{r:V->Option Int->Option Int->Hp->VK->Prop}{tl th:TO}{lo hi:Option Mi.E}{f:D->Option Int->Option Int->Rs D}(hr:BS κ r f)(ha:AE M qP ta a)(hl:AO M tl (Mi.iX lo))(hh:AO M th (Mi.iX hi)):AE M κ (CZ r ta tl th) (Mi.cR f a lo hi):=λe σ H Hv Q I h=>
 ha e σ H Hv _ I ((aE.mp h).mono λx hx v H1 Hv1 g1 rx=>hl e σ H1 Hv1 _ (I.grow g1) ((aE.mp hx).mono λl hl H2 Hv2 g2=>hh e σ H2 Hv2 _ (I.grow (g1.trans g2)) ((aE.mp hl).mono λu hu H3 Hv3 g3=>
  hr x l u v H3 Hv3 Q g3.vw (RB.grow (g2.trans g3) rx) (hu.mono λd hd w H4 Hv4 g4 rw=>hd w H4 Hv4 (g1.trans (g2.trans (g3.trans g4))) (KM.mono (g1.old.trans (g2.old.trans g3.old)) rw)))))
theorem gi(ha:AE M qP ta a):AT M (tB ta) (Mi.cB a):=λe σ H Hv Q I h=>
 ha e σ H Hv _ I ((aE.mp h).mono λx hx v H1 Hv1 g1 rx=>by
  obtain⟨k,rfl,hk⟩:=DQ hx;exact⟨k,RD.bl rx,hk H1 Hv1 g1⟩)
theorem cM(ha:AE M qP ta a):AT M (GJ ta) (Mi.cB a):=gi ha
theorem mX{K:aI}(ha:AE M qP ta a):AT M (λσ H Q=>ta σ H λx H'=>∃k,qR K x H' k/\Q k H') (Mi.eK a):=λe σ H Hv Q I h=>
 ha e σ H Hv _ I ((aE.mp h).mono λx hx v H1 Hv1 g1 rx=>by
  cases x with
  |non=>cases RD.non rx;exact⟨false,rfl,hx H1 Hv1 g1⟩
  |bl b=>cases RD.bl rx;exact⟨b,rfl,hx H1 Hv1 g1⟩
  |int i=>cases RD.int rx;exact⟨_,rfl,hx H1 Hv1 g1⟩
  |str y=>
   cases RD.str rx;obtain⟨hz,hq⟩:=Mi.c9 hx;exact⟨_,⟨by rw[eF];exact hz,rfl⟩,hq H1 Hv1 g1⟩
  |lst ds=>
   obtain⟨p,xs,rfl,l,r⟩:=RD.lst g1.vw rx;refine⟨!xs.isEmpty,.inl ⟨xs,l.sq,rfl⟩,?_⟩;have:ds.isEmpty=xs.isEmpty:=by cases r<;>rfl
   rw[<- this];exact hx H1 Hv1 g1
  |tup ds=>
   obtain⟨p,xs,rfl,l,_,r⟩:=RD.tup g1.vw rx;refine⟨!xs.isEmpty,.inr (.inl ⟨xs,.inl (.inl l),rfl⟩),?_⟩;have:ds.isEmpty=xs.isEmpty:=by cases r<;>rfl
   rw[<- this];exact hx H1 Hv1 g1)
variable{tt uu:TT}{k l:Mi.C}
theorem tW(ha:AT M tt k)(hb:AT M uu l):AT M (CK tt uu) (Mi.fq k l):=λe σ H Hv Q I h=>
 ha e σ H Hv _ I ((aE.mp h).mono λx hx H1 Hv1 g1=>by
  cases x with
  |true=>exact lr (hb e σ H1 Hv1 Q (I.grow g1) (Fin.mono (Mi.mW hx) λb hd H2 Hv2 g2=>hd H2 Hv2 (g1.trans g2)))
  |false=>exact lf ((Mi.m6 (Mi.ng hx)) H1 Hv1 g1))
theorem yU(ha:AT M tt k)(hb:AT M uu l):AT M (E4 tt uu) (Mi.ju k l):=λe σ H Hv Q I h=>
 ha e σ H Hv _ I ((aE.mp h).mono λx hx H1 Hv1 g1=>by
  cases x with
  |false=>exact lf (hb e σ H1 Hv1 Q (I.grow g1) (Fin.mono (Mi.ng hx) λb hd H2 Hv2 g2=>hd H2 Hv2 (g1.trans g2)))
  |true=>exact lr ((Mi.m6 (Mi.mW hx)) H1 Hv1 g1))
theorem tI(ha:AT M tt k):AT M (Dp tt) (Mi.iu k):=λe σ H Hv Q I h=>
 ha e σ H Hv _ I ((aE.mp h).mono λx hx H1 Hv1 g1=>hx H1 Hv1 g1)
theorem kF:AT M Dj Mi.ej:=λe σ H Hv Q I h=>h H Hv (.refl I.vw)
variable{tr:TA}{as:List Mi.E}{ws:List Mi.EW}
theorem bh:AA M κ ib (Mi.eS []):=λe σ H Hv Q I h=>h [] H Hv (.refl I.vw) .nil
theorem aU[KM κ][KG κ](ha:AE M κ ta a)(hr:AA M κ tr (Mi.eS as)):AA M κ (gc ta tr) (Mi.eS (a::as)):=λe σ H Hv Q I h=>
 ha e σ H Hv _ I ((aE.mp h).mono λx hx v H1 Hv1 g1 rx=>hr e σ H1 Hv1 _ (I.grow g1) ((aE.mp hx).mono λxs hs vs H2 Hv2 g2 rs=>
  hs (v::vs) H2 Hv2 (g1.trans g2) (.cons (KG.go g2 rx) (rs.imp λ_ _ z=>KM.mono g1.old z))))
theorem bI:AAW M κ ib (Mi.b8 []):=λe σ H Hv Q I h=>h [] H Hv (.refl I.vw) .nil
theorem aH[KM κ][KG κ]{w:Mi.EW}(ha:AW M κ ta w)(hr:AAW M κ tr (Mi.b8 ws)):AAW M κ (gc ta tr) (Mi.b8 (w::ws)):=λe σ H Hv Q I h=>
 ha e σ H Hv _ I ((aE.mp h).mono λx hx v H1 Hv1 g1 rx=>hr e σ H1 Hv1 _ (I.grow g1) ((aE.mp hx).mono λxs hs vs H2 Hv2 g2 rs=>
  hs (v::vs) H2 Hv2 (g1.trans g2) (.cons (KG.go g2 rx) (rs.imp λ_ _ z=>KM.mono g1.old z))))
theorem dc[KM κ]{r:List V->Hp->VK->Prop}{f:List D->Rs D}(hr:BN κ r f)(ha:AA M qP tr (Mi.eS as)):AE M κ (pL r tr) (Mi.mN f as):=λe σ H Hv Q I h=>
 ha e σ H Hv _ I ((aE.mp h).mono λds hx vs H1 Hv1 g1 rx=>hr ds vs H1 Hv1 Q g1.vw rx (hx.mono λd hd w H3 Hv3 g3 rw=>hd w H3 Hv3 (g1.trans g3) (KM.mono g1.old rw)))
theorem oh(ha:AA M qV tr (Mi.eS as)):AE M qV (xh tr) (Mi.mN Mi.dTup as):=λe σ H Hv Q I h=>
 ha e σ H Hv _ I ((aE.mp h).mono λds hx vs H1 Hv1 g1 rx=>by
  obtain⟨hz,hq⟩:=Mi.c9 hx;refine⟨by rw[<- rx.len,eF];exact hz,λp hp=>?_⟩;have g2:bC H1 Hv1 (upd H1 p (.tup vs)) (upd Hv1 p (.tup vs)):=.new g1.vw hp;exact hq _ _ _ (g1.trans g2) (jY.mpr ⟨p,vs,rfl,bG,ft g2.vis rx⟩))
theorem cz(ha:AA M qV tr (Mi.eS as)):AE M qN (BR tr) (Mi.mN Mi.bg as):=λe σ H Hv Q I h=>
 ha e σ H Hv _ I ((aE.mp h).mono λds hx vs H1 Hv1 g1 rx=>by
  obtain⟨hz,hq⟩:=Mi.c9 hx;refine⟨by rw[<- rx.len,eF];exact hz,λp hp=>?_⟩;have g2:bC H1 Hv1 (upd H1 p (.lst vs)) Hv1:=.oN g1.vw trivial hp;exact hq _ _ _ (g1.trans g2) ⟨p,.lst vs,rfl,g1.old.free hp,bG,mR g1.vw hp,rx⟩)
def aP(f:Mi.Fn):Sp:=λvs H Q _=>∃Hv ws,Vw H Hv/\P2 (fH Hv) ws vs/\Fin (f ws) (λw=>∀v H' Hv',bC H Hv H' Hv'->qV H H' Hv' w v->Q v H')
def cD(f:Mi.Fn):Sp:=λvs H Q _=>∃Hv ws,Vw H Hv/\P2 (fH Hv) ws vs/\Fin (f ws) (λw=>∀v H' Hv',bC H Hv H' Hv'->qN H H' Hv' w v->Q v H')
variable{fn:Mi.Fn}{E:XK}
theorem Js(ha:AAW M qV tr (Mi.b8 ws)):AW M qV (lD (aP fn) [] E tr) (Mi.jz fn ws):=λe σ H Hv Q I h=>
 ha e σ H Hv _ I ((aE.mp h).mono λds hx vs H1 Hv1 g1 rx=>by
  rw[kg];exact⟨Hv1,ds,g1.vw,rx,hx.mono λd hd w H3 Hv3 g3 rw=>hd w H3 Hv3 (g1.trans g3) rw⟩)
theorem xG(ha:AAW M qV tr (Mi.b8 ws)):AW M qN (lD (cD fn) [] E tr) (Mi.jz fn ws):=λe σ H Hv Q I h=>
 ha e σ H Hv _ I ((aE.mp h).mono λds hx vs H1 Hv1 g1 rx=>by
  rw[kg];exact⟨Hv1,ds,g1.vw,rx,hx.mono λd hd w H3 Hv3 g3 rw=>hd w H3 Hv3 (g1.trans g3) (KM.mono (κ:=qN) g1.old rw)⟩)
theorem Nh{w:W}{k:D->Prop}(h:Fin (Mi.oX w) k):∃d,w=.d d/\k d:=by
 cases w with
 |d x=>exact⟨x,rfl,h⟩
 |_=>exact h.elim
theorem AW.d{w:Mi.EW}(h:AW M κ t w):AE M κ t (λe=>(w e).bind Mi.oX):=λe σ H Hv Q I q=>
 h e σ H Hv Q I ((aE.mp q).mono λw z v H' Hv' g k=>by
  obtain⟨d,rfl,z⟩:=Nh z;exact z v H' Hv' g k)
theorem eh(ha:AAW M qV tr (Mi.b8 ws)):AE M qV (lD (aP fn) [] E tr) (Mi.ba fn ws):=(Js ha).d
theorem gj(ha:AAW M qV tr (Mi.b8 ws)):AE M qN (lD (cD fn) [] E tr) (Mi.ba fn ws):=(xG ha).d
def iH(H:Hp):Hp:=λa=>match H a with
 |some (.tbl _ _)=>ac
 |x=>x
theorem j0{H:Hp}{a:ag}{o:HO}(h:H a=aa o)(n:NT o):iH H a=aa o:=by unfold iH;rw[h];cases o<;>first|rfl|exact n.elim
theorem vy{H:Hp}{a:ag}{o:HO}(h:iH H a=aa o):H a=aa o/\NT o:=by
 unfold iH at h;cases q:H a with
 |none=>rw[q]at h;cases h
 |some u=>
  rw[q]at h;cases u with
  |tbl w ps=>cases h
  |_=>cases h;exact⟨rfl,trivial⟩
theorem Vw.all{H:Hp}(k:gJ H):Vw H (iH H):=⟨λa o e=>(vy e).1,λa xs e=>j0 e trivial,λa o u e=>j0 e trivial,k,λa o e=>(vy e).2⟩
theorem RB.Lg{H Hv:Hp}(v:Vw H Hv){w:W}{x:V}(h:RB H Hv w x):fH (iH H) w x:=by
 have s:cA Hv (iH H):=λa o e=>j0 (v.sub a o e) (v.nv a o e);rcases h with h|⟨a,o,rfl,q,c⟩
 ·exact oR s h
 ·exact uT (j0 q c.nt) (c.same s)
def seen(H Hv H':Hp):Hp:=λa=>match Hv a,H a with
 |none,aa _=>ac
 |_,_=>iH H' a
theorem PU{H Hv H':Hp}(v:Vw H Hv)(s:Old H H')(k':gJ H'):bC H Hv H' (seen H Hv H'):=by
 have key:∀a,(∃o,H a=aa o/\Hv a=ac/\seen H Hv H' a=ac)\/(seen H Hv H' a=iH H' a/\∀o,H a=aa o->Hv a=aa o):=λa=>by
  cases h1:Hv a with
  |none=>
   cases h2:H a with
   |none=>exact .inr ⟨by unfold seen;rw[h1,h2],λo e=>by cases e⟩
   |some o=>exact .inl ⟨o,rfl,rfl,by unfold seen;rw[h1,h2]⟩
  |some o=>
   refine .inr ⟨by unfold seen;rw[h1],λu e=>?_⟩;rw[v.sub a o h1]at e;exact e
 have back:∀b o,H' b=aa o->NT o->(∃u,H b=aa u)->∃u,H b=aa u:=λ_ _ _ _ z=>z;refine⟨s,λb o e=>?_,⟨λb o e=>?_,λb xs e=>?_,λb q u e=>?_,k',λb o e=>?_⟩,λb o e n=>?_⟩
 ·rcases key b with ⟨u,_,z,_⟩|⟨z,_⟩
  ·rw[e]at z;cases z
  ·rw[z];exact j0 (s.nt b o (v.sub b o e) (v.nv b o e)) (v.nv b o e)
 ·rcases key b with ⟨u,_,_,z⟩|⟨z,_⟩
  ·rw[e]at z;cases z
  ·rw[z]at e;exact(vy e).1
 ·rcases key b with ⟨u,h1,h2,_⟩|⟨z,_⟩
  ·cases u with
   |tbl w ps=>exact absurd e (s.tab h1 trivial)
   |_=>
    have:=s.nt b _ h1 trivial;rw[e]at this;cases this
    try (rw[v.tup b xs h1]at h2;cases h2)
  ·rw[z];exact j0 e trivial
 ·rcases key b with ⟨w,h1,h2,_⟩|⟨z,_⟩
  ·cases w with
   |tbl w ps=>exact absurd e (s.tab h1 trivial)
   |_=>
    have:=s.nt b _ h1 trivial;rw[e]at this;cases this
    try (rw[v.frz b q u h1]at h2;cases h2)
  ·rw[z];exact j0 e trivial
 ·rcases key b with ⟨u,_,_,z⟩|⟨z,_⟩
  ·rw[e]at z;cases z
  ·rw[z]at e;exact(vy e).2
 ·rcases key b with ⟨u,h1,h2,z⟩|⟨z,k⟩
  ·exact z
  ·rw[k o e]at n;cases n
end
end A
namespace A
open PySem L2 PyProof.Rows
open Mi (D W Rs Fin aE Out Tg)
variable[Tb:bY]
structure rY(J:It)(P:Hp->Hp->Prop)(ds:List D):Prop where
 go:∀i H Hv,P H Hv->Vw H Hv->i<ds.length->J.go i H
 yld:∀i H Hv x H',P H Hv->Vw H Hv->i<ds.length->J.yld i H x H'->∃Hv' d,bC H Hv H' Hv'/\ds[i]? = aa d/\Rep Hv' d x
 stop:∀H Hv,P H Hv->Vw H Hv->J.stop ds.length H
def xS(M:Nat->Bool)(wi:TI)(it:Mi.I):Prop:=∀e σ H Hv (R:It->Hp->Prop),R0 M e σ H Hv->Fin (it e) (λds=>∀(J:It) H' Hv' (P:Hp->Hp->Prop),bC H Hv H' Hv'->rY J P ds->P H' Hv'->(∀H1 Hv1 H2 Hv2,P H1 Hv1->bC H1 Hv1 H2 Hv2->P H2 Hv2)->R J H')->wi σ H R
def gv(M:Nat->Bool)(wi:TI)(it:Mi.I):Prop:=∀e σ H Hv (R:It->Hp->Prop),R0 M e σ H Hv->Fin (it e) (λds=>∀(J:It) H' Hv' (P:Hp->Hp->Prop),bC H Hv H' Hv'->rY J P ds->P H' Hv'->(∀H1 Hv1 H2 Hv2,P H1 Hv1->cA Hv1 Hv2->Vw H2 Hv2->P H2 Hv2)->R J H')->wi σ H R
theorem j6{α:Type}{r:Rs α}{k:α->Prop}(h:Fin r k):∃x,r=.ok x/\k x:=by
 cases r with
 |ok x=>exact⟨x,rfl,h⟩
 |_=>exact h.elim
section
variable{M:Nat->Bool}{ta tb:TE}{a b:Mi.E}{wi:TI}{it:Mi.I}{tr:TA}{as:List Mi.E}
theorem gv.c(h:gv M wi it):xS M wi it:=λe σ H Hv R I q=>h e σ H Hv R I (q.mono λds z J H' Hv' P g o p k=>z J H' Hv' P g o p λH1 Hv1 H2 Hv2 p g'=>k H1 Hv1 H2 Hv2 p g'.vis g'.vw)
theorem na{J:It}{Ok:Hp->Prop}{xs:List V}(O:J.Of Ok xs){ds:List D}{P:Hp->Hp->Prop}(ok:∀H Hv,P H Hv->Vw H Hv->Ok H)(r:∀H Hv,P H Hv->P2 (Rep Hv) ds xs)(ex:∃H Hv,P H Hv):rY J P ds:=by
 have hl:ds.length=xs.length:=by obtain⟨H,Hv,p⟩:=ex;exact(r H Hv p).len
 refine⟨λi H Hv p v hi=>O.go i H (ok H Hv p v) (by omega),λi H Hv x H' p v hi y=>?_,λH Hv p v=>by rw[hl];exact O.stop H (ok H Hv p v)⟩;obtain⟨rfl,hx⟩:=O.yld i H x H' (ok H Hv p v) (by omega) y;obtain⟨d,hd,rx⟩:=(r H' Hv p).Dz hx;exact⟨Hv,d,.refl v,hd,rx⟩
def xc(K:aI)(tl:TE):TI:=λσ H R=>CQ K tl σ H R\/Ew K tl σ H R\/DL tl σ H R
theorem f7{X:Cx}{tg l:aW}{tl:TE}(hl:PE X l tl):PI X tg l (xc X.K tl):=λaf s σ H R I h=>by
 rcases h with h|h|h
 ·exact N6 hl af s σ H R I h
 ·exact OM hl af s σ H R I h
 ·exact Kf hl af s σ H R I h
theorem DR(H:Hp)(z:Str):P2 (Rep H) (z.cps.toList.map λc=>D.str ⟨#[c]⟩) (nq z):=by
 unfold nq
 induction z.cps.toList with
 |nil=>exact .nil
 |cons c r ih=>exact .cons (me.mpr rfl) ih
theorem l9{K:aI}(ha:AE M qP ta a):xS M (xc K ta) (Mi.dh a):=λe σ H Hv R I h=>by
 obtain⟨d,hd,h⟩:=j6 (aE.mp h);have run:∀Q:VK,(∀v H' Hv',bC H Hv H' Hv'->RD H' Hv' d v->Q v H')->ta σ H Q:=λQ q=>ha e σ H Hv Q I (by rw[hd];exact q);cases d with
 |lst ds=>
  refine .inl (run _ λv H' Hv' g r=>?_);obtain⟨p,xs,rfl,l,r⟩:=RD.lst g.vw r;exact⟨p,rfl,⟨xs,l.sq⟩,h (qx K p) H' Hv' (λH Hv=>Lst H p xs/\P2 (Rep Hv) ds xs) g (na Ey (λH Hv p v=>p.1.sq) (λH Hv p=>p.2) ⟨H',Hv',l,r⟩) ⟨l,r⟩ λH1 Hv1 H2 Hv2 z g'=>⟨z.1.old g'.old,ft g'.vis z.2⟩⟩
 |tup ds=>
  refine .inr (.inl (run _ λv H' Hv' g r=>?_));obtain⟨p,xs,rfl,l,_,r⟩:=RD.tup g.vw r;exact⟨p,rfl,⟨xs,.inl (.inl l)⟩,h (rE K p) H' Hv' (λH Hv=>H p=aa (.tup xs)/\P2 (Rep Hv) ds xs) g (na Gi (λH Hv p v=>.inl (.inl p.1)) (λH Hv p=>p.2) ⟨H',Hv',l,r⟩) ⟨l,r⟩ λH1 Hv1 H2 Hv2 z g'=>⟨g'.old.at z.1,ft g'.vis z.2⟩⟩
 |str z=>
  refine .inr (.inr (run _ λv H' Hv' g r=>?_));exact⟨z,RD.str r,h (mO z) H' Hv' (λ_ _=>True) g (na BP (λ_ _ _ _=>trivial) (λH Hv _=>DR Hv z) ⟨H,Hv,trivial⟩) trivial λ_ _ _ _ _ _=>trivial⟩
 |_=>exact h.elim
theorem ly{K:aI}(ha:AE M qV ta a):gv M (xc K ta) (Mi.dh a):=λe σ H Hv R I h=>by
 obtain⟨d,hd,h⟩:=j6 (aE.mp h);have run:∀Q:VK,(∀v H' Hv',bC H Hv H' Hv'->Rep Hv' d v->Q v H')->ta σ H Q:=λQ q=>ha e σ H Hv Q I (by rw[hd];exact q);cases d with
 |lst ds=>
  refine .inl (run _ λv H' Hv' g r=>?_);obtain⟨p,xs,rfl,l,r⟩:=mf.mp r;exact⟨p,rfl,⟨xs,(l.same g.vw.sub).sq⟩,h (qx K p) H' Hv' (λH Hv=>Lst Hv p xs/\P2 (Rep Hv) ds xs) g (na Ey (λH Hv p v=>(p.1.same v.sub).sq) (λH Hv p=>p.2) ⟨H',Hv',l,r⟩) ⟨l,r⟩ λH1 Hv1 H2 Hv2 z s v=>⟨z.1.same s,ft s z.2⟩⟩
 |tup ds=>
  refine .inr (.inl (run _ λv H' Hv' g r=>?_));obtain⟨p,xs,rfl,l,r⟩:=jY.mp r;exact⟨p,rfl,⟨xs,.inl (.inl (g.vw.sub _ _ l))⟩,h (rE K p) H' Hv' (λH Hv=>Hv p=aa (.tup xs)/\P2 (Rep Hv) ds xs) g (na Gi (λH Hv p v=>.inl (.inl (v.sub _ _ p.1))) (λH Hv p=>p.2) ⟨H',Hv',l,r⟩) ⟨l,r⟩ λH1 Hv1 H2 Hv2 z s v=>⟨s _ _ z.1,ft s z.2⟩⟩
 |str z=>
  refine .inr (.inr (run _ λv H' Hv' g r=>?_));exact⟨z,me.mp r,h (mO z) H' Hv' (λ_ _=>True) g (na BP (λ_ _ _ _=>trivial) (λH Hv _=>DR Hv z) ⟨H,Hv,trivial⟩) trivial λ_ _ _ _ _ _ _=>trivial⟩
 |_=>exact h.elim
theorem Ly(H:Hp)(lo hi:Int):P2 (Rep H) (Mi.dB lo hi) (mS lo (hi-lo).toNat):=by
 unfold Mi.dB mS
 induction cI (hi-lo).toNat with
 |nil=>exact .nil
 |cons c r ih=>exact .cons (rG.mpr rfl) ih
theorem Ki(lo hi:Int)(H Hv:Hp):rY (pF lo (hi-lo).toNat) (λ_ _=>True) (Mi.dB lo hi):=na J6 (λ_ _ _ _=>trivial) (λH Hv _=>Ly Hv lo hi) ⟨H,Hv,trivial⟩
theorem jt(ha:AE M qP ta a):gv M (Dy (gc ta ib)) (Mi.f8 a):=λe σ H Hv R I h=>
 ha e σ H Hv _ I ((aE.mp h).mono λx hx v H1 Hv1 g1 rx=>by
  obtain⟨j,rfl,hk⟩:=qQ (aE.mp hx);obtain⟨hz,hq⟩:=Mi.c9 hk;cases RD.int rx;refine⟨j,rfl,hz.1,hz.2,?_⟩;have:=hq (pF 0 (j-0).toNat) H1 Hv1 _ g1 (Ki 0 j H Hv) trivial λ_ _ _ _ _ _ _=>trivial;rw[Int.sub_zero]at this;exact this)
end
def vA:List Nat->iz
 |[]=>sj
 |i::r=>qX (gr i) (vA r)
def pN:Tg->List Nat
 |.n i=>[i]
 |.t is=>is
def rX(K:aI):Tg->TG
 |.n i=>gr i
 |.t is=>yY K is.length (vA is)
section
variable{P:Mi.Env->L2.St->Prop}{H Hv:Hp}
theorem yM:∀{is:List Nat} {ds:List D} {xs:List V} {e:Mi.Env} {σ:L2.St} {Q:L2.St->Hp->Prop},(∀i∈is,∀e σ d v,P e σ->Rep Hv d v->P (e.set i (aa (.d d))) (σ.set i (aa v)))->P e σ->P2 (Rep Hv) ds xs ->
 Fin (Mi.lL is ds e) (λe'=>∀σ',P e' σ'->Q σ' H)->vA is xs σ H Q
 |[],[],xs,e,σ,Q,cl,p,r,h=>by
  cases r;exact⟨rfl,h σ p⟩
 |[],_::_,xs,e,σ,Q,cl,p,r,h=>h.elim
 |_::_,[],xs,e,σ,Q,cl,p,r,h=>h.elim
 |i::is,d::ds,xs,e,σ,Q,cl,p,r,h=>by
  cases r with
  |cons x t=>exact⟨_,_,rfl,yM (λj hj=>cl j (eP _ hj)) (cl i dS _ _ _ _ p x) t h⟩
theorem ya:∀{is:List Nat} {ds:List D} {e:Mi.Env} {k:Mi.Env->Prop},Fin (Mi.lL is ds e) k->ds.length=is.length
 |[],[],_,_,_=>rfl
 |[],_::_,_,_,h=>h.elim
 |_::_,[],_,_,h=>h.elim
 |i::is,d::ds,e,k,h=>by rw[bU,bU,ya (is:=is) (ds:=ds) (k:=k) h]
theorem uN{K:aI}(vw:Vw H Hv){tg:Tg}{d:D}{v:V}{e:Mi.Env}{σ:L2.St}{Q:L2.St->Hp->Prop}(cl:∀i∈pN tg,∀e σ d v,P e σ->Rep Hv d v->P (e.set i (aa (.d d))) (σ.set i (aa v)))(p:P e σ)(r:Rep Hv d v)
 (h:Fin (tg.put d e) (λe'=>∀σ',P e' σ'->Q σ' H)):rX K tg v σ H Q:=by
 cases tg with
 |n i=>exact h _ (cl i (by simp[pN]) _ _ _ _ p r)
 |t is=>
  cases d with
  |tup ds=>
   obtain⟨a,xs,e1,l,r⟩:=jY.mp r;exact⟨a,xs,e1,.inl (.inl (vw.sub _ _ l)),by rw[<- r.len];exact ya h,yM cl p r h⟩
  |_=>exact h.elim
end
theorem jk{α:Type}{l:List α}{i j:Nat}{x y:α}(h:(l.set i x)[j]? = aa y):(i=j/\x=y/\i<l.length)\/(i≠j/\l[j]? = aa y):=by
 rw[List.getElem?_set]at h;split at h
 ·split at h
  ·exact .inl ⟨‹_›,fM h,by omega⟩
  ·cases h
 ·exact .inr ⟨‹_›,h⟩
theorem R0.set{M:Nat->Bool}{e:Mi.Env}{σ:L2.St}{H Hv:Hp}(I:R0 M e σ H Hv){i:Nat}{w:W}{v:V}(hm:M i=false)(r:fH Hv w v):R0 M (e.set i (aa w)) (σ.set i (aa v)) H Hv:=by
 refine⟨I.vw,by rw[kh,kh];exact I.len,λj w' h m=>?_,λj w' h m=>?_⟩
 ·rcases jk h with ⟨rfl,h,l⟩|⟨n,h⟩
  ·cases h;exact⟨v,by rw[kP (by rw[I.len];exact l)],r⟩
  ·obtain⟨u,q,z⟩:=I.nob j w' h m;exact⟨u,by rw[eQ n];exact q,z⟩
 ·rcases jk h with ⟨rfl,h,l⟩|⟨n,h⟩
  ·rw[hm]at m;cases m
  ·obtain⟨u,q,z⟩:=I.own j w' h m;exact⟨u,by rw[eQ n];exact q,z⟩
theorem R1.set{M:Nat->Bool}{H0 Hv0:Hp}{e:Mi.Env}{σ:L2.St}{H Hv:Hp}(I:R1 M H0 Hv0 e σ H Hv){i:Nat}{w:W}{v:V}(hm:M i=false)(r:fH Hv w v):R1 M H0 Hv0 (e.set i (aa w)) (σ.set i (aa v)) H Hv:=by
 have nj:∀{j:Nat} {w':W},(e.set i (aa w))[j]? = aa (aa w')->M j=true->i≠j/\e[j]? = aa (aa w'):=λ{j w'} h m=>by
  rcases jk h with ⟨rfl,_,_⟩|⟨n,h⟩
  ·rw[hm]at m;cases m
  ·exact⟨n,h⟩
 refine⟨I.toR0.set hm r,I.gw,λj w' a h m q=>?_,λj k w1 w2 a b hjk h1 h2 m1 m2 q1 q2=>?_⟩
 ·obtain⟨n,h⟩:=nj h m;rw[eQ n]at q;exact I.fresh j w' a h m q
 ·obtain⟨n1,h1⟩:=nj h1 m1;obtain⟨n2,h2⟩:=nj h2 m2;rw[eQ n1]at q1;rw[eQ n2]at q2;exact I.sep j k w1 w2 a b hjk h1 h2 m1 m2 q1 q2
def ny(ρ:List (Option Nat))(M:Nat->Bool):Nat->Bool:=λi=>match ρ[i]? with
 |some (aa j)=>M j
 |_=>false
theorem Bx{α:Type}{ρ:List (Option Nat)}{e:List (Option α)}{i:Nat}{w:α}(h:(ρ.map λo=>o.bind λj=>(e[j]?).join)[i]? = aa (aa w)):∃j,ρ[i]? = aa (aa j)/\e[j]? = aa (aa w):=by
 rw[d8]at h;cases hr:ρ[i]? with
 |none=>rw[hr]at h;cases h
 |some o=>
  rw[hr]at h;cases o with
  |none=>cases h
  |some j=>
   refine⟨j,rfl,?_⟩;have h:(e[j]?).join=aa w:=fM h;cases hq:e[j]? with
   |none=>rw[hq]at h;cases h
   | some o' => rw [hq] at h; have h : o' = aa w := h
                rw[h]
theorem Bw{α:Type}{ρ:List (Option Nat)}{e:List (Option α)}{i j:Nat}{w:α}(h1:ρ[i]? = aa (aa j))(h2:e[j]? = aa (aa w)):(ρ.map λo=>o.bind λj=>(e[j]?).join)[i]? = aa (aa w):=by rw[d8,h1];show aa ((e[j]?).join)=_;rw[h2];rfl
theorem R0.pick{M:Nat->Bool}{e:Mi.Env}{σ:L2.St}{H Hv:Hp}(I:R0 M e σ H Hv)(ρ:List (Option Nat)):R0 (ny ρ M) (Mi.j4 ρ e) (L2.pick ρ σ) H Hv:=by
 refine⟨I.vw,by unfold Mi.j4 L2.pick;rw[bd,bd],λi w h m=>?_,λi w h m=>?_⟩
 ·obtain⟨j,h1,h2⟩:=Bx h;have m:M j=false:=by unfold ny at m;rw[h1]at m;exact m
  obtain⟨v,q,z⟩:=I.nob j w h2 m;exact⟨v,Bw h1 q,z⟩
 ·obtain⟨j,h1,h2⟩:=Bx h;have m:M j=true:=by unfold ny at m;rw[h1]at m;exact m
  obtain⟨v,q,z⟩:=I.own j w h2 m;exact⟨v,Bw h1 q,z⟩
theorem MQ{tg:Tg}{c:Mi.C}{a:Mi.E}{e:Mi.Env}{x:D}{r:List D}{k:List D->Prop}(h:Fin (Mi.dC tg c a e (x::r)) k) :
 Fin (tg.put x e) λe1=>Fin (c e1) λb=>if b=true then Fin (a e1) λy=>Fin (Mi.dC tg c a e r) λys=>k (y::ys)else Fin (Mi.dC tg c a e r) k:=by
 refine(aE.mp h).mono λe1 h1=>(aE.mp h1).mono λb h2=>?_;cases b with
 |true=>exact lr ((aE.mp (Mi.mW h2)).mono λy h3=>(aE.mp h3).mono λys h4=>h4)
 |false=>exact lf (Mi.ng h2)
theorem gy{M:Nat->Bool}{K:aI}{ρ:List (Option Nat)}{wi:TI}{it:Mi.I}{tg:Tg}{tc:TT}{c:Mi.C}{te:TE}{a:Mi.E}(hi:xS M wi it)(hm:∀i∈pN tg,ny ρ M i=false)(hc:AT (ny ρ M) tc c)(he:AE (ny ρ M) qV te a) :
 AE M qN (t9 wi ρ (rX K tg) tc te) (Mi.eL ρ it tg c a):=λe σ H Hv Q I h=>
 hi e σ H Hv _ I ((aE.mp h).mono λds h1 J H1 Hv1 P g1 O p1 per=>by
  obtain⟨hz,h1⟩:=Mi.c9 h1;have h1:=aE.mp h1;have I1:=I.grow g1;refine⟨λi m acc H'=>m=ds.length-i/\i<=ds.length/\∃Hv',bC H1 Hv1 H' Hv'/\P H' Hv'/\acc.length<=i/\∃done,P2 (Rep Hv') done acc/\Fin (Mi.dC tg c a (Mi.j4 ρ e) (ds.drop i)) λys=>∀v H2 Hv2,bC H Hv H2 Hv2->qN H H2 Hv2 (.d (.lst (done++ys))) v->Q v H2,
   ⟨ds.length,by simp,iC _,Hv1,.refl g1.vw,p1,bO _,[],.nil,by rw[nL];exact h1.mono λys z=>z⟩,?_⟩
  rintro i m acc H' ⟨rfl,hle,Hv',g,pp,l,done,pd,hf⟩;by_cases hlt:i<ds.length
  ·refine .inr ⟨O.go i H' Hv' pp g.vw hlt,by rw[eF];omega,λacc' H2=>∃Hv2,bC H1 Hv1 H2 Hv2/\P H2 Hv2/\acc'.length<=i+1/\∃done,P2 (Rep Hv2) done acc'/\Fin (Mi.dC tg c a (Mi.j4 ρ e) (ds.drop (i+1))) λys=>∀v H3 Hv3,bC H Hv H3 Hv3->qN H H3 Hv3 (.d (.lst (done++ys))) v->Q v H3,
    λacc' H2 z=>⟨ds.length-(i+1),by omega,rfl,hlt,z⟩,λx H2 y=>?_⟩
   obtain⟨Hv2,d,g2,hd,rx⟩:=O.yld i H' Hv' x H2 pp g.vw hlt y;have g12:=g.trans g2;have hdr:ds.drop i=d::ds.drop (i+1):=by obtain⟨hl,e1⟩:=dG.mp hd;rw[vN hl,e1]
   rw[hdr]at hf;have hf:=MQ hf;refine uN (P:=λe1 σ1=>R0 (ny ρ M) e1 σ1 H2 Hv2) g2.vw (λj hj e1 σ1 d1 v1 r1 z=>r1.set (hm j hj) z) ((I1.grow g12).pick ρ) rx (hf.mono λe1 hf1 σ1 r1=>?_);refine hc e1 σ1 H2 Hv2 _ r1 (hf1.mono λb hb H3 Hv3 g3=>?_);cases b with
   |true=>
    refine lr (he e1 σ1 H3 Hv3 _ (r1.grow g3) (Fin.mono (by simpa using hb) λy hy v H4 Hv4 g4 ry=>?_));exact⟨Hv4,g12.trans (g3.trans g4),per _ _ _ _ pp (g2.trans (g3.trans g4)),by rw[cC,sI];omega,done++[y],(ft (g2.trans (g3.trans g4)).vis pd).append (.cons ry .nil),hy.mono λys z v H5 Hv5 g5 k=>z v H5 Hv5 g5 (by rw[vS]at k;exact k)⟩
   |false=>exact lf ⟨Hv3,g12.trans g3,per _ _ _ _ pp (g2.trans g3),by omega,done,ft (g2.trans g3).vis pd,by simpa using hb⟩
  ·have hi:i=ds.length:=by omega
   subst hi;refine .inl ⟨O.stop H' Hv' pp g.vw,λp hp=>?_⟩;rw[sH (bO _)]at hf;have g2:bC H' Hv' (upd H' p (.lst acc)) Hv':=.oN g.vw trivial hp;refine hf _ _ _ (g1.trans (g.trans g2)) ⟨p,.lst acc,rfl,(g1.old.trans g.old).free hp,bG,mR g.vw hp,?_⟩;show P2 (Rep Hv') (done++[]) acc;rw[kg];exact pd)
def ik(M:Nat->Bool)(κ:Kd)(H0 Hv0:Hp)(D:Ends)(Hv:Hp):Out->Prop
 |.nx e=>∀σ H' Hv',R1 M H0 Hv0 e σ H' Hv'->cA Hv Hv'->D.nx σ H'
 |.rt w=>∀v H' Hv',bC H0 Hv0 H' Hv'->κ H0 H' Hv' w v->D.rt v H'
 |.bk e=>∀σ H' Hv',R1 M H0 Hv0 e σ H' Hv'->cA Hv Hv'->D.bk σ H'
 |.ct e=>∀σ H' Hv',R1 M H0 Hv0 e σ H' Hv'->cA Hv Hv'->D.ct σ H'
def AS(M:Nat->Bool)(κ:Kd)(t:TS)(m:Mi.S):Prop:=∀H0 Hv0 e σ H Hv D,R1 M H0 Hv0 e σ H Hv->Fin (m e) (ik M κ H0 Hv0 D Hv)->t D σ H
section
variable{M:Nat->Bool}{κ:Kd}{t u:TS}{m n:Mi.S}{te:TE}{a b:Mi.E}{w:Mi.EW}
theorem cV:AS M κ BA Mi.bu:=λH0 Hv0 e σ H Hv D I h=>h σ H Hv I (cA.refl _)
theorem ir:AS M κ E7 Mi.fZ:=λH0 Hv0 e σ H Hv D I h=>h
theorem aX(h1:AS M κ t m)(h2:AS M κ u n):AS M κ (zq t u) (Mi.aD m n):=λH0 Hv0 e σ H Hv D I h=>
 h1 H0 Hv0 e σ H Hv _ I ((aE.mp h).mono λo ho=>by
  cases o with
  |nx e'=>exactλσ' H' Hv' I' s=>h2 H0 Hv0 e' σ' H' Hv' D I' (Fin.mono ho λo z=>by
   cases o with
   |nx e2=>exactλσ2 H2 Hv2 I2 s2=>z σ2 H2 Hv2 I2 (s.trans s2)
   |rt w=>exact z
   |bk e2=>exactλσ2 H2 Hv2 I2 s2=>z σ2 H2 Hv2 I2 (s.trans s2)
   |ct e2=>exactλσ2 H2 Hv2 I2 s2=>z σ2 H2 Hv2 I2 (s.trans s2))
  |rt w=>exact ho
  |bk e'=>exact ho
  |ct e'=>exact ho)
theorem pq(ha:AE M qP te a):AS M κ (oy te) (Mi.gO a):=λH0 Hv0 e σ H Hv D I h=>
 ha e σ H Hv _ I.toR0 ((aE.mp h).mono λd hd v H1 Hv1 g1 r=>hd σ H1 Hv1 (I.grow g1) g1.vis)
theorem bS(i:Nat)(hm:M i=false)(ha:AE M qV te a):AS M κ (jv te (gr i)) (Mi.a4 i a):=λH0 Hv0 e σ H Hv D I h=>
 ha e σ H Hv _ I.toR0 ((aE.mp h).mono λd hd v H1 Hv1 g1 r=>hd _ H1 Hv1 ((I.grow g1).set hm r) g1.vis)
theorem Jw{K:aI}(tg:Tg)(hm:∀i∈pN tg,M i=false)(ha:AE M qV te a):AS M κ (jv te (rX K tg)) (Mi.El tg a):=λH0 Hv0 e σ H Hv D I h=>
 ha e σ H Hv _ I.toR0 ((aE.mp h).mono λd hd v H1 Hv1 g1 r=>
  uN (P:=λe1 σ1=>R1 M H0 Hv0 e1 σ1 H1 Hv1) g1.vw (λj hj e1 σ1 d1 v1 r1 z=>r1.set (hm j hj) z) (I.grow g1) r ((aE.mp hd).mono λe1 h1 σ1 I1=>h1 σ1 H1 Hv1 I1 g1.vis))
theorem fP(ha:AW M qV te w):AS M qV (ux te) (Mi.bL w):=λH0 Hv0 e σ H Hv D I h=>
 ha e σ H Hv _ I.toR0 ((aE.mp h).mono λd hd v H1 Hv1 g1 r=>hd v H1 Hv1 (I.gw.trans g1) r)
theorem ip(ha:AW M qN te w):AS M qN (ux te) (Mi.bL w):=λH0 Hv0 e σ H Hv D I h=>
 ha e σ H Hv _ I.toR0 ((aE.mp h).mono λd hd v H1 Hv1 g1 r=>hd v H1 Hv1 (I.gw.trans g1) (KM.mono (κ:=qN) I.gw.old r))
theorem c8{tt:TT}{c:Mi.C}(hc:AT M tt c)(h1:AS M κ t m)(h2:AS M κ u n):AS M κ (yS tt t u) (Mi.a7 c m n):=λH0 Hv0 e σ H Hv D I h=>
 hc e σ H Hv _ I.toR0 ((aE.mp h).mono λb hb H1 Hv1 g1=>by
  have up:∀o,ik M κ H0 Hv0 D Hv o->ik M κ H0 Hv0 D Hv1 o:=λo z=>by
   cases o with
   |nx e2=>exactλσ2 H2 Hv2 I2 s2=>z σ2 H2 Hv2 I2 (g1.vis.trans s2)
   |rt w=>exact z
   |bk e2=>exactλσ2 H2 Hv2 I2 s2=>z σ2 H2 Hv2 I2 (g1.vis.trans s2)
   |ct e2=>exactλσ2 H2 Hv2 I2 s2=>z σ2 H2 Hv2 I2 (g1.vis.trans s2)
  cases b with
  |true=>exact lr (h1 H0 Hv0 e σ H1 Hv1 D (I.grow g1) (Fin.mono (Mi.mW hb) up))
  |false=>exact lf (h2 H0 Hv0 e σ H1 Hv1 D (I.grow g1) (Fin.mono (Mi.ng hb) up)))
theorem ik.up{H0 Hv0 Hv Hv1:Hp}{D:Ends}(s:cA Hv Hv1){o:Out}(z:ik M κ H0 Hv0 D Hv o):ik M κ H0 Hv0 D Hv1 o:=by
 cases o with
 |nx e2=>exactλσ2 H2 Hv2 I2 s2=>z σ2 H2 Hv2 I2 (s.trans s2)
 |rt w=>exact z
 |bk e2=>exactλσ2 H2 Hv2 I2 s2=>z σ2 H2 Hv2 I2 (s.trans s2)
 |ct e2=>exactλσ2 H2 Hv2 I2 s2=>z σ2 H2 Hv2 I2 (s.trans s2)
theorem iU{K:aI}{wi:TI}{it:Mi.I}{tg:Tg}(hi:gv M wi it)(hm:∀i∈pN tg,M i=false)(hb:AS M κ t m):AS M κ (zh wi (rX K tg) t) (Mi.dL it tg m):=λH0 Hv0 e σ H Hv D I h=>
 hi e σ H Hv _ I.toR0 ((aE.mp h).mono λds h1 J H1 Hv1 P g1 O p1 per=>by
  refine⟨λi k σ' H'=>k=ds.length-i/\i<=ds.length/\∃e' Hv',R1 M H0 Hv0 e' σ' H' Hv'/\P H' Hv'/\Fin (Mi.fu tg m (ds.drop i) e') (ik M κ H0 Hv0 D Hv'),
   ⟨ds.length,by simp,iC _,e,Hv1,I.grow g1,p1,by rw[nL];exact h1.mono λo z=>z.up g1.vis⟩,?_⟩
  rintro i k σ' H' ⟨rfl,hle,e',Hv',I',pp,hf⟩;by_cases hlt:i<ds.length
  ·refine .inr ⟨O.go i H' Hv' pp I'.vw hlt,λσ2 H2=>∃e2 Hv2,R1 M H0 Hv0 e2 σ2 H2 Hv2/\P H2 Hv2/\Fin (Mi.fu tg m (ds.drop (i+1)) e2) (ik M κ H0 Hv0 D Hv2),
    λσ2 H2 z=>⟨ds.length-(i+1),by omega,rfl,hlt,z⟩,λx H2 y=>?_⟩
   obtain⟨Hv2,d,g2,hd,rx⟩:=O.yld i H' Hv' x H2 pp I'.vw hlt y;have I2:=I'.grow g2;have hdr:ds.drop i=d::ds.drop (i+1):=by obtain⟨hl,e1⟩:=dG.mp hd;rw[vN hl,e1]
   rw[hdr]at hf;refine uN (P:=λe1 σ1=>R1 M H0 Hv0 e1 σ1 H2 Hv2) g2.vw (λj hj e1 σ1 d1 v1 r1 z=>r1.set (hm j hj) z) I2 rx ((aE.mp hf).mono λe1 h1 σ1 I1=>?_);refine hb H0 Hv0 e1 σ1 H2 Hv2 _ I1 ((aE.mp h1).mono λo ho=>?_);cases o with
   |nx e2=>exactλσ2 H3 Hv3 I3 s3=>⟨e2,Hv3,I3,per _ _ _ _ pp (g2.vis.trans s3) I3.vw,Fin.mono ho λo z=>z.up (g2.vis.trans s3)⟩
   |ct e2=>exactλσ2 H3 Hv3 I3 s3=>⟨e2,Hv3,I3,per _ _ _ _ pp (g2.vis.trans s3) I3.vw,Fin.mono ho λo z=>z.up (g2.vis.trans s3)⟩
   |bk e2=>exactλσ2 H3 Hv3 I3 s3=>ho σ2 H3 Hv3 I3 (g2.vis.trans s3)
   |rt w=>exact ho
  ·have hi:i=ds.length:=by omega
   subst hi;refine .inl ⟨O.stop H' Hv' pp I'.vw,?_⟩;rw[sH (bO _)]at hf;exact hf σ' H' Hv' I' (cA.refl _))
theorem Du{tt:TT}{c:Mi.C}(k:Nat)(hc:AT M tt c)(hb:AS M κ t m):AS M κ (DI tt t) (Mi.lE k c m):=λH0 Hv0 e σ H Hv D I h=>by
 refine⟨λj σ' H'=>∃e' Hv',R1 M H0 Hv0 e' σ' H' Hv'/\Fin (Mi.jO c m j e') (ik M κ H0 Hv0 D Hv'),⟨k,e,Hv,I,h⟩,?_⟩;rintro j σ' H' ⟨e',Hv',I',hf⟩;cases j with
 |zero=>exact hf.elim
 |succ j=>
  refine hc e' σ' H' Hv' _ I'.toR0 ((aE.mp hf).mono λb hb' H1 Hv1 g1=>?_);cases b with
  |false=>exact lf ((Mi.m6 (Mi.ng hb')) σ' H1 Hv1 (I'.grow g1) g1.vis)
  |true=>
   refine lr ⟨λσ2 H2=>∃e2 Hv2,R1 M H0 Hv0 e2 σ2 H2 Hv2/\Fin (Mi.jO c m j e2) (ik M κ H0 Hv0 D Hv2),λσ2 H2 z=>⟨j,Nat.lt_succ_self j,z⟩,?_⟩;refine hb H0 Hv0 e' σ' H1 Hv1 _ (I'.grow g1) ((aE.mp (Mi.mW hb')).mono λo ho=>?_);cases o with
   |nx e2=>exactλσ2 H2 Hv2 I2 s2=>⟨e2,Hv2,I2,Fin.mono ho λo z=>z.up (g1.vis.trans s2)⟩
   |ct e2=>exactλσ2 H2 Hv2 I2 s2=>⟨e2,Hv2,I2,Fin.mono ho λo z=>z.up (g1.vis.trans s2)⟩
   |bk e2=>exactλσ2 H2 Hv2 I2 s2=>ho σ2 H2 Hv2 I2 (g1.vis.trans s2)
   |rt w=>exact ho
end
end A
namespace A
open PySem L2 PyProof.Rows
open Mi (D W Rs Fin aE Out Tg)
variable[Tb:bY]
section
variable{M:Nat->Bool}{κ:Kd}{te:TE}{a b:Mi.E}{w:Mi.EW}{K:aI}
theorem R1.write{H0 Hv0:Hp}{e:Mi.Env}{σ:L2.St}{H Hv:Hp}(I:R1 M H0 Hv0 e σ H Hv){i:Nat}{w w':W}{p:ag}{o:HO}(hm:M i=true)(he:e[i]? = aa (aa w))(hs:σ[i]? = aa (aa (.ref p)))(c:d6 Hv w' o):R1 M H0 Hv0 (e.set i (aa w')) σ (upd H p o) Hv:=by
 have hp:∃o',H p=aa o'/\Hv p=ac/\qT o':=by obtain⟨v,q,a,o',e1,q1,n,c'⟩:=I.own i w he hm;rw[hs]at q;cases q;cases e1;exact⟨o',q1,n,c'.CP⟩
 obtain⟨o',hp,hn,hcc⟩:=hp;have h0:H0 p=ac:=I.fresh i w p he hm hs;have vw:Vw (upd H p o) Hv:=by
  refine⟨λb u q=>?_,λb xs q=>?_,λb z u q=>?_,I.vw.cd.put hp hcc c.nw,I.vw.nv⟩
  ·rw[aN (dz q hn)];exact I.vw.sub b u q
  ·by_cases hb:b=p
   ·subst hb;rw[bG]at q;cases q;exact c.cell.elim
   ·rw[aN hb]at q;exact I.vw.tup b xs q
  ·by_cases hb:b=p
   ·subst hb;rw[bG]at q;cases q;exact c.cell.elim
   ·rw[aN hb]at q;exact I.vw.frz b z u q
 have get:∀{j:Nat} {w2:W},(e.set i (aa w'))[j]? = aa (aa w2)->(i=j/\w'=w2)\/(i≠j/\e[j]? = aa (aa w2)):=λ{j w2} h=>by
  rcases jk h with ⟨x,y,_⟩|z
  ·exact .inl ⟨x,fM y⟩
  ·exact .inr z
 have get':∀{j:Nat} {w2:W},(e.set i (aa w'))[j]? = aa (aa w2)->∃w3,e[j]? = aa (aa w3):=λ{j w2} h=>by
  rcases get h with ⟨x,_⟩|⟨_,z⟩
  ·subst x;exact⟨w,he⟩
  ·exact⟨w2,z⟩
 refine⟨⟨vw,by rw[kh];exact I.len,λj w2 h m=>?_,λj w2 h m=>?_⟩,⟨I.gw.old.put h0 hp,I.gw.vis,vw,I.gw.hid⟩,λj w2 x h m q=>?_,λj k w1 w2 x y hjk h1 h2 m1 m2 q1 q2=>?_⟩
 ·rcases get h with ⟨rfl,_⟩|⟨_,z⟩
  ·rw[hm]at m;cases m
  ·exact I.nob j w2 z m
 ·rcases get h with ⟨rfl,rfl⟩|⟨n,z⟩
  ·exact⟨.ref p,hs,p,o,rfl,bG,hn,c⟩
  ·obtain⟨v,q,x,u,e1,q1,n1,c1⟩:=I.own j w2 z m;subst e1;have:=I.sep i j w w2 p x n he z hm m hs q;exact⟨.ref x,q,x,u,rfl,by rw[aN (dO this)];exact q1,n1,c1⟩
 ·obtain⟨w3,z⟩:=get' h;exact I.fresh j w3 x z m q
 ·obtain⟨w3,z3⟩:=get' h1;obtain⟨w4,z4⟩:=get' h2;exact I.sep j k w3 w4 x y hjk z3 z4 m1 m2 q1 q2
theorem R1.cell{H0 Hv0:Hp}{e:Mi.Env}{σ:L2.St}{H Hv:Hp}(I:R1 M H0 Hv0 e σ H Hv){i:Nat}{w:W}(hm:M i=true)(he:e[i]? = aa (aa w)):∃p o,σ[i]? = aa (aa (.ref p))/\H p=aa o/\Hv p=ac/\H0 p=ac/\d6 Hv w o:=by obtain⟨v,q,p,o,rfl,q1,n,c⟩:=I.own i w he hm;exact⟨p,o,q,q1,n,I.fresh i w p he hm q,c⟩
theorem nD{e:Mi.Env}{i:Nat}{k:List D->Prop}(h:Fin (Mi.getL e i) k):∃ds,e[i]? = aa (aa (.d (.lst ds)))/\k ds:=by
 unfold Mi.getL at h;split at h
 ·exact⟨_,‹_›,h⟩
 ·exact h.elim
theorem R1.list{H0 Hv0:Hp}{e:Mi.Env}{σ:L2.St}{H Hv:Hp}(I:R1 M H0 Hv0 e σ H Hv){i:Nat}{ds:List D}(hm:M i=true)(he:e[i]? = aa (aa (.d (.lst ds)))):∃p xs,σ[i]? = aa (aa (.ref p))/\H p=aa (.lst xs)/\Hv p=ac/\P2 (Rep Hv) ds xs:=by
 obtain⟨p,o,q,q1,n,_,c⟩:=I.cell hm he;cases o with
 |lst xs=>exact⟨p,xs,q,q1,n,c⟩
 |_=>exact c.elim
theorem R1.name{H0 Hv0:Hp}{e:Mi.Env}{σ:L2.St}{H Hv H1 Hv1:Hp}(I:R1 M H0 Hv0 e σ H Hv)(g:bC H Hv H1 Hv1){i:Nat}{w:W}{v:V}(hm:M i=true)(k:qN H H1 Hv1 w v):R1 M H0 Hv0 (e.set i (aa w)) (σ.set i (aa v)) H1 Hv1:=by
 obtain⟨p,o,rfl,hf,hp,hn,c⟩:=k;have I1:=I.grow g;have other:∀{j:Nat} {w2:W} {x:ag},e[j]? = aa (aa w2)->M j=true->σ[j]? = aa (aa (.ref x))->x≠p:=λ{j w2 x} h m q=>by
  obtain⟨p',o',q',q1,_⟩:=I.cell m h;rw[q]at q';cases q';exact dz q1 hf
 refine⟨⟨I1.vw,by rw[kh,kh];exact I.len,λj w2 h m=>?_,λj w2 h m=>?_⟩,I1.gw,λj w2 x h m q=>?_,λj k w1 w2 x y hjk h1 h2 m1 m2 q1 q2=>?_⟩
 ·rcases jk h with ⟨rfl,_⟩|⟨n,z⟩
  ·rw[hm]at m;cases m
  ·obtain⟨u,q,r⟩:=I1.nob j w2 z m;exact⟨u,by rw[eQ n];exact q,r⟩
 ·rcases jk h with ⟨rfl,h,l⟩|⟨n,z⟩
  ·cases h;exact⟨.ref p,by rw[kP (by rw[I.len];exact l)],p,o,rfl,hp,hn,c⟩
  ·obtain⟨u,q,r⟩:=I1.own j w2 z m;exact⟨u,by rw[eQ n];exact q,r⟩
 ·rcases jk h with ⟨rfl,h,l⟩|⟨n,z⟩
  ·rw[kP (by rw[I.len];exact l)]at q;cases q;exact I.gw.old.free hf
  ·rw[eQ n]at q;exact I.fresh j w2 x z m q
 ·rcases jk h1 with ⟨rfl,_,l⟩|⟨n,z⟩
  ·rw[kP (by rw[I.len];exact l)]at q1;cases q1;rcases jk h2 with ⟨rfl,_,_⟩|⟨n2,z2⟩
   ·exact absurd rfl hjk
   ·rw[eQ n2]at q2;exact dO (other z2 m2 q2)
  ·rw[eQ n]at q1;rcases jk h2 with ⟨rfl,_,l⟩|⟨n2,z2⟩
   ·rw[kP (by rw[I.len];exact l)]at q2;cases q2;exact other z m1 q1
   ·rw[eQ n2]at q2;exact I.sep j k w1 w2 x y hjk z z2 m1 m2 q1 q2
theorem lK(i:Nat)(hm:M i=true)(ha:AE M qN te a):AS M κ (jv te (gr i)) (Mi.a4 i a):=λH0 Hv0 e σ H Hv D I h=>
 ha e σ H Hv _ I.toR0 ((aE.mp h).mono λd hd v H1 Hv1 g1 r=>hd _ H1 Hv1 (I.name g1 hm r) g1.vis)
theorem vn(i:Nat)(hm:M i=true)(ha:AW M qN te w):AS M κ (jv te (gr i)) (Mi.lg i w):=λH0 Hv0 e σ H Hv D I h=>
 ha e σ H Hv _ I.toR0 ((aE.mp h).mono λd hd v H1 Hv1 g1 r=>hd _ H1 Hv1 (I.name g1 hm r) g1.vis)
theorem Ea:AW M qN Df (λ_=>.ok (.dk [])):=λe σ H Hv Q I h p hp=>
 h _ _ Hv (.oN I.vw trivial hp) ⟨p,.dK [],rfl,hp,bG,mR I.vw hp,.nil⟩
theorem Pj:AW M qN Cr (λ_=>.ok (.dt [])):=λe σ H Hv Q I h p hp=>
 h _ _ Hv (.oN I.vw trivial hp) ⟨p,.dT [],rfl,hp,bG,mR I.vw hp,.nil⟩
theorem iw(i:Nat)(hm:M i=true)(ha:AE M qV te a):AS M κ (oy (pP K "list" yt (eB i) (gc te ib))) (Mi.c7 i a):=λH0 Hv0 e σ H Hv D I h=>by
 obtain⟨d,hd,h⟩:=j6 (aE.mp h);obtain⟨ds,he,h⟩:=nD (aE.mp h);obtain⟨hz,h⟩:=Mi.c9 h;obtain⟨p,xs,q,q1,n,c⟩:=I.list hm he;refine⟨.ref p,q,.inl ⟨rfl,xs,.inl (.inl q1)⟩,ha e σ H Hv _ I.toR0 (by
  rw[hd];intro v H1 Hv1 g1 r;have I1:=I.grow g1;refine⟨p,xs,v,rfl,rfl,g1.old.at q1,by rw[<- c.len,eF];exact hz,?_⟩;exact h σ _ Hv1 (I1.write hm he q (show d6 Hv1 (.d (.lst (ds++[d]))) (.lst (xs++[v]))from(ft g1.vis c).append (.cons r .nil))) g1.vis)⟩
theorem JW(i:Nat)(hm:M i=true):AS M κ (oy (vq K "list" FJ (eB i))) (Mi.w9 i):=λH0 Hv0 e σ H Hv D I h=>by
 obtain⟨ds,he,h⟩:=nD (aE.mp h);obtain⟨p,xs,q,q1,n,c⟩:=I.list hm he;exact⟨.ref p,q,.inl ⟨rfl,xs,.inl (.inl q1)⟩,p,xs,rfl,rfl,q1,h σ _ Hv (I.write hm he q (show d6 Hv (.d (.lst ds.reverse)) (.lst xs.reverse)from c.rev)) (cA.refl _)⟩
theorem gI{α:Type}{o:Option α}{k:α->Prop}(h:Fin (Mi.dE o) k):∃x,o=aa x/\k x:=by
 cases o with
 |some x=>exact⟨x,rfl,h⟩
 |none=>exact h.elim
theorem MD(x y:Nat)(hx:M x=false)(hy:M y=true):AS M κ (jv (vq K "list" C9 (eB y)) (gr x)) (Mi.ve x y):=λH0 Hv0 e σ H Hv D I h=>by
 obtain⟨ds,he,h⟩:=nD (aE.mp h);obtain⟨d,hd,h⟩:=gI (aE.mp h);obtain⟨p,xs,q,q1,n,c⟩:=I.list hy he;rw[c.len]at hd;obtain⟨v,hv,r⟩:=c.getL hd;exact⟨.ref p,q,.inl ⟨rfl,xs,.inl (.inl q1)⟩,p,xs,v,rfl,rfl,q1,hv,h _ _ Hv ((I.write hy he q (show d6 Hv (.d (.lst ds.dropLast)) (.lst xs.dropLast)from c.dropLast)).set hx r) (cA.refl _)⟩
theorem Fz{n:Nat}{i:Int}{k:Nat}(h:Mi.en n i=aa k):seqIndex? i n=aa k:=by
 unfold Mi.en at h;split at h
 ·split at h
  ·rw[wa (by omega) (by omega)];exact h
  ·cases h
 ·split at h
  ·rw[v9 (by omega) (by omega)];exact h
  ·cases h
theorem Dr{ds:List D}{i:Int}{k:D×List D->Prop}(h:Fin (Mi.jS ds i) k):-(2 ^ 63)<=i/\i<2 ^ 63/\∃j d,Mi.en ds.length i=aa j/\ds[j]? = aa d/\k (d,ds.eraseIdx j):=by obtain⟨⟨h1,h2⟩,h⟩:=Mi.c9 h;obtain⟨j,hj,h⟩:=gI (aE.mp h);obtain⟨d,hd,h⟩:=gI (aE.mp h);exact⟨h1,h2,j,d,hj,hd,h⟩
theorem yo(x y:Nat)(hx:M x=false)(hy:M y=true)(ha:AE M qP te a):AS M κ (jv (pP K "list" yw (eB y) (gc te ib)) (gr x)) (Mi.ii x y a):=λH0 Hv0 e σ H Hv D I h=>by
 obtain⟨z,hz,h⟩:=j6 (aE.mp h);obtain⟨i,rfl,h⟩:=qQ (aE.mp h);obtain⟨ds,he,h⟩:=nD (aE.mp h);obtain⟨h1,h2,j,d,hj,hd,h⟩:=Dr (aE.mp h);obtain⟨p,xs,q,q1,n,c⟩:=I.list hy he;refine⟨.ref p,q,.inl ⟨rfl,xs,.inl (.inl q1)⟩,ha e σ H Hv _ I.toR0 (by
  rw[hz];intro v H1 Hv1 g1 r;have I1:=I.grow g1;cases RD.int r;obtain⟨u,hu,ru⟩:=c.getL hd;rw[c.len]at hj;refine⟨p,xs,i,j,u,rfl,rfl,g1.old.at q1,h1,h2,Fz hj,hu,?_⟩;exact h _ _ Hv1 ((I1.write hy he q (show d6 Hv1 (.d (.lst (ds.eraseIdx j))) (.lst (xs.eraseIdx j))from(ft g1.vis c).erase j)).set hx (j1 g1.vis ru)) g1.vis)⟩
theorem OS(x y:Nat)(hxy:x≠y)(hx:M x=true)(hy:M y=true)(ha:AE M qP te a):AS M κ (oy (pP K "list" yt (eB x) (gc (pP K "list" yw (eB y) (gc te ib)) ib))) (Mi.uv x y a):=λH0 Hv0 e σ H Hv D I h=>by
 obtain⟨z,hz,h⟩:=j6 (aE.mp h);obtain⟨i,rfl,h⟩:=qQ (aE.mp h);obtain⟨ds,he,h⟩:=nD (aE.mp h);obtain⟨h1,h2,j,d,hj,hd,h⟩:=Dr (aE.mp h);obtain⟨es,he2,h⟩:=nD (aE.mp h);obtain⟨hsz,h⟩:=Mi.c9 h;have HK:e[x]? = aa (aa (.d (.lst es))):=by
  have he2:(e.set y (aa (.d (.lst (ds.eraseIdx j)))))[x]? = _:=he2
  rwa [eQ (dO hxy)]at he2
 obtain⟨p,xs,q,q1,n,c⟩:=I.list hy he;obtain⟨p',xs',q',q1',n',c'⟩:=I.list hx HK;have hpp:p'≠p:=I.sep x y _ _ p' p hxy HK he hx hy q' q;refine⟨.ref p',q',.inl ⟨rfl,xs',.inl (.inl q1')⟩,.ref p,q,.inl ⟨rfl,xs,.inl (.inl q1)⟩,ha e σ H Hv _ I.toR0 (by
  rw[hz];intro v H1 Hv1 g1 r;have I1:=I.grow g1;cases RD.int r;obtain⟨u,hu,ru⟩:=c.getL hd;rw[c.len]at hj;refine⟨p,xs,i,j,u,rfl,rfl,g1.old.at q1,h1,h2,Fz hj,hu,?_⟩;have I2:=I1.write hy he q (show d6 Hv1 (.d (.lst (ds.eraseIdx j))) (.lst (xs.eraseIdx j))from(ft g1.vis c).erase j);refine⟨p',xs',u,rfl,rfl,by rw[aN hpp];exact g1.old.at q1',by rw[<- c'.len,eF];exact hsz,?_⟩;exact h σ _ Hv1 (I2.write hx he2 q' (show d6 Hv1 (.d (.lst (es++[d]))) (.lst (xs'++[u]))from(ft g1.vis c').append (.cons (j1 g1.vis ru) .nil))) g1.vis)⟩
theorem Py{tk:TE}{k:Mi.E}(x:Nat)(hx:M x=true)(ha:AE M qV te a)(hk:AE M qP tk k):AS M κ (jv te (En (eB x) tk DU)) (Mi.qJ x k a):=λH0 Hv0 e σ H Hv D I h=>by
 obtain⟨d,hd,h⟩:=j6 (aE.mp h);obtain⟨z,hz,h⟩:=j6 (aE.mp h);obtain⟨i,rfl,h⟩:=qQ (aE.mp h);obtain⟨ds,he,h⟩:=nD (aE.mp h);obtain⟨j,hj,h⟩:=gI (aE.mp h);obtain⟨p,xs,q,q1,n,c⟩:=I.list hx he;refine ha e σ H Hv _ I.toR0 (by
  rw[hd];intro v H1 Hv1 g1 r;refine⟨.ref p,q,hk e σ H1 Hv1 _ (I.toR0.grow g1) (by
   rw[hz];intro v2 H2 Hv2 g2 r2;cases RD.int r2;have I2:=(I.grow g1).grow g2;rw[c.len]at hj;refine⟨p,xs,i,j,rfl,rfl,g2.old.at (g1.old.at q1),hj,?_⟩;exact h σ _ Hv2 (I2.write hx he q (show d6 Hv2 (.d (.lst (ds.set j d))) (.lst (xs.set j v))from P2.set (j1 g2.vis r) j (ft (g1.trans g2).vis c))) (g1.trans g2).vis)⟩)
theorem t8(i:Nat)(hm:M i=true):AS M qN (ux (eB i)) (Mi.bL (Mi.wV i)):=λH0 Hv0 e σ H Hv D I h=>by
 obtain⟨w,he,h⟩:=oH (aE.mp h);obtain⟨p,o,q,q1,n,h0,c⟩:=I.cell hm he;exact⟨.ref p,q,h _ H Hv I.gw ⟨p,o,rfl,h0,q1,n,c⟩⟩
theorem R1.Lv{H0 Hv0:Hp}{e:Mi.Env}{σ:L2.St}{H Hv:Hp}(I:R1 M H0 Hv0 e σ H Hv){y:Nat}{w:W}(hy:M y=true)(he:e[y]? = aa (aa w)):∃p Hv',σ[y]? = aa (aa (.ref p))/\R1 M H0 Hv0 (e.set y ac) σ H Hv'/\cA Hv Hv'/\fH Hv' w (.ref p):=by
 obtain⟨p,o,q,q1,n,h0,c⟩:=I.cell hy he;obtain⟨vw,s⟩:=I.vw.show q1 n c.nt;have nj:∀{j:Nat} {w':W},(e.set y ac)[j]? = aa (aa w')->y≠j/\e[j]? = aa (aa w'):=λ{j w'} h=>by
  rcases jk h with ⟨_,h,_⟩|z
  ·cases h
  ·exact z
 refine⟨p,upd Hv p o,q,⟨⟨vw,by rw[kh];exact I.len,λj w' h m=>?_,λj w' h m=>?_⟩,⟨I.gw.old,I.gw.vis.trans s,vw,λb u z1 z2=>?_⟩,λj w' x h m z=>?_,λj k w1 w2 x z hjk h1 h2 m1 m2 z1 z2=>?_⟩,s,uT bG (c.same s)⟩
 ·obtain⟨_,h⟩:=nj h;obtain⟨v,z,r⟩:=I.nob j w' h m;exact⟨v,z,oR s r⟩
 ·obtain⟨hne,h⟩:=nj h;obtain⟨v,z,x,u,e1,q2,n2,c2⟩:=I.own j w' h m;subst e1;have:=I.sep y j w w' p x hne he h hy m q z;exact⟨.ref x,z,x,u,rfl,q2,by rw[aN (dO this)];exact n2,c2.same s⟩
 ·rw[aN (dz z1 h0)];exact I.gw.hid b u z1 z2
 ·exact I.fresh j w' x (nj h).2 m z
 ·exact I.sep j k w1 w2 x z hjk (nj h1).2 (nj h2).2 m1 m2 z1 z2
theorem xH{κ':Type}[DecidableEq κ']{H:Hp}{k:κ'}{ak:List (κ'×D)}{kv:List (κ'×V)}(h:eM H ak kv):match Mi.jj ak k with
 |some d=>∃v,gZ kv k=aa v/\Rep H d v
 |none=>gZ kv k=ac:=by
 unfold Mi.jj gZ
 induction h with
 |nil=>rfl
 | @cons p q l m hpq t ih=>
  rw[kR,kR,hpq.1];by_cases hk:q.1=k
  ·rw[bR hk];exact⟨q.2,rfl,hpq.2⟩
  ·rw[cp hk];exact ih
theorem Bs{κ':Type}[DecidableEq κ']{H:Hp}{k:κ'}{d:D}{v:V}(r:Rep H d v){ak:List (κ'×D)}{kv:List (κ'×V)}(h:eM H ak kv):eM H (Mi.putK k d ak) (L2.putK kv k v):=by
 have e:(ak.any λx=>decide (x.1=k))=(kv.any λx=>decide (x.1=k)):=by
  induction h with
  |nil=>rfl
  | @cons p q l m hpq t ih=>rw[jC,jC,ih,hpq.1]
 unfold Mi.putK L2.putK;rw[e];split
 ·rename_i hh;clear hh e
  induction h with
  |nil=>exact .nil
  | @cons p q l m hpq t ih=>
   rw[dg,dg];refine .cons ?_ ih
   ·by_cases hk:q.1=k
    ·rw[a8 hk,a8 (hpq.1.trans hk)];exact⟨hpq.1,r⟩
    ·rw[be hk,be (λz=>hk (hpq.1.symm.trans z))];exact hpq
 ·exact P2.append h (.cons ⟨rfl,r⟩ .nil)
end
end A
namespace A
open PySem L2 PyProof.Rows
open Mi (D W Rs Fin aE Out Tg)
variable[Tb:bY]
section
variable{X:Cx}{K:aI}
def JC:R2:=λx y H Q=>∃i j,x=.str i/\y=.str j/\i.length+j.length<=sizeLine/\Q (.str (i++j)) H
theorem wR{af:List (ag×Obj)}{σ:L2.St}{H:Hp}{s:aw}{a:ag}{xs:List V}(I:Inv X af σ H s)(h:Lst H a xs):∃(aq:List ah) (n:Nat),Vals xs aq/\xs.length<=sizeLine/\s.heap.get? a=aa { cls:=.type "list", data:=.seq aq.toArray n }:=by
 rcases h with h|⟨o,h⟩
 ·obtain⟨z,aq,n,r,e⟩:=I.hok a _ h;exact⟨aq,n,r,z,e⟩
 ·obtain⟨_,z,aq,n,r,e⟩:=I.hok a _ h;exact⟨aq,n,r,z,e⟩
def F6:R2:=λx y H Q=>∃l b xs zs,x=.ref l/\y=.ref b/\Lst H l xs/\Lst H b zs/\xs.length+zs.length<=sizeLine/\∀p,H p=ac->Q (.ref p) (upd H p (.lst (xs++zs)))
theorem O7:cY X (binaryOp .Add) F6:=by
 intro af s σ H x y v u Q I rx ry h;obtain⟨l,b,xs,zs,rfl,rfl,hH,hB,hz,q⟩:=h;cases rx;cases ry;obtain⟨aq,n,r,z,e⟩:=wR I hH;obtain⟨its2,n2,r2,z2,e2⟩:=wR I hB;have hl:=r.length;have hl2:=r2.length;refine PySem.P.add_list e e2 ?_ (by rw[dI,dI];omega);have ea:aq.toArray++its2.toArray=(aq++its2).toArray:=by simp
 rw[ea];exact⟨.ref _,_,I.PQ (t':=s.toks) (r.append r2) (by rw[cC];omega),rfl,q _ I.fresh⟩
def DO:R2:=λx y H Q=>kD (λi j=>.int (i+j)) x y H Q\/JC x y H Q\/F6 x y H Q
theorem cq:cY X (binaryOp .Add) DO:=PN.or (cY.or JT O7)
theorem ET{H Hv:Hp}(vw:Vw H Hv){ds:List D}{xs:List V}(r:P2 (Rep Hv) ds xs){p:ag}(hp:H p=ac):bC H Hv (upd H p (.lst xs)) Hv/\qN H (upd H p (.lst xs)) Hv (.d (.lst ds)) (.ref p):=⟨.oN vw trivial hp,p,.lst xs,rfl,hp,bG,mR vw hp,r⟩
theorem D3{H Hv:Hp}(vw:Vw H Hv){ds:List D}{xs:List V}(r:P2 (Rep Hv) ds xs){p:ag}(hp:H p=ac):bC H Hv (upd H p (.lst xs)) (upd Hv p (.lst xs))/\qV H (upd H p (.lst xs)) (upd Hv p (.lst xs)) (.d (.lst ds)) (.ref p):=by have g:bC H Hv (upd H p (.lst xs)) (upd Hv p (.lst xs)):=.new vw hp;exact⟨g,mf.mpr ⟨p,xs,rfl,.inl bG,ft g.vis r⟩⟩
theorem GB{H Hv:Hp}(vw:Vw H Hv){ds:List D}{xs:List V}(r:P2 (Rep Hv) ds xs){p:ag}(hp:H p=ac):bC H Hv (upd H p (.tup xs)) (upd Hv p (.tup xs))/\qV H (upd H p (.tup xs)) (upd Hv p (.tup xs)) (.d (.tup ds)) (.ref p):=by have g:bC H Hv (upd H p (.tup xs)) (upd Hv p (.tup xs)):=.new vw hp;exact⟨g,jY.mpr ⟨p,xs,rfl,bG,ft g.vis r⟩⟩
theorem cr:B2 qV DO Mi.aZ:=λx y v u H Hv Q vw rx ry h=>by
 cases x with
 | int i=>cases y with
  |int j=>cases RD.int rx;cases RD.int ry;exact .inl ⟨i,j,rfl,rfl,h _ H Hv (.refl vw) iD⟩
  |_=>exact h.elim
 | str i=>cases y with
  |str j=>
   cases RD.str rx;cases RD.str ry;obtain⟨hz,h⟩:=Mi.c9 h;exact .inr (.inl ⟨i,j,rfl,rfl,by rw[eF];exact hz,h _ H Hv (.refl vw) oq⟩)
  |_=>exact h.elim
 | lst a=>cases y with
  |lst b=>
   obtain⟨hz,h⟩:=Mi.c9 h;obtain⟨p,xs,rfl,l1,r1⟩:=RD.lst vw rx;obtain⟨q,ys,rfl,l2,r2⟩:=RD.lst vw ry;refine .inr (.inr ⟨p,q,xs,ys,rfl,rfl,l1,l2,by rw[<- r1.len,<- r2.len,eF];exact hz,λa ha=>?_⟩);obtain⟨g,k⟩:=D3 vw (r1.append r2) ha;exact h _ _ _ g k
  |_=>exact h.elim
 |_=>cases y<;>exact h.elim
theorem vG:B2 qV (kD λi j=>.int (i-j)) Mi.jV:=λx y v u H Hv Q vw rx ry h=>by
 cases x with
 | int i=>cases y with
  |int j=>cases RD.int rx;cases RD.int ry;exact⟨i,j,rfl,rfl,h _ H Hv (.refl vw) iD⟩
  |_=>exact h.elim
 |_=>cases y<;>exact h.elim
theorem fO:B2 qV (rI uJ λi j=>.int (i*j)) Mi.bT:=λx y v u H Hv Q vw rx ry h=>by
 cases x with
 | int i=>cases y with
  |int j=>cases RD.int rx;cases RD.int ry;obtain⟨hz,h⟩:=Mi.c9 h;exact⟨i,j,rfl,rfl,hz,h _ H Hv (.refl vw) iD⟩
  |_=>exact h.elim
 |_=>cases y<;>exact h.elim
theorem d5:B2 qV (rI GK λi j=>.int (i/j)) Mi.bn:=λx y v u H Hv Q vw rx ry h=>by
 cases x with
 | int i=>cases y with
  |int j=>cases RD.int rx;cases RD.int ry;obtain⟨hz,h⟩:=Mi.c9 h;exact⟨i,j,rfl,rfl,hz,h _ H Hv (.refl vw) iD⟩
  |_=>exact h.elim
 |_=>cases y<;>exact h.elim
theorem cg:B2 qV (rI (λ_ j=>0<j) λi j=>.int (i%j)) Mi.aQ:=λx y v u H Hv Q vw rx ry h=>by
 cases x with
 | int i=>cases y with
  |int j=>cases RD.int rx;cases RD.int ry;obtain⟨hz,h⟩:=Mi.c9 h;exact⟨i,j,rfl,rfl,hz,h _ H Hv (.refl vw) iD⟩
  |_=>exact h.elim
 |_=>cases y<;>exact h.elim
theorem Ov:B2 qV (rI EA λi j=>.int (i ^ j.toNat)) Mi.yH:=λx y v u H Hv Q vw rx ry h=>by
 cases x with
 | int i=>cases y with
  |int j=>cases RD.int rx;cases RD.int ry;obtain⟨hz,h⟩:=Mi.c9 h;exact⟨i,j,rfl,rfl,hz,h _ H Hv (.refl vw) iD⟩
  |_=>exact h.elim
 |_=>cases y<;>exact h.elim
theorem DW:B1 qV (rU λi=>.int (-i)) Mi.qC:=λx v H Hv Q vw rx h=>by
 cases x with
 |int i=>cases RD.int rx;exact⟨i,rfl,h _ H Hv (.refl vw) iD⟩
 |_=>exact h.elim
def Cb:R2:=λx y H Q=>kD (λi j=>.bl (decide (i<j))) x y H Q\/∃i j,x=.str i/\y=.str j/\Q (.bl (decide (i.cps.toList<j.cps.toList))) H
theorem og:cY X (compareOp .Lt) Cb:=MI.or K9
def Fj:R2:=λx y H Q=>kD (λi j=>.bl (decide (j<i))) x y H Q\/∃i j,x=.str i/\y=.str j/\Q (.bl (decide (j.cps.toList<i.cps.toList))) H
theorem yL:cY X (compareOp .Gt) Fj:=Ph.or OJ
theorem pj:B2 qV Cb Mi.eo:=λx y v u H Hv Q vw rx ry h=>by
 cases x with
 | int i=>cases y with
  |int j=>cases RD.int rx;cases RD.int ry;exact .inl ⟨i,j,rfl,rfl,h _ H Hv (.refl vw) fv⟩
  |_=>exact h.elim
 | str i=>cases y with
  |str j=>cases RD.str rx;cases RD.str ry;exact .inr ⟨i,j,rfl,rfl,h _ H Hv (.refl vw) fv⟩
  |_=>exact h.elim
 |_=>cases y<;>exact h.elim
theorem zv:B2 qV Fj Mi.ku:=λx y v u H Hv Q vw rx ry h=>by
 cases x with
 | int i=>cases y with
  |int j=>cases RD.int rx;cases RD.int ry;exact .inl ⟨i,j,rfl,rfl,h _ H Hv (.refl vw) fv⟩
  |_=>exact h.elim
 | str i=>cases y with
  |str j=>cases RD.str rx;cases RD.str ry;exact .inr ⟨i,j,rfl,rfl,h _ H Hv (.refl vw) fv⟩
  |_=>exact h.elim
 |_=>cases y<;>exact h.elim
def tR(K:aI)(neg:Bool):R2:=λx y H Q=>∃d e,L2.Rep K H d x/\L2.Rep K H e y/\d.dep<=16/\Q (.bl (if neg then !Mi.bM d e else Mi.bM d e)) H
theorem gD:B2 qV (tR K false) Mi.bQ:=λx y v u H Hv Q vw rx ry h=>by
 obtain⟨hz,h⟩:=Mi.c9 h;exact⟨x,y,lI K (RD.full vw rx),lI K (RD.full vw ry),hz,h _ H Hv (.refl vw) fv⟩
theorem qv:B2 qV (tR K true) Mi.fh:=λx y v u H Hv Q vw rx ry h=>by
 obtain⟨hz,h⟩:=Mi.c9 h;exact⟨x,y,lI K (RD.full vw rx),lI K (RD.full vw ry),hz,h _ H Hv (.refl vw) fv⟩
def Eo(K:aI):R2:=λx y H Q=>vp K false x y H Q\/CD false x y H Q
theorem tP(hu:X.A.units+64<cLine):cY X (compareOp .In) (Eo X.K):=(KW hu).or Ma
theorem ub{H:Hp}{ds:List D}{xs:List V}(h:P2 (Rep H) ds xs):L2.bx K H ds xs:=uR K (nA.mpr h)
theorem vE:B2 qV (Eo K) Mi.f9:=λx y v u H Hv Q vw rx ry h=>by
 cases y with
 |lst ds=>
  obtain⟨hz,h⟩:=Mi.c9 h;obtain⟨p,xs,rfl,l1,r1⟩:=RD.lst vw ry;exact .inl ⟨p,xs,x,ds,rfl,.inl l1.sq,lI K (RD.full vw rx),ub (ft vw.sub r1),hz,h _ H Hv (.refl vw) fv⟩
 |tup ds=>
  obtain⟨hz,h⟩:=Mi.c9 h;obtain⟨p,xs,rfl,l1,_,r1⟩:=RD.tup vw ry;exact .inl ⟨p,xs,x,ds,rfl,.inr (.inl (.inl l1)),lI K (RD.full vw rx),ub (ft vw.sub r1),hz,h _ H Hv (.refl vw) fv⟩
 | str z=>cases x with
  |str c=>
   obtain⟨hz,h⟩:=Mi.c9 h;cases RD.str rx;cases RD.str ry;obtain⟨⟨l⟩⟩:=c
   match l,hz with
   |[c],_=>exact .inr ⟨c,z,rfl,rfl,h _ H Hv (.refl vw) fv⟩
  |_=>exact h.elim
 |_=>exact h.elim
theorem qD:B2 qV (vp K true) Mi.gb:=λx y v u H Hv Q vw rx ry h=>by
 cases y with
 |lst ds=>
  obtain⟨hz,h⟩:=Mi.c9 h;obtain⟨p,xs,rfl,l1,r1⟩:=RD.lst vw ry;exact⟨p,xs,x,ds,rfl,.inl l1.sq,lI K (RD.full vw rx),ub (ft vw.sub r1),hz,h _ H Hv (.refl vw) fv⟩
 |tup ds=>
  obtain⟨hz,h⟩:=Mi.c9 h;obtain⟨p,xs,rfl,l1,_,r1⟩:=RD.tup vw ry;exact⟨p,xs,x,ds,rfl,.inr (.inl (.inl l1)),lI K (RD.full vw rx),ub (ft vw.sub r1),hz,h _ H Hv (.refl vw) fv⟩
 |_=>exact h.elim
theorem I9{α:Type}(xs:List α)(i:Int):Mi.dM xs i=L2.dM xs i:=rfl
theorem Cm{α β:Type}{F:α->β->Prop}{l:List α}{m:List β}(h:P2 F l m){i:Int}{a:α}(e:Mi.dM l i=aa a):∃b,L2.dM m i=aa b/\F a b:=by
 unfold Mi.dM at e;cases hj:Mi.en l.length i with
 |none=>rw[hj]at e;cases e
 |some j=>
  rw[hj]at e;have e:l[j]? = aa a:=e;obtain⟨b,hb,r⟩:=h.getL e;refine⟨b,?_,r⟩;rw[<- I9];unfold Mi.dM;rw[<- h.len,hj];exact hb
theorem bc:B2 qV (zk K) Mi.av:=λx y v u H Hv Q vw rx ry h=>by
 cases y with
 |int i=>
  cases RD.int ry;cases x with
  |lst ds=>
   obtain⟨d,e,h⟩:=gI h;obtain⟨p,xs,rfl,l1,r1⟩:=RD.lst vw rx;obtain⟨z,ez,rz⟩:=Cm r1 e;exact .inl ⟨p,xs,i,z,rfl,rfl,l1.sq,ez,h z H Hv (.refl vw) rz⟩
  |tup ds=>
   obtain⟨d,e,h⟩:=gI h;obtain⟨p,xs,rfl,l1,_,r1⟩:=RD.tup vw rx;obtain⟨z,ez,rz⟩:=Cm r1 e;exact .inr (.inl ⟨p,xs,i,z,rfl,rfl,.inl (.inl l1),ez,h z H Hv (.refl vw) rz⟩)
  |str z=>
   cases RD.str rx;obtain⟨hz,h⟩:=Mi.c9 h;obtain⟨c,e,h⟩:=gI (aE.mp h);exact .inr (.inr ⟨z,i,c,rfl,rfl,by rw[eF];exact hz,e,h _ H Hv (.refl vw) oq⟩)
  |_=>exact h.elim
 |_=>cases x<;>exact h.elim
theorem Pd{F:D->V->Prop}{l:List D}{m:List V}(h:P2 F l m)(lo hi:Option Int):P2 F (Mi.eI l lo hi) (L2.ot m lo hi):=by unfold Mi.eI L2.ot;rw[h.len];exact(h.drop _).take _
def E9(K:aI):V->Option Int->Option Int->Hp->VK->Prop:=λx lo hi H Q=>FI K x lo hi H Q\/DN x lo hi H Q
theorem jr:mj X (E9 X.K):=MU.or Pm
theorem Pt(z:Str)(lo hi:Option Int):oO z lo hi=Mi.iF z lo hi:=by
 unfold oO Mi.iF Mi.eI;have:z.cps.toList.length=z.length:=by simp[nU]
 rw[this];rfl
theorem jd:BS qV (E9 K) Mi.dj:=λx lo hi v H Hv Q vw rx h=>by
 cases x with
 |lst ds=>
  obtain⟨p,xs,rfl,l1,r1⟩:=RD.lst vw rx;refine .inl ⟨p,xs,rfl,l1.sq,λa ha=>?_⟩;obtain⟨g,k⟩:=D3 vw (Pd r1 lo hi) ha;exact h _ _ _ g k
 |str z=>
  cases RD.str rx;obtain⟨hz,h⟩:=Mi.c9 h;exact .inr ⟨z,rfl,by rw[eF];exact hz,h _ H Hv (.refl vw) (by rw[Pt];exact oq)⟩
 |_=>exact h.elim
theorem lZ{F:D->V->Prop}{d:D}{vs:List V}(h:P2 F [d] vs):∃v,vs=[v]/\F d v:=by
 cases h with
 |cons r t=>cases t;exact⟨_,rfl,r⟩
theorem Gu{F:D->V->Prop}{d e:D}{vs:List V}(h:P2 F [d,e] vs):∃v u,vs=[v,u]/\F d v/\F e u:=by
 cases h with
 | cons r t=>cases t with
  |cons r' t=>cases t;exact⟨_,_,rfl,r,r'⟩
def BE(K:aI):List V->Hp->VK->Prop:=λxs H Q=>∃x n,xs=[x]/\CS K x H n/\Q (.int n) H
theorem ic:fT X (.builtin "len") (BE X.K):=OA
theorem dD:BN qV (BE K) Mi.bV:=λds vs H Hv Q vw r h=>by
 match ds,r,h with
 |[.lst ds],r,h=>
  obtain⟨v,ev,rr⟩:=lZ r;subst ev;replace r:=rr;obtain⟨p,xs,rfl,l1,r1⟩:=RD.lst vw r;refine⟨_,xs.length,rfl,.inl ⟨xs,l1.sq,rfl⟩,?_⟩;rw[<- r1.len];exact h _ H Hv (.refl vw) iD
 |[.tup ds],r,h=>
  obtain⟨v,ev,rr⟩:=lZ r;subst ev;replace r:=rr;obtain⟨p,xs,rfl,l1,_,r1⟩:=RD.tup vw r;refine⟨_,xs.length,rfl,.inr ⟨xs,.inl (.inl l1),rfl⟩,?_⟩;rw[<- r1.len];exact h _ H Hv (.refl vw) iD
 |[.str z],r,h=>
  obtain⟨v,ev,rr⟩:=lZ r;subst ev;replace r:=rr;cases RD.str r;obtain⟨hz,h⟩:=Mi.c9 h;exact⟨_,z.length,rfl,⟨by rw[eF];exact hz,rfl⟩,h _ H Hv (.refl vw) iD⟩
def Em:List V->Hp->VK->Prop:=λxs H Q=>∃i j z,xs=[.int i,.int j]/\max i j=z/\Q (.int z) H
def DT:List V->Hp->VK->Prop:=λxs H Q=>∃i j z,xs=[.int i,.int j]/\min i j=z/\Q (.int z) H
theorem F8(hc:X.calm=true):fT X (.builtin "max") Em:=Je hc
theorem Bt(hc:X.calm=true):fT X (.builtin "min") DT:=IR hc
theorem q8:BN qV Em Mi.iJ:=λds vs H Hv Q vw r h=>by
 match ds,r,h with
 |[.int i,.int j],r,h=>
  obtain⟨v,u,ev,rr,r'⟩:=Gu r;subst ev;replace r:=rr;cases RD.int r;cases RD.int r';exact⟨i,j,_,rfl,rfl,h _ H Hv (.refl vw) iD⟩
theorem qE:BN qV DT Mi.kK:=λds vs H Hv Q vw r h=>by
 match ds,r,h with
 |[.int i,.int j],r,h=>
  obtain⟨v,u,ev,rr,r'⟩:=Gu r;subst ev;replace r:=rr;cases RD.int r;cases RD.int r';exact⟨i,j,_,rfl,rfl,h _ H Hv (.refl vw) iD⟩
theorem DX{Hv:Hp}:∀{ds:List D} {xs:List V} {bs:List Bool},Mi.jN ds=aa bs->P2 (Rep Hv) ds xs->xs=bs.map V.bl
 |[],_,bs,e,r=>by cases e;cases r;rfl
 |.bl b::ds,_,bs,e,r=>by
  cases r with
  |cons x t=>
   cases hb:Mi.jN ds with
   |none=>rw[Mi.jN,hb]at e;cases e
   |some cs=>
    rw[Mi.jN,hb]at e;cases e;rw[DX hb t,pe.mp x];rfl
 |.non::_,_,_,e,_=>by cases e
 |.int _::_,_,_,e,_=>by cases e
 |.str _::_,_,_,e,_=>by cases e
 |.lst _::_,_,_,e,_=>by cases e
 |.tup _::_,_,_,e,_=>by cases e
theorem yg:BN qV (DP K (·.any id)) Mi.xj:=λds vs H Hv Q vw r h=>by
 match ds,r,h with
 |[.lst ds],r,h=>
  obtain⟨v,ev,rr⟩:=lZ r;subst ev;replace r:=rr;obtain⟨bs,e,h⟩:=gI (aE.mp h);obtain⟨p,xs,rfl,l1,r1⟩:=RD.lst vw r;have:=DX e r1;subst this;exact⟨p,bs,rfl,l1.sq,h _ H Hv (.refl vw) fv⟩
def GC(K:aI):List V->Hp->VK->Prop:=λxs H Q=>∃p ys,xs=[.ref p]/\(dw K H p ys\/e5 K H p ys)/\∀l,H l=ac->Q (.ref l) (upd H l (.lst ys))
theorem li:fT X (.type "list") (GC X.K):=JI
theorem fG:BN qN (GC K) Mi.gB:=λds vs H Hv Q vw r h=>by
 match ds,r,h with
 |[.lst ds],r,h=>
  obtain⟨v,ev,rr⟩:=lZ r;subst ev;replace r:=rr;obtain⟨p,xs,rfl,l1,r1⟩:=RD.lst vw r;refine⟨p,xs,rfl,.inl l1.sq,λa ha=>?_⟩;obtain⟨g,k⟩:=ET vw r1 ha;exact h _ _ _ g k
 |[.tup ds],r,h=>
  obtain⟨v,ev,rr⟩:=lZ r;subst ev;replace r:=rr;obtain⟨p,xs,rfl,l1,_,r1⟩:=RD.tup vw r;refine⟨p,xs,rfl,.inr (.inl (.inl l1)),λa ha=>?_⟩;obtain⟨g,k⟩:=ET vw r1 ha;exact h _ _ _ g k
def CO(K:aI):List V->Hp->VK->Prop:=λxs H Q=>∃p ys,xs=[.ref p]/\((dw K H p ys/\∀l,H l=ac->Q (.ref l) (upd H l (.tup ys)))\/(e5 K H p ys/\Q (.ref p) H))
theorem ul:fT X (.type "tuple") (CO X.K):=Jg
theorem lb:BN qV (CO K) Mi.pk:=λds vs H Hv Q vw r h=>by
 match ds,r,h with
 |[.lst ds],r,h=>
  obtain⟨v,ev,rr⟩:=lZ r;subst ev;replace r:=rr;obtain⟨p,xs,rfl,l1,r1⟩:=RD.lst vw r;refine⟨p,xs,rfl,.inl ⟨l1.sq,λa ha=>?_⟩⟩;obtain⟨g,k⟩:=GB vw r1 ha;exact h _ _ _ g k
 |[.tup ds],r,h=>
  obtain⟨v,ev,rr⟩:=lZ r;subst ev;replace r:=rr;obtain⟨p,xs,rfl,l1,l2,r1⟩:=RD.tup vw r;exact⟨p,xs,rfl,.inr ⟨.inl (.inl l1),h _ H Hv (.refl vw) (jY.mpr ⟨p,xs,rfl,l2,r1⟩)⟩⟩
end
end A
namespace A
open PySem L2 PyProof.Rows
open Mi (D W Rs Fin aE Out Tg)
variable[Tb:bY]
section
variable{X:Cx}{af:List (ag×Obj)}{σ:L2.St}{H:Hp}{s:aw}
open SeqAt in
theorem Nw:∀{d e:D} {A:bH} {x y:V} {u u':ah},d.flat=true->e.flat=true->L2.Rep X.K H d x->L2.Rep X.K H e y->RelV x u->RelV y u'->RcAt A s u u' (Mi.bM d e)/\RcNeAt A s u u' (!Mi.bM d e):=by
 intro d e A x y u u' h1 h2 r1 r2 q1 q2;cases d with
 |non=>
  rw[L2.Rep]at r1;subst r1;cases q1;cases e with
  |non=>rw[L2.Rep]at r2;subst r2;cases q2;exact⟨RcAt.none_none,RcNeAt.none_none⟩
  |bl b=>rw[L2.Rep]at r2;subst r2;cases q2;exact⟨RcAt.none_bool b,RcNeAt.none_bool b⟩
  |int b=>rw[L2.Rep]at r2;subst r2;obtain⟨t,rfl⟩:=q2;exact⟨RcAt.none_int b t,RcNeAt.none_int b t⟩
  |str b=>rw[L2.Rep]at r2;subst r2;obtain⟨t,rfl⟩:=q2;exact⟨RcAt.none_str b t,RcNeAt.none_str b t⟩
  |_=>cases h2
 |bl a=>
  rw[L2.Rep]at r1;subst r1;cases q1;cases e with
  |non=>rw[L2.Rep]at r2;subst r2;cases q2;exact⟨RcAt.bool_none a,RcNeAt.bool_none a⟩
  |bl b=>rw[L2.Rep]at r2;subst r2;cases q2;rw[Mi.bM];exact⟨RcAt.bool_bool a b,RcNeAt.bool_bool a b⟩
  |int b=>rw[L2.Rep]at r2;subst r2;obtain⟨t,rfl⟩:=q2;rw[Mi.bM];exact⟨RcAt.bool_int a b t,RcNeAt.bool_int a b t⟩
  |str b=>rw[L2.Rep]at r2;subst r2;obtain⟨t,rfl⟩:=q2;exact⟨RcAt.bool_str a b t,RcNeAt.bool_str a b t⟩
  |_=>cases h2
 |int a=>
  rw[L2.Rep]at r1;subst r1;obtain⟨t1,rfl⟩:=q1;cases e with
  |non=>rw[L2.Rep]at r2;subst r2;cases q2;exact⟨RcAt.int_none a t1,RcNeAt.int_none a t1⟩
  |bl b=>rw[L2.Rep]at r2;subst r2;cases q2;rw[Mi.bM];exact⟨RcAt.int_bool a t1 b,RcNeAt.int_bool a t1 b⟩
  |int b=>rw[L2.Rep]at r2;subst r2;obtain⟨t,rfl⟩:=q2;rw[Mi.bM];exact⟨RcAt.int_int a t1 b t,RcNeAt.int_int a t1 b t⟩
  |str b=>rw[L2.Rep]at r2;subst r2;obtain⟨t,rfl⟩:=q2;exact⟨RcAt.int_str a t1 b t,RcNeAt.int_str a t1 b t⟩
  |_=>cases h2
 |str a=>
  rw[L2.Rep]at r1;subst r1;obtain⟨t1,rfl⟩:=q1;cases e with
  |non=>rw[L2.Rep]at r2;subst r2;cases q2;exact⟨RcAt.str_none a t1,RcNeAt.str_none a t1⟩
  |bl b=>rw[L2.Rep]at r2;subst r2;cases q2;exact⟨RcAt.str_bool a t1 b,RcNeAt.str_bool a t1 b⟩
  |int b=>rw[L2.Rep]at r2;subst r2;obtain⟨t,rfl⟩:=q2;exact⟨RcAt.str_int a t1 b t,RcNeAt.str_int a t1 b t⟩
  |str b=>rw[L2.Rep]at r2;subst r2;obtain⟨t,rfl⟩:=q2;rw[Mi.bM];exact⟨RcAt.str_str a t1 b t,RcNeAt.str_str a t1 b t⟩
  |_=>cases h2
 |_=>cases h1
open SeqAt in
theorem Fb(I:Inv X af σ H s):∀(d e:D) (A:bH) {x y:V} {u u':ah},d.dep<=16->A.units+17<cLine->L2.Rep X.K H d x->L2.Rep X.K H e y->RelV x u->RelV y u'->RcAt A s u u' (Mi.bM d e)/\RcNeAt A s u u' (!Mi.bM d e):=by
 intro d e A x y u u' hd hu h h' r r';have hu0:A.units<cLine:=by omega
 have item:∀{ds es:List D} {xs ys:List V} {aq its':List ah},Mi.dF ds<=16->L2.bx X.K H ds xs->L2.bx X.K H es ys->Vals xs aq->Vals ys its' ->
  ∀j (h1:j<aq.toArray.size) (h2:j<its'.toArray.size),EqAt A.in1 s aq.toArray[j] its'.toArray[j] (Mi.bM (ds.getD j .non) (es.getD j .non)):=by
  intro ds es xs ys aq its' hn q q' v v' j h1 h2;have h1':j<aq.length:=by simpa using h1
  have h2':j<its'.length:=by simpa using h2
  have e1:j<xs.length:=by rw[v.length];exact h1'
  have e2:j<ys.length:=by rw[v'.length];exact h2'
  have g1:xs[j]? = aa xs[j]:=by simp[e1]
  have g2:ys[j]? = aa ys[j]:=by simp[e2]
  obtain⟨w1,k1,r1⟩:=v.get g1;obtain⟨w2,k2,r2⟩:=v'.get g2;have t1:aq.toArray[j]=w1:=by obtain⟨_,k1⟩:=dG.mp k1;simpa using k1
  have t2:its'.toArray[j]=w2:=by obtain⟨_,k2⟩:=dG.mp k2;simpa using k2
  rw[t1,t2];have:=y0 (ds:=ds) (j:=j);refine GF I 16 _ _ A.in1 (by omega) ?_ (q.get g1) (q'.get g2) r1 r2;show A.units+1+16<cLine;omega
 by_cases hdf:d.flat=true
 ·by_cases hef:e.flat=true
  ·exact Nw hdf hef h h' r r'
  ·cases e with
   |lst es=>
    rw[L2.Rep]at h';obtain⟨a,xs,rfl,q,_⟩:=h';cases r';obtain⟨aq,_,p,_⟩:=I.list q;cases d with
    |non=>rw[L2.Rep]at h;subst h;cases r;exact⟨RcAt.none_list p.isList hu0,RcNeAt.none_list p.isList hu0⟩
    |bl b=>rw[L2.Rep]at h;subst h;cases r;exact⟨RcAt.bool_list b p.isList hu0,RcNeAt.bool_list b p.isList hu0⟩
    |int b=>rw[L2.Rep]at h;subst h;obtain⟨t,rfl⟩:=r;exact⟨RcAt.int_list b t p.isList hu0,RcNeAt.int_list b t p.isList hu0⟩
    |str b=>rw[L2.Rep]at h;subst h;obtain⟨t,rfl⟩:=r;exact⟨RcAt.str_list b t p.isList hu0,RcNeAt.str_list b t p.isList hu0⟩
    |_=>cases hdf
   |tup es=>
    rw[L2.Rep]at h';obtain⟨a,xs,rfl,q,_⟩:=h';cases r';obtain⟨aq,_,p,_⟩:=I.tuple q;cases d with
    |non=>rw[L2.Rep]at h;subst h;cases r;exact⟨RcAt.none_tuple p hu0,RcNeAt.none_tuple p hu0⟩
    |bl b=>rw[L2.Rep]at h;subst h;cases r;exact⟨RcAt.bool_tuple b p hu0,RcNeAt.bool_tuple b p hu0⟩
    |int b=>rw[L2.Rep]at h;subst h;obtain⟨t,rfl⟩:=r;exact⟨RcAt.int_tuple b t p hu0,RcNeAt.int_tuple b t p hu0⟩
    |str b=>rw[L2.Rep]at h;subst h;obtain⟨t,rfl⟩:=r;exact⟨RcAt.str_tuple b t p hu0,RcNeAt.str_tuple b t p hu0⟩
    |_=>cases hdf
   |_=>exact absurd rfl hef
 ·cases d with
  |lst ds=>
   rw[L2.Rep]at h;obtain⟨a,xs,rfl,q,rr⟩:=h;cases r;obtain⟨aq,v,p,_⟩:=I.list q;have hn:Mi.dF ds<=16:=by rw[Mi.D.dep]at hd;omega
   cases e with
   |non=>rw[L2.Rep]at h';subst h';cases r';exact⟨RcAt.list_none p.isList hu0,RcNeAt.list_none p.isList hu0⟩
   |bl b=>rw[L2.Rep]at h';subst h';cases r';exact⟨RcAt.list_bool b p.isList hu0,RcNeAt.list_bool b p.isList hu0⟩
   |int b=>rw[L2.Rep]at h';subst h';obtain⟨t,rfl⟩:=r';exact⟨RcAt.list_int b t p.isList hu0,RcNeAt.list_int b t p.isList hu0⟩
   |str b=>rw[L2.Rep]at h';subst h';obtain⟨t,rfl⟩:=r';exact⟨RcAt.list_str b t p.isList hu0,RcNeAt.list_str b t p.isList hu0⟩
   |lst es=>
    rw[L2.Rep]at h';obtain⟨b,ys,rfl,q',rr'⟩:=h';cases r';obtain⟨its',v',p',_⟩:=I.list q';have l1:=rr.length;have l2:=rr'.length;have l3:=v.length;have l4:=v'.length;by_cases hl:ds.length=es.length
    ·rw[Mi.bM,sg hl];have e1:aq.toArray.size=ds.length:=by simp;omega
     have k1:=RcAt.lists p.isList p'.isList (by simp;omega) hu0 (item hn rr rr' v v');have k2:=RcNeAt.lists p.isList p'.isList (by simp;omega) hu0 (item hn rr rr' v v');rw[e1]at k1 k2;exact⟨k1,k2⟩
    ·rw[Mi.bM,rM hl];exact⟨RcAt.lists_lengths p.isList p'.isList (by simp;omega) hu0,RcNeAt.lists_lengths p.isList p'.isList (by simp;omega) hu0⟩
   |tup es=>
    rw[L2.Rep]at h';obtain⟨b,ys,rfl,q',_⟩:=h';cases r';obtain⟨its',_,p',_⟩:=I.tuple q';exact⟨RcAt.list_tuple p.isList p' hu0,RcNeAt.list_tuple p.isList p' hu0⟩
  |tup ds=>
   rw[L2.Rep]at h;obtain⟨a,xs,rfl,q,rr⟩:=h;cases r;obtain⟨aq,v,p,_⟩:=I.tuple q;have hn:Mi.dF ds<=16:=by rw[Mi.D.dep]at hd;omega
   cases e with
   |non=>rw[L2.Rep]at h';subst h';cases r';exact⟨RcAt.tuple_none p hu0,RcNeAt.tuple_none p hu0⟩
   |bl b=>rw[L2.Rep]at h';subst h';cases r';exact⟨RcAt.tuple_bool b p hu0,RcNeAt.tuple_bool b p hu0⟩
   |int b=>rw[L2.Rep]at h';subst h';obtain⟨t,rfl⟩:=r';exact⟨RcAt.tuple_int b t p hu0,RcNeAt.tuple_int b t p hu0⟩
   |str b=>rw[L2.Rep]at h';subst h';obtain⟨t,rfl⟩:=r';exact⟨RcAt.tuple_str b t p hu0,RcNeAt.tuple_str b t p hu0⟩
   |tup es=>
    rw[L2.Rep]at h';obtain⟨b,ys,rfl,q',rr'⟩:=h';cases r';obtain⟨its',v',p',_⟩:=I.tuple q';have l1:=rr.length;have l2:=rr'.length;have l3:=v.length;have l4:=v'.length;have k1:=RcAt.tuples p p' hu0 (item hn rr rr' v v');have k2:=RcNeAt.tuples p p' hu0 (item hn rr rr' v v');have e1:aq.toArray.size=ds.length:=by simp;omega
    have e2:its'.toArray.size=es.length:=by simp;omega
    rw[e1,e2]at k1 k2;by_cases hl:ds.length=es.length
    ·rw[Mi.bM,sg hl];rw[hl,Nat.min_self,rQ,Bool.and_true,<- hl]at k1 k2;exact⟨k1,k2⟩
    ·rw[Mi.bM,rM hl];have:(ds.length==es.length)=false:=by simpa using hl
     rw[this,wv]at k1 k2;exact⟨k1,k2⟩
   |lst es=>
    rw[L2.Rep]at h';obtain⟨b,ys,rfl,q',_⟩:=h';cases r';obtain⟨its',_,p',_⟩:=I.list q';exact⟨RcAt.tuple_list p p'.isList hu0,RcNeAt.tuple_list p p'.isList hu0⟩
  |_=>exact absurd rfl hdf
theorem gA(hu:X.A.units+64<cLine):cY X (compareOp .Eq) (tR X.K false):=by intro af s σ H x y v u Q I rx ry h;obtain⟨d,e,r1,r2,hz,q⟩:=h;exact(Fb I d e X.A hz (by omega) r1 r2 rx ry).1 _ _ _ _ ⟨.bl _,H,I,rfl,q⟩
theorem qI(hu:X.A.units+64<cLine):cY X (compareOp .NotEq) (tR X.K true):=by intro af s σ H x y v u Q I rx ry h;obtain⟨d,e,r1,r2,hz,q⟩:=h;exact(Fb I d e X.A hz (by omega) r1 r2 rx ry).2 _ _ _ _ ⟨.bl _,H,I,rfl,q⟩
end
section
variable{X:Cx}{K:aI}{M:Nat->Bool}{κ:Kd}{ta tb te:TE}{a b:Mi.E}
theorem Ka{H Hv:Hp}(vw:Vw H Hv){d:D}{v:V}(r:RD H Hv d v):ie K H v (.type (Mi.Dg d)):=by
 cases d with
 |non=>cases RD.non r;exact .non
 |bl b=>cases RD.bl r;exact .bl b
 |int b=>cases RD.int r;exact .int b
 |str b=>cases RD.str r;exact .str b
 |lst ds=>
  obtain⟨p,xs,rfl,l,_⟩:=RD.lst vw r;rcases l with l|⟨o,l⟩
  ·exact .lst l
  ·exact .frz l
 |tup ds=>
  obtain⟨p,xs,rfl,l,_⟩:=RD.tup vw r;exact .tup l
def Dw(K:aI)(T:String):Prop:=∀d:D,eO K (.type (Mi.Dg d)) (.type T)=aa (Mi.ug T d)
theorem KI{T:String}(hT:Dw K T)(ha:AE M qP ta a):AE M qV (pL (DV K) (gc ta (gc (tC (.ty T)) ib))) (Mi.m1 (Mi.ua [T]) a):=λe σ H Hv Q I h=>
 ha e σ H Hv _ I ((aE.mp h).mono λx hx v H1 Hv1 g1 rx=>⟨v,_,T,_,rfl,Ka g1.vw rx,hT x,(Mi.m6 hx) _ H1 Hv1 g1 (by
  have:([T].any λt=>Mi.ug t x)=Mi.ug T x:=by simp
  rw[this];exact fv)⟩)
theorem ty_bool(K:aI):Dw K "bool" := λd=>by cases d<;>rfl
end
end A
namespace A
open PySem L2 PyProof.Rows
open Mi (D W Rs Fin aE Out Tg)
variable[Tb:bY]
def Mo(l:List Nat):Nat->Bool:=λi=>l.contains i
theorem yb{M:Nat->Bool}{N:List Str}{k:Nat}{ws:List W}{vs:List V}{H Hv:Hp}(vw:Vw H Hv)(p:P2 (fH Hv) ws vs)(hk:ws.length=k)(hM:∀i,i<k->M i=false) :
 R1 M H Hv (ws.map aa++cG (N.length-ws.length) ac) (start N vs) H Hv:=by
 have get:∀{i:Nat} {w:W},(ws.map aa++cG (N.length-ws.length) ac)[i]? = aa (aa w)->ws[i]? = aa w/\i<k:=λ{i w} h=>by
  by_cases hi:i<ws.length
  ·rw[zJ (by simpa using hi),d8]at h;cases e:ws[i]? with
   |none=>rw[e]at h;cases h
   |some a=>rw[e]at h;cases h;exact⟨rfl,by omega⟩
  ·rw[GU (by simpa using hi),GW]at h;split at h<;>cases h
 have no:∀{i:Nat} {w:W},(ws.map aa++cG (N.length-ws.length) ac)[i]? = aa (aa w)->M i=true->False:=λ{i w} h m=>by
  rw[hM i (get h).2]at m;cases m
 refine⟨⟨vw,?_,λi w h m=>?_,λi w h m=>(no h m).elim⟩,.refl vw,λi w a h m=>(no h m).elim,λi j w w' a b _ h _ m=>(no h m).elim⟩
 ·unfold L2.start;rw[cC,cC,bd,bd,zN,zN,p.len]
 ·obtain⟨hw,hi⟩:=get h;obtain⟨v,hv,r⟩:=p.getL hw;refine⟨v,?_,r⟩;unfold L2.start;rw[zJ (by rw[bd,<- p.len];omega),d8,hv];rfl
theorem OQ{f:Mi.S}{k n:Nat}{vs:List V}{H:Hp}{Q:VK}{E:XK}(h:aP (Mi.c6 k n f) vs H Q E):vs.length=k:=by obtain⟨Hv,ws,_,p,q⟩:=h;rw[<- p.len];exact(Mi.c9 q).1
theorem uX{f:Mi.S}{k n:Nat}{vs:List V}{H:Hp}{Q:VK}{E:XK}(h:cD (Mi.fk k n f) vs H Q E):vs.length=k:=by obtain⟨Hv,ws,_,p,q⟩:=h;rw[<- p.len];exact(Mi.c9 q).1
theorem M3{N:List Str}{M:Nat->Bool}{k:Nat}{t:TS}{m:Mi.S}(hA:AS M qV t m)(hM:∀i,i<k->M i=false){vs:List V}{H:Hp}{Q:VK}{E:XK}(h:aP (Mi.c6 k N.length m) vs H Q E) :
 t { nx:=λ_ H'=>Q .non H',rt:=Q } (start N vs) H:=by
 obtain⟨Hv,ws,vw,p,q⟩:=h;obtain⟨hk,q⟩:=Mi.c9 q;refine hA H Hv _ _ H Hv _ (yb vw p hk hM) ((aE.mp q).mono λo ho=>?_);cases o with
 |nx e=>exactλσ H' Hv' I s=>ho _ H' Hv' I.gw yC
 |rt w=>exactλv H' Hv' g r=>ho v H' Hv' g r
 |bk e=>exact ho.elim
 |ct e=>exact ho.elim
theorem runN{N:List Str}{M:Nat->Bool}{k:Nat}{t:TS}{m:Mi.S}(hA:AS M qN t m)(hM:∀i,i<k->M i=false){vs:List V}{H:Hp}{Q:VK}{E:XK}(h:cD (Mi.fk k N.length m) vs H Q E) :
 t { nx:=λ_ H'=>Q .non H',rt:=Q } (start N vs) H:=by
 obtain⟨Hv,ws,vw,p,q⟩:=h;obtain⟨hk,q⟩:=Mi.c9 q;refine hA H Hv _ _ H Hv _ (yb vw p hk hM) ((aE.mp q).mono λo ho=>?_);cases o with
 |rt w=>exactλv H' Hv' g r=>ho v H' Hv' g r
 |nx e=>exact ho.elim
 |bk e=>exact ho.elim
 |ct e=>exact ho.elim
def qU:Sp:=λvs H Q _=>∃(a:ag) (ns:List Int),vs=[.ref a]/\Lst H a (ns.map V.int)/\ns.length<=63/\gJ H/\∀H',Q (.bl true) H'
theorem ints_rep(H:Hp):∀ns:List Int,P2 (Rep H) (ns.map D.int) (ns.map V.int)
 |[]=>.nil
 |n::r=>.cons (rG.mpr rfl) (ints_rep H r)
theorem KN{P:bt}{w:a9}{K:aI}{mg:Str->Option ah}{base:aL}{CX:f6}{k:Nat}{f:ag}{fd:bD}{ps:List Str}{m:Mi.Fn}(F:bJ P w K mg base CX k f fd ps (aP m))
 (h:∀ns:List Int,ns.length<=63->m [.d (.lst (ns.map D.int))]=.ok (.d (.bl true))):bJ P w K mg base CX k f fd ps qU:=
 F.imp λvs H Q E ⟨a,ns,e,l,hl,k,q⟩=>by
  subst e;have l':Lst (iH H) a (ns.map V.int):=by
   rcases l with l|⟨o,l⟩
   ·exact .inl (j0 l trivial)
   ·exact .inr ⟨o,j0 l trivial⟩
  refine⟨iH H,[.d (.lst (ns.map D.int))],.all k,.cons (mf.mpr ⟨a,_,rfl,l',ints_rep _ ns⟩) .nil,?_⟩;rw[h ns hl];intro v H' Hv' g r;cases(pe (H:=Hv')).mp r;exact q H'
def rP(K:aI)(a:ag):It:=⟨λi H=>∃xs x,dw K H a xs/\xs[i]? = aa x,λi H v H'=>∃p x,(∀xs,dw K H a xs->xs[i]? = aa x)/\H p=ac/\v=.ref p/\H'=upd H p (.tup [.int i,x]),λi H=>∃xs,dw K H a xs/\xs.length=i⟩
theorem JS{X:Cx}{af:List (ag×Obj)}{σ:L2.St}{H:Hp}{s:aw}{fp:List ag}{T:ag}{o:HO}{h':aL}{t':Nat}(I:Inv X af σ H s)(hf:∀b∈fp,gN X af H b)
 (k:∀b u,b∉fp->s.heap.get? b=aa u->h'.get? b=aa u) (hT:s.heap.objs.size<=T) (new:cF X.prog X.w (upd H T o) h' T o):Inv X af σ (upd H T o) { s with heap:=h',toks:=t' }:=by
 have hn:H T=ac:=I.hok.fresh hT;have nfp:∀b u,H b=aa u->b∉fp:=λb u e z=>by rw[(hf b z).1]at e;cases e
 refine I.call' (s':={ s with heap:=h',toks:=t' }) (ch:=fp) rfl ⟨λb u e _ _ hb=>k b u hb e,λb u e _ _ hb=>⟨u.slots,k b u hb e⟩,λb u e hb _=>?_,λb u e hb=>⟨u,k b u hb e⟩,λb xs e=>?_,λb q u e=>?_,λb w ps e=>⟨#[],?_⟩⟩ ?_ I.bare
  λb hb=>⟨(hf b hb).2.2.2.1,(hf b hb).2.1,(hf b hb).2.2.2.2.1,(hf b hb).2.2.2.2.2⟩
 ·have:b≠T:=fY (fK (bX e) hT);rw[aN this];exact hb
 ·rw[aN (dz e hn)];exact e
 ·rw[aN (dz e hn)];exact e
 ·rw[aN (dz e hn),e];simp
 ·intro b u e;by_cases hb:b=T
  ·subst hb;rw[bG]at e;cases e;exact new
  ·rw[aN hb]at e;refine(I.hok b u e).stay (λc v hc q=>k c v ?_ q) (λc q=>by rw[aN (dz q hn)];exact q) λc xs q=>by rw[aN (dz q hn)];exact q
   rcases hc with z|z
   ·rw[z];exact nfp b u e
   ·exact nfp c _ z
theorem On{X:Cx}{af:List (ag×Obj)}{σ:L2.St}{H:Hp}{s:aw}{fp:List ag}{h':aL}{t':Nat}(I:Inv X af σ H s)(hf:∀b∈fp,gN X af H b)
 (k:∀b u,b∉fp->s.heap.get? b=aa u->h'.get? b=aa u):Inv X af σ H { s with heap:=h',toks:=t' }:=by
 have nfp:∀b u,H b=aa u->b∉fp:=λb u e z=>by rw[(hf b z).1]at e;cases e
 refine I.call' (s':={ s with heap:=h',toks:=t' }) (ch:=fp) rfl ⟨λb u e _ _ hb=>k b u hb e,λb u e _ _ hb=>⟨u.slots,k b u hb e⟩,λb u e hb _=>hb,λb u e hb=>⟨u,k b u hb e⟩,λb xs e=>e,λb q u e=>e,λb w ps e=>⟨#[],by rw[e];simp⟩⟩ ?_ I.bare
  λb hb=>⟨(hf b hb).2.2.2.1,(hf b hb).2.1,(hf b hb).2.2.2.2.1,(hf b hb).2.2.2.2.2⟩
 intro b u e;refine(I.hok b u e).stay (λc v hc q=>k c v ?_ q) (λc q=>q) λc xs q=>q;rcases hc with z|z
 ·rw[z];exact nfp b u e
 ·exact nfp c _ z
theorem Nu{P:bt}{w:a9}{K:aI}{elts:List aW}{k1:Nat}{pos:Pos}(a e it:ag)(hne:e≠it):Turn P w K (.Tuple elts k1 pos) (rP K a) [e,it] e (λi h=>(∃old,IsEnum h e it i old)/\h.IsListIter it a i) where
 mem:=by simp
 obj:=λi h st b hb=>by
  obtain⟨⟨old,he⟩,o,ho,c,d⟩:=st;rcases cS.mp hb with rfl|hb
  ·exact⟨_,he,λv z=>by cases z⟩
  ·have e1:b=it:=by simpa using hb
   subst e1;exact⟨o,ho,λv z=>by rw[d]at z;cases z⟩
 keep:=λi h h' st kk=>⟨let ⟨old,he⟩:=st.1;⟨old,kk e (by simp) _ he⟩,st.2.at λo q=>kk it (by simp) o q⟩
 item:=by
  intro X hP hw hK hc i af s σ H E I hf st hg;subst hP hw hK;obtain⟨xs,x,hq,hx⟩:=hg;obtain⟨aq,rv,p,hz⟩:=I.list hq;obtain⟨u,hu,ru⟩:=rv.get hx;obtain⟨⟨old,he⟩,hli⟩:=st;have hlt:i<aq.toArray.size:=by rw[dI];exact(dG.mp hu).1
  have hai:a≠it:=by rintro rfl;obtain⟨o,ho,c,_⟩:=hli;obtain⟨o',n,ho',c',_⟩:=p;rw[ho]at ho';cases ho';rw[c]at c';exact absurd (wE c') (by decide)
  have hea:e≠a:=by rintro rfl;obtain⟨o',n,ho',c',_⟩:=p;rw[he]at ho';cases ho';exact absurd (wE c') (by decide)
  refine wpAny_pyNext_enum_itemD (Draws.list (by first|exact I.ok.hd hc|(simp;exact I.ok.hd hc)) it a hai aq.toArray) he ⟨hli,p.isList⟩ hlt hne (by simp[hne,hea]) λy h' tk hy ho hs' hT hsz hk=>?_;have hy:y=u:=by
   have hu':aq.toArray[i]? = aa u:=by simpa using hu
   rw[hu']at hy;exact(fM hy).symm
  subst hy;refine⟨_,rfl,wpAny_letOwnedTupleGo_enum ho λh2 he2 hs2=>?_⟩;have kk:∀b o,b∉[e,it]->s.heap.get? b=aa o->h2.get? b=aa o:=λb o hb q=>by
   simp at hb;exact(hs2.2 b hb.1).trans (hk b o hb.1 hb.2 q)
  have hTn:s.heap.objs.size≠e:=λz=>absurd (bX he) (by rw[z];exact ki _);refine⟨.ref s.heap.objs.size,upd H s.heap.objs.size (.tup [.int i,x]),JS (s:=s) (t':=tk+1) I hf kk (bO _) ?_,rfl,⟨_,x,λys hy=>by rw[I.uo hy hq];exact hx,I.hok.fresh (bO _),rfl,rfl⟩,⟨⟨_,he2⟩,?_⟩,λb hb=>?_⟩
  ·exact⟨by simp only[bU,d9];rw[eF];decide,[.int i tk,y],.cons ⟨_,rfl⟩ (.cons ru .nil),⟨_,(hs2.2 _ hTn).trans hT,rfl,rfl,_,rfl⟩⟩
  ·exact hs'.1.at λo q=>(hs2.2 it (dO hne)).trans q
  ·have:b≠s.heap.objs.size:=λz=>by
    subst z;rcases cS.mp hb with z|z
    ·exact hTn z
    ·have z:s.heap.objs.size=it:=by simpa using z
     obtain⟨o,ho,_⟩:=hli;exact absurd (bX ho) (by rw[<- z];exact ki _)
   rw[aN this];exact(hf b hb).1
 done:=by
  intro X hP hw hK hc i af s σ H E I hf st hg;subst hP hw hK;obtain⟨xs,hq,hx⟩:=hg;obtain⟨aq,rv,p,hz⟩:=I.list hq;obtain⟨⟨old,he⟩,hli⟩:=st;have hl:=rv.length;have hai:a≠it:=by rintro rfl;obtain⟨o,ho,c,_⟩:=hli;obtain⟨o',n,ho',c',_⟩:=p;rw[ho]at ho';cases ho';rw[c]at c';exact absurd (wE c') (by decide)
  subst hx;have D:=Draws.list (prog:=X.prog) (w:=X.w) (A:=X.A.in1) (by first|exact I.ok.hd hc|(simp;exact I.ok.hd hc)) it a hai aq.toArray;have hn:aq.toArray.size=xs.length:=by simp;omega
  rw[hn]at D;exact wpAny_pyNext_enum_endD D he ⟨hli,p.isList⟩ λh' hx=>⟨rfl,On (s:=s) (t':=s.toks) I hf λb o hb q=>hx b o (λz=>hb (by simp[z])) q⟩
 self:=λ_ i s Q E st h=>let ⟨⟨old,he⟩,_⟩:=st;wpAny_pyIter_enum he h
section
variable{X:Cx}{elts:List aW}{k1:Nat}{tpos:Pos}
def FU(K:aI)(tl:TE):TI:=λσ H R=>tl σ H λx H1=>∃a,[x]=[V.ref a]/\(∃xs,dw K H1 a xs)/\R (rP K a) H1
theorem OI{a:aW}{ta:TE}{p pos:Pos}(hg:Gl X "enumerate")(hm:X.mg "enumerate" = ac)(ha:PE X a ta)(hs:starEach [a] X.env=[(false,eval a X.env)]:=by rfl)(hs0:starEach [a] X.env=(false,eval a X.env)::starEach [] X.env:=by rfl) :
 PI X (.Tuple elts k1 tpos) (.Call (.Name "enumerate" p) [a] [] pos) (FU X.K ta):=by
 intro af s σ H R I h;refine Call_ (si I hg hm boot_enumerate (Ah (a5 (ap ha aS hs0 pos af s σ H (λvs H1=>∃l,vs=[.ref l]/\(∃xs,dw X.K H1 l xs)/\R (rP X.K l) H1) I ?_) λus s1 ⟨vs,H1,I1,r1,q1⟩=>?_) hs rfl))
 ·exact h
 ·obtain⟨l,e,⟨xs,hq⟩,q⟩:=q1;subst e;obtain⟨u,rfl,ru⟩:=vals1 r1;cases ru;obtain⟨aq,rv,pl,hz⟩:=I1.list hq;refine call_enumerate_list pl.isList λh' hE hI hsz hk=>?_;refine wpAny_pyIter_enum hE ?_;have I2:Inv X af σ H1 { s1 with heap:=h' }:=I1.kept (t':=s1.toks) λb o e=>hk b o e;refine⟨_,[s1.heap.objs.size+1,s1.heap.objs.size],_,_,H1,rfl,I2,Nu l (s1.heap.objs.size+1) s1.heap.objs.size (wp (Nat.lt_succ_self _)),⟨⟨_,hE⟩,hI⟩,λb hb=>?_,q⟩;have hb:s1.heap.objs.size<=b:=by
   rcases cS.mp hb with z|z
   ·rw[z];exact Nat.le_succ _
   ·have z:b=s1.heap.objs.size:=by simpa using z
    rw[z];exact bO _
  exact I1.iE hb (I1.hok.fresh hb)
theorem DJ:∀{ds:List D} {k i:Nat} {d:D},ds[i]? = aa d->(Mi.iO k ds)[i]? = aa (.tup [.int ((k+i:Nat):Int),d])
 |[],_,_,_,h=>by simp at h
 |d::r,k,0,e,h=>by simp at h;subst h;rfl
 |d::r,k,i+1,e,h=>by
  have:=DJ (ds:=r) (k:=k+1) (i:=i) (d:=e) (by simpa using h);rw[Mi.iO,j9,this];rw[show k+1+i=k+(i+1)by omega]
theorem uD:∀(ds:List D) (k:Nat),(Mi.iO k ds).length=ds.length
 |[],_=>rfl
 |d::r,k=>by rw[Mi.iO,bU,bU,uD r]
theorem Jv{x:D}{k:List D->Prop}(h:Fin (Mi.Fe x) k):∃ds,x=.lst ds/\k ds:=by
 cases x with
 |lst b=>exact⟨b,rfl,h⟩
 |_=>exact h.elim
theorem IQ{K:aI}{a:ag}{ds:List D}{P:Hp->Hp->Prop}(ok:∀H Hv,P H Hv->Vw H Hv->∃xs,dw K H a xs/\P2 (Rep Hv) ds xs):rY (rP K a) P (Mi.iO 0 ds):=by
 refine⟨λi H Hv p v hi=>?_,λi H Hv x H' p v hi y=>?_,λH Hv p v=>?_⟩
 ·obtain⟨xs,l,r⟩:=ok H Hv p v;rw[uD]at hi;obtain⟨x,hx,_⟩:=r.getL (i:=i) (a:=ds[i]) (by simp[hi]);exact⟨xs,x,l,hx⟩
 ·obtain⟨xs,l,r⟩:=ok H Hv p v;rw[uD]at hi;obtain⟨q,z,hz,hq,rfl,rfl⟩:=y;obtain⟨x,hx,rx⟩:=r.getL (i:=i) (a:=ds[i]) (by simp[hi]);rw[hz xs l]at hx;cases hx;obtain⟨g,k⟩:=GB v (ds:=[.int i,ds[i]]) (xs:=[.int i,z]) (.cons (rG.mpr rfl) (.cons rx .nil)) hq;refine⟨_,.tup [.int i,ds[i]],g,?_,k⟩;rw[DJ (i:=i) (d:=ds[i]) (by simp[hi])];simp
 ·obtain⟨xs,l,r⟩:=ok H Hv p v;exact⟨xs,l,by rw[uD,r.len]⟩
theorem N0{M:Nat->Bool}{K:aI}{ta:TE}{a:Mi.E}(ha:AE M qV ta a):gv M (FU K ta) (Mi.xl a):=λe σ H Hv R I h=>
 ha e σ H Hv _ I ((aE.mp h).mono λx hx v H1 Hv1 g1 rx=>by
  obtain⟨ds,rfl,hk⟩:=Jv (aE.mp hx);obtain⟨p,xs,rfl,l,r⟩:=(mf (H:=Hv1)).mp rx;exact⟨p,rfl,⟨xs,(l.same g1.vw.sub).sq⟩,hk (rP K p) H1 Hv1 (λH Hv=>Lst Hv p xs/\P2 (Rep Hv) ds xs) g1 (IQ λH Hv z v=>⟨xs,(z.1.same v.sub).sq,z.2⟩) ⟨l,r⟩ λH1 Hv1 H2 Hv2 z s v=>⟨z.1.same s,ft s z.2⟩⟩)
end
end A
namespace A
open PySem L2 PyProof.Rows
open Mi (D W Rs Fin aE Out Tg)
variable[Tb:bY]
section
variable{X:Cx}{K:aI}{M:Nat->Bool}{κ:Kd}{ta tb te tk:TE}{a b k:Mi.E}
theorem Ci{Hv:Hp}:∀{ds:List D} {xs:List V} {bs:List Str},Mi.k4 ds=aa bs->P2 (Rep Hv) ds xs->xs=bs.map V.str
 |[],_,bs,e,r=>by cases e;cases r;rfl
 |.str b::ds,_,bs,e,r=>by
  cases r with
  |cons x t=>
   cases hb:Mi.k4 ds with
   |none=>rw[Mi.k4,hb]at e;cases e
   |some cs=>
    rw[Mi.k4,hb]at e;cases e;rw[Ci hb t,me.mp x];rfl
 |.non::_,_,_,e,_=>by cases e
 |.int _::_,_,_,e,_=>by cases e
 |.bl _::_,_,_,e,_=>by cases e
 |.lst _::_,_,_,e,_=>by cases e
 |.tup _::_,_,_,e,_=>by cases e
theorem Dh(ha:AE M qP ta a)(hb:AE M qP tb b):AE M qV (pP K "str" (rJoin K) ta (gc tb ib)) (Mi.m2 Mi.u5 a b):=λe σ H Hv Q I h=>by
 obtain⟨x,hx,h⟩:=j6 (aE.mp h);obtain⟨y,hy,h⟩:=j6 (aE.mp h);cases x with
 | str sep=>cases y with
  |lst ds=>
   obtain⟨ys,hs,h⟩:=gI (aE.mp h);obtain⟨hz,h⟩:=Mi.c9 h;refine ha e σ H Hv _ I (by
    rw[hx];intro v H1 Hv1 g1 r1;cases RD.str r1;refine⟨rfl,hb e σ H1 Hv1 _ (I.grow g1) (by
     rw[hy];intro v2 H2 Hv2 g2 r2;obtain⟨p,xs,rfl,l,r⟩:=RD.lst g2.vw r2;have:=Ci hs r;subst this;exact⟨sep,p,ys,rfl,rfl,l.sq,hz,(Mi.m6 h) _ H2 Hv2 (g1.trans g2) oq⟩)⟩)
  |_=>exact h.elim
 |_=>cases y<;>exact h.elim
theorem uj{H:Hp}{d:D}{v:V}{y:Mi.Ky}(h:Mi.nz d=aa y)(r:Rep H d v):v=kV y:=by
 cases d with
 |bl i=>cases h;exact pe.mp r
 |str i=>cases h;exact me.mp r
 |_=>cases h
theorem ur{H:Hp}:∀{ds:List D} {vs:List V} {ys:List Mi.Ky},Mi.mT ds=aa ys->P2 (Rep H) ds vs->vs=ys.map kV
 |[],_,_,h,r=>by cases h;cases r;rfl
 |d::ds,_,ys,h,r=>by
  cases r with
  |cons x t=>
   unfold Mi.mT at h;cases h1:Mi.nz d with
   |none=>rw[h1]at h;cases h
   |some y=>
    cases h2:Mi.mT ds with
    |none=>rw[h1,h2]at h;cases h
    |some zs=>
     rw[h1,h2]at h;cases h;rw[uj h1 x,ur h2 t];rfl
theorem DA{H Hv:Hp}(vw:Vw H Hv){w:W}{x:V}{d:D}{v:V}{q:Option D->Prop}(hw:RB H Hv w x)(r:Rep Hv d v)(h:Fin (Mi.qt w d) q):∃a o o',x=.ref a/\jW H a v o/\q o'/\match o' with
 |some d'=>∃v',o=aa v'/\Rep Hv d' v'
 |none=>o=ac:=by
 cases w with
 |d x=>exact h.elim
 |ex z=>exact h.elim
 |fn z=>exact h.elim
 |dk ak=>
  obtain⟨y,hy,h⟩:=gI (aE.mp h);have h:q (Mi.jj ak y):=h;have:∃a kv,x=.ref a/\H a=aa (.dK kv)/\eM Hv ak kv:=by
   rcases hw with ⟨a,kv,e,z,c⟩|⟨a,o,e,z,c⟩
   ·exact⟨a,kv,e,vw.sub _ _ z,c⟩
   ·cases o with
    |dK kv=>exact⟨a,kv,e,z,c⟩
    |_=>exact c.elim
  obtain⟨a,kv,e,z,c⟩:=this;have hv:=uj hy r;subst hv;exact⟨a,_,_,e,jW.k z,h,xH c⟩
 |dt ak=>
  cases d with
  |tup ds=>
   obtain⟨y,hy,h⟩:=gI (aE.mp h);have h:q (Mi.jj ak y):=h;have:∃a kv,x=.ref a/\H a=aa (.dT kv)/\eM Hv ak kv:=by
    rcases hw with ⟨a,kv,e,z,c⟩|⟨a,o,e,z,c⟩
    ·exact⟨a,kv,e,vw.sub _ _ z,c⟩
    ·cases o with
     |dT kv=>exact⟨a,kv,e,z,c⟩
     |_=>exact c.elim
   obtain⟨a,kv,e,z,c⟩:=this;obtain⟨b,xs,rfl,l,r⟩:=jY.mp r;have hv:=ur hy r;subst hv;exact⟨a,_,_,e,jW.t z (vw.sub _ _ l),h,xH c⟩
  |_=>exact h.elim
 |df ak=>
  cases d with
  |tup ds=>
   obtain⟨y,hy,h⟩:=gI (aE.mp h);have h:q (Mi.jj ak y):=h;have:∃a ob kv,x=.ref a/\H a=aa (.frz ob (.dT kv))/\eM Hv ak kv:=by
    rcases hw with ⟨a,ob,kv,e,z,c⟩|⟨a,o,e,z,c⟩
    ·exact⟨a,ob,kv,e,vw.sub _ _ z,c⟩
    ·exact c.elim
   obtain⟨a,ob,kv,e,z,c⟩:=this;obtain⟨b,xs,rfl,l,r⟩:=jY.mp r;have hv:=ur hy r;subst hv;exact⟨a,_,_,e,.inr ⟨kv,y,b,.inr ⟨ob,z⟩,rfl,vw.sub _ _ l,rfl⟩,h,xH c⟩
  |_=>exact h.elim
theorem y6(i:Nat)(hk:AE M qV tk k):AE M qV (DH tk (eB i)) (Mi.kI i k):=λe σ H Hv Q I h=>
 hk e σ H Hv _ I ((aE.mp h).mono λd hd v H1 Hv1 g1 r=>by
  obtain⟨w,he,hd⟩:=oH (aE.mp hd);have I1:=I.grow g1;obtain⟨x,q,z⟩:=I1.any he;obtain⟨a,o,o',e1,g,h2,m⟩:=DA g1.vw z r (aE.mp hd);refine⟨x,q,a,o,e1,g,?_⟩;have:o.isSome=o'.isSome:=by
   cases o' with
   |none=>have m:o=ac:=m;rw[m];rfl
   |some d'=>obtain⟨v',m,_⟩:=m;rw[m];rfl
  rw[this];exact h2 _ H1 Hv1 g1 fv)
theorem ED(i:Nat)(hk:AE M qV tk k):AE M qV (CV tk (eB i)) (Mi.gV i k):=λe σ H Hv Q I h=>
 hk e σ H Hv _ I ((aE.mp h).mono λd hd v H1 Hv1 g1 r=>by
  obtain⟨w,he,hd⟩:=oH (aE.mp hd);have I1:=I.grow g1;obtain⟨x,q,z⟩:=I1.any he;obtain⟨a,o,o',e1,g,h2,m⟩:=DA g1.vw z r (aE.mp hd);refine⟨x,q,a,o,e1,g,?_⟩;have:o.isSome=o'.isSome:=by
   cases o' with
   |none=>have m:o=ac:=m;rw[m];rfl
   |some d'=>obtain⟨v',m,_⟩:=m;rw[m];rfl
  rw[this];exact h2 _ H1 Hv1 g1 fv)
theorem qK{tv:TE}{v:Mi.E}(i:Nat)(hm:M i=true)(hk:AE M qV tk k)(hv:AE M qV tv v):AS M κ (L2.dZ (eB i) tk tv) (Mi.dZ i k v):=λH0 Hv0 e σ H Hv D I h=>by
 obtain⟨d,hd,h⟩:=j6 (aE.mp h);obtain⟨y,hy,h⟩:=j6 (aE.mp h);obtain⟨w,he,h⟩:=oH (aE.mp h);refine hv e σ H Hv _ I.toR0 (by
  rw[hd];intro x H1 Hv1 g1 rx;have I1:=I.grow g1;obtain⟨p,o,q,q1,n,h0,c⟩:=I1.cell hm he;refine⟨.ref p,q,hk e σ H1 Hv1 _ I1.toR0 (by
   rw[hy];intro u H2 Hv2 g2 ru;have I2:=I1.grow g2;have c2:=c.same g2.vis;have q2:=g2.old.at q1 c.nt;have g12:=g1.trans g2;have rx2:=j1 g2.vis rx;cases w with
   |d x=>exact(show False from aE.mp h).elim
   |ex z=>exact(show False from aE.mp h).elim
   |fn z=>exact(show False from aE.mp h).elim
   |df z=>exact(show False from aE.mp h).elim
   |dk ak=>
    obtain⟨hz,h⟩:=Mi.c9 (aE.mp h);obtain⟨ky,hky,h⟩:=gI (aE.mp h);cases o with
    |dK kv=>
     have c2:eM Hv2 ak kv:=c2;have hu:=uj hky ru;subst hu;refine⟨p,_,rfl,lY.k q2 (by rw[<- P2.len c2,eF];exact hz),?_⟩;exact h σ _ Hv2 (I2.write hm he q (show d6 Hv2 (.dk (Mi.putK ky d ak)) (.dK (L2.putK kv ky x))from Bs rx2 c2)) g12.vis
    |_=>exact c2.elim
   |dt ak=>
    cases y with
    |tup ds=>
     obtain⟨hz,h⟩:=Mi.c9 (aE.mp h);obtain⟨ky,hky,h⟩:=gI (aE.mp h);cases o with
     |dT kv=>
      have c2:eM Hv2 ak kv:=c2;obtain⟨b,xs,rfl,l,r⟩:=(jY (H:=Hv2)).mp ru;have hu:=ur hky r;subst hu;refine⟨p,_,rfl,lY.t q2 (g2.vw.sub _ _ l) (by rw[<- P2.len c2,eF];exact hz),?_⟩;exact h σ _ Hv2 (I2.write hm he q (show d6 Hv2 (.dt (Mi.putK ky d ak)) (.dT (L2.putK kv ky x))from Bs rx2 c2)) g12.vis
     |_=>exact c2.elim
    |_=>exact(show False from aE.mp h).elim)⟩)
end
end A
namespace Zp
end Zp
namespace Zp
end Zp
namespace Zp
end Zp
namespace Zp
end Zp
namespace Mi
end Mi
namespace Zp
open PySem PySem.Spec PyProof.Rows L2 A
open Mi (D W Rs Fin aE)
variable[Tb:A.bY]
end Zp
namespace Zp
end Zp
namespace Mi
end Mi
namespace Zp
open PySem PySem.Spec PyProof.Rows L2 A
open Mi (D W Rs Fin aE)
open AutoSeq1 (wpAny_loadPart')
variable[Tb:A.bY]
end Zp
namespace Mi
def CT(k v:E):EW:=λe=>(k e).bind λd=>(v e).bind λx=>(dE (nz d)).bind λy=>.ok (.dk [(y,x)])
end Mi
namespace Zp
open PySem PySem.Spec PyProof.Rows L2 A
open Mi (D W Rs Fin aE)
variable[Tb:A.bY]
section
variable{X:Cx}{M:Nat->Bool}{κ:Kd}
theorem KJ{k v:aW}{tk tv:TE}{pos:Pos}(hk:PE X k tk)(hv:PE X v tv):PE X (.Dict [aa k] [v] pos) (yd [(tk,tv)]):=Mc (JK hk hv J5) rfl rfl (by simp) (by simp)
theorem Oj{tk tv:TE}{k v:Mi.E}(hk:AE M qV tk k)(hv:AE M qV tv v):AW M qN (yd [(tk,tv)]) (Mi.CT k v):=λe σ H Hv Q I h p hp=>by
 have g0:bC H Hv (upd H p (.dK [])) Hv:=.oN I.vw trivial hp;refine hk e σ _ Hv _ (I.grow g0) ((aE.mp h).mono λd hd x H1 Hv1 g1 rx=>hv e σ H1 Hv1 _ ((I.grow g0).grow g1) ((aE.mp hd).mono λc hc y H2 Hv2 g2 ry=>?_));obtain⟨z,hz,hq⟩:=gI (aE.mp hc);have hx:=uj hz (show Rep Hv1 d x from rx);subst hx;have hp2:H2 p=aa (.dK []):=g2.old.at (g1.old.at bG);have n1:Hv1 p=ac:=g1.hid p _ bG (mR I.vw hp);have n2:Hv2 p=ac:=g2.hid p _ (g1.old.at bG) n1;have G:=g0.trans (g1.trans g2);refine⟨hp2,[(z,y)],rfl,by simp,hq (.ref p) (upd H2 p (.dK [(z,y)])) Hv2 ⟨G.old.put hp hp2,g1.vis.trans g2.vis,⟨λb u q=>?_,λb xs q=>?_,λb o u q=>?_,g2.vw.cd.put hp2 trivial trivial,g2.vw.nv⟩,G.hid⟩ ⟨p,.dK [(z,y)],rfl,hp,bG,n2,.cons ⟨rfl,show Rep Hv2 c y from ry⟩ .nil⟩⟩
 ·have hb:b≠p:=dz q n2;rw[aN hb];exact g2.vw.sub _ _ q
 ·by_cases hb:b=p
  ·subst hb;rw[bG]at q;cases q
  ·rw[aN hb]at q;exact g2.vw.tup _ _ q
 ·by_cases hb:b=p
  ·subst hb;rw[bG]at q;cases q
  ·rw[aN hb]at q;exact g2.vw.frz _ _ _ q
end
end Zp
namespace Mi
abbrev SN:=List D->List D->Env->Rs Out
end Mi
namespace Zp
open PySem PySem.Spec PyProof.Rows L2 A
open Mi (D W Rs Fin aE Out)
variable[Tb:A.bY]
end Zp
namespace A
end A
namespace A
end A
namespace Mi
open PySem
def Ps(xs ys:List Str):Bool:=xs.all (λx=>decide (x∈ys))&&ys.all (λy=>decide (y∈xs))
end Mi
namespace A
end A
namespace A
end A
namespace So
end So
namespace So
end So
namespace So
end So
namespace L2
open PySem PySem.Spec PyProof.Rows
abbrev pi(qual:Str)(scope:dJ)(s:aw)(f c':ag)(cl:List (Str×ag)):Env:=PySem.W.envX qual scope s.heap.objs.size f (.ref c') cl
end L2
namespace So
end So
namespace L2
open PySem PySem.Spec PyProof.Rows A So
variable[Tb:bY]
def Tab(T:ag)(q:Str)(H H':Hp):Prop:=H'=H\/∃ps ps' c,H T=aa (.tbl q ps)/\H c=ac/\c≠T/\H'=upd (upd H T (.tbl q ps')) c (.ext (gz c q))/\gJ H'
theorem Me{c:ah}{p:Pos}:∀{l:List ah},qb l->qb (l++[rawInt p.line,rawInt p.col,c]):=λ{l} h=>by
 fun_induction qb l with
 |case1=>exact trivial
 |case2 a b c' d e rest ih=>exact ih h
 |case3 _ _=>exact h.elim
theorem M1{c v:ah}{p p2:Pos}:∀{l:List ah},qb l->codeAmong p2 (l++[rawInt p.line,rawInt p.col,c])=aa v->codeAmong p2 l=aa v\/v=c:=λ{l} h e=>by
 fun_induction qb l with
 |case1=>
  simp only[sO,codeAmong,rawInt]at e;split at e
  ·exact .inr (by cases e;rfl)
  ·cases e
 |case2 a b c' d e' rest ih=>
  simp only[vT,codeAmong]at e ⊢;split at e
  ·rename_i q;rw[a8 q];exact .inl e
  ·rename_i q;rw[be q];exact ih h e
 |case3 _ _=>exact h.elim
def BM(mg:Str->Option ah)(base:aL):Prop:=∃bm o,mg "__builtins__" = aa (.ref bm)/\bm≠builtinsNs/\bm≠mainGlobals/\base.get? bm=aa o/\o.cls=.type "module" /\ o.dict=aa builtinsNs/\o.data=.plain
section
variable{X:Cx}{af:List (ag×Obj)}{σ:St}{H:Hp}{s:aw}{qual x:Str}{ps:nO}{body:aW}{sc:dJ}{cl:List (Str×ag)}{c T:ag}{pos:Pos}
theorem ND(c:ag)(q:Str):∀h1 h2:aL,gz c q h1->(∀o,h1.get? c=aa o->h2.get? c=aa o)->gz c q h2:=λh1 h2 ⟨o,vs,t,e,d,r⟩ k=>⟨o,vs,t,k o e,d,r⟩
theorem Lm{Q:ah->aw->Prop}{E:ah->aw->Prop}(I:Inv X af σ H s)(hc:X.env.code=.ref c)(C:i5 X.base c T)(k:gJ H){tps:Array ah}(hT:H T=aa (.tbl qual tps))(hB:BM X.mg X.base)
 (hdef:defaultsOf ps X.env=([],[])) (hq:X.env.qual ++ "<lambda>" = qual) (hcl:closureFor sc X.env=pure cl)
 (h:∀f c' ctv pm s' H',Tab T qual H H'->H' c'=aa (.ext (gz c' qual))->s'.heap.get? f=aa (pQ "<lambda>" qual ps body sc cl pm c' ctv)->Inv X af σ H' s'->gN X af H' f->Q (.ref f) s') :
 wpAny (model X.prog X.w) X.A (eval (.Lambda ps body sc pos) X.env) Q E s:=by
 obtain⟨ok1,ok2⟩:=k.cd T qual tps hT;have hP:s.heap.get? T=aa (vJ tps):=I.hok T _ hT;have hg:s.heap.Ns mainGlobals X.mg:=I.mod.glob.keeps I.bk;have C':i5 s.heap c T:=C.keeps I.bk;obtain⟨bm,bo,b1,b2,b3,b4,b5,b6,b7⟩:=hB;have nT:∀b o,X.base.get? b=aa o->b≠T:=λb o e z=>by
  have:=(I.bs b o e).2;rw[z,hT]at this;cases this
 have hb:s.heap.BuiltinsAt X.mg T:=⟨bm,bo,b1,b2,b3,nT _ _ b4,I.bk _ _ b4,b5,b6,b7⟩;have hgT:mainGlobals≠T:=by obtain⟨o,es,ep,e,_⟩:=I.mod.glob;exact nT _ _ e
 refine PySem.W.kla_eval hdef ?_;rw[hq];cases hf:codeAmong pos tps.toList with
 |some v=>
  obtain⟨c',rfl,hc'⟩:=ok2 pos v hf;refine PySem.W.kla_makeFunctionHit hcl I.ok.glob hg hc C' hP ok1 hf hb λctv h' tk kp sz=>?_;have I':Inv X af σ H { s with heap:=h'.push _,toks:=tk }:=I.kept (h':=h'.push (pQ "<lambda>" qual ps body sc cl ((X.mg "__name__").getD .none) c' ctv)) λb o e=>dU _ (kp b o e);exact h _ c' ctv _ _ H (.inl rfl) hc' (fw _ rfl) I' (I.iE sz (I.hok.fresh sz))
 |none=>
  refine PySem.W.kla_makeFunction hcl I.ok.glob hg hc C' hP ok1 hf hgT hb λc' ctv h' tk kp h1 h2 hrec htb=>?_;have nc:H c'=ac:=I.hok.fresh h1;have cT:c'≠T:=λz=>by rw[z,hT]at nc;cases nc
  have hx:gz c' qual h':=by obtain⟨c2,o,vs,t,e,r⟩:=hrec;cases e;exact⟨o,vs,t,r⟩
  obtain⟨oc,hoc⟩ : ∃o,h'.get? c'=aa o:=let ⟨o,_,_,e,_⟩:=hx;⟨o,e⟩;have u1:Un X.fs [] H (upd H T (.tbl qual (tps ++ #[rawInt pos.line,rawInt pos.col,.ref c']))) s.heap h':=by
   have nn:∀b,H b=ac->b≠T:=λb n z=>by rw[z,hT]at n;cases n
   refine⟨λb o e n _ _=>kp b o (nn b n) e,λb o e n _ _=>⟨o.slots,kp b o (nn b n) e⟩,λb o e n _=>by rw[aN (nn b n)];exact n,λb o e _=>?_,λb xs e=>?_,λb o u e=>?_,λb w ps e=>?_⟩
   ·by_cases z:b=T
    ·rw[z];exact⟨_,htb⟩
    ·exact⟨o,kp b o z e⟩
   ·rw[aN (λz=>by rw[z,hT]at e;cases e)];exact e
   ·rw[aN (λz=>by rw[z,hT]at e;cases e)];exact e
   ·by_cases z:b=T
    ·subst z;rw[hT]at e;cases e;exact⟨_,bG⟩
    ·exact⟨#[],by rw[aN z,e];simp⟩
  have P5:cv X.prog X.w (upd H T (.tbl qual (tps ++ #[rawInt pos.line,rawInt pos.col,.ref c']))) h':=λb u e=>by
   by_cases z:b=T
   ·subst z;rw[bG]at e;cases e;exact htb
   ·rw[aN z]at e;refine(I.hok b u e).stay (λy v hy q=>kp y v ?_ q) (λy q=>by rw[aN (λw=>by rw[w,hT]at q;cases q)];exact q) λy xs q=>by rw[aN (λw=>by rw[w,hT]at q;cases q)];exact q
    rcases hy with w|w
    ·rw[w];exact z
    ·exactλw2=>by rw[w2,hT]at w;cases w
  have I1:Inv X af σ (upd H T (.tbl qual (tps ++ #[rawInt pos.line,rawInt pos.col,.ref c']))) { s with heap:=h',toks:=tk }:=I.un u1 P5;have nc1:upd H T (.tbl qual (tps ++ #[rawInt pos.line,rawInt pos.col,.ref c'])) c'=ac:=by rw[aN cT];exact nc
  have I2:Inv X af σ (upd (upd H T (.tbl qual (tps ++ #[rawInt pos.line,rawInt pos.col,.ref c']))) c' (.ext (gz c' qual))) { s with heap:=h',toks:=tk }:=by
   have F:gN X af (upd H T (.tbl qual (tps ++ #[rawInt pos.line,rawInt pos.col,.ref c']))) c':=⟨nc1,(I.iE (H':=H) h1 nc).2⟩;have tw:∀b u,(upd H T (.tbl qual (tps ++ #[rawInt pos.line,rawInt pos.col,.ref c']))) b=aa u->b≠c':=λb u e=>dz e nc1;refine I1.call' (s':={ s with heap:=h',toks:=tk }) (ch:=[c']) rfl ⟨λb u e _ _ _=>e,λb u e _ _ _=>⟨u.slots,e⟩,λb u e n hb=>?_,λb u e hb=>⟨u,e⟩,λb xs e=>by rw[aN (tw _ _ e)];exact e,λb q u e=>by rw[aN (tw _ _ e)];exact e,λb w ps e=>⟨#[],by rw[aN (tw _ _ e),e];simp⟩⟩ ?_ I.bare
    λb hb=>by
     obtain rfl:b=c':=by simpa using hb
     exact⟨F.2.2.2.1,F.2.1,F.2.2.2.2.1,F.2.2.2.2.2⟩
   ·rw[aN (λz=>hb (by simp[z]))];exact n
   ·intro b u e;by_cases z:b=c'
    ·subst z;rw[bG]at e;cases e;exact⟨hx,⟨oc,hoc⟩,ND b qual⟩
    ·rw[aN z]at e;exact(I1.hok b u e).stay (λy v hy q=>q) (λy q=>by rw[aN (tw _ _ q)];exact q) λy xs q=>by rw[aN (tw _ _ q)];exact q
  have P6:∀b o,h'.get? b=aa o->(h'.push (pQ "<lambda>" qual ps body sc cl ((X.mg "__name__").getD .none) c' ctv)).get? b=aa o:=λb o e=>dU _ e;have I3:=I2.kept (t':=tk) P6;have szs:s.heap.objs.size<=h'.objs.size:=eW h1 (wm h2);have ck:gJ (upd (upd H T (.tbl qual (tps ++ #[rawInt pos.line,rawInt pos.col,.ref c']))) c' (.ext (gz c' qual))):=by
   have nT':∀{b:ag} {o:HO},H b=aa o->NT o->upd (upd H T (.tbl qual (tps ++ #[rawInt pos.line,rawInt pos.col,.ref c']))) c' (.ext (gz c' qual)) b=aa o:=λ{b o} e n=>by
    rw[aN (dz e nc),aN (λz=>by rw[z,hT]at e;cases e;exact n)];exact e
   refine⟨λr hr=>?_,λT2 q2 ps2 e=>?_,λa2 q2 xs2 e=>?_⟩
   rotate_left 2
   ·by_cases z:a2=c'
    ·subst z;rw[bG]at e;cases e
    ·rw[aN z]at e;by_cases z2:a2=T
     ·subst z2;rw[bG]at e;cases e
     ·rw[aN z2]at e;exact k.fz a2 q2 xs2 e
   ·obtain⟨p0,e0⟩:=k.has r hr;by_cases z:r.1=T
    ·rw[z,hT]at e0;have:qual=r.2:=by injection e0 with e0;injection e0
     exact⟨_,by rw[aN (by rw[z];exact dO cT),z,bG,this]⟩
    ·exact⟨p0,by rw[aN (dz e0 nc),aN z];exact e0⟩
   ·by_cases z:T2=c'
    ·subst z;rw[bG]at e;cases e
    ·rw[aN z]at e;by_cases z2:T2=T
     ·subst z2;rw[bG]at e;have e1:qual=q2:=by injection e with e;injection e
      have e2:tps ++ #[rawInt pos.line,rawInt pos.col,.ref c']=ps2:=by injection e with e;injection e
      subst e1 e2;refine⟨by rw[s0];exact Me ok1,λp2 v hv=>?_⟩;rw[s0]at hv;rcases M1 ok1 hv with q|q
      ·obtain⟨y,y1,y2⟩:=ok2 p2 v q;exact⟨y,y1,nT' y2 trivial⟩
      ·exact⟨c',q,bG⟩
     ·rw[aN z2]at e;obtain⟨t1,t2⟩:=k.cd T2 q2 ps2 e;refine⟨t1,λp2 v hv=>?_⟩;obtain⟨y,y1,y2⟩:=t2 p2 v hv;exact⟨y,y1,nT' y2 trivial⟩
  refine h h'.objs.size c' ctv _ _ _ (.inr ⟨tps,_,c',hT,nc,cT,rfl,ck⟩) bG (fw _ rfl) I3 ?_;refine I.iE szs ?_;rw[aN (wp h2),aN (λz=>?_)]
  ·exact I.hok.fresh szs
  ·have:=I.hok.fresh szs;rw[z,hT]at this;cases this
end
end L2
namespace L2
end L2
namespace Mi
open PySem
end Mi
namespace A
end A
namespace So
open PySem
end So
namespace A
open PySem L2 PyProof.Rows So
open Mi (D W Rs Fin aE Out Tg)
variable[Tb:bY]
theorem LZ{T:ag}{q:Str}{H H' Hv:Hp}(v:Vw H Hv)(t:Tab T q H H'):bC H Hv H' Hv:=by
 rcases t with rfl|⟨ps,ps',c,hT,hc,ne,rfl,ck⟩
 ·exact .refl v
 ·have get:∀{a o},H a=aa o->NT o->upd (upd H T (.tbl q ps')) c (.ext (gz c q)) a=aa o:=λ{a o} e n=>by
   rw[aN (dz e hc),aN (λz=>by rw[z,hT]at e;cases e;exact n)];exact e
  have back:∀{a o},upd (upd H T (.tbl q ps')) c (.ext (gz c q)) a=aa o->(∀w ps,o≠.tbl w ps)->(∀φ,o≠.ext φ)->H a=aa o:=λ{a o} e n1 n2=>by
   by_cases z:a=c
   ·subst z;rw[bG]at e;cases e;exact absurd rfl (n2 _)
   ·rw[aN z]at e;by_cases z2:a=T
    ·subst z2;rw[bG]at e;cases e;exact absurd rfl (n1 _ _)
    ·rw[aN z2]at e;exact e
  refine⟨⟨λa o e n=>get e n,λa e=>?_,λa w p0 e=>?_⟩,cA.refl _,⟨λa o e=>get (v.sub a o e) (v.nv a o e),λa xs e=>v.tup a xs (back e (λ_ _ z=>by cases z) (λ_ z=>by cases z)),λa o u e=>v.frz a o u (back e (λ_ _ z=>by cases z) (λ_ z=>by cases z)),ck,v.nv⟩,λ_ _ _ n=>n⟩
  ·by_cases z:a=c
   ·subst z;exact hc
   ·rw[aN z]at e;by_cases z2:a=T
    ·subst z2;rw[bG]at e;cases e
    ·rw[aN z2]at e;exact e
  ·by_cases z2:a=T
   ·subst z2;rw[hT]at e;cases e;exact⟨ps',by rw[aN (dO ne),bG]⟩
   ·exact⟨p0,by rw[aN (dz e hc),aN z2];exact e⟩
end A
namespace L2
open PySem PySem.Spec PyProof.Rows A So
structure r6(K:aI)(x qual:Str)(st:bq)(c f:ag)(fd:bD):Prop where
 ex:∃(oc:ah) (od:Option ag) (kV doc pm:ah) (an:Option ag) (ct:ah) (osl:Array (Option ah)),
  fd=i6 x qual (lN st) (gu st) (bA st) .none kV doc pm an (.ref c) ct/\K.lookup f=aa ⟨oc,od,.func fd,osl⟩/\nH K (.ref c) qual=true
section
variable{P:bt}{w:a9}{K:aI}{mg:Str->Option ah}{base:aL}
theorem r6.ok{x qual:Str}{st:bq}{c f:ag}{fd:bD}{N ps:List Str}{k:Nat}{sp:Sp}(F:r6 K x qual st c f fd)(S:bZ N ps (bA st))(len:∀vs H Q E,sp vs H Q E->vs.length=ps.length)
 (hbody:∀(A:bH) (outer:List Env) (s:aw) (H:Hp) (vs:List V) (Q:VK) (E:XK),cE k (A.deeper (envOfC qual (bA st) s.heap.objs.size f (.ref c)))->sp vs H Q E ->
  ∃t,eZ (dQ aR P w K mg base N qual (bA st) f (.ref c) A outer s H E).kB (gu st) t/\t { nx:=λ_ H'=>Q .non H',rt:=Q } (start N vs) H):bJ P w K mg base aR (k+1) f fd ps sp:=by
 obtain⟨oc,od,kV,doc,pm,an,ct,osl,rfl,lk,hcd⟩:=F.ex;refine xK lk hcd S len λA outer s H vs Q E hr hsp=>?_;obtain⟨t,h,q⟩:=hbody A outer s H vs Q E hr hsp;exact⟨t,h.kB,q⟩
end
structure uC(K:aI)(mg:Str->Option ah)(x:Str)(st:bq)(ps:List Str)(c:ag):Prop where
 ex:∃(f:ag) (fd:bD),mg x=aa (.ref f)/\j8 K (.ref f)=true/\Binds K fd ps []/\r6 K x x st c f fd
theorem MK{K:aI}{h:aL}{mg:Str->Option ah}{x:Str}{st:bq}{ps:List Str}{f c:ag}{oc:ah}{od an:Option ag}{osl:Array (Option ah)}{kV doc pm ct:ah}(X:K.In h)(G:h.Ns mainGlobals mg)
 (hb:∀(kV doc pm:ah) (an:Option ag) (cdv ct:ah) (us:List ah),us.length=ps.length->bindArgs (i6 x x (lN st) (gu st) (bA st) .none kV doc pm an cdv ct) ⟨us,[]⟩=pure (ps.zip us))
 (a:cK K mainGlobals x=aa (aa (.ref f))) (l:K.lookup f=aa ⟨oc,od,.func (i6 x x (lN st) (gu st) (bA st) .none kV doc pm an (.ref c) ct),osl⟩)
 (cc:nH K (.ref c) x=true) (k:j8 K (.ref f)=true):uC K mg x st ps c:=by
 have F:=Es (st:=st) l cc k;exact⟨f,_,fW X G a,k,F.binds hb,⟨oc,od,kV,doc,pm,an,ct,osl,rfl,l,cc⟩⟩
theorem uC.cal{P:bt}{w:a9}{K:aI}{mg:Str->Option ah}{base:aL}{CX:f6}{k:Nat}{x:Str}{st:bq}{ps:List Str}{c:ag}{sp:Sp}(F:uC K mg x st ps c)(h:∀f fd,r6 K x x st c f fd->bJ P w K mg base CX k f fd ps sp) :
 bN P w K mg base CX k x ps sp:=by
 obtain⟨f,fd,h1,h2,h3,h4⟩:=F.ex;exact⟨f,fd,h1,h2,h3,h f fd h4⟩
section
variable[Tb:bY]
theorem Mp{P:bt}{w:a9}{K:aI}{mg mb:Str->Option ah}{k:Nat}{fa a c T:ag}{q:Str}{fd:bD}{x:Str}{s₁:aw}{vs:List ah}{ns:List Int}(hTb:Tb.l=[(T,q)])
 (KX:K.In s₁.heap) (hns:s₁.heap.Ns mainGlobals mg) (hb:s₁.heap.Ns builtinsNs mb) (hbb:∀x:Str,x ≠ "__name__" -> mb x=bootBuiltins x) (hlim:s₁.heap.NoLimit) (hg:s₁.gens = #[])
 (ha:s₁.heap.get? a=aa { cls:=.type "list", data:=.seq vs.toArray }) (hi:IntsAre vs ns) (hl:ns.length<=63) (hr:cE k callerA)
 (hKa:K.lookup a=ac) (hKT:K.lookup T=ac) (C:i5 s₁.heap c T) (hT:s₁.heap.get? T=aa (vJ #[])) (hB:BM mg s₁.heap)
 (F:∀base:aL,K.In base->base.Ns mainGlobals mg->BM mg base->i5 base c T->bJ P w K mg base aR k fa fd [x] qU) (hbind:∀(s:aw) (u:ah),kT s fd ⟨[u],[]⟩ [(x,u)]) :
 codeAny (model P w) callerA (.call (.ref fa) ⟨[.ref a],[]⟩) (λr s'=>r=.ok (.ret (.bool true))/\OldK s₁.heap s'.heap/\s'.os=s₁.os/\kW s'.gens) s₁:=by
 have rv:=Gb hi;have lenV:=hi.length;have aT:a≠T:=λz=>by rw[z,hT]at ha;cases ha
 let H:Hp:=λb=>if b=a then aa (.frz { cls:=.type "list",data:=.seq vs.toArray } (.lst (ns.map V.int)))else if b=T then aa (.tbl q #[])else ac;have Ha:H a=aa (.frz { cls:=.type "list", data:=.seq vs.toArray } (.lst (ns.map V.int))):=a8 rfl;have HT:H T=aa (.tbl q #[]):=by show(if T=a then _ else _)=_;rw[be (dO aT),a8 rfl]
 have Hn:∀b,b≠a->b≠T->H b=ac:=λb h1 h2=>by show(if b=a then _ else _)=_;rw[be h1,be h2]
 have Hd:∀{b u},H b=aa u->(b=a/\u=.frz { cls:=.type "list", data:=.seq vs.toArray } (.lst (ns.map V.int)))\/(b=T/\u=.tbl q #[]):=λ{b u} e=>by
  by_cases h1:b=a
  ·subst h1;rw[Ha]at e;cases e;exact .inl ⟨rfl,rfl⟩
  ·by_cases h2:b=T
   ·subst h2;rw[HT]at e;cases e;exact .inr ⟨rfl,rfl⟩
   ·rw[Hn b h1 h2]at e;cases e
 have hok:cv P w H s₁.heap:=λb u e=>by
  rcases Hd e with ⟨rfl,rfl⟩|⟨rfl,rfl⟩
  ·exact⟨ha,by rw[bd,eF];omega,vs,_,rv,ha⟩
  ·exact hT
 have free:∀{b:ag} {o:Obj},s₁.heap.get? b=aa o->o.cls≠.type "list" -> o≠vJ #[]->H b=ac:=λ{b o} e h1 h2=>by
  refine Hn b (λz=>?_) λz=>?_
  ·rw[z,ha]at e;cases e;exact h1 rfl
  ·rw[z,hT]at e;cases e;exact h2 rfl
 have wH:∀{b:ag} {o:Obj},s₁.heap.get? b=aa o->H b=ac->(jR s₁.heap H).get? b=aa o:=λe n=>JB e n;have nsK:∀{b:ag} {m:Str->Option ah},s₁.heap.Ns b m->(jR s₁.heap H).Ns b m:=λ{b m} ⟨o,es,ep,e,d,r⟩=>⟨o,es,ep,wH e (Hn b (λz=>by rw[z,ha]at e;cases e;cases d) λz=>by rw[z,hT]at e;cases e;cases d),d,r⟩;have hKb:K.In (jR s₁.heap H):=λb o e=>wH (KX b o e) (Hn b (λz=>by rw[z,hKa]at e;cases e) λz=>by rw[z,hKT]at e;cases e);have hM:Mod K mg (jR s₁.heap H):=⟨hKb,nsK hns,⟨mb,nsK hb,hbb⟩,let ⟨mc,h1,h2⟩:=hlim;⟨mc,nsK h1,h2⟩⟩;have e0:kq P w K mg (jR s₁.heap H) callerA [] s₁ H:=⟨rfl,hM,λb o e=>O3 e,z8 (OU _ _),trivial,λb hb=>absurd (show b∈([]:List ag)from hb) (by simp),hok,.of_eq hg⟩;have hB':BM mg (jR s₁.heap H):=by obtain⟨bm,bo,b1,b2,b3,b4,b5,b6,b7⟩:=hB;exact⟨bm,bo,b1,b2,b3,wH b4 (free b4 (by rw[b5];decide) (λz=>by rw[z]at b5;cases b5)),b5,b6,b7⟩
 have C':i5 (jR s₁.heap H) c T:=by obtain⟨o,vs2,file,tf,flags,tg,inF,text,tt,e,h1,r⟩:=C;exact⟨o,vs2,file,tf,flags,tg,inF,text,tt,wH e (free e (by rw[h1];decide) (λz=>by rw[z]at h1;cases h1)),h1,r⟩
 have ck:gJ H:=⟨λr hr=>by
  rw[hTb]at hr;obtain rfl:r=(T,q):=by simpa using hr
  exact⟨#[],HT⟩,λT2 q2 ps e=>by
  rcases Hd e with ⟨_,z⟩|⟨_,z⟩
  ·cases z
  ·cases z;exact⟨trivial,λpos v hv=>by cases hv⟩,λb o xs e=>by
  rcases Hd e with ⟨_,z⟩|⟨_,z⟩
  ·cases z;intro x hx;obtain⟨i,_,rfl⟩:=db.mp hx;exact⟨i,rfl⟩
  ·cases z⟩
 refine qa ((F _ hKb (nsK hns) hB' C').run callerA [] s₁ H ⟨[.ref a],[]⟩ [.ref a] [.ref a] (λv _=>v=.bl true) (λ_ _ _=>False) hr e0 (hbind s₁ (.ref a)) (.cons rfl .nil) ⟨a,ns,rfl,.inr ⟨_,Ha⟩,hl,ck,λ_=>rfl⟩) λr s' h=>?_;cases r with
 |error e=>exact h.elim
 |ok fl=>
  cases fl with
  |next=>exact eR h
  |brk=>exact eR h
  |cont=>exact eR h
  |ret u=>
   obtain⟨v,H',os,bare,un,hok',r',q'⟩:=h;have q':v=.bl true:=q';subst q';obtain rfl:u=jD true:=r';have old:∀b o,s₁.heap.get? b=aa o->asItWas s₁.heap s'.heap b o:=λb o e=>by
    by_cases h1:b=a
    ·subst h1;have z2:=un.i8 b _ _ Ha;obtain⟨e2,_⟩:=hok' b _ z2;rw[ha]at e;cases e;exact .inl e2
    ·by_cases h2:b=T
     ·subst h2;obtain⟨more,z2⟩:=un.i9 b _ _ HT;have e2:s'.heap.get? b=aa (vJ (#[]++more)):=hok' b _ z2;rw[hT]at e;cases e;obtain⟨oc,vs2,_,_,_,_,_,_,_,f1,f2,f3,f4,_⟩:=C;exact .inr (.inl ⟨⟨c,oc,vs2,f1,f2,f3,f4⟩,rfl,#[],more,rfl,e2⟩)
     ·exact .inl (un.keep b o e (Hn b h1 h2) (by intro z;exact absurd (show b∈([]:List ag)from z) (by simp)) (by simp))
   exact⟨rfl,⟨old,λb o e=>un.there b o e (by simp)⟩,os,bare⟩
theorem Pl{l:zG}{k:Nat}{q:bt}{loose:List Str}{XP:(Str->Option ah)->aL->Prop}{YP:a9->aL->Prop}{d:DefRec}{K:Params->aI}{x dn:Str}{c T:ag}{qn:Str}(hTb:Tb.l=[(T,qn)])
 (hn:l.most=aa 63) (hdf:d.params.defaults=[]) (hr:cE k callerA)
 (hY:∀(w:a9) (h:aL),YP w h->(K w.params).In h) (hL:∀w:a9,∀a o,(K w.params).lookup a=aa o->o.cls≠.type "list") (hK:∀w:a9,(K w.params).lookup T=ac)
 (hrec:∃d,(recsOf q).find? (λe=>e.name==dn)=aa d) (htab:∀w:a9,PySem.W.tabIn (K w.params) dn=aa (c,T))
 (F:∀(w:a9) (mg:Str->Option ah) (fa:ag) (h:aL),(K w.params).In h->h.Ns mainGlobals mg->mg d.name=aa (.ref fa) ->
  ∃fd:bD,(∀(s:aw) (u:ah),kT s fd ⟨[u],[]⟩ [(x,u)]) /\
   ∀base:aL,(K w.params).In base->base.Ns mainGlobals mg->BM mg base->i5 base c T->bJ l.prog w (K w.params) mg base aR k fa fd [x] qU) :
 PySem.W.WalkO q loose XP YP l.row.toRowW d [] (λf vs=>z6 f vs):=by
 refine Att.Le hn hdf λw s₀ s₁ mg mb fa o pm cd doc a vs ns G Y ho hd hcd hmg hobj hints hlen hg=>?_;have KX:=hY w _ Y;obtain⟨fd,hb,hF⟩:=F w mg fa _ KX G.T.g hmg;obtain⟨dd,hdd⟩:=hrec;obtain⟨C,hT⟩:=PySem.W.tab_of G.T KX hdd (htab w);have hB:BM mg s₁.heap:=by obtain⟨bm,ob,b1,b2,b3,b4,b5,b6⟩:=G.T.bmain;refine⟨bm,ob,b1,b2,λz=>?_,b3,b4,b5,b6⟩;obtain⟨o2,es,ep,e,d2,_⟩:=G.T.g;rw[z,e]at b3;cases b3;rw[d2]at b6;cases b6
 have hKa:(K w.params).lookup a=ac:=by
  cases z:(K w.params).lookup a with
  |none=>rfl
  |some o2=>
   have e:=KX a o2 z;rw[hobj]at e;cases e;exact absurd rfl (hL w a _ z)
 exact Mp hTb KX G.T.g G.T.b G.T.builtins G.T.nolimit hg hobj hints hlen hr hKa (hK w) C hT hB hF hb
end
end L2
namespace A
open PySem L2 PyProof.Rows So
open Mi (D W Rs Fin aE Out Tg)
variable[Tb:bY]
end A
namespace Mi
end Mi
namespace A
open PySem L2 PyProof.Rows So
open Mi (D W Rs Fin aE Out Tg)
variable[Tb:bY]
end A
namespace L2
open PySem PySem.Spec PyProof.Rows
def ExcAt(h:aL)(e T:ag)(cls fl:ah):Prop:=∃oe vs oT ts,h.get? e=aa oe/\(oe.cls=cls/\oe.dict=ac)/\oe.data=.fields vs/\vs[1]? = aa (.ref T)/\T≠e/\h.get? T=aa oT/\oT.data=.fields ts/\ts[3]? = aa fl
def ExcNew(h:aL)(e:ag)(cls:ah):Prop:=∃oe vs,h.get? e=aa oe/\(oe.cls=cls/\oe.dict=ac)/\oe.data=.fields vs/\vs[1]? = aa .none
structure dY(fs no:List ag)(h h':aL):Prop where
 keep:∀b o,h.get? b=aa o->b∉fs->b∉no->h'.get? b=aa o
 slot:∀b o,h.get? b=aa o->b∉no->∃sl,h'.get? b=aa { o with slots:=sl }
 there:∀b o,h.get? b=aa o->∃o',h'.get? b=aa o'
theorem dY.trans{fs no no':List ag}{h h1 h2:aL}(a:dY fs no h h1)(b:dY fs no' h1 h2):dY fs (no++no') h h2:=by
 refine⟨λx o e f n=>?_,λx o e n=>?_,λx o e=>?_⟩
 ·have n1:x∉no:=λz=>n (fe _ z);have n2:x∉no':=λz=>n (dH _ z);exact b.keep x o (a.keep x o e f n1) f n2
 ·have n1:x∉no:=λz=>n (fe _ z);have n2:x∉no':=λz=>n (dH _ z);obtain⟨sl,e1⟩:=a.slot x o e n1;obtain⟨sl2,e2⟩:=b.slot x _ e1 n2;exact⟨sl2,e2⟩
 ·obtain⟨o1,e1⟩:=a.there x o e;exact b.there x o1 e1
theorem dY.of_keeps{fs:List ag}{h h':aL}(k:∀b o,h.get? b=aa o->h'.get? b=aa o):dY fs [] h h':=⟨λb o e _ _=>k b o e,λb o e _=>⟨o.slots,k b o e⟩,λb o e=>⟨o,k b o e⟩⟩
theorem dY.more{fs no no':List ag}{h h':aL}(a:dY fs no h h')(s:∀b∈no,b∈no'):dY fs no' h h':=⟨λx o e f n=>a.keep x o e f λz=>n (s x z),λx o e n=>a.slot x o e λz=>n (s x z),a.there⟩
theorem dY.fF{fs no:List ag}{h h' base:aL}{l:List Env}(a:dY fs no h h')(hl:h.FunFrames base l)(hn:∀b∈no,∀o,h.get? b=aa o->∃vs,o.data=.fields vs):h'.FunFrames base l:=
 hl.of_keeps λb o hb hnf=>by
  obtain⟨sl,e⟩:=a.slot b o hb λz=>by
   obtain⟨vs,q⟩:=hn b z o hb;exact hnf vs q
  exact⟨_,e,rfl⟩
theorem KR(f:Array ah->Array ah)(o:Obj):(jE f o).dict=o.dict:=by obtain⟨c,d,dt,sl⟩:=o;cases dt<;>rfl
section
variable{M:Model}{A:bH}{E:ah->aw->Prop}{s:aw}
theorem F9{base:aL}{env:Env}{outer:List Env}{L e:ag}{oe:Obj}{vs:Array ah}{head:ah}{hadNext:Bool}{Q:Unit->aw->Prop}
 (hfr:A.frames=aa (env::outer)) (hl:s.heap.FunFrames base (env::outer)) (hf:env.frame=aa L) (he:s.heap.get? e=aa oe) (hdc:oe.dict=ac) (hd:oe.data=.fields vs) (hsz:1<vs.size)
 (h:∀h' T,s.heap.objs.size<=T->dY (frs (env::outer)) [e] s.heap h'->ExcAt h' e T oe.cls (rawInt L)->Q () { s with heap:=h' }) :
 wpAny M A (do let a <- frameOf env;let pl <- entryPlaceOf L hadNext;let b <- HH head a .none (rawInt L) .none pl;setField (.ref e) 1 b) Q E s:=by
 have hene:e∉(env::outer).filterMap (·.frame):=λhm=>by
  obtain⟨_,o,ho,hnf⟩:=hl.mem hm;rw[he]at ho;injection ho with ho;subst ho;exact hnf vs hd
 refine aY (wpAny_frameOf_fun hfr hl hf λh₁ hs₁=>?_);refine aY (wpAny_entryPlaceOf λpl hpl=>?_);unfold HH newFields;refine aY (v4 ?_ (hpl.sizeOk5 _ _ _ _ _));have he₁:h₁.get? e=aa oe:=(hs₁.2.1 e hene).trans he;have he₂:=dU (h:=h₁) { cls:=.type "traceback", dict:=ac,data:=.fields ([head,.ref L,.none,rawInt L,.none]++(if pl.isEmpty then cG 6 fN else pl)).toArray } he₁;refine sQ he₂ hd hsz (h _ h₁.objs.size (z8 hs₁.1.symm) ?_ ?_)
 ·have keep:∀b o,b≠e->h₁.get? b=aa o ->
   ((h₁.push { cls:=.type "traceback", dict:=ac,data:=.fields ([head,.ref L,.none,rawInt L,.none]++(if pl.isEmpty then cG 6 fN else pl)).toArray }).update e (jE (·.setIfInBounds 1 (dy h₁.objs.size)))).get? b=aa o:=
   λb o hbe hb=>by
    rw[qc _ _ (dO hbe)];exact dU _ hb
  have hd₃:=nR hd (·.setIfInBounds 1 (dy h₁.objs.size));refine⟨λb o hb n1 n2=>keep b o (λz=>n2 (by rw[z];exact cL.mpr rfl)) ((hs₁.2.1 b n1).trans hb),λb o hb n2=>?_,λb o hb=>?_⟩
  ·obtain⟨sl,q⟩:=hs₁.2.2 b o hb;exact⟨sl,keep b _ (λz=>n2 (by rw[z];exact cL.mpr rfl)) q⟩
  ·by_cases z:b=e
   ·subst z;exact⟨_,qd (jE (·.setIfInBounds 1 (dy h₁.objs.size))) he₂ (sY hd₃)⟩
   ·obtain⟨sl,q⟩:=hs₁.2.2 b o hb;exact⟨_,keep b _ z q⟩
 ·have hTe:h₁.objs.size≠e:=wp (bX he₁);have hd₃:=nR hd (·.setIfInBounds 1 (dy h₁.objs.size));have he₃:=qd (jE (·.setIfInBounds 1 (dy h₁.objs.size))) he₂ (sY hd₃);have hT₃:=(qc (h₁.push { cls:=.type "traceback", dict:=ac,data:=.fields ([head,.ref L,.none,rawInt L,.none]++(if pl.isEmpty then cG 6 fN else pl)).toArray })
   (jE (·.setIfInBounds 1 (dy h₁.objs.size))) (dO hTe)).trans (fw h₁ rfl)
  exact⟨_,_,_,_,he₃,⟨Obj.cls_mapFields _ _,(KR _ _).trans hdc⟩,hd₃,by simp[hsz],hTe,hT₃,rfl,by first|(simp;done)|(rcases hpl with rfl|⟨_,_,_,_,_,_,_,rfl⟩<;>simp)⟩
theorem MT{base:aL}{env:Env}{outer:List Env}{L e:ag}{cls:ah}{Q:Unit->aw->Prop}
 (hfr:A.frames=aa (env::outer)) (hl:s.heap.FunFrames base (env::outer)) (hf:env.frame=aa L) (hx:ExcNew s.heap e cls)
 (h:∀h' T,s.heap.objs.size<=T->dY (frs (env::outer)) [e] s.heap h'->ExcAt h' e T cls (rawInt L)->Q () { s with heap:=h' }):wpAny M A (noteFrame (.ref e) env) Q E s:=by
 obtain⟨oe,vs,he,⟨rfl,hdc⟩,hd,h1⟩:=hx;unfold noteFrame;simp only[hf];refine aY (wb he hd h1 ?_);rw[be (by decide)];exact F9 hfr hl hf he hdc hd (wz.mp h1).1 h
theorem Bp{base:aL}{env:Env}{outer:List Env}{L e T:ag}{cls:ah}{Q:Unit->aw->Prop}
 (hfr:A.frames=aa (env::outer)) (hl:s.heap.FunFrames base (env::outer)) (hf:env.frame=aa L) (hx:ExcAt s.heap e T cls .none)
 (h:∀h' T',s.heap.objs.size<=T'->dY (frs (env::outer)) [e,T] s.heap h'->ExcAt h' e T' cls (rawInt L)->Q () { s with heap:=h' }):wpAny M A (noteFrame (.ref e) env) Q E s:=by
 obtain⟨oe,vs,oT,ts,he,⟨rfl,hdc⟩,hd,h1,hTe,hT,hdT,h3⟩:=hx;unfold noteFrame;simp only[hf];refine aY (wb he hd h1 ?_);rw[a8 (show(dy T != fN)=true from by simp)];refine aY (wb hT hdT h3 ?_);rw[be (show¬ ((fN==rawInt L)=true)from by simp[rawInt])];refine aY (sQ hT hdT (wz.mp h3).1 ?_);have other:∀b,b≠T->(s.heap.update T (jE (·.setIfInBounds 3 fN))).get? b=s.heap.get? b:=λb hb=>qc _ _ (dO hb);have hself:=qd (jE (·.setIfInBounds 3 fN)) hT (sY (nR hdT _));have n0:dY (frs (env::outer)) [T] s.heap (s.heap.update T (jE (·.setIfInBounds 3 fN))):=by
  refine⟨λb o q _ n=>(other b λz=>n (by rw[z];exact cL.mpr rfl)).trans q,λb o q n=>⟨o.slots,(other b λz=>n (by rw[z];exact cL.mpr rfl)).trans q⟩,λb o q=>?_⟩;by_cases z:b=T
  ·subst z;exact⟨_,hself⟩
  ·exact⟨o,(other b z).trans q⟩
 refine F9 hfr (n0.fF hl λb z o q=>?_) hf ((other e (dO hTe)).trans he) hdc hd (wz.mp h1).1 λh' T' hT' n x=>h h' T' (eW (z8 (by simp[Heap.update])) hT') ((n0.trans n).more λb hb=>?_) x
 ·rw[cL.mp z,hT]at q;cases q;exact⟨ts,hdT⟩
 ·simp only[List.singleton_append,cS,pW,or_false]at hb ⊢;exact hb.symm
theorem tY{e T:ag}{cls fl:ah}{Q:Unit->aw->Prop}(hx:ExcAt s.heap e T cls fl)(h:∀h',dY [] [T] s.heap h'->s.heap.objs.size=h'.objs.size->ExcAt h' e T cls .none->Q () { s with heap:=h' }):wpAny M A (setFlight (.ref e) ac) Q E s:=by
 obtain⟨oe,vs,oT,ts,he,hc,hd,h1,hTe,hT,hdT,h3⟩:=hx;have hsz3:3<ts.size:=(wz.mp h3).1;have other:∀b,b≠T->(s.heap.update T (jE (·.setIfInBounds 3 ((ac:Option ag).elim fN λf=>rawInt f)))).get? b=s.heap.get? b:=λb hb=>qc _ _ (dO hb);have hself:=qd (jE (·.setIfInBounds 3 ((ac:Option ag).elim fN λf=>rawInt f))) hT (sY (nR hdT _));unfold setFlight;refine aY (wb he hd h1 ?_);rw[a8 (show(dy T != fN)=true from by simp)];refine sQ hT hdT hsz3 (h _ ?_ (by simp[Heap.update]) ?_)
 ·refine⟨λb o q _ n=>(other b λz=>n (by rw[z];exact cL.mpr rfl)).trans q,λb o q n=>⟨o.slots,(other b λz=>n (by rw[z];exact cL.mpr rfl)).trans q⟩,λb o q=>?_⟩;by_cases z:b=T
  ·subst z;exact⟨_,hself⟩
  ·exact⟨o,(other b z).trans q⟩
 ·exact⟨oe,vs,_,_,(other e (dO hTe)).trans he,hc,hd,h1,hTe,hself,nR hdT _,by simp[hsz3]⟩
theorem NS{base:aL}{env:Env}{outer:List Env}{L e:ag}{cls:ah}{Q:Unit->aw->Prop}
 (hfr:A.frames=aa (env::outer)) (hl:s.heap.FunFrames base (env::outer)) (hf:env.frame=aa L) (hx:ExcNew s.heap e cls)
 (h:∀h' T,s.heap.objs.size<=T->dY (frs (env::outer)) [e,T] s.heap h'->ExcAt h' e T cls .none->Q () { s with heap:=h' }):wpAny M A (leaving env (.ref e)) Q E s:=by
 unfold leaving;refine aY (MT hfr hl hf hx λh1 T hT n x=>?_);refine tY x λh2 n2 _ x2=>h h2 T hT ((n.trans (no':=[T]) ⟨λb o q _=>n2.keep b o q (by simp),n2.slot,n2.there⟩).more λb hb=>by simpa using hb) x2
theorem MM{base:aL}{env:Env}{outer:List Env}{L e T:ag}{cls:ah}{Q:Unit->aw->Prop}
 (hfr:A.frames=aa (env::outer)) (hl:s.heap.FunFrames base (env::outer)) (hf:env.frame=aa L) (hx:ExcAt s.heap e T cls .none)
 (h:∀h' T',s.heap.objs.size<=T'->dY (frs (env::outer)) [e,T,T'] s.heap h'->ExcAt h' e T' cls .none->Q () { s with heap:=h' }):wpAny M A (leaving env (.ref e)) Q E s:=by
 unfold leaving;refine aY (Bp hfr hl hf hx λh1 T' hT n x=>?_);refine tY x λh2 n2 _ x2=>h h2 T' hT ((n.trans (no':=[T']) ⟨λb o q _=>n2.keep b o q (by simp),n2.slot,n2.there⟩).more λb hb=>by simpa [or_assoc]using hb) x2
end
end L2
namespace L2
open PySem PySem.Spec PyProof.Rows
def ce(P:bt)(w:a9):f6:=λouter H s E e s'=>
 ∃ea T C H',e=.ref ea/\s'.os=s.os/\kW s'.gens/\Un (frs outer) [] H H' s.heap s'.heap/\cv P w H' s'.heap/\s.heap.get? ea=ac/\s.heap.get? T=ac/\H' ea=ac/\H' T=ac/\ExcAt s'.heap ea T (.ref C) .none/\E (.ref C) (aa ea) H'
theorem cF.there{P:bt}{w:a9}{H:Hp}{h:aL}{a:ag}{o:HO}(x:cF P w H h a o):∃ob,h.get? a=aa ob:=by
 have hlt:=x.stay (h':=h) (H':=H) (λ_ _ _ q=>q) (λ_ q=>q) λ_ _ q=>q;cases o with
 |lst xs=>obtain⟨z,aq,n,r,e⟩:=x;exact⟨_,e⟩
 |tup xs=>obtain⟨z,aq,r,ob,e,c⟩:=x;exact⟨_,e⟩
 |dK ak=>obtain⟨_,_,_,_,ob,es,ep,e,c⟩:=x;exact⟨_,e⟩
 |dT ak=>obtain⟨_,_,_,_,ob,es,ep,e,c⟩:=x;exact⟨_,e⟩
 |set S n=>obtain⟨ob,es,ep,t,e,c⟩:=x;exact⟨_,e⟩
 |ins C dx fs=>obtain⟨d,z,ne,e,_⟩:=x;exact⟨_,e⟩
 |own y=>exact x
 |xd fs=>obtain⟨mA,⟨od,es,ep,e,c⟩,r⟩:=x;exact⟨_,e⟩
 |rng lo hi=>obtain⟨t,u,v,e⟩:=x;exact⟨_,e⟩
 |frz ob u=>exact⟨_,x.1⟩
 |tbl w ps=>exact⟨_,x⟩
 |met f y=>exact⟨_,x⟩
 |ext φ=>exact x.2.1
theorem cv.none_of{P:bt}{w:a9}{H:Hp}{h:aL}(k:cv P w H h){a:ag}(e:h.get? a=ac):H a=ac:=by
 cases q:H a with
 |none=>rfl
 |some o=>
  obtain⟨ob,z⟩:=(k a o q).there;rw[e]at z;cases z
section
variable{CX:f6}{P:bt}{w:a9}{K:aI}{mg:Str->Option ah}{base:aL}{N:List Str}{qual:Str}{scope:dJ}{f:ag}{cd:ah}{A:bH}{outer:List Env}{s:aw}{H:Hp}{E:XK}
theorem FV{af:List (ag×Obj)}{σ:St}{H1:Hp}{s1:aw}{h2:aL}{no:List ag}(I:Inv (dQ CX P w K mg base N qual scope f cd A outer s H E) af σ H1 s1)
 (n:dY (frs (envOfC qual scope s.heap.objs.size f cd::outer)) no s1.heap h2) (hn:∀b∈no,s.heap.get? b=ac/\H1 b=ac):Un (frs outer) [] H H1 s.heap h2/\cv P w H1 h2:=by
 have B:Un (frs outer) [] H H1 s.heap s1.heap:=I.base;have hL:∀b o,s.heap.get? b=aa o->b∉frs outer->b∉frs (envOfC qual scope s.heap.objs.size f cd::outer):=λb o e nf z=>by
  have hz:frs (envOfC qual scope s.heap.objs.size f cd::outer)=s.heap.objs.size::frs outer:=rfl;rw[hz]at z;rcases cS.mp z with q|q
  ·have:=bX e;rw[q]at this;exact absurd this (ki _)
  ·exact nf q
 have hno:∀b o,s.heap.get? b=aa o->b∉no:=λb o e z=>by rw[(hn b z).1]at e;cases e
 refine⟨⟨λb o e z nf nx=>n.keep b o (B.keep b o e z nf nx) (hL b o e nf) (hno b o e),λb o e z nf nx=>?_,B.free,λb o e nx=>?_,B.tups,B.i8,B.i9⟩,λa o e=>?_⟩
 ·obtain⟨sl,q⟩:=B.slot b o e z nf nx;obtain⟨sl2,q2⟩:=n.slot b _ q (hno b o e);exact⟨sl2,q2⟩
 ·obtain⟨o1,q⟩:=B.there b o e nx;exact n.there b o1 q
 ·have hok:cv P w H1 s1.heap:=I.hok;refine(hok a o e).stay (λb u hb q=>?_) (λ_ q=>q) λ_ _ q=>q;have tr:∃ob,H1 b=aa ob:=by
   rcases hb with rfl|hb
   ·exact⟨_,e⟩
   ·exact⟨_,hb⟩
  obtain⟨ob,tr⟩:=tr;refine n.keep b u q (λz=>?_) λz=>?_
  ·have:=I.uP b z;rw[tr]at this;cases this
  ·rw[(hn b z).2]at tr;cases tr
theorem Ow{af:List (ag×Obj)}{σ:St}{H1:Hp}{s1:aw}{h1:aL}{e C:ag}{vs:List ah}(I:Inv (dQ (ce P w) P w K mg base N qual scope f cd A outer s H E) af σ H1 s1)
 (m:Heap.MadeExcOf s1.heap h1 e (.ref C) vs) (q:E (.ref C) (aa e) H1):(dQ (ce P w) P w K mg base N qual scope f cd A outer s H E).xe (.ref e) { s1 with heap:=h1 }:=by
 have hfr:=I.ok.frames;have hl:s1.heap.FunFrames base (envOfC qual scope s.heap.objs.size f cd::outer):=I.stack;have nk:dY (frs (envOfC qual scope s.heap.objs.size f cd::outer)) [] s1.heap h1:=.of_keeps m.keeps;have x:ExcNew h1 e (.ref C):=by obtain⟨t,he,_⟩:=m.there;exact⟨_,_,he,⟨rfl,rfl⟩,rfl,rfl⟩
 have B:Un (frs outer) [] H H1 s.heap s1.heap:=I.base;have new:∀{b:ag},s1.heap.get? b=ac->s.heap.get? b=ac/\H1 b=ac:=λ{b} z=>by
  refine⟨?_,I.hok.none_of z⟩;cases q:s.heap.get? b with
  |none=>rfl
  |some o=>
   obtain⟨o',z2⟩:=B.there b o q (by simp);rw[z]at z2;cases z2
 refine NS (base:=base) (s:={ s1 with heap:=h1 }) hfr (nk.fF hl λb z=>absurd z (by simp)) rfl x λh2 T hT n2 x2=>?_;have hTn:s1.heap.get? T=ac:=by
  cases q2:s1.heap.get? T with
  |none=>rfl
  |some o=>exact absurd (bX (m.keeps T o q2)) (wt.mpr hT)
 have nn:∀b∈[]++[e,T],s.heap.get? b=ac/\H1 b=ac:=λb hb=>by
  simp only[sO,cS,pW,or_false]at hb;rcases hb with rfl|rfl
  ·exact new m.new
  ·exact new hTn
 obtain⟨u1,u2⟩:=FV I (nk.trans n2) nn;exact⟨e,T,C,H1,rfl,I.os,I.bare,u1,u2,(nn e (by simp)).1,(nn T (by simp)).1,(nn e (by simp)).2,(nn T (by simp)).2,x2,q⟩
theorem k7:sD (ce P w) (dQ (ce P w) P w K mg base N qual scope f cd A outer s H E) E:=by
 rintro af σ H1 s1 e s2 I ⟨ea,T,C,H2,rfl,os2,HL,un2,ok2,n1,n2,n3,n4,x,q⟩;have P7:Un (frs (envOfC qual scope s.heap.objs.size f cd::outer)) [] H1 H2 s1.heap s2.heap:=un2;have I2:Inv (dQ (ce P w) P w K mg base N qual scope f cd A outer s H E) af σ H2 s2:=I.call' os2 (ch:=[]) un2 ok2 HL (λb z=>absurd z (by simp));have hfr:=I2.ok.frames;have hl:s2.heap.FunFrames base (envOfC qual scope s.heap.objs.size f cd::outer):=I2.stack;have B:Un (frs outer) [] H H1 s.heap s1.heap:=I.base;have old:∀{b:ag},s1.heap.get? b=ac->s.heap.get? b=ac:=λ{b} z=>by
  cases q:s.heap.get? b with
  |none=>rfl
  |some o=>
   obtain⟨o',z2⟩:=B.there b o q (by simp);rw[z]at z2;cases z2
 refine MM (base:=base) (s:=s2) hfr hl rfl x λh3 T' hT' n x3=>?_;have hTn:s2.heap.get? T'=ac:=by
  cases q2:s2.heap.get? T' with
  |none=>rfl
  |some o=>exact absurd (bX q2) (wt.mpr hT')
 have hTs:s1.heap.get? T'=ac:=by
  cases q2:s1.heap.get? T' with
  |none=>rfl
  |some o=>
   obtain⟨o',z2⟩:=P7.there T' o q2 (by simp);rw[hTn]at z2;cases z2
 have nn:∀b∈[ea,T,T'],s.heap.get? b=ac/\H2 b=ac:=λb hb=>by
  simp only[cS,pW,or_false]at hb;rcases hb with rfl|rfl|rfl
  ·exact⟨old n1,n3⟩
  ·exact⟨old n2,n4⟩
  ·exact⟨old hTs,ok2.none_of hTn⟩
 obtain⟨u1,u2⟩:=FV I2 n nn;exact⟨ea,T',C,H2,rfl,I2.os,HL,u1,u2,(nn ea (by simp)).1,(nn T' (by simp)).1,(nn ea (by simp)).2,(nn T' (by simp)).2,x3,q⟩
theorem Cv:PassesOwn (model P w) (dQ CX P w K mg base N qual scope f cd A outer s H E).A (dQ CX P w K mg base N qual scope f cd A outer s H E).env (dQ CX P w K mg base N qual scope f cd A outer s H E).xe:=λe s' h=>
 wpAny_leaving_again (SameStack.refl _) h
end
end L2
namespace L2
open PySem PySem.Spec PyProof.Rows
def FP(X:Cx)(e:aW)(ok:St->Hp->Prop):Prop:=∀(af:List (ag×Obj)) (s:aw) (σ:St) (H:Hp),Inv X af σ H s->ok σ H ->
 wpAny (model X.prog X.w) X.A (eval e X.env) (λv s1=>∃y t,v=.str y t/\y.length<=100000/\Inv X af σ H s1) X.xe s
section
variable{X:Cx}
theorem Ee{x:Str}{j pos}(h:x.length<=100000):FP X (.Constant (.str x) j pos) λ_ _=>True:=λaf s σ H I _=>
 g7 (gp (X:=X) af s σ H (λv H'=>v=.str x/\H'=H) I ⟨rfl,rfl⟩) (λv s1 ⟨v',H',I',r,e1,e2⟩=>by
  subst e1 e2;obtain⟨t,rfl⟩:=r;exact⟨x,t,rfl,h,I'⟩) λ_ _ z=>z
theorem Bv{e:aW}{te:TE}{pos:Pos}(he:PE X e te):FP X (.FormattedValue e 114 ac pos) λσ H=>te σ H λv H'=>H'=H/\∃z:Str,v=.str z/\(v6 z).length<=100000:=λaf s σ H I h=>by
 refine wpAny_FormattedValue_repr (a5 (he af s σ H _ I h) λv s1 ⟨v',H',I',r,e2,z,e1,hz⟩=>?_);subst e1 e2;obtain⟨t,rfl⟩:=r;have hz':(reprText z).length<=sizeLine:=by rw[eF];omega
 refine wpAny_pyReprObj_str ?_ hz';exact wpAny_formatField_str ⟨_,_,rfl,hz,I'.tok _⟩ ⟨_,_,rfl,hz,(I'.tok _).tok _⟩ hz'
def oC(X:Cx):List aW->List (St->Hp->Prop)->Prop
 |[],[]=>True
 |e::es,p::ps=>FP X e p/\oC X es ps
 |_,_=>False
theorem EH{af:List (ag×Obj)}{σ:St}{H:Hp}{Q:Str->aw->Prop}:∀(es:List aW) (ps:List (St->Hp->Prop)) (acc:Str) (s:aw),oC X es ps->(∀p∈ps,p σ H)->acc.length+100000*es.length<=sizeLine->Inv X af σ H s ->
 (∀z s',z.length<=sizeLine->Inv X af σ H s'->Q z s')->Joins (model X.prog X.w) X.A X.xe (evalEach es X.env) acc Q s
 |[],[],acc,s,_,_,hl,I,q=>q acc s (by simp at hl;exact hl) I
 |[],_::_,_,_,f,_,_,_,_=>f.elim
 |_::_,[],_,_,f,_,_,_,_=>f.elim
 |e::es,p::ps,acc,s,f,hp,hl,I,q=>by
  refine g7 (f.1 af s σ H I (hp p dS)) (λv s1 ⟨y,t,ev,hy,I1⟩=>?_) λ_ _ z=>z;rw[bU]at hl;have ha:(acc++y).length<=acc.length+100000:=by rw[strLen_append];omega
  exact⟨y,t,ev,by omega,EH es ps (acc++y) s1 f.2 (λp' h'=>hp p' (eP _ h')) (by omega) I1 q⟩
theorem CN{e1 e2:aW}{es:List aW}{ps:List (St->Hp->Prop)}{pos:Pos}(f:oC X (e1::e2::es) ps)(hl:(e1::e2::es).length<=100):PE X (.JoinedStr (e1::e2::es) pos) (λσ H Q=>(∀p∈ps,p σ H)/\∀z:Str,z.length<=sizeLine->Q (.str z) H):=λaf s σ H Q I h=>
 wpAny_JoinedStr (EH _ ps i7 s f h.1 (by rw[eF];have:i7.length=0:=rfl;omega) I λz s' hz I'=>⟨hz,.str z,H,I'.tok _,⟨_,rfl⟩,h.2 z hz⟩)
end
section
variable{P:bt}{w:a9}{K:aI}{mg:Str->Option ah}{base:aL}{N:List Str}{qual:Str}{scope:dJ}{f:ag}{cd:ah}{A:bH}{outer:List Env}{s:aw}{H:Hp}{E:XK}
theorem Co{x:Str}{C:ag}{bm:List ah}{B newId initId:String}{e:aW}{te:TE}{np cpos pos:Pos}(FB:ExcBaseFacts B newId initId bm)(O:OwnCls x C bm newId mg base)
 (he:PE (dQ (ce P w) P w K mg base N qual scope f cd A outer s H E) e te) (hg:Gl (dQ (ce P w) P w K mg base N qual scope f cd A outer s H E) x) (hd:(x==("__debug__" : Str))=false:=by decide)
 (hs:starEach [e] (dQ (ce P w) P w K mg base N qual scope f cd A outer s H E).env=(false,eval e (dQ (ce P w) P w K mg base N qual scope f cd A outer s H E).env)::starEach [] (dQ (ce P w) P w K mg base N qual scope f cd A outer s H E).env:=by rfl) :
 PS (dQ (ce P w) P w K mg base N qual scope f cd A outer s H E) (.Raise (aa (.Call (.Name x np) [e] [] cpos)) ac pos) (λ_ σ H1=>te σ H1 λ_ H2=>∀ea,H2 ea=ac->E (.ref C) (aa ea) H2):=by
 intro af s1 σ H1 D I h;obtain⟨tl,N',nm,q,bs,hdct,sn,sub,ab,col,dd,k0,k1,k2,k3,k5,mN,hC,hN,hni,T⟩:=O.obj;refine wpAny_Raise_call_subT (C:=C) (nm:=nm) (q:=q) (N:=N') (bs:=bs) (bm:=tl) (hdct:=hdct) (sn:=sn) (sub:=sub) (ab:=ab) (col:=col) (dd:=dd) (k0:=k0) (k1:=k1) (k2:=k2) (k3:=k3) (k5:=k5)
  FB (mN:=mN) (T.hasType FB.hasBase) (I.ok.hd rfl) (by rw[hs];rfl) hni (m7 I hg O.bound ⟨rfl,?_⟩ hd)
 rw[hs];refine Hw (tq (a5 (he af s1 σ H1 _ I h) λv s2 ⟨v',H2,I2,r,q2⟩=>wC ?_));exact⟨rfl,by rw[eF];simp,I2.bk _ _ hC,hN.keeps I2.bk,T.keeps I2.bk,λh' e' m=>Ow I2 m (q2 e' (I2.hok.none_of m.new))⟩
end
end L2
namespace Mi
open PySem
def dR{α:Type}(r:Rs α)(k:α->Prop)(x:dq->Prop):Prop:=match r with
 |.ok a=>k a
 |.ex z=>x z
 |.no=>False
theorem gH{α β:Type}{r:Rs α}{f:α->Rs β}{k:β->Prop}{x:dq->Prop}:dR (r.bind f) k x↔dR r (λa=>dR (f a) k x) x:=by cases r<;>exact Iff.rfl
theorem dR.mono{α:Type}{r:Rs α}{k k':α->Prop}{x x':dq->Prop}(h:dR r k x)(m:∀a,k a->k' a)(n:∀z,x z->x' z):dR r k' x':=by
 cases r with
 |ok a=>exact m a h
 |ex z=>exact n z h
 |no=>exact h
theorem dR.fin{α:Type}{r:Rs α}{k:α->Prop}{x:dq->Prop}(h:dR r k x)(hn:∀z,r≠.ex z):Fin r k:=by
 cases r with
 |ok a=>exact h
 |ex z=>exact absurd rfl (hn z)
 |no=>exact h
theorem GH{α:Type}{c:Prop}[Decidable c]{r:Rs α}{k:α->Prop}{x:dq->Prop}(h:dR (br c r) k x):c/\dR r k x:=by
 unfold br at h;split at h
 ·exact⟨‹_›,h⟩
 ·exact h.elim
theorem Gz{α:Type}{r s:Rs α}{k:α->Prop}{x:dq->Prop}(h:dR (if true=true then r else s) k x):dR r k x:=by simpa using h
theorem FW{α:Type}{r s:Rs α}{k:α->Prop}{x:dq->Prop}(h:dR (if false=true then r else s) k x):dR s k x:=by simpa using h
def still{α:Type}:Rs α->Rs α
 |.ex _=>.no
 |r=>r
theorem oB{α:Type}{r:Rs α}{k:α->Prop}{x:dq->Prop}(h:dR (still r) k x):Fin r k:=by cases r<;>exact h
theorem xf{α:Type}{r:Rs α}{a:α}(h:r=.ok a):still r=.ok a:=by rw[h];rfl
def sP(m:S):S:=λe=>still (m e)
def cP(c:C):C:=λe=>still (c e)
def iP(it:I):I:=λe=>still (it e)
theorem NH:∀(tg:Tg) (x:D) (e:Env) (z:dq),tg.put x e≠.ex z:=by
 have key:∀(is:List Nat) (ds:List D) (e:Env) (z:dq),lL is ds e≠.ex z:=λis=>by
  induction is with
  |nil=>intro ds e z h;cases ds<;>cases h
  |cons i r ih=>
   intro ds e z h;cases ds with
   |nil=>cases h
   |cons d t=>exact ih t _ z h
 intro tg x e z h;cases tg with
 |n i=>cases h
 | t is=>cases x with
  |tup ds=>exact key is ds e z h
  |_=>cases h
def mh(cls:String)(gs:List (Env->Bool)):S:=λe=>if(gs.all λg=>g e)=true then .ex ⟨cls,[]⟩else .no
def gR(i:Nat):Env->Bool:=λe=>match e[i]? with
 |some (aa (.d (.str z)))=>decide ((v6 z).length<=100000)
 |_=>false
def du(f:Fn)(ws:List EW):S:=λe=>(still (b8 ws e)).bind λvs=>(f vs).bind λ_=>.ok (.nx e)
end Mi
namespace A
open PySem L2 PyProof.Rows So
open Mi (D W Rs Fin dR aE gH Out Tg dq)
variable[Tb:bY]
def wish(cl:String->ag)(E:XK):dq->Hp->Prop:=λz H'=>∀ea,H' ea=ac->E (.ref (cl z.cls)) (aa ea) H'
def jb(M:Nat->Bool)(κ:Kd)(x:dq->Hp->Prop)(t:TS)(m:Mi.S):Prop:=∀H0 Hv0 e σ H Hv D,R1 M H0 Hv0 e σ H Hv->dR (m e) (ik M κ H0 Hv0 D Hv) (λz=>∀H' Hv',bC H0 Hv0 H' Hv'->x z H')->t D σ H
section
variable{M:Nat->Bool}{κ:Kd}{x:dq->Hp->Prop}{t u:TS}{m n:Mi.S}{cl:String->ag}{E:XK}
theorem gf(h:AS M κ t m):jb M κ x t (Mi.sP m):=λH0 Hv0 e σ H Hv D I f=>h H0 Hv0 e σ H Hv D I (Mi.oB f)
theorem fS(h1:jb M κ x t m)(h2:jb M κ x u n):jb M κ x (zq t u) (Mi.aD m n):=λH0 Hv0 e σ H Hv D I h=>
 h1 H0 Hv0 e σ H Hv _ I ((gH.mp h).mono (λo ho=>by
  cases o with
  |nx e'=>exactλσ' H' Hv' I' s=>h2 H0 Hv0 e' σ' H' Hv' D I' (dR.mono ho (λo z=>z.up s) λ_ z=>z)
  |rt w=>exact ho
  |bk e'=>exact ho
  |ct e'=>exact ho) λ_ z=>z)
theorem Dn{tt:TT}{c:Mi.C}(hc:AT M tt c)(h1:jb M κ x t m)(h2:jb M κ x u n):jb M κ x (yS tt t u) (Mi.a7 (Mi.cP c) m n):=λH0 Hv0 e σ H Hv D I h=>
 hc e σ H Hv _ I.toR0 ((Mi.oB (gH.mp h)).mono λb hb H1 Hv1 g1=>by
  cases b with
  |true=>exact lr (h1 H0 Hv0 e σ H1 Hv1 D (I.grow g1) ((Mi.Gz hb).mono (λo z=>z.up g1.vis) λ_ z=>z))
  |false=>exact lf (h2 H0 Hv0 e σ H1 Hv1 D (I.grow g1) ((Mi.FW hb).mono (λo z=>z.up g1.vis) λ_ z=>z)))
theorem EN{K:aI}{wi:TI}{it:Mi.I}{tg:Tg}(hi:gv M wi it)(hm:∀i∈pN tg,M i=false)(hb:jb M κ x t m):jb M κ x (zh wi (rX K tg) t) (Mi.dL (Mi.iP it) tg m):=λH0 Hv0 e σ H Hv D I h=>
 hi e σ H Hv _ I.toR0 ((Mi.oB (gH.mp h)).mono λds h1 J H1 Hv1 P g1 O p1 per=>by
  refine⟨λi k σ' H'=>k=ds.length-i/\i<=ds.length/\∃e' Hv',R1 M H0 Hv0 e' σ' H' Hv'/\P H' Hv'/\dR (Mi.fu tg m (ds.drop i) e') (ik M κ H0 Hv0 D Hv') (λz=>∀H' Hv',bC H0 Hv0 H' Hv'->x z H'),
   ⟨ds.length,by simp,iC _,e,Hv1,I.grow g1,p1,by rw[nL];exact h1.mono (λo z=>z.up g1.vis) λ_ z=>z⟩,?_⟩
  rintro i k σ' H' ⟨rfl,hle,e',Hv',I',pp,hf⟩;by_cases hlt:i<ds.length
  ·refine .inr ⟨O.go i H' Hv' pp I'.vw hlt,λσ2 H2=>∃e2 Hv2,R1 M H0 Hv0 e2 σ2 H2 Hv2/\P H2 Hv2/\dR (Mi.fu tg m (ds.drop (i+1)) e2) (ik M κ H0 Hv0 D Hv2) (λz=>∀H' Hv',bC H0 Hv0 H' Hv'->x z H'),
    λσ2 H2 z=>⟨ds.length-(i+1),by omega,rfl,hlt,z⟩,λy H2 q=>?_⟩
   obtain⟨Hv2,d,g2,hd,rx⟩:=O.yld i H' Hv' y H2 pp I'.vw hlt q;have I2:=I'.grow g2;have hdr:ds.drop i=d::ds.drop (i+1):=by obtain⟨hl,e1⟩:=dG.mp hd;rw[vN hl,e1]
   rw[hdr]at hf;refine uN (P:=λe1 σ1=>R1 M H0 Hv0 e1 σ1 H2 Hv2) g2.vw (λj hj e1 σ1 d1 v1 r1 z=>r1.set (hm j hj) z) I2 rx (((gH.mp hf).fin (Mi.NH tg d e')).mono λe1 h1 σ1 I1=>?_);refine hb H0 Hv0 e1 σ1 H2 Hv2 _ I1 ((gH.mp h1).mono (λo ho=>?_) λ_ z=>z);cases o with
   |nx e2=>exactλσ2 H3 Hv3 I3 s3=>⟨e2,Hv3,I3,per _ _ _ _ pp (g2.vis.trans s3) I3.vw,dR.mono ho (λo z=>z.up (g2.vis.trans s3)) λ_ z=>z⟩
   |ct e2=>exactλσ2 H3 Hv3 I3 s3=>⟨e2,Hv3,I3,per _ _ _ _ pp (g2.vis.trans s3) I3.vw,dR.mono ho (λo z=>z.up (g2.vis.trans s3)) λ_ z=>z⟩
   |bk e2=>exactλσ2 H3 Hv3 I3 s3=>ho σ2 H3 Hv3 I3 (g2.vis.trans s3)
   |rt w=>exact ho
  ·have hi:i=ds.length:=by omega
   subst hi;refine .inl ⟨O.stop H' Hv' pp I'.vw,?_⟩;rw[sH (bO _)]at hf;exact hf σ' H' Hv' I' (cA.refl _))
def et(cl:String->ag)(f:Mi.Fn):Sp:=λvs H Q E=>∃Hv ws,Vw H Hv/\P2 (fH Hv) ws vs/\dR (f ws) (λw=>∀v H' Hv',bC H Hv H' Hv'->qV H H' Hv' w v->Q v H') (λz=>∀H' Hv',bC H Hv H' Hv'->wish cl E z H')
theorem lJ{f:Mi.Fn}{ws:List Mi.EW}{tr:TA}(ha:AAW M qV tr (Mi.b8 ws)):jb M κ (wish cl E) (oy (lD (et cl f) [] E tr)) (Mi.du f ws):=λH0 Hv0 e σ H Hv D I h=>
 ha e σ H Hv _ I.toR0 ((Mi.oB (gH.mp h)).mono λds hx vs H1 Hv1 g1 rx=>by
  rw[kg];refine⟨Hv1,ds,g1.vw,rx,(gH.mp hx).mono (λw hw v H3 Hv3 g3 r=>?_) λz hz H3 Hv3 g3=>?_⟩
  ·exact hw σ H3 Hv3 (I.grow (g1.trans g3)) (g1.trans g3).vis
  ·exact hz H3 Hv3 (I.gw.trans (g1.trans g3)))
def PG(M:Nat->Bool)(g:Mi.Env->Bool)(p:L2.St->Hp->Prop):Prop:=∀e σ H Hv,R0 M e σ H Hv->g e=true->p σ H
theorem Gx:PG M (λ_=>true) (λ_ _=>True):=λ_ _ _ _ _ _=>trivial
theorem CU(i:Nat)(hm:M i=false):PG M (Mi.gR i) (λσ H=>eB i σ H λv H'=>H'=H/\∃z:Str,v=.str z/\(v6 z).length<=100000):=λe σ H Hv I h=>by
 unfold Mi.gR at h;split at h
 ·rename_i z hz;obtain⟨v,hv,r⟩:=I.nob i _ hz hm;have r:v=.str z:=(me (H:=Hv)).mp r;subst r;exact⟨_,hv,rfl,z,rfl,jT h⟩
 ·cases h
def jx(M:Nat->Bool):List (Mi.Env->Bool)->List (L2.St->Hp->Prop)->Prop
 |[],[]=>True
 |g::gs,p::ps=>PG M g p/\jx M gs ps
 |_,_=>False
theorem Cz:∀{gs:List (Mi.Env->Bool)} {ps:List (L2.St->Hp->Prop)},jx M gs ps->∀{e σ H Hv},R0 M e σ H Hv->(gs.all λg=>g e)=true->∀p∈ps,p σ H
 |[],[],_,_,_,_,_,_,_,p,hp=>by cases hp
 |[],_::_,f,_,_,_,_,_,_,_,_=>f.elim
 |_::_,[],f,_,_,_,_,_,_,_,_=>f.elim
 |g::gs,p::ps,f,e,σ,H,Hv,I,h,q,hq=>by
  rw[List.all_cons,mD]at h;rcases cS.mp hq with rfl|hq
  ·exact f.1 e σ H Hv I h.1
  ·exact Cz f.2 I h.2 q hq
theorem Ei{cls:String}{gs:List (Mi.Env->Bool)}{ps:List (L2.St->Hp->Prop)}(hp:jx M gs ps):jb M κ (wish cl E) (λ_ σ H1=>((∀p∈ps,p σ H1)/\∀z:Str,z.length<=sizeLine->∀ea,H1 ea=ac->E (.ref (cl cls)) (aa ea) H1)) (Mi.mh cls gs):=λH0 Hv0 e σ H Hv D I h=>by
 unfold Mi.mh at h;split at h
 ·rename_i hg;exact⟨Cz hp I.toR0 hg,λz _ ea hea=>h H Hv I.gw ea hea⟩
 ·exact h.elim
theorem l7{f:Mi.S}{k n:Nat}{vs:List V}{H:Hp}{Q:VK}{E:XK}(h:et cl (Mi.c6 k n f) vs H Q E):vs.length=k:=by obtain⟨Hv,ws,_,p,q⟩:=h;rw[<- p.len];exact(Mi.GH q).1
theorem ml{N:List Str}{k:Nat}{vs:List V}{H:Hp}{Q:VK}(hA:jb M qV (wish cl E) t m)(hM:∀i,i<k->M i=false)(h:et cl (Mi.c6 k N.length m) vs H Q E):t { nx:=λ_ H'=>Q .non H',rt:=Q } (start N vs) H:=by
 obtain⟨Hv,ws,vw,p,q⟩:=h;obtain⟨hk,q⟩:=Mi.GH q;refine hA H Hv _ _ H Hv _ (yb vw p hk hM) ((gH.mp q).mono (λo ho=>?_) λz hz=>hz);cases o with
 |nx e=>exactλσ H' Hv' I s=>ho _ H' Hv' I.gw yC
 |rt w=>exactλv H' Hv' g r=>ho v H' Hv' g r
 |bk e=>exact ho.elim
 |ct e=>exact ho.elim
end
theorem _root_.L2.bP.mn{P:bt}{w:a9}{K:aI}{mg:Str->Option ah}{base:aL}{x qual:Str}{st:bq}{f:ag}{fd:bD}{N ps:List Str}{k:Nat}{sp:Sp}(F:bP K x qual st f fd)(S:bZ N ps (bA st))(len:∀vs H Q E,sp vs H Q E->vs.length=ps.length)
 (hbody:∀(cdv:ah) (A:bH) (outer:List Env) (s:aw) (H:Hp) (vs:List V) (Q:VK) (E:XK),cE k (A.deeper (envOfC qual (bA st) s.heap.objs.size f cdv))->sp vs H Q E ->
  ∃t,eZ (dQ (ce P w) P w K mg base N qual (bA st) f cdv A outer s H E) (gu st) t/\t { nx:=λ_ H'=>Q .non H',rt:=Q } (start N vs) H):bJ P w K mg base (ce P w) (k+1) f fd ps sp:=by
 obtain⟨oc,od,kV,doc,pm,an,cdv,ct,osl,rfl,lk,hcd⟩:=F.ex;exact xK lk hcd S len λA outer s H vs Q E hr hsp=>hbody cdv A outer s H vs Q E hr hsp
end A
namespace L2
open PySem PySem.Spec PyProof.Rows
abbrev XF:=ag->ag->St->Hp->Prop
abbrev kr:=Ends->XF->St->Hp->Prop
def XP(X:Cx)(af:List (ag×Obj))(F:XF)(e:ah)(s':aw):Prop:=∃σ H1 s1,Inv X af σ H1 s1/\ce X.prog X.w X.stack H1 s1 (λc oa H2=>∃C ea,c=.ref C/\oa=aa ea/\F C ea σ H2) e s'
def yA(X:Cx)(st:bq)(t:kr):Prop:=∀(af:List (ag×Obj)) (s:aw) (σ:St) (H:Hp) (D:Ends) (F:XF),Inv X af σ H s->t D F σ H->wpAny (model X.prog X.w) X.A (exec st X.env) (SP X af D) (XP X af F) s
def tM(X:Cx)(st:List bq)(t:kr):Prop:=∀(af:List (ag×Obj)) (s:aw) (σ:St) (H:Hp) (D:Ends) (F:XF),Inv X af σ H s->t D F σ H->wpAny (model X.prog X.w) X.A (execs st X.env) (SP X af D) (XP X af F) s
section
variable{X:Cx}{st:bq}{t u:kr}
theorem k9(h:yA X st t):tM X [st] t:=by
 intro af s σ H D F I q;refine zY (g7 (h af s σ H D F I q) (λf s1 q=>?_) λ_ _ z=>z);cases f with
 |next=>exact pZ q
 |ret v=>exact q
 |brk=>exact q
 |cont=>exact q
def B6(tc:TT)(t u:kr):kr:=λD F σ H=>tc σ H λk H1=>match k with
 |true=>t D F σ H1
 |false=>u D F σ H1
theorem vi{c:aW}{a b:List bq}{tc:TT}{pos:Pos}(hx:X.xe=λ_ _=>False)(hc:PT X c tc)(ha:tM X a t)(hb:tM X b u):yA X (.If c a b pos) (B6 tc t u):=by
 intro af s σ H D F I h;refine wpAny_If (g7 (hc af s σ H _ I h) (λd s1 ⟨H1,I1,q1⟩=>?_) λ_ _ z=>by rw[hx]at z;exact z.elim);cases d with
 |true=>exact ha af s1 σ H1 D F I1 q1
 |false=>exact hb af s1 σ H1 D F I1 q1
def F2(sp:Sp)(t:TA):kr:=λD F σ H=>t σ H λvs H1=>sp vs H1 (λ_ H2=>D.nx σ H2) (λc oa H2=>∃C ea,c=.ref C/\oa=aa ea/\F C ea σ H2)
theorem rT{k:Nat}{x:Str}{ps:List Str}{sp:Sp}{e:aW}{es:List aW}{t:TA}{p cpos pos:Pos}(hx:X.xe=λ_ _=>False)(C:bN X.prog X.w X.K X.mg X.base (ce X.prog X.w) k x ps sp)(hr:cE k X.A)(hg:Gl X x)
 (ha:PA X (e::es) t) (hdb:(x==("__debug__" : Str))=false:=by decide) (he:starEach (e::es) X.env=(false,eval e X.env)::starEach es X.env:=by rfl) (hpl:(backTo cpos (starEach es X.env)).any (·.1)=false:=by rfl)
 (hs:swapsWith (.Call (.Name x p) (e::es) [] cpos) ac pos.line X.env=pure false:=by rfl):yA X (.Expr (.Call (.Name x p) (e::es) [] cpos) pos) (F2 sp t):=by
 intro af s σ H D F I h;obtain⟨f,fd,hm,hk,hb,Fo⟩:=C.ex;refine wpAny_Expr_any ?_ I.quiet hs;refine nM (m7 I hg hm ?_ hdb);refine vI (h₀:=X.base) I.ok.mod.kin hk (g7 (ha cpos af s σ H _ I h) (λus s1 ⟨vs,H1,I1,r,q⟩=>⟨I1.dX,?_⟩) λ_ _ z=>by rw[hx]at z;exact z.elim) he hpl;have hl:us.length=ps.length:=by rw[<- r.length];exact Fo.len _ _ _ _ q
 refine sR (qa (Fo.run X.A X.stack s1 H1 ⟨us,[]⟩ us vs _ _ hr I1.env0 (by have:=hb s1 us I1.dX (by rw[kg];exact hl);rwa [kg]at this) r q) λres s' hq=>?_);cases res with
 |error e'=>exact⟨σ,H1,s1,I1,hq⟩
 |ok fl=>
  cases fl with
  |ret v=>
   obtain⟨v',H2,I2,_,q2⟩:=I1.after hq;exact⟨σ,H2,I2,q2⟩
  |next=>exact eR hq
  |brk=>exact eR hq
  |cont=>exact eR hq
end
def Cx.aj(X:Cx)(e:ah):Cx:={ X with A:=X.A.mark (aa e),calm:=false,xe:=λ_ _=>False }
section
variable{X:Cx}{af:List (ag×Obj)}{σ:St}{H:Hp}{s:aw}
theorem Inv.aj(I:Inv X af σ H s)(e:ah):Inv (X.aj e) af σ H s:=⟨⟨I.ok.mod,I.ok.kind,I.ok.glob,I.ok.blt,I.ok.above,I.ok.inj,I.ok.has,I.ok.cab,λz=>(nomatch z),I.ok.frames,I.ok.stk,I.ok.exf,I.ok.bs,I.ok.bsz,I.ok.nW,I.ok.qf,I.ok.fF,I.ok.frf⟩,I.os,I.bare,I.base,I.loc,I.cell,I.free,I.gG,I.pin,I.hok,I.len⟩
theorem Inv.uG{e:ah}(J:X.Ok)(I:Inv (X.aj e) af σ H s):Inv X af σ H s:=⟨J,I.os,I.bare,I.base,I.loc,I.cell,I.free,I.gG,I.pin,I.hok,I.len⟩
end
end L2
namespace L2
open PySem PySem.Spec PyProof.Rows
open A (iI)
section
variable{X:Cx}{af:List (ag×Obj)}{σ:St}{H:Hp}{s:aw}
theorem vo{M:Model}{A:bH}{E:ah->aw->Prop}{i:Nat}{n:Str}{pos:Pos}{Q:Unit->aw->Prop}(I:Inv X af σ H s)(hN:X.N.Nodup)(hi:X.N[i]? = aa n)(hk:X.env.scope.names.lookup n=aa .local)
 (h:∀s',Inv X af (σ.set i ac) H s'->Q () s'):wpAny M A (do bindName X.env n .none;unbindBehindTheSuite X.env n pos) Q E s:=by
 have hcls:(X.env.scope.kind==.class||(X.env.scope.kind==.module&&X.env.locals != X.env.globals))=false:=by rw[I.ok.kind];rfl
 have hiσ:i < σ.length:=by rw[I.len];exact(dG.mp hi).1
 refine aY (wpAny_bindName (vF (v:=.non) (u:=.none) I hN hi (.inl hk) rfl (λs1 I1=>?_) (.inr hk)));obtain⟨m,hn,hl⟩:=id I1.loc;have hsome:(m n).isSome=true:=by
  obtain⟨u,_,q⟩:=hl i n .non hi (kP hiσ) (.inl hk);rcases q with ⟨_,e⟩|⟨k,_⟩
  ·rw[e];rfl
  ·have hk':X.env.kindOf n=aa .local:=hk;rcases k with k|k<;>(rw[hk']at k;cases k)
 have hk':X.env.kindOf n=aa .local:=hk;unfold unbindBehindTheSuite;refine wpAny_onRaise ?_;unfold unbindName;refine aY (wpAny_point (aY ?_));unfold deleteName;simp only[hk',hcls];rw[be (by decide)];refine aY (wpAny_nsDel_keeps hn λh2 v hn2 hs2=>?_);rw[hsome];simp only[jK,Ad,nP,iT];refine bW (wpAny_point (h _ ?_));obtain⟨oL,_,_,hoL,_⟩:=id hn;have ne:∀{b o},X.s₀.heap.get? b=aa o->b≠X.env.locals:=λ{b o} e=>fY (fK (bX e) I1.ok.above);refine⟨I1.ok,I1.os,I1.bare,⟨λb o e z hb hx=>(hs2.2 b (ne e)).trans (I1.base.keep b o e z hb hx),λb o e z hb hx=>?_,I1.base.free,λb o e hx=>?_,I1.base.tups,I1.base.i8,I1.base.i9⟩,⟨_,hn2,λj y v' e1 e2 e3=>?_⟩,λy c e=>?_,I1.free,I1.gG,λp hp=>?_,?_,by simpa using I1.len⟩
 ·obtain⟨sl,e1⟩:=I1.base.slot b o e z hb hx;exact⟨sl,(hs2.2 b (ne e)).trans e1⟩
 ·obtain⟨o',e1⟩:=I1.base.there b o e hx;exact⟨o',(hs2.2 b (ne e)).trans e1⟩
 ·by_cases hj:j=i
  ·subst hj;rw[kP hiσ]at e2;cases e2
  ·have e2':(σ.set i (aa V.non))[j]? = aa (aa v'):=by
    rw[eQ (dO hj)]at e2 ⊢;exact e2
   obtain⟨u',r',q⟩:=hl j y v' e1 e2' e3;refine⟨u',r',?_⟩;rcases q with ⟨k,e⟩|⟨k,c,e,z⟩
   ·refine .inl ⟨k,?_⟩;have:y≠n:=λe=>hj (y8 hN e1 (e ▸ hi));simp[this,e]
   ·refine .inr ⟨k,c,e,?_⟩;obtain⟨o,ho,hd⟩:=z;exact⟨o,(hs2.2 c (I1.kH y c e)).trans ho,hd⟩
 ·obtain⟨v2,o,ho,hd⟩:=I1.cell y c e;exact⟨v2,o,(hs2.2 c (I1.kH y c e)).trans ho,hd⟩
 ·obtain⟨q1,q2,q3,q4⟩:=I1.pin p hp;exact⟨(hs2.2 _ q3).trans q1,q2,q3,q4⟩
 ·intro b ob e;refine(I1.hok b ob e).stay (λc w' hc q=>(hs2.2 c ?_).trans q) (λ_ q=>q) λ_ _ q=>q;rintro rfl;rcases hc with rfl|hc
  ·rw[I1.free]at e;cases e
  ·rw[I1.free]at hc;cases hc
theorem Inv.caught{H1 H2:Hp}{s1 s':aw}{h4:aL}{ea C:ag}{no:List ag}{oe:Obj}(I1:Inv X af σ H1 s1)(os:s'.os=s1.os)(bare:kW s'.gens)(un:Un (frs X.stack) [] H1 H2 s1.heap s'.heap)(ok2:cv X.prog X.w H2 s'.heap)
 (n:dY (frs X.stack) no s'.heap h4) (hno:∀b∈no,s1.heap.get? b=ac/\H2 b=ac) (he:ea∈no) (hx:h4.get? ea=aa oe) (hc:oe.cls=.ref C) (hcd:oe.dict=ac) (hcf:∃vs,oe.data=.fields vs):Inv X af σ (upd H2 ea (.ext (iI ea C))) { s' with heap:=h4 }:=by
 have I2:Inv X af σ H2 s':=I1.call' os (ch:=[]) un ok2 bare (λb z=>absurd z (by simp));have old:∀{b o},s1.heap.get? b=aa o->b∉no:=λ{b o} e z=>by rw[(hno b z).1]at e;cases e
 have nee:∀{b o},H2 b=aa o->b≠ea:=λ{b o} e z=>by rw[z,(hno ea he).2]at e;cases e
 refine I1.call' (s':={ s' with heap:=h4 }) os (ch:=[]) ⟨λb o e z nf nx=>n.keep b o (un.keep b o e z nf nx) nf (old e),λb o e z nf nx=>?_,λb o e z nx=>?_,λb o e nx=>?_,λb xs e=>?_,λb o u e=>?_,λb w ps e=>?_⟩ ?_ bare (λb z=>absurd z (by simp))
 ·obtain⟨sl,q⟩:=un.slot b o e z nf nx;obtain⟨sl2,q2⟩:=n.slot b _ q (old e);exact⟨sl2,q2⟩
 ·rw[aN (λy:b=ea=>old e (by rw[y];exact he))];exact un.free b o e z nx
 ·obtain⟨o1,q⟩:=un.there b o e nx;exact n.there b o1 q
 ·have q:=un.tups b xs e;rw[aN (nee q)];exact q
 ·have q:=un.i8 b o u e;rw[aN (nee q)];exact q
 ·obtain⟨more,q⟩:=un.i9 b w ps e;exact⟨more,by rw[aN (nee q)];exact q⟩
 ·intro a o e;by_cases ha:a=ea
  ·subst ha;rw[bG]at e;cases e;refine⟨⟨oe,hx,hc,hcd,hcf⟩,⟨oe,hx⟩,λk1 k2 ⟨o,q1,q2⟩ kk=>⟨o,kk o q1,q2⟩⟩
  ·rw[aN ha]at e;refine(ok2 a o e).stay (λb u hb q=>?_) (λb q=>by rw[aN (nee q)];exact q) λb xs q=>by rw[aN (nee q)];exact q
   have tr:∃ob,H2 b=aa ob:=by
    rcases hb with rfl|hb
    ·exact⟨_,e⟩
    ·exact⟨_,hb⟩
   obtain⟨ob,tr⟩:=tr;refine n.keep b u q (λz=>?_) λz=>?_
   ·have:=I2.uP b z;rw[tr]at this;cases this
   ·rw[(hno b z).2]at tr;cases tr
def Pz(i:Nat)(D:Ends):Ends:={ nx:=λσ H=>D.nx (σ.set i ac) H,rt:=D.rt,bk:=λσ H=>D.bk (σ.set i ac) H,ct:=λσ H=>D.ct (σ.set i ac) H }
def Dq(i:Nat)(okC:ag->Prop)(tb:kr)(th:TS):TS:=λD σ H=>tb D (λC ea σ' H2=>okC C/\th (Pz i D) (σ'.set i (aa (.ref ea))) (upd H2 ea (.ext (iI ea C)))) σ H
theorem Kv{body suite:List bq}{b0:bq}{tb:kr}{th:TS}{x n:Str}{i:Nat}{C0:ag}{np hpos pos:Pos}{okC:ag->Prop}(hx:X.xe=λ_ _=>False)(hst:X.stack=X.env::X.outer)(hfr:X.env.frame=aa X.env.locals)
 (hN:X.N.Nodup) (hi:X.N[i]? = aa n) (hk:X.env.scope.names.lookup n=aa .local) (hg:Gl X x) (hm:X.mg x=aa (.ref C0)) (P8:∀C,okC C->vK X.K (.ref C) (.ref C0)=aa true)
 (hb:tM X body tb) (hh:∀ea,eZ (X.aj (.ref ea)) (b0::suite) th) (hdb:(x==("__debug__" : Str))=false:=by decide) :
 PS X (.Try body [.ExceptHandler (aa (.Name x np)) (aa n) (b0::suite) hpos] [] [] pos) (Dq i okC tb th):=by
 intro af s σ0 H0 D I h;refine wpAny_Try_except (g7 (hb af s σ0 H0 D _ I h) (λf s1 q=>?_) λe s' xp=>?_)
 ·cases f with
  |next=>exact pZ q
  |ret v=>exact q
  |brk=>exact q
  |cont=>exact q
 obtain⟨σ,H1,s1,I1,ea,T,C,H2,rfl,os,bare,un,ok2,n1,n2,n3,n4,xx,C',ea',eC,eE,okc,ht⟩:=xp;cases eC;cases eE;have I2:Inv X af σ H2 s':=I1.call' os (ch:=[]) un ok2 bare (λb z=>absurd z (by simp));have P9:X.A.frames=aa (X.env::X.outer):=by rw[<- hst];exact I2.ok.frames
 have hl:s'.heap.FunFrames X.base (X.env::X.outer):=by rw[<- hst];exact I2.stack
 refine Bp (base:=X.base) P9 hl hfr xx λh3 T' hT' n x3=>?_;refine tY (s:={ s' with heap:=h3 }) x3 λh4 m4 _ x4=>?_;have Qa:s1.heap.get? T'=ac/\H2 T'=ac:=by
  have hTn:s'.heap.get? T'=ac:=by
   cases q2:s'.heap.get? T' with
   |none=>rfl
   |some o=>exact absurd (bX q2) (wt.mpr hT')
  refine⟨?_,ok2.none_of hTn⟩;cases q2:s1.heap.get? T' with
  |none=>rfl
  |some o=>
   obtain⟨o',z2⟩:=un.there T' o q2 (by simp);rw[hTn]at z2;cases z2
 have nn:∀b∈[ea,T,T'],s1.heap.get? b=ac/\H2 b=ac:=λb hb=>by
  simp only[cS,pW,or_false]at hb;rcases hb with rfl|rfl|rfl
  ·exact⟨n1,n3⟩
  ·exact⟨n2,n4⟩
  ·exact Qa
 have wide:∀{k k':aL},dY [] [T'] k k'->dY (frs X.stack) [T'] k k':=λz=>⟨λb o q _=>z.keep b o q (by simp),z.slot,z.there⟩;have n':dY (frs X.stack) [ea,T] s'.heap h3:=by rw[hst];exact n
 have N4:dY (frs X.stack) [ea,T,T'] s'.heap h4:=(n'.trans (wide m4)).more λb hb=>by simpa [or_assoc]using hb
 have x4':=x4;obtain⟨oe,vs,oT,ts,he,⟨hc,hcd⟩,hcf,_⟩:=x4';have I4:=I1.caught os bare un ok2 N4 nn (by simp) he hc hcd ⟨vs,hcf⟩;refine wpAny_handleBy_cons (codeAny_handlers_test ?_) (by intro q;cases q);refine m7 (X:=X.aj (.ref ea)) (I4.aj _) hg hm ?_ hdb;have LT:PySem.W.Looks (model X.prog X.w) h4 (typeOf (.ref ea)) (.ref C):=by rw[<- hc];exact(PySem.W.Looks.ld he).andThen .now
 refine PySem.W.exm_one (K:=X.K) I4.dX LT (P8 C okc) _ _ _ { s' with heap:=h4 } (λ_ _ q=>q) ?_;refine codeAny_handlers_suite_as ?_;refine tY (s:={ s' with heap:=h4 }) x4 λh5 m5 _ x5=>?_;have N5:dY (frs X.stack) [ea,T,T'] s'.heap h5:=(N4.trans (wide m5)).more λb hb=>by
  simp only[vT,sO,cS,pW,or_false]at hb ⊢;rcases hb with z|z|z|z
  ·exact .inl z
  ·exact .inr (.inl z)
  ·exact .inr (.inr z)
  ·exact .inr (.inr z)
 obtain⟨oe5,vs5,_,_,he5,⟨hc5,Qb⟩,Qc,_⟩:=x5;have I5:=I1.caught os bare un ok2 N5 nn (by simp) he5 hc5 Qb ⟨vs5,Qc⟩;refine vF (X:=X.aj (.ref ea)) (i:=i) (v:=.ref ea) (I5.aj _) hN hi (.inl hk) rfl (λs6 I6=>?_) (.inr hk);refine g7 (hh ea af s6 _ _ _ I6 ht) (λf s7 q=>?_) λ_ _ z=>z.elim;have J:=I.ok;cases f with
 |next=>
  obtain⟨σ',H',I7,q⟩:=q;exact vo (I7.uG J) hN hi hk λs8 I8=>⟨_,_,I8,q⟩
 |brk=>
  obtain⟨σ',H',I7,q⟩:=q;exact vo (I7.uG J) hN hi hk λs8 I8=>⟨_,_,I8,q⟩
 |cont=>
  obtain⟨σ',H',I7,q⟩:=q;exact vo (I7.uG J) hN hi hk λs8 I8=>⟨_,_,I8,q⟩
 |ret v=>
  obtain⟨v',σ',H',I7,r,q⟩:=q;exact vo (I7.uG J) hN hi hk λs8 I8=>⟨v',_,_,I8,r,q⟩
end
end L2
namespace L2
open PySem PySem.Spec PyProof.Rows
structure jf(k:Nat)(A:bH):Prop where
 dp:A.depth+3*k+5<recursionLimit
 un:A.units+16*k+200<cLine
theorem cE.IV{k:Nat}{A:bH}(r:cE k A)(e:ah):jf k (A.mark (aa e)):=⟨r.dp,r.un⟩
theorem jf.deeper{k:Nat}{A:bH}(r:jf (k+1) A)(env:Env):jf k (A.deeper env):=⟨by have:=r.dp;show A.depth+1+3*k+5<_;omega,by have:=r.un;show A.units+3+16*k+200<_;omega⟩
theorem jf.depth{k:Nat}{A:bH}(r:jf k A):A.depth<recursionLimit:=by have:=r.dp;omega
theorem jf.units{k:Nat}{A:bH}(r:jf k A):A.units+64<cLine:=by have:=r.un;omega
structure qB(P:bt)(w:a9)(K:aI)(mg:Str->Option ah)(base:aL)(k:Nat)(f:ag)(fd:bD)(ps:List Str)(sp:Sp):Prop where
 len:∀vs H Q E,sp vs H Q E->vs.length=ps.length
 run:∀(A:bH) (outer:List Env) (s:aw) (H:Hp) (args:Args) (us:List ah) (vs:List V) (Q:VK) (E:XK),jf k A->kq P w K mg base A outer s H->kT s fd args (ps.zip us)->Vals vs us->sp vs H Q E ->
  codeAny (model P w) A (.call (.ref f) args) (CR aR outer P w H s Q E) s
def u4(P:bt)(w:a9)(K:aI)(mg:Str->Option ah)(base:aL)(N:List Str)(qual:Str)(scope:dJ)(f:ag)(cd:ah)(A:bH)(outer:List Env)(s:aw)(H:Hp)(E:XK):Cx:={ dQ aR P w K mg base N qual scope f cd A outer s H E with calm:=false,xe:=λ_ _=>False }
theorem Ot{P:bt}{w:a9}{K:aI}{mg:Str->Option ah}{base:aL}{k:Nat}{f:ag}{name qual:Str}{params:nO}{body:List bq}{scope:dJ}{dV kV doc pm cdv ct oc:ah}{an od:Option ag}
 {osl:Array (Option ah)} {N ps:List Str} {sp:Sp} (lk:K.lookup f=aa ⟨oc,od,.func (i6 name qual params body scope dV kV doc pm an cdv ct),osl⟩) (hcd:nH K cdv qual=true) (S:bZ N ps scope)
 (len:∀vs H Q E,sp vs H Q E->vs.length=ps.length)
 (hbody:∀(A:bH) (outer:List Env) (s:aw) (H:Hp) (vs:List V) (Q:VK) (E:XK),jf k (A.deeper (envOfC qual scope s.heap.objs.size f cdv))->sp vs H Q E ->
  ∃t,eZ (u4 P w K mg base N qual scope f cdv A outer s H E) body t/\t { nx:=λ_ H'=>Q .non H',rt:=Q } (start N vs) H) :
 qB P w K mg base (k+1) f (i6 name qual params body scope dV kV doc pm an cdv ct) ps sp:=by
 refine⟨len,λA outer s H args us vs Q E hr e0 hb r hsp=>?_⟩;have hl:=len _ _ _ _ hsp;have KX:K.In s.heap:=e0.mod.kin.keeps λb o e=>(e0.bs b o e).1;have lim:s.heap.NoLimit:=e0.mod.nolimit.keeps λb o e=>(e0.bs b o e).1;have hkind:∀y∈ps.zip us,scope.names.lookup y.1=aa .local\/(scope.names.lookup y.1=aa .cell/\((cellsFrom (s.heap.objs.size+1) scope.names []).lookup y.1).isSome=true):=λ⟨n,v⟩ hy=>by
  rcases S.par n (sN hy).1 with q|q
  ·exact .inl q
  ·exact .inr ⟨q,vH _ _ _ (.inl q)⟩
 refine zU hr.depth (KX _ _ lk) rfl S.co S.gen rfl (zD KX hcd) (hb _ _ _ _ ?_);refine zT S.kind hkind λenv he s1 x=>?_;subst he;refine⟨lim.keeps x.toInCall.keep,codeAny_func ?_⟩;obtain⟨t,ht,hq⟩:=hbody A outer s H vs Q E (hr.deeper _) hsp;have e1:kq P w K mg base { A with handled:=ac } outer s H:=⟨e0.frames,e0.mod,e0.bs,e0.bsz,e0.fF,e0.frf,e0.hok,e0.bare⟩;have I1:Inv (dQ aR P w K mg base N qual scope f cdv { A with handled:=ac } outer s H E) [] (start N vs) H s1:=yG S rfl e1 hl r x;have I:Inv (u4 P w K mg base N qual scope f cdv A outer s H E) [] (start N vs) H s1:=
  ⟨⟨I1.ok.mod,I1.ok.kind,I1.ok.glob,I1.ok.blt,I1.ok.above,I1.ok.inj,I1.ok.has,I1.ok.cab,λz=>(nomatch z),Aj e0.frames,I1.ok.stk,I1.ok.exf,I1.ok.bs,I1.ok.bsz,I1.ok.nW,I1.ok.qf,I1.ok.fF,I1.ok.frf⟩,I1.os,I1.bare,I1.base,I1.loc,I1.cell,I1.free,I1.gG,I1.pin,I1.hok,I1.len⟩
 refine g7 (ht [] s1 (start N vs) H _ I hq) (λfl s' hs=>?_) λe s' hs=>hs.elim;have fin:∀{σ':St} {H':Hp} {v:V} {u:ah},Inv (u4 P w K mg base N qual scope f cdv A outer s H E) [] σ' H' s'->RelV v u->Q v H'->CE outer P w H s Q u s':=
  λ{σ' H' v u} J rv q=>⟨v,H',J.os,J.bare,J.base,J.hok,rv,q⟩
 cases fl with
 |ret u=>
  obtain⟨v,σ',H',J,rv,q⟩:=hs;exact fin J rv q
 |next=>
  obtain⟨σ',H',J,q⟩:=hs;exact fin (v:=V.non) (u:=fN) J rfl q
 |brk=>
  obtain⟨_,_,_,q⟩:=hs;exact eR q
 |cont=>
  obtain⟨_,_,_,q⟩:=hs;exact eR q
theorem bP.PD{P:bt}{w:a9}{K:aI}{mg:Str->Option ah}{base:aL}{x qual:Str}{st:bq}{f:ag}{fd:bD}{N ps:List Str}{k:Nat}{sp:Sp}(F:bP K x qual st f fd)(S:bZ N ps (bA st))(len:∀vs H Q E,sp vs H Q E->vs.length=ps.length)
 (hbody:∀(cdv:ah) (A:bH) (outer:List Env) (s:aw) (H:Hp) (vs:List V) (Q:VK) (E:XK),jf k (A.deeper (envOfC qual (bA st) s.heap.objs.size f cdv))->sp vs H Q E ->
  ∃t,eZ (u4 P w K mg base N qual (bA st) f cdv A outer s H E) (gu st) t/\t { nx:=λ_ H'=>Q .non H',rt:=Q } (start N vs) H):qB P w K mg base (k+1) f fd ps sp:=by
 obtain⟨oc,od,kV,doc,pm,an,cdv,ct,osl,rfl,lk,hcd⟩:=F.ex;exact Ot lk hcd S len λA outer s H vs Q E hr hsp=>hbody cdv A outer s H vs Q E hr hsp
structure wK(P:bt)(w:a9)(K:aI)(mg:Str->Option ah)(base:aL)(k:Nat)(x:Str)(ps:List Str)(sp:Sp):Prop where
 ex:∃(f:ag) (fd:bD),mg x=aa (.ref f)/\j8 K (.ref f)=true/\Binds K fd ps []/\qB P w K mg base k f fd ps sp
theorem cn.NO{P:bt}{w:a9}{K:aI}{mg:Str->Option ah}{base:aL}{k:Nat}{x:Str}{st:bq}{ps:List Str}{sp:Sp}(F:cn K mg x st ps)(h:∀f fd,bP K x x st f fd->qB P w K mg base k f fd ps sp):wK P w K mg base k x ps sp:=by obtain⟨f,fd,h1,h2,h3,_,h4⟩:=F.ex;exact⟨f,fd,h1,h2,h3,h f fd h4⟩
theorem LG{X:Cx}{k:Nat}{x:Str}{ps:List Str}{sp:Sp}{E:XK}{e:aW}{es:List aW}{t:TA}{p pos:Pos}(C:wK X.prog X.w X.K X.mg X.base k x ps sp)(hr:jf k X.A)(hg:Gl X x)(ha:PA X (e::es) t)
 (hdb:(x==("__debug__" : Str))=false:=by decide) (he:starEach (e::es) X.env=(false,eval e X.env)::starEach es X.env:=by rfl) (hpl:(backTo pos (starEach es X.env)).any (·.1)=false:=by rfl) :
 PE X (.Call (.Name x p) (e::es) [] pos) (lD sp [] E t):=by
 obtain⟨f,fd,hm,hk,hb,F⟩:=C.ex;intro af s σ H Q I h;refine nM (m7 I hg hm ?_ hdb);refine vI (h₀:=X.base) I.ok.mod.kin hk (a5 (ha pos af s σ H _ I h) λus s1 ⟨vs,H1,I1,r,q⟩=>⟨I1.dX,?_⟩) he hpl;have q:sp (vs++[]) H1 Q E:=q;rw[kg]at q;have hl:us.length=ps.length:=by rw[<- r.length];exact F.len _ _ _ _ q
 refine sR (qa (F.run X.A X.stack s1 H1 ⟨us,[]⟩ us vs _ _ hr I1.env0 (by have:=hb s1 us I1.dX (by rw[kg];exact hl);rwa [kg]at this) r q) λres s' hq=>?_);cases res with
 |error e'=>exact hq.elim
 |ok fl=>
  cases fl with
  |ret u=>exact I1.after hq
  |next=>exact eR hq
  |brk=>exact eR hq
  |cont=>exact eR hq
end L2
namespace Mi
open PySem
def Fi(i:Nat):Out->Out
 |.nx e=>.nx (e.set i ac)
 |.rt w=>.rt w
 |.bk e=>.bk (e.set i ac)
 |.ct e=>.ct (e.set i ac)
def rq(i:Nat)(cs:List String)(body hb:S):S:=λe=>match body e with
 |.ok o=>.ok o
 |.ex z=>br (z.cls∈cs) ((still (hb (e.set i (aa (.ex z.cls))))).bind λo=>.ok (Fi i o))
 |.no=>.no
end Mi
namespace A
open PySem L2 PyProof.Rows So
open Mi (D W Rs Fin dR aE gH Out Tg dq)
variable[Tb:bY]
def AX(M:Nat->Bool)(κ:Kd)(t:kr)(m:Mi.S):Prop:=∀H0 Hv0 e σ H Hv D F,R1 M H0 Hv0 e σ H Hv->dR (m e) (ik M κ H0 Hv0 D Hv) (λz=>∀ea H' Hv',R1 M H0 Hv0 e σ H' Hv'->cA Hv Hv'->H' ea=ac->F (Tb.cl z.cls) ea σ H')->t D F σ H
section
variable{M:Nat->Bool}{κ:Kd}{t u:kr}{m n:Mi.S}
theorem uW{tt:TT}{c:Mi.C}(hc:AT M tt c)(h1:AX M κ t m)(h2:AX M κ u n):AX M κ (B6 tt t u) (Mi.a7 (Mi.cP c) m n):=λH0 Hv0 e σ H Hv D F I h=>
 hc e σ H Hv _ I.toR0 ((Mi.oB (gH.mp h)).mono λb hb H1 Hv1 g1=>by
  cases b with
  |true=>exact h1 H0 Hv0 e σ H1 Hv1 D F (I.grow g1) ((Mi.Gz hb).mono (λo z=>z.up g1.vis) λ_ z ea H' Hv' I' s'=>z ea H' Hv' I' (g1.vis.trans s'))
  |false=>exact h2 H0 Hv0 e σ H1 Hv1 D F (I.grow g1) ((Mi.FW hb).mono (λo z=>z.up g1.vis) λ_ z ea H' Hv' I' s'=>z ea H' Hv' I' (g1.vis.trans s')))
theorem qF{f:Mi.Fn}{ws:List Mi.EW}{tr:TA}(ha:AAW M qV tr (Mi.b8 ws)):AX M κ (F2 (et Tb.cl f) tr) (Mi.du f ws):=λH0 Hv0 e σ H Hv D F I h=>
 ha e σ H Hv _ I.toR0 ((Mi.oB (gH.mp h)).mono λds hx vs H1 Hv1 g1 rx=>by
  refine⟨Hv1,ds,g1.vw,rx,(gH.mp hx).mono (λw hw v H3 Hv3 g3 r=>?_) λz hz H3 Hv3 g3 ea hea=>?_⟩
  ·exact hw σ H3 Hv3 (I.grow (g1.trans g3)) (g1.trans g3).vis
  ·exact⟨_,_,rfl,rfl,hz ea H3 Hv3 (I.grow (g1.trans g3)) (g1.trans g3).vis hea⟩)
theorem R1.off{H0 Hv0:Hp}{e:Mi.Env}{σ:L2.St}{H Hv:Hp}(I:R1 M H0 Hv0 e σ H Hv)(i:Nat):R1 M H0 Hv0 (e.set i ac) (σ.set i ac) H Hv:=by
 have get:∀{j:Nat} {w:W},(e.set i ac)[j]? = aa (aa w)->i≠j/\e[j]? = aa (aa w):=λ{j w} h=>by
  rcases jk h with ⟨_,h,_⟩|z
  ·cases h
  ·exact z
 have st:∀{j:Nat} {v:V},i≠j->σ[j]? = aa (aa v)->(σ.set i ac)[j]? = aa (aa v):=λ{j v} n h=>by rw[eQ n];exact h
 have ts:∀{j:Nat} {v:V},i≠j->(σ.set i ac)[j]? = aa (aa v)->σ[j]? = aa (aa v):=λ{j v} n h=>by rw[eQ n]at h;exact h
 refine⟨⟨I.vw,by rw[kh,kh];exact I.len,λj w h mm=>?_,λj w h mm=>?_⟩,I.gw,λj w a h mm q=>?_,λj k w w' a b hjk h1 h2 m1 m2 q1 q2=>?_⟩
 ·obtain⟨nj,h⟩:=get h;obtain⟨v,hv,r⟩:=I.nob j w h mm;exact⟨v,st nj hv,r⟩
 ·obtain⟨nj,h⟩:=get h;obtain⟨v,hv,r⟩:=I.own j w h mm;exact⟨v,st nj hv,r⟩
 ·obtain⟨nj,h⟩:=get h;exact I.fresh j w a h mm (ts nj q)
 ·obtain⟨nj,h1⟩:=get h1;obtain⟨nk,h2⟩:=get h2;exact I.sep j k w w' a b hjk h1 h2 m1 m2 (ts nj q1) (ts nk q2)
theorem KP{i:Nat}{cs:List String}{th:TS}{hb:Mi.S}(hi:M i=false)(h1:AX M κ t m)(h2:AS M κ th hb):AS M κ (Dq i (λC=>∃c∈cs,C=Tb.cl c) t th) (Mi.rq i cs m hb):=λH0 Hv0 e σ H Hv D I h=>by
 refine h1 H0 Hv0 e σ H Hv D _ I ?_;unfold Mi.rq at h;cases hm:m e with
 |ok o=>rw[hm]at h;exact h
 |no=>rw[hm]at h;exact h.elim
 |ex z=>
  rw[hm]at h;obtain⟨hz,h⟩:=Mi.c9 h;intro ea H' Hv' I' s' hea;have g:bC H' Hv' (upd H' ea (.ext (iI ea (Tb.cl z.cls)))) (upd Hv' ea (.ext (iI ea (Tb.cl z.cls)))):=.new I'.vw hea;have r:fH (upd Hv' ea (.ext (iI ea (Tb.cl z.cls)))) (.ex z.cls) (.ref ea):=⟨ea,rfl,bG⟩;refine⟨⟨z.cls,hz,rfl⟩,h2 H0 Hv0 _ _ _ _ _ ((I'.grow g).set hi r) ?_⟩;have h:=aE.mp h;cases hh:hb (e.set i (aa (.ex z.cls)))with
  |no=>rw[hh]at h;exact h.elim
  |ex y=>rw[hh]at h;exact h.elim
  |ok o=>
   rw[hh]at h;have sm:cA Hv (upd Hv' ea (.ext (iI ea (Tb.cl z.cls)))):=s'.trans g.vis;cases o with
   |nx e2=>exactλσ2 H2 Hv2 I2 s2=>h (σ2.set i ac) H2 Hv2 (I2.off i) (sm.trans s2)
   |rt w=>exact h
   |bk e2=>exactλσ2 H2 Hv2 I2 s2=>h (σ2.set i ac) H2 Hv2 (I2.off i) (sm.trans s2)
   |ct e2=>exactλσ2 H2 Hv2 I2 s2=>h (σ2.set i ac) H2 Hv2 (I2.off i) (sm.trans s2)
end
end A
namespace PySem.W
open PySem PySem.Spec PySem.Calls PyProof.Rows
section
variable{prog:bt}{w:a9}{A:bH}{E:ah->aw->Prop}{s:aw}{K:Frag}{x D:ag}{ox:Obj}
variable(hga:findIn K (.ref D) "__getattribute__" = aa (aa (.builtin "BaseException.__getattribute__")))(hgt:findIn K (.ref D) "__getattr__" = aa ac)(hcd:(clsIn K D).isSome=true)
 (ha:findIn K (.ref D) "__class__" = aa (aa (.builtin "object.__class__"))) (hn:specialIn K (.builtin "object.__class__") "__get__" = aa (aa (.builtin "getset_descriptor.__get__"))) (htk:takesIn K (.builtin "object.__class__")=aa true)
 (hm:mroIn K D (.type "object")=aa true) (hb:mroIn K D (.type "BaseException")=aa true)
include hga hgt hcd ha hn htk hm hb
theorem LK{tk:Tok}{R:Result->aw->Prop}(X:K.In s.heap)(I:InstAt s.heap x ox D ac)(h:R (.ok (.ret (.ref D))) s) :
 codeAny (model prog w) A (.call (.builtin "BaseException.__getattribute__") ⟨[.ref x,.str "__class__" tk],[]⟩) R s:=by
 obtain⟨hh,g,d,t,os⟩:=s;have hf:findObj K D ac "__class__" = aa (.bind (.builtin "getset_descriptor.__get__") (.builtin "object.__class__")):=by obtain⟨cd,hc⟩:=wx.mp hcd;unfold findObj;rw[hc,Hl,ha,Hl];simp[hn,htk]
 have L0:=I.type (M:=model prog w);have L1:=looks_find (M:=model prog w) X I hf;have L2:=looks_mroIn (M:=model prog w) X hb;have hk:builtinKind "BaseException.__getattribute__" = aa .slot:=by decide +kernel
 have hsplit:splitId "BaseException.__getattribute__" = aa ("BaseException","__getattribute__"):=by decide +kernel
 have hargs:=F.args_bexc_ga (.ref x) (.str "__class__" tk);refine codeAny_call_builtin (Hj).ga.plain F.entry_bexc_ga ?_;simp only[checkBuiltinCall,hk,hsplit];refine aY ?_;unfold isInstance;refine aY (L0.at ?_);refine L2.at ?_
 repeat (any_goals (first|assumption|(refine aY (L0.at ?_))|(refine aY (L1.at ?_))|wp_step))
 refine class_get (s:=⟨hh,g,d,t,os⟩) X I hm ?_;exact bW h
theorem Mn{Q:Option ah->aw->Prop}(X:K.In s.heap)(I:InstAt s.heap x ox D ac)(h:Q (aa (.ref D)) { s with toks:=s.toks+1 }):wpAny (model prog w) A (getAttr? (.ref x) "__class__") Q E s:=by
 obtain⟨hh,g,d,t,os⟩:=s;have L0:=I.type (M:=model prog w);have L1:=looks_findIn (M:=model prog w) X hga;have L2:=looks_findIn (M:=model prog w) X hgt;have f3:=(Hj).ga.bind (.ref x);have hx2:(sX "BaseException.__getattribute__" == sX "object.__getattribute__")=false:=by decide +kernel
 have hx1:(onTheHeap (dy D)&&sX "BaseException.__getattribute__" == sX "object.__getattribute__")=false:=by rw[hx2,wv]
 unfold getAttr? getAttrBy? getAttrBy;refine aY (wpAny_mkText (aY (z7 (kS (aY (L0.at (aY (L1.at ?_))))))));dsimp only;rw[be (by rw[hx1];exact dW)];unfold getAttrByItsOwn
 repeat (any_goals (first|assumption|(refine aY (L2.at ?_))|(refine L2.at ?_)|wp_step))
 refine LK (s:=⟨hh,g,d,t+1,os⟩) hga hgt hcd ha hn htk hm hb X I ?_;exact handed_on rfl (bW h)
theorem DD:KitX K (.ref x) (.ref D) (λh=>∃ox,InstAt h x ox D ac) where
 ty:=λ_ _ _ ⟨_,I⟩=>I.type
 it:=λ_ _ X _=>by
  obtain⟨cd,hc⟩:=wx.mp hcd;unfold clsIn at hc;split at hc
  ·rename_i c' d' cd' sl' ho;intro A' Q' E' s' k q;unfold isType loadHead;exact aY (wpAny_loadPart (k _ _ (X _ _ ho)) (bW q))
  ·cases hc
 ne:=λh tp dd aq n sl X htp=>by
  obtain⟨cd,hc⟩:=wx.mp hcd;refine Bool.eq_false_iff.mpr λq=>?_;have e:D=tp:=Value.ref.inj (nu.mp q);subst e;unfold clsIn at hc;split at hc
  ·rename_i c' d' cd' sl' ho;have z:=(X _ _ ho).symm.trans htp;cases z
  ·cases hc
 ca:=λX ⟨_,I⟩ k=>Mn hga hgt hcd ha hn htk hm hb X I k
end
end PySem.W
namespace L2
open PySem PySem.Spec PyProof.Rows
open A (iI)
theorem GI{X:Cx}:oC X [] []:=trivial
theorem tX{X:Cx}{e:aW}{es:List aW}{p:St->Hp->Prop}{ps:List (St->Hp->Prop)}(h:FP X e p)(t:oC X es ps):oC X (e::es) (p::ps):=⟨h,t⟩
structure iq(K:aI)(D:ag):Prop where
 ga:sG K (.ref D) "__getattribute__" = aa (aa (.builtin "BaseException.__getattribute__"))
 gt:sG K (.ref D) "__getattr__" = aa ac
 cd:(PySem.W.clsIn K D).isSome=true
 at_:sG K (.ref D) "__class__" = aa (aa (.builtin "object.__class__"))
 gn:GL K (.builtin "object.__class__") "__get__" = aa (aa (.builtin "getset_descriptor.__get__"))
 tk:GQ K (.builtin "object.__class__")=aa true
 mo:zI K D (.type "object")=aa true
 mb:zI K D (.type "BaseException")=aa true
section
variable{X:Cx}{af:List (ag×Obj)}{σ:St}{H:Hp}{s:aw}
theorem Inv.instX(I:Inv X af σ H s){ea C:ag}(h:H ea=aa (.ext (iI ea C))):∃ox,GR s.heap ea ox C ac:=by obtain⟨⟨o,h1,h2,h3,vs,h4⟩,_⟩:=(show cF X.prog X.w H s.heap ea (.ext (iI ea C))from I.hok ea _ h);refine⟨o,h1,h2,?_,by rw[h3];trivial⟩;unfold PySem.W.notCls;rw[h4]
inductive tE:V->ah->Prop
 |own (C:ag):tE (.ref C) (.ref C)
 |blt (T:String):tE (.ty T) (.type T)
def Er(K:aI):List V->Hp->VK->Prop:=λxs H Q=>∃ea C c c' b,xs=[.ref ea,c]/\H ea=aa (.ext (iI ea C))/\iq K C/\tE c c'/\eO K (.ref C) c'=aa b/\Q (.bl b) H
theorem oW:fT X (.builtin "isinstance") (Er X.K):=by
 intro af s σ H xs us Q I r h;obtain⟨ea,C,c,c',b,rfl,he,k,hc,e,q⟩:=h;obtain⟨u,w',rfl,rx,rt⟩:=vals2 r;cases(show u=dy ea from rx);have hw:w'=c':=by
  cases hc with
  |own C=>exact(show w'=dy C from rt)
  |blt T=>exact(show w'=Ae T from rt)
 subst hw;exact jA (PySem.W.DD k.ga k.gt k.cd k.at_ k.gn k.tk k.mo k.mb) I.dX (I.instX he) e (λz=>nomatch z) λtk=>⟨.bl b,H,I.tok tk,rfl,q⟩
theorem DZ:∀{Cs:List ag} {us:List ah},Vals (Cs.map V.ref) us->us=Cs.map .ref
 |[],_,.nil=>rfl
 |T::r,_,.cons a t=>by
  have a:_=dy T:=a;rw[a,DZ t];rfl
def FQ(K:aI):List V->Hp->VK->Prop:=λxs H Q=>∃(ea C tp:ag) (Cs:List ag) (b:Bool),xs=[.ref ea,.ref tp]/\H tp=aa (.tup (Cs.map V.ref))/\H ea=aa (.ext (iI ea C))/\iq K C/\mq K (.ref C) (Cs.map .ref)=aa b/\Q (.bl b) H
theorem EE:fT X (.builtin "isinstance") (FQ X.K):=by intro af s σ H xs us Q I r h;obtain⟨ea,C,tp,Cs,b,rfl,ht,he,k,e,q⟩:=h;obtain⟨u,w',rfl,rx,rt⟩:=vals2 r;cases(show u=dy ea from rx);cases(show w'=dy tp from rt);obtain⟨_,aq,rv,o,h1,h2,_,n,h3⟩:=(show cF X.prog X.w H s.heap tp (.tup (Cs.map V.ref))from I.hok tp _ ht);obtain rfl:=DZ rv;obtain⟨c,d,dt,sl⟩:=o;simp only at h2 h3;subst h2 h3;exact PySem.W.kia_tup (PySem.W.DD k.ga k.gt k.cd k.at_ k.gn k.tk k.mo k.mb) I.dX (I.instX he) h1 e (λz=>nomatch z) λtk=>⟨.bl b,H,I.tok tk,rfl,q⟩
end
end L2
namespace Mi
open PySem
def ji(i:Nat)(b:String->Option Bool):E:=λe=>match e[i]? with
 | some (aa (.ex c))=>match b c with
  |some k=>.ok (.bl k)
  |none=>.no
 |_=>.no
end Mi
namespace A
open PySem L2 PyProof.Rows So
open Mi (D W Rs Fin dR aE gH Out Tg dq)
variable[Tb:bY]
section
variable{K:aI}{M:Nat->Bool}{b:String->Option Bool}
theorem Go:jx M [] []:=trivial
theorem vv{g:Mi.Env->Bool}{p:L2.St->Hp->Prop}{gs:List (Mi.Env->Bool)}{ps:List (L2.St->Hp->Prop)}(h:PG M g p)(t:jx M gs ps):jx M (g::gs) (p::ps):=⟨h,t⟩
theorem C2{i:Nat}{e:Mi.Env}{k:D->Prop}(h:Fin (Mi.ji i b e) k):∃c q,e[i]? = aa (aa (.ex c))/\b c=aa q/\k (.bl q):=by
 unfold Mi.ji at h;split at h
 ·rename_i c hc;split at h
  ·rename_i q hq;exact⟨c,q,hc,hq,h⟩
  ·exact h.elim
 ·exact h.elim
theorem pA{i:Nat}{c:V}{c':ah}(hm:M i=false)(hc:tE c c')(hb:∀x k,b x=aa k->iq K (Tb.cl x)/\eO K (.ref (Tb.cl x)) c'=aa k):AE M qV (pL (Er K) (gc (eB i) (gc (tC c) ib))) (Mi.ji i b):=λe σ H Hv Q I h=>by
 obtain⟨x,k,he,hk,q⟩:=C2 h;obtain⟨v,hv,a,rfl,ha⟩:=I.nob i _ he hm;obtain⟨h1,h2⟩:=hb x k hk;exact⟨_,hv,a,_,c,c',k,rfl,I.vw.sub _ _ ha,h1,hc,h2,q _ H Hv (.refl I.vw) fv⟩
def yy:List ag->TA
 |[]=>ib
 |C::r=>gc (tC (.ref C)) (yy r)
theorem EI:∀(Cs:List ag) (σ:L2.St) (H:Hp) (Q:List V->Hp->Prop),Q (Cs.map V.ref) H->yy Cs σ H Q
 |[],_,_,_,h=>h
 |C::r,σ,H,Q,h=>EI r σ H _ h
theorem Gh{i:Nat}{Cs:List ag}(hm:M i=false)(hl:Cs.length<=100)(hb:∀x k,b x=aa k->iq K (Tb.cl x)/\mq K (.ref (Tb.cl x)) (Cs.map .ref)=aa k):AE M qV (pL (FQ K) (gc (eB i) (gc (xh (yy Cs)) ib))) (Mi.ji i b):=λe σ H Hv Q I h=>by
 obtain⟨x,k,he,hk,q⟩:=C2 h;obtain⟨v,hv,a,rfl,ha⟩:=I.nob i _ he hm;obtain⟨h1,h2⟩:=hb x k hk;refine⟨_,hv,EI Cs σ H _ ⟨by rw[bd,eF];omega,λp hp=>?_⟩⟩;have g:bC H Hv (upd H p (.tup (Cs.map V.ref))) (upd Hv p (.tup (Cs.map V.ref))):=.new I.vw hp;exact⟨a,_,p,Cs,k,rfl,bG,g.old.at (I.vw.sub _ _ ha) trivial,h1,h2,q _ _ _ g fv⟩
end
end A
namespace Mi
open PySem
def eD(x:Str):Str:=⟨v7 x λ_ c=>wF c⟩
def xy:D->Rs D
 |.str x=>br ((eD x).length<=16777216) (.ok (.str (eD x)))
 |_=>.no
end Mi
namespace L2
open PySem PySem.Spec PyProof.Rows
section
variable{X:Cx}
def Ga:V->List V->Hp->VK->Prop:=λx vs H Q=>∃y:Str,x=.str y/\vs=[]/\(Mi.eD y).length<=sizeLine/\Q (.str (Mi.eD y)) H
theorem KA:tD X "str.upper" Ga:=by
 intro af s σ H x vs v us Q I rx rv h;obtain⟨y,rfl,rfl,hz,q⟩:=h;obtain⟨t,rfl⟩:=rx;cases rv;have hl:Hy (v7 y λ_ c=>wF c).size=false:=by unfold Hy;exact cp (wt.mpr hz)
 exact call_gives F.slot_str_upper (wc s y t) F.entry_str_upper (F.args_str_upper_1 _) (gives_str_upper y t hl) ⟨hz,.str (Mi.eD y),H,I.tok _,⟨_,rfl⟩,q⟩
end
end L2
namespace A
open PySem L2 PyProof.Rows So
open Mi (D W Rs Fin aE)
variable[Tb:bY]
section
variable{K:aI}{M:Nat->Bool}{ta:TE}{a:Mi.E}
theorem Ob(ha:AE M qP ta a):AE M qV (vq K "str" Ga ta) (Mi.m1 Mi.xy a):=λe σ H Hv Q I h=>
 ha e σ H Hv _ I ((aE.mp h).mono λx hx v H1 Hv1 g1 rx=>by
  cases x with
  |str y=>
   obtain⟨hz,hk⟩:=Mi.c9 (show Fin (Mi.br ((Mi.eD y).length<=16777216) _) _ from hx);cases RD.str rx;exact⟨rfl,y,rfl,rfl,by rw[eF];exact hz,(Mi.m6 hk) _ H1 Hv1 g1 oq⟩
  |_=>exact hx.elim)
end
end A
namespace Mi
def uI(m:S):S:=λe=>match m e with
 |.ok (.rt w)=>.ok (.rt w)
 |_=>.no
end Mi
namespace A
open PySem L2 PyProof.Rows So
open Mi (D W Rs Fin aE Out Tg)
variable[Tb:bY]
section
variable{M:Nat->Bool}{κ:Kd}{t:TS}{m:Mi.S}
theorem Jq(y:Nat)(hy:M y=true)(h:AS (λj=>M j && !(j==y)) κ t m):AS M κ t (Mi.uI m):=λH0 Hv0 e σ H Hv D I f=>by
 have nb:∀{j:Nat},(M j && !(j==y))=false->M j=false\/j=y:=λ{j} z=>by
  cases q:M j with
  |false=>exact .inl rfl
  |true=>rw[q]at z;exact .inr (by simpa using z)
 have nt:∀{j:Nat},(M j && !(j==y))=true->M j=true/\j≠y:=λ{j} z=>by simpa using z
 have fin:∀Hv',bC H0 Hv0 H Hv'->R0 (λj=>M j && !(j==y)) e σ H Hv'->t D σ H:=λHv' gw R=>by
  refine h H0 Hv0 e σ H Hv' D ⟨R,gw,λi w a q1 q2 q3=>I.fresh i w a q1 (nt q2).1 q3,λi j w w' a b hij q1 q2 q3 q4 q5 q6=>I.sep i j w w' a b hij q1 q2 (nt q3).1 (nt q4).1 q5 q6⟩ ?_;unfold Mi.uI at f;cases hm:m e with
  |no=>rw[hm]at f;exact f.elim
  |ex z=>rw[hm]at f;exact f.elim
  |ok o=>
   rw[hm]at f;cases o with
   |rt w=>exact f
   |nx e2=>exact f.elim
   |bk e2=>exact f.elim
   |ct e2=>exact f.elim
 have other:(∀w0,e[y]?≠aa (aa w0))->t D σ H:=λac=>fin Hv I.gw ⟨I.vw,I.len,λj w' z q=>by
  rcases nb q with q|rfl
  ·exact I.nob j w' z q
  ·exact absurd z (ac w'),λj w' z q=>I.own j w' z (nt q).1⟩
 cases he:e[y]? with
 |none=>exact other λw0 z=>by rw[he]at z;cases z
 |some ow=>
  cases ow with
  |none=>exact other λw0 z=>by rw[he]at z;cases z
  |some w0=>
   obtain⟨p,Hv',q,I',s,r⟩:=I.Lv hy he;refine fin Hv' I'.gw ⟨I'.vw,I.len,λj w' z q2=>?_,λj w' z q2=>?_⟩
   ·by_cases hj:j=y
    ·subst hj;rw[he]at z;cases z;exact⟨_,q,r⟩
    ·exact I'.nob j w' (by rw[eQ (dO hj)];exact z) ((nb q2).resolve_right hj)
   ·obtain⟨m1,hj⟩:=nt q2;exact I'.own j w' (by rw[eQ (dO hj)];exact z) m1
end
end A
namespace Mi
open PySem
end Mi
namespace L2
open PySem PySem.Spec PyProof.Rows
end L2
namespace A
open PySem L2 PyProof.Rows So
open Mi (D W Rs Fin aE)
variable[Tb:bY]
end A
namespace Mi
open PySem
end Mi
namespace A
open PySem L2 PyProof.Rows So
open Mi (D W Rs Fin dR aE gH Out Tg dq)
variable[Tb:bY]
end A
namespace L2
open PySem PySem.Spec PyProof.Rows
section
variable{pr:bt}{wo:a9}{Ar:bH}{Ex:ah->aw->Prop}
theorem Gs{it l:ag}{zs:Array ah}(ne:l≠it):∀(k j:Nat) (z:aw) (R:List ah->aw->Prop),z.heap.IsListIter it l j->z.heap.IsList l zs->j+k<=zs.size ->
 (∀g,g.IsListIter it l (j+k)->sS it z.heap g->R ((zs.toList.drop j).take k) { z with heap:=g })->wpAny (model pr wo) Ar (draw (.ref it) k) R Ex z
 |0,j,z,R,a,_,_,q=>by
  show wpAny _ _ (pure []) R Ex z;refine bW ?_;have:=q z.heap a (Heap.SameBut.refl ..);simpa using this
 |k+1,j,z,R,a,b,c,q=>by
  have lt:j<zs.size:=by omega
  show wpAny _ _ (pyNext (.ref it) >>= _) R Ex z;refine aY (G9 a b (x:=zs[j]) (by simp[lt]) λg1 a1 b1=>aY (kS ?_));refine Gs ne k (j+1) _ _ a1 (b.extBut b1.extBut ne) (by omega) λg2 a2 b2=>bW ?_;have e:zs.toList.drop j=zs[j]::zs.toList.drop (j+1):=by simp[vN,lt]
  have r:=q g2 (by rw[show j+(k+1)=j+1+k by omega];exact a2) (b1.trans b2);rw[e,List.take_succ_cons]at r;exact r
theorem MW{l:ag}{zs:Array ah}{z:aw}{R:List ah->aw->Prop}(h0:Ar.handled=ac)(b:z.heap.IsList l zs)(q:∀g,Heap.ExtBut z.heap.objs.size z.heap g->R zs.toList { z with heap:=g }) :
 wpAny (model pr wo) Ar (unpackItems (.ref l) zs.size ac) R Ex z:=by
 have ne:l≠z.heap.objs.size:=by obtain⟨o,ho,_⟩:=b;exact fY (bX ho)
 unfold unpackItems notIterableAtAll;refine aY (aY (zZ b.typeIs PySem.F.slot_list_iter.lookup (bW ?_)));simp only[nP,iT];refine aY (kS (zW b ?_));refine aY (kS (Gs ne zs.size 0 _ _ ⟨_,fw _ rfl,rfl,rfl⟩ (b.push _) (by omega) λg1 a1 b1=>?_));rw[show List.take zs.size (List.drop 0 zs.toList)=zs.toList by rw[nL];exact mv (by simp),be (by simp)];have c1:g1.IsList l zs:=(b.push _).extBut b1.extBut ne;refine aY (kS (wpAny_pyNext_list_end h0 a1 c1 (by simp) λg2 b2=>?_));simp only[Option.isSome_none,nP,iT];exact bW (q g2 λd o hd e=>b2 d o hd (b1.extBut d o hd (dU _ e)))
end
end L2
namespace Mi
open PySem
def B4(is:List Nat)(a:E):S:=λe=>(a e).bind λd=>match d with
 |.lst ds=>(lL is ds e).bind λe'=>.ok (.nx e')
 |_=>.no
end Mi
namespace A
open PySem L2 PyProof.Rows So
open Mi (D W Rs Fin aE Out Tg)
variable[Tb:bY]
section
variable{X:Cx}{pos:Pos}
def Ds(n:Nat)(t:iz):TG:=λv σ H Q=>∃a xs,v=.ref a/\Lst H a xs/\xs.length=n/\t xs σ H Q
theorem OP{es:List aW}{k:Nat}{t:iz}{n:Nat}(hc:X.calm=true)(h:L2.jx X es t)(hn:(assignEach es X.env).length=n:=by rfl)(hst:(assignEach es X.env).findIdx? (·.1)=ac:=by rfl):L2.PG X (.Tuple es k pos) (Ds n t):=by
 intro af s σ H v u Q I r hw;obtain⟨a,xs,e1,hq,hl,hw⟩:=hw;subst e1;cases r;obtain⟨aq,n0,rv,hz,ho⟩:=wR I hq;have hli:=rv.length;rw[assign_Tuple];refine aY (v8 ?_);unfold unpack;rw[hn,hst];have sz:n=aq.toArray.size:=by rw[dI];omega
 rw[sz];refine aY (kS (MW (I.ok.hd hc) ⟨_,ho,rfl,_,rfl⟩ λg hx=>?_));have I1:Inv X af σ H { s with heap:=g }:=I.kept (t':=s.toks) λb o e=>hx b o (fY (bX e)) e;exact h af _ σ H xs _ Q I1 (by simpa using rv) hw
end
section
variable{M:Nat->Bool}{κ:Kd}{te:TE}{a:Mi.E}
theorem OE(is:List Nat)(hm:∀i∈is,M i=false)(ha:AE M qV te a):AS M κ (jv te (Ds is.length (vA is))) (Mi.B4 is a):=λH0 Hv0 e σ H Hv D I h=>
 ha e σ H Hv _ I.toR0 ((aE.mp h).mono λd hd v H1 Hv1 g1 r=>by
  cases d with
  |lst ds=>
   obtain⟨p,xs,rfl,l,rr⟩:=mf.mp r;have hd:=aE.mp (show Fin (Rs.bind (Mi.lL is ds e) _) _ from hd);have I2:=I.grow g1;refine⟨p,xs,rfl,l.same g1.vw.sub,by rw[<- rr.len];exact ya hd,?_⟩;exact yM (P:=λe1 σ1=>R1 M H0 Hv0 e1 σ1 H1 Hv1) (λi hi e1 σ1 d1 v1 p1 r1=>p1.set (hm i hi) r1) I2 rr (hd.mono λe' h' σ' p'=>h' σ' H1 Hv1 p' g1.vis)
  |_=>exact hd.elim)
end
end A
namespace Mi
open PySem
end Mi
namespace L2
open PySem PySem.Spec PyProof.Rows
end L2
namespace A
open PySem L2 PyProof.Rows
open Mi (D W Rs Fin aE)
variable[Tb:bY]
end A
namespace Mi
open PySem
end Mi
namespace L2
open PySem PySem.Spec PyProof.Rows
end L2
namespace A
open PySem L2 PyProof.Rows
open Mi (D W Rs Fin aE)
variable[Tb:bY]
end A
namespace Mi
open PySem
end Mi
namespace A
open PySem L2 PyProof.Rows So
open Mi (D W Rs Fin aE Out Tg)
variable[Tb:bY]
end A
namespace L2
open PySem PySem.Spec PyProof.Rows
def pw(h:aL)(d:ag)(es:Array DictEntry)(ep:Nat):Prop:=∃o,h.get? d=aa o/\o.ExactDict/\o.data=.dict es ep
theorem pw.ty{s:aw}{d:ag}{es:Array DictEntry}{ep:Nat}(x:pw s.heap d es ep):s.TypeIs (.ref d) "dict" := let ⟨o,e,c,_⟩:=x;⟨o,e,c.1⟩
section
variable{P:bt}{w:a9}{A:bH}{E:ah->aw->Prop}{s:aw}{d it:ag}{es:Array DictEntry}{ep i:Nat}
theorem Op{Q:ah->aw->Prop}(nd:(d==sysModules)=false)(x:pw s.heap d es ep)
 (q:Q (.ref s.heap.objs.size) { s with heap:=s.heap.push { cls:=.type "dict_keyiterator", data:=.fields #[.ref d,.int 0 0,.int es.size 0,.int ep 0] } }):wpAny (model P w) A (pyIter (.ref d)) Q E s:=by
 obtain⟨o,e,c,dt⟩:=id x;have ty:=x.ty;refine wpAny_pyIter_slot ty F.slot_dict_iter (v5 F.slot_dict_iter ty F.entry_dict_iter ?_ (F.args_dict_iter_1 _));unfold Builtin.«dict.__iter__» Builtin.Dict.dictSlotNone;refine aY (aY (wpAny_notOrdered_dict ty ?_));show wpAny _ _ (pure (dy d)) _ _ s;refine bW ?_;show wpAny _ _ (HA d >>= _) _ _ s;unfold HA;rw[be (by rw[nd];exact dW)];refine aY (bW (aY (zX e dt (aY (z5 e dt ?_)))));refine aY (v4 (bW ⟨_,rfl, "dict_keyiterator", _,⟨_,fw _ rfl,rfl⟩,sT.lookup,?_⟩));simpa [rawInt]using q
theorem J7{Q:Option ah->aw->Prop}(hI:s.heap.IsKeyIter it d i es.size ep)(x:pw s.heap d es ep)(lt:i<es.size)
 (q:∀h',h'.IsKeyIter it d (i+1) es.size ep->sS it s.heap h'->Q (aa es[i].key) { s with heap:=h' }):wpAny (model P w) A (pyNext (.ref it)) Q E s:=by
 obtain⟨oi,ei,ci,di⟩:=id hI;obtain⟨o,e,c,dt⟩:=id x;unfold pyNext;refine aY (z7 (G8 (name:=mF "__next__") hI.typeIs sT (v5 sT hI.typeIs He ?_ (Hc _))));refine aY (bW (aY (aY ?_)))
 first|refine aY (vY hI.typeIs (bW ?_))|refine aY (vZ hI.typeIs (bW ?_))
 refine aY (wpAny_fieldsOf ei di ?_);simp only[show Hx "dict_keyiterator" = false by decide,nP,iT];show wpAny _ _ (if(dy d==fN)=true then _ else _) _ _ s;rw[be (by exact dW)];refine aY (bW (aY (zX e dt ?_)));rw[be (by simp)];refine aY (bW (aY (z5 e dt ?_)));rw[be (by simp)];refine bW ?_;simp only[show¬ ((i:Int)<0)from by omega,iT,kU,Ho lt];refine aY ?_
 first|refine aY (vY hI.typeIs (bW ?_))|refine aY (vZ hI.typeIs (bW ?_))
 refine aY (wpAny_isOneOf_keyiter hI.typeIs ?_);show wpAny _ _ (setField (.ref it) 1 (rawInt ((i:Int)+1)) >>= _) _ _ s;refine aY (sQ ei di (by simp) ?_);have hJ:(s.heap.update it (jE (·.setIfInBounds 1 (rawInt ((i:Int)+1))))).IsKeyIter it d (i+1) es.size ep:=
  ⟨_,qd _ ei (sY (nR di _)),(Obj.cls_mapFields ..).trans ci,by rw[nR di];simp[rawInt]⟩
 refine aY (kS (aY (wpAny_isOneOf_keyiter (s:={ s with heap:=s.heap.update it (jE (·.setIfInBounds 1 (rawInt ((i:Int)+1)))) }) hJ.typeIs ?_)));show wpAny _ _ (pure es[i].key) _ _ _;exact bW (bW ⟨_,rfl,bW (q _ hJ (HD ..))⟩)
theorem Lr{Q:Option ah->aw->Prop}(hh:A.handled=ac)(hI:s.heap.IsKeyIter it d i es.size ep)(x:pw s.heap d es ep)(ge:es.size<=i)
 (q:∀h',Heap.ExtBut it s.heap h'->Q ac { s with heap:=h' }):wpAny (model P w) A (pyNext (.ref it)) Q E s:=by
 obtain⟨oi,ei,ci,di⟩:=id hI;obtain⟨o,e,c,dt⟩:=id x;unfold pyNext;refine aY (z7 (G8 (name:=mF "__next__") hI.typeIs sT (v5 sT hI.typeIs He ?_ (Hc _))));refine aY (bW (aY (aY ?_)))
 first|refine aY (vY hI.typeIs (bW ?_))|refine aY (vZ hI.typeIs (bW ?_))
 refine aY (wpAny_fieldsOf ei di ?_);simp only[show Hx "dict_keyiterator" = false by decide,nP,iT];show wpAny _ _ (if(dy d==fN)=true then _ else _) _ _ s;rw[be (by exact dW)];refine aY (bW (aY (zX e dt ?_)));rw[be (by simp)];refine aY (bW (aY (z5 e dt ?_)));rw[be (by simp)];refine bW ?_;simp only[show¬ ((i:Int)<0)from by omega,iT,kU,Array.getElem?_eq_none ge];refine aY ?_
 first|refine aY (vY hI.typeIs (bW ?_))|refine aY (vZ hI.typeIs (bW ?_))
 show wpAny _ _ (setField (.ref it) 0 .none >>= _) _ _ s;refine aY (sQ ei di (by simp) ?_);show wpAny _ _ (newExc (.type "StopIteration") [] >>= _) _ _ _;refine aY ?_;simp only[newExc,newTuple];refine aY (v4 ?_ (by size_fits));refine aY (m:=firstArgMember _ _) (wpAny_of_eq (a:=fN) (by first|rfl|(simp only[firstArgMember];rfl)) (v4 ?_ (by size_fits)));simp only[raiseNew];refine aY (wpAny_handled ?_);rw[show A.in1.handled=ac from hh];refine aY (bW (wpAny_throw ?_));exact aY (wpAny_isInstance (b:=true) (T := "StopIteration") ⟨_,fw _ rfl,rfl⟩ isSubtype_stop (bW (q _ (((HD ..).extBut.push _).push _))))
end
end L2
namespace So
end So
namespace Mi
open PySem
def tL:Ky->D
 |.inl i=>.bl i
 |.inr x=>.str x
def BH:W->Rs W
 |.dt ak=>.ok (.df ak)
 |_=>.no
def qS(m:EW):EW:=λe=>(m e).bind BH
def ph(i:Nat):I:=λe=>(wV i e).bind λw=>match w with
 |.df ak=>.ok (ak.map λkv=>.tup (kv.1.map tL))
 |_=>.no
end Mi
namespace L2
open PySem PySem.Spec PyProof.Rows
theorem Inv.KH{X:Cx}{af:List (ag×Obj)}{σ:St}{H:Hp}{s:aw}{a:ag}{kv:List (List Key×V)}(I:Inv X af σ H s)(h:H a=aa (.dT kv)):∃ob,Inv X af σ (upd H a (.frz ob (.dT kv))) s:=by
 obtain⟨z1,z2,xs,r,ob,es,ep,e,c⟩:=(show cF X.prog X.w H s.heap a (.dT kv)from I.hok a _ h);have ne:∀b u,H b=aa u->u≠.dT kv->b≠a:=λb u q n z=>by subst z;rw[h]at q;exact n (fM q).symm
 have st:∀b u,cF X.prog X.w H s.heap b u->cF X.prog X.w (upd H a (.frz ob (.dT kv))) s.heap b u:=λb u q=>
  q.stay (λ_ _ _ q=>q) (λc q=>by rw[aN (ne c _ q (by simp))];exact q) λc xs q=>by rw[aN (ne c _ q (by simp))];exact q
 refine⟨ob,I.un (t':=s.toks) ⟨λb o q _ _ _=>q,λb o q _ _ _=>⟨o.slots,q⟩,λb o q n _=>by rw[aN (λz=>by subst z;rw[h]at n;cases n)];exact n,λb o q _=>⟨o,q⟩,
  λb xs q=>by rw[aN (ne b _ q (by simp))];exact q,λb o u q=>by rw[aN (ne b _ q (by simp))];exact q,λb w ps q=>⟨#[],by rw[aN (ne b _ q (by simp)),q];simp⟩⟩ λb u q=>?_⟩
 by_cases hb:b=a
 ·subst hb;rw[bG]at q;cases q;exact⟨e,st b _ (I.hok b _ h)⟩
 ·rw[aN hb]at q;exact st b u (I.hok b u q)
def GG(te:TE):TE:=λσ H Q=>te σ H λv H1=>∃a kv,v=.ref a/\H1 a=aa (.dT kv)/\∀ob,Q v (upd H1 a (.frz ob (.dT kv)))
theorem Dd{X:Cx}{e:aW}{te:TE}(h:PE X e te):PE X e (GG te):=λaf s σ H Q I q=>
 a5 (h af s σ H _ I q) λv s1 ⟨x,H1,I1,r1,a,kv,e,q1,q2⟩=>by
  obtain⟨ob,I2⟩:=I1.KH q1;exact⟨x,_,I2,r1,q2 ob⟩
def wZ(a:ag)(ob:Obj)(kv:List (List Key×V)):It:=⟨λi H=>H a=aa (.frz ob (.dT kv))/\i<kv.length,λi H x H'=>H'=H/\∃b k v,kv[i]? = aa (k,v)/\x=.ref b/\H b=aa (.tup (k.map kV)),λi H=>H a=aa (.frz ob (.dT kv))/\kv.length<=i⟩
theorem Dk{α β:Type}{F:α->β->Prop}:∀{l:List α} {m:List β} {i:Nat} {x:α},mB F l m->l[i]? = aa x->∃y,m[i]? = aa y/\F x y
 |_,_,_,_,.nil,e=>by simp at e
 |_,_,0,_,.cons r _,e=>by simp at e;subst e;exact⟨_,rfl,r⟩
 |_,_,i+1,x,.cons _ t,e=>by
  obtain⟨u,h1,h2⟩:=Dk (i:=i) (x:=x) t (by simpa using e);exact⟨u,by simpa using h1,h2⟩
theorem yk{X:Cx}{af:List (ag×Obj)}{σ:St}{H:Hp}{s:aw}{a:ag}{ob:Obj}{kv:List (List Key×V)}(I:Inv X af σ H s)(q:H a=aa (.frz ob (.dT kv))) :
 (a==sysModules)=false/\kv.length<=sizeLine/\∃es ep,ob.data=.dict es ep/\pw s.heap a es ep/\es.size=kv.length/\∀i k v,kv[i]? = aa (k,v)->∃(lt:i<es.size) (b:ag),es[i].key=.ref b/\H b=aa (.tup (k.map kV))/\RelV v es[i].val:=by
 obtain⟨e,z1,z2,xs,r,ob',es,ep,e',c1,c2,c3,c4⟩:=(show cF X.prog X.w H s.heap a (.frz ob (.dT kv))from I.hok a _ q);rw[e]at e';cases e';have hl:es.size=xs.length:=size_of_entries c3;have hl2:kv.length=xs.length:=tu r;refine⟨z2,z1,es,ep,c2,⟨ob,e,c1,c2⟩,by omega,λi k v hk=>?_⟩;obtain⟨x,hx,h1,h2,h3⟩:=Dk r hk;have lt:i<es.size:=by rw[hl];exact(dG.mp hx).1
 have he:=entry_at c3 i;rw[hx,Hm,Ho lt]at he;have he:=fM he;refine⟨lt,x.2.1,by rw[he];rfl,h2,by rw[he];exact h3⟩
theorem OC{P:bt}{w:a9}{K:aI}{tg:aW}(a it:ag)(ob:Obj)(es:Array DictEntry)(ep:Nat)(kv:List (List Key×V))(hd:ob.data=.dict es ep) :
 Turn P w K tg (wZ a ob kv) [it] it (λi h=>h.IsKeyIter it a i es.size ep) where
 mem:=cL.mpr rfl
 obj:=λi h st b hb=>by
  cases cL.mp hb;obtain⟨o,e,c,d⟩:=st;exact⟨o,e,λv z=>by rw[d]at z;cases z⟩
 keep:=λi h h' st k=>st.at λo e=>k it (cL.mpr rfl) o e
 item:=by intro X hP hw hK hc i af s σ H E I hf st hg;subst hP hw hK;obtain⟨q,lt⟩:=hg;obtain⟨_,_,es',ep',d',R,hl,at_⟩:=yk I q;rw[hd]at d';cases d';obtain⟨f0,f1,f2,f3,f4,f5⟩:=hf it (cL.mpr rfl);obtain⟨⟨k,v⟩,hk⟩ : ∃p,kv[i]? = aa p:=⟨kv[i],by simp[lt]⟩;obtain⟨lt',b,ek,hb,_⟩:=at_ i k v hk;refine J7 st R lt' λh' st' sb=>?_;have I1:Inv X af σ H { s with heap:=h' }:=I.turned (t':=s.toks) (λb o hb e=>(sb.2 b hb).trans e) f0 f1 f3 f4 f5;obtain⟨o,e,c,d⟩:=id st';exact⟨_,rfl,q9 (s:={ s with heap:=h' }) e c d (by decide) ⟨.ref b,H,I1,ek,⟨rfl,b,k,v,hk,rfl,hb⟩,st',λb hb=>(hf b hb).1⟩⟩
 done:=by intro X hP hw hK hc i af s σ H E I hf st hg;subst hP hw hK;obtain⟨q,ge⟩:=hg;obtain⟨_,_,es',ep',d',R,hl,at_⟩:=yk I q;rw[hd]at d';cases d';obtain⟨f0,f1,f2,f3,f4,f5⟩:=hf it (cL.mpr rfl);exact Lr (I.ok.hd hc) st R (by omega) λh' eb=>⟨rfl,I.turned (t':=s.toks) (λb o hb e=>eb b o hb e) f0 f1 f3 f4 f5⟩
 self:=λ_ _ _ _ _ st h=>wpAny_pyIter_keyiter st h
def ph(tl:TE):TI:=λσ H R=>tl σ H λx H1=>∃a ob kv,x=.ref a/\H1 a=aa (.frz ob (.dT kv))/\R (wZ a ob kv) H1
theorem Mu{X:Cx}{tg l:aW}{tl:TE}(hl:PE X l tl):PI X tg l (ph tl):=by intro af s σ H R I h;refine a5 (hl af s σ H _ I h) λv s1 ⟨x,H1,I1,r1,a,ob,kv,e,hq,q⟩=>?_;subst e;cases r1;obtain⟨nd,_,es,ep,d,Rw,hn,_⟩:=yk I1 hq;refine Op nd Rw ⟨s1.heap.objs.size,[s1.heap.objs.size],_,_,H1,rfl,I1.kept (t':=s1.toks) λb o e=>dU _ e,OC a _ ob es ep kv d,⟨_,fw _ rfl,rfl,rfl⟩,λb hb=>?_,q⟩;cases cL.mp hb;exact I1.iE (bO _) (I1.hok.fresh (bO _))
end L2
namespace A
open PySem L2 PyProof.Rows
open Mi (D W Rs Fin aE)
variable[Tb:bY]{M:Nat->Bool}
theorem zA{H:Hp}:∀(k:List Key),P2 (Rep H) (k.map Mi.tL) (k.map kV)
 |[]=>.nil
 |.inl i::r=>.cons (pe.mpr rfl) (zA r)
 |.inr x::r=>.cons (me.mpr rfl) (zA r)
theorem Nq{H Hv H' Hv':Hp}(g:bC H Hv H' Hv'){a:ag}{kv:List (List Key×V)}{ak:List (List Mi.Ky×D)}(n:H a=ac)(q:H' a=aa (.dT kv))(nv:Hv' a=ac)(c:eM Hv' ak kv)(ob:Obj) :
 ∃kn,bC H Hv (upd H' a (.frz ob (.dT kv))) kn/\fH kn (.df ak) (.ref a):=by
 have ne:∀b u,H b=aa u->b≠a:=λb u e z=>by subst z;rw[n]at e;cases e
 have sm:cA Hv' (upd Hv' a (.frz ob (.dT kv))):=qH nv;refine⟨upd Hv' a (.frz ob (.dT kv)),⟨?_,g.vis.trans sm,⟨λb u e=>?_,λb xs e=>?_,λb o u e=>?_,g.vw.cd.put q trivial trivial,λb u e=>?_⟩,λb u e m=>?_⟩,a,ob,kv,rfl,bG,c.same sm⟩
 ·exact g.old.put n q
 ·by_cases hb:b=a
  ·subst hb;rw[bG]at e ⊢;exact e
  ·rw[aN hb]at e ⊢;exact g.vw.sub b u e
 ·by_cases hb:b=a
  ·subst hb;rw[bG]at e;cases e
  ·rw[aN hb]at e ⊢;exact g.vw.tup b xs e
 ·by_cases hb:b=a
  ·subst hb;rw[bG]at e ⊢;exact e
  ·rw[aN hb]at e ⊢;exact g.vw.frz b o u e
 ·by_cases hb:b=a
  ·subst hb;rw[bG]at e;cases e;trivial
  ·rw[aN hb]at e;exact g.vw.nv b u e
 ·rw[aN (ne b u e)];exact g.hid b u e m
theorem Ch{t:TE}{m:Mi.EW}(h:AW M qN t m):AW M qV (GG t) (Mi.qS m):=λe σ H Hv Q I q=>
 h e σ H Hv _ I ((aE.mp q).mono λw z v H' Hv' g k=>by
  obtain⟨a,o,rfl,n,q1,nv,c⟩:=k;cases w with
  | dt ak=>cases o with
   |dT kv=>
    refine⟨a,kv,rfl,q1,λob=>?_⟩;obtain⟨kn,g',r⟩:=Nq g n q1 nv c ob;exact z (.ref a) _ kn g' r
   |_=>exact c.elim
  |_=>exact z.elim)
theorem Mq(i:Nat)(hm:M i=false):gv M (ph (eB i)) (Mi.ph i):=λe σ H Hv R I h=>by
 obtain⟨w,he,h⟩:=oH (aE.mp h);obtain⟨v,hv,r⟩:=I.nob i w he hm;cases w with
 |df ak=>
  obtain⟨a,ob,kv,rfl,q,c⟩:=r;refine⟨.ref a,hv,a,ob,kv,rfl,I.vw.sub _ _ q,h (wZ a ob kv) H Hv (λH Hv=>Hv a=aa (.frz ob (.dT kv))/\eM Hv ak kv) (.refl I.vw) ⟨λi H Hv p v hi=>?_,λi H Hv x H' p v hi y=>?_,λH Hv p v=>?_⟩ ⟨q,c⟩ λH1 Hv1 H2 Hv2 z s v=>⟨s _ _ z.1,z.2.same s⟩⟩
  ·exact⟨v.sub _ _ p.1,by rw[<- P2.len p.2];simpa using hi⟩
  ·obtain⟨rfl,b,k,v',hk,rfl,hb⟩:=y;obtain⟨kd,hkd,e1,_⟩:=P2.Dz p.2 hk;refine⟨Hv,.tup (kd.1.map Mi.tL),.refl v,by rw[d8,hkd];rfl,jY.mpr ⟨b,_,rfl,v.tup _ _ hb,?_⟩⟩;have e1:kd.1=k:=e1;rw[e1];exact zA k
  ·exact⟨v.sub _ _ p.1,by rw[<- P2.len p.2];simp⟩
 |_=>exact h.elim
end A
namespace L2
end L2
namespace A
end A
namespace L2
end L2
namespace Rv
end Rv
namespace L2
end L2
namespace A
end A
namespace So
end So
namespace L2
end L2
namespace A
end A
namespace Mi
open PySem
end Mi
namespace L2
open PySem PySem.Spec PyProof.Rows
open PySem.Builtin PySem.Builtin.Str
end L2
namespace A
open PySem L2 PyProof.Rows So
open Mi (D W Rs Fin aE)
variable[Tb:bY]
end A
namespace Mi
open PySem
def LQ(ys:List Str):Str:=ys.foldl (· ++ ·) i7
end Mi
namespace L2
open PySem PySem.Spec PyProof.Rows
end L2
namespace A
open PySem L2 PyProof.Rows So
open Mi (D W Rs Fin aE)
variable[Tb:bY]
end A
namespace Mi
end Mi
namespace A
open PySem L2 PyProof.Rows
open Mi (D W Rs Fin aE)
variable[Tb:bY]
end A
namespace Mi
end Mi
namespace A
open PySem L2 PyProof.Rows
open Mi (D W Rs Fin aE)
variable[Tb:bY]{M:Nat->Bool}{κ:Kd}{tr:TA}{a b:Mi.E}
end A
namespace A
end A
namespace A
end A
namespace A
end A
namespace Mi
end Mi
namespace A
open PySem L2 PyProof.Rows
open Mi (D W Rs Fin aE Out)
end A
namespace A
end A
namespace L2
open PySem PySem.Spec PyProof.Rows A So
variable[Tb:bY]
def rS(P:bt)(w:a9)(K:aI)(mg:Str->Option ah)(base:aL)(A:bH)(N':List Str)(env:Env)(s:aw)(H:Hp)(outer:List Env):Cx:={ prog:=P,w:=w,K:=K,mg:=mg,base:=base,A:=A.deeper env,N:=N',s₀:=s,H₀:=H,env:=env,outer:=outer,stack:=env::outer,ex:=[],fn:=λ_=>false,calm:=true,pn:=[],xe:=λ_ _=>False }
def Kept(us:List (ag×Obj))(outer:List Env)(H:Hp)(h:aL):Prop:=∀p∈us,h.get? p.1=aa p.2/\H p.1=ac/\p.1∉frs outer
structure xI(x:Str)(ys:List Str)(gs:List V)(sc:dJ)(cl:List (Str×ag))(us:List (ag×Obj)):Prop where
 kind:sc.kind=.function
 co:sc.isCoroutine=false
 gen:sc.isGenerator=false
 lT:∀y∈sc.names,y.2≠.cell
 par:sc.names.lookup x=aa .local
 has:∀y,sc.names.lookup y=aa .free->∃c,cl.lookup y=aa c
 inj:∀y z c,cl.lookup y=aa c->cl.lookup z=aa c->y=z
 len:ys.length=gs.length
 cell:∀y c,cl.lookup y=aa c->∃o v,(c,o)∈us/\o.data=.cell v
 val:∀(i:Nat) y g,ys[i]? = aa y->gs[i]? = aa g->sc.names.lookup y=aa .free/\∃c o u,cl.lookup y=aa c/\(c,o)∈us/\o.data=.cell (aa u)/\RelV g u
section
variable{P:bt}{w:a9}{K:aI}{mg:Str->Option ah}{base:aL}{outer:List Env}{H:Hp}{s:aw}{A:bH}{k:Nat}{qual x:Str}{ps:nO}{body:aW}{sc:dJ}{cl:List (Str×ag)}{pm ctv:ah}{f c':ag}{ys:List Str}{gs:List V}{us:List (ag×Obj)}
theorem Lw{h1:aL}{tk:Nat}{v:V}{u:ah}(e0:kq P w K mg base A outer s H)(hd:A.handled=ac)(S:xI x ys gs sc cl us)(kp:Kept us outer H s.heap)(rv:RelV v u)
 (hns:h1.Ns s.heap.objs.size λy=>[(x,u)].reverse.lookup y) (hk:∀b o,s.heap.get? b=aa o->h1.get? b=aa o) :
 Inv (rS P w K mg base A (x::ys) (pi qual sc s f c' cl) s H outer) [] (aa v::gs.map aa) H { s with heap:=h1,toks:=tk }:=by
 have noA:∀b:ag,b∉([]:List ag):=λb z=>absurd z (by simp);refine⟨⟨e0.mod,S.kind,rfl,rfl,bO _,S.inj,λy hy=>?_,λy c z=>(nomatch z),λ_=>hd,Aj e0.frames,.inr ⟨rfl,rfl⟩,λb z=>absurd z (noA b),e0.bs,e0.bsz,λb _ _=>noA b,λb z=>absurd z (noA b),e0.fF,e0.frf⟩,
  rfl,e0.bare,Un.kept hk,⟨_,hns,λi y w h2 h3 h4=>?_⟩,λy c e=>?_,e0.hok.fresh (bO _),λy c e=>?_,λp hp=>absurd (show p∈([]:List (ag×Obj))from hp) (by simp),e0.hok.kept hk,?_⟩
 ·have hy:sc.names.lookup y=aa .cell\/sc.names.lookup y=aa .free:=hy;rcases hy with hy|hy
  ·exact absurd rfl (S.lT _ (lO hy))
  ·exact S.has y hy
 ·have h2:(x::ys)[i]? = aa y:=h2;cases i with
  |zero=>
   have e:x=y:=by simpa using h2
   subst e;have e2:v=w:=by simpa using h3
   subst e2;exact⟨u,rv,.inl ⟨S.par,by simp⟩⟩
  |succ i=>
   have hy:ys[i]? = aa y:=by simpa using h2
   have h3:(gs.map aa)[i]? = aa (aa w):=by simpa using h3
   rw[d8]at h3;obtain⟨g,hg,e⟩:=lP.mp h3;cases e;obtain⟨n1,c,o,u2,n2,n3,n4,n5⟩:=S.val i y w hy hg;exact⟨u2,n5,.inr ⟨.inr n1,c,n2,o,hk _ _ (kp _ n3).1,n4⟩⟩
 ·obtain⟨o,v2,n1,n2⟩:=S.cell y c e;exact⟨v2,o,hk _ _ (kp _ n1).1,n2⟩
 ·obtain⟨o,v2,n1,n2⟩:=S.cell y c e;exact(kp _ n1).2.1
 ·show(aa v::gs.map aa).length=(x::ys).length;simp[S.len]
theorem PH{u:ah}{v:V}{tb:TE}{Q:VK}(e0:kq P w K mg base A outer s H)(hr:cE (k+1) A)(S:xI x ys gs sc cl us)(kp:Kept us outer H s.heap)
 (ho:(f,pQ "<lambda>" qual ps body sc cl pm c' ctv)∈us) (hcd:s.heap.CodeRec (.ref c') qual)
 (hbind:bindArgs (vL "<lambda>" qual ps body sc cl pm (.ref c') ctv) ⟨[u],[]⟩=pure [(x,u)]) (rv:RelV v u)
 (hb:∀env:Env,cE k (A.deeper env)->env=pi qual sc s f c' cl->PE (rS P w K mg base A (x::ys) env s H outer) body tb) (h:tb (aa v::gs.map aa) H Q) :
 wpAny (model P w) A (call (.ref f) [u]) (CE outer P w H s Q) (λ_ _=>False) s:=by
 refine sR (PySem.W.kla_callFunE hr.depth (kp _ ho).1 rfl S.co S.gen rfl hcd ?_);rw[hbind];have lim:s.heap.NoLimit:=e0.mod.nolimit.keeps λb o e=>(e0.bs b o e).1;refine bW (wpAny_newFunctionEnv S.lT (λy hy=>by
  have e:y=(x,u):=by simpa using hy
  rw[e];exact S.par) (λh1 hns hsb=>⟨lim.fresh _ hsb,?_⟩) S.kind)
 show codeAny _ _ (.expr body (pi qual sc s f c' cl)) _ _;have hk:∀b o,s.heap.get? b=aa o->h1.get? b=aa o:=λb o e=>hsb.extBut b o (fY (bX e)) (dU _ e);have J:=Lw (tk:=s.toks+[(x,u)].length) (qual:=qual) (f:=f) (c':=c') e0 hr.hd S kp rv hns hk;refine PySem.W.kla_codeExpr (g7 (hb _ (hr.deeper _) rfl [] _ (aa v::gs.map aa) H Q J h) (λk' s' hq=>?_) λ_ _ z=>z.elim);obtain⟨v2,H2,I2,r2,q⟩:=hq;exact⟨v2,H2,I2.os,I2.bare,I2.base,I2.hok,r2,q⟩
end
structure vk(P:bt)(w:a9)(K:aI)(mg:Str->Option ah)(base:aL)(k:Nat)(f:ag)(us:List (ag×Obj))(c':ag)(q:Str)(sp:V->Hp->VK->Prop):Prop where
 fn:∃oc od fd sl,(f,(⟨oc,od,.func fd,sl⟩ : Obj))∈us
 run:∀(A:bH) (outer:List Env) (s:aw) (H:Hp) (u:ah) (v:V) (Q:VK),cE k A->kq P w K mg base A outer s H->Kept us outer H s.heap->H c'=aa (.ext (gz c' q))->RelV v u->sp v H Q ->
  wpAny (model P w) A (call (.ref f) [u]) (CE outer P w H s Q) (λ_ _=>False) s
section
variable{X:Cx}{x:Str}{e:aW}{p pos:Pos}{k i:Nat}{f c':ag}{q:Str}{us:List (ag×Obj)}{te:TE}{sp:V->Hp->VK->Prop}
theorem Kept.inv{af:List (ag×Obj)}{σ:St}{H:Hp}{s:aw}(I:Inv X af σ H s)(hx:X.ex=[])(kp:Kept us X.outer X.H₀ X.s₀.heap):Kept us X.stack H s.heap:=λp hp=>by
 obtain⟨h1,h2,h3⟩:=kp p hp;have nx:p.1∉X.ex:=by rw[hx];simp
 refine⟨I.base.keep _ _ h1 h2 h3 nx,I.base.free _ _ h1 h2 nx,λz=>?_⟩;rcases cS.mp (I.rB p.1 z)with y|y
 ·have:=bX h1;have:=I.ok.above;rw[y]at *;exact absurd (fK ‹_› this) (ki _)
 ·exact h3 y
def Db(i:Nat)(f c':ag)(q:Str)(te:TE)(sp:V->Hp->VK->Prop):TE:=λσ H Q=>σ[i]? = aa (aa (.ref f))/\te σ H λv H1=>H1 c'=aa (.ext (gz c' q))/\sp v H1 Q
theorem K1(L:vk X.prog X.w X.K X.mg X.base k f us c' q sp)(kp:Kept us X.outer X.H₀ X.s₀.heap)(hx:X.ex=[])(hr:cE k X.A)(hv:PE X (.Name x p) (eB i))(he:PE X e te)
 (hs:starEach [e] X.env=(false,eval e X.env)::starEach [] X.env:=by rfl) (hpl:(backTo pos (starEach [] X.env)).any (·.1)=false:=by rfl) :
 PE X (.Call (.Name x p) [e] [] pos) (Db i f c' q te sp):=by
 intro af s σ H Q I ⟨h1,h2⟩;have fnAt:∀{af:List (ag×Obj)} {σ:St} {H:Hp} {s:aw},Inv X af σ H s->PySem.W.FnAt f s.heap:=λI=>by
  obtain⟨oc,od,fd,sl,m⟩:=L.fn;exact⟨oc,od,fd,sl,((kp.inv I hx) _ m).1⟩
 refine nM (a5 (hv af s σ H (λv H1=>v=.ref f/\te σ H1 λv H1=>H1 c'=aa (.ext (gz c' q))/\sp v H1 Q) I ⟨_,h1,rfl,h2⟩) λu s1 ⟨v,H1,I1,r,e1,q1⟩=>?_);subst e1;cases r;refine PySem.W.callWith_F (fnAt I1) ?_ hs hpl;rw[hs];show wpAny _ _ (spliced ((false,eval e X.env)::backTo pos (starEach [] X.env))) _ _ s1;refine tq (a5 (he af s1 σ H1 _ I1 q1) λu2 s2 ⟨v2,H2,I2,r2,q2,q3⟩=>wC ⟨fnAt I2,?_⟩);refine g7 (L.run X.A X.stack s2 H2 u2 v2 Q hr I2.env0 (kp.inv I2 hx) q2 r2 q3) (λk' s' hq=>I2.after hq) λ_ _ z=>z.elim
end
open Mi (Kp)
abbrev _root_.Mi.Kp.vs(κ:Kp):List V:=κ.ga.map V.ref
structure sB(P:bt)(w:a9)(K:aI)(mg:Str->Option ah)(base:aL)(k:Nat)(f:ag)(fd:bD)(ps:List Str)(kl:Nat)(spl:List V->V->Hp->VK->Prop)(sp:Kp->Sp):Prop where
 len:∀κ vs H Q E,sp κ vs H Q E->vs.length=ps.length
 run:∀(A:bH) (outer:List Env) (s:aw) (H:Hp) (args:Args) (us:List ah) (vs:List V) (Q:VK) (κ:Kp) (us':List (ag×Obj)),cE k A->kq P w K mg base A outer s H->kT s fd args (ps.zip us)->Vals vs us ->
  vk P w K mg base kl κ.a us' κ.c κ.q (spl κ.vs)->Kept us' outer H s.heap->sp κ vs H Q E0->codeAny (model P w) A (.call (.ref f) args) (CR aR outer P w H s Q E0) s
theorem L8{P:bt}{w:a9}{K:aI}{mg:Str->Option ah}{base:aL}{k kl:Nat}{f:ag}{x qual:Str}{st:bq}{fd:bD}{N ps:List Str}{spl:List V->V->Hp->VK->Prop}{sp:Kp->Sp}(F:bP K x qual st f fd)(S:bZ N ps (bA st))
 (len:∀κ vs H Q E,sp κ vs H Q E->vs.length=ps.length)
 (hbody:∀(cdv:ah) (A:bH) (outer:List Env) (s:aw) (H:Hp) (vs:List V) (Q:VK) (κ:Kp) (us':List (ag×Obj)),cE k (A.deeper (envOfC qual (bA st) s.heap.objs.size f cdv)) ->
  vk P w K mg base kl κ.a us' κ.c κ.q (spl κ.vs)->Kept us' outer H s.heap->sp κ vs H Q E0 ->
  ∃t,eZ (dQ aR P w K mg base N qual (bA st) f cdv A outer s H E0).kB (gu st) t/\t { nx:=λ_ H'=>Q .non H',rt:=Q } (start N vs) H) :
 sB P w K mg base (k+1) f fd ps kl spl sp:=by
 obtain⟨oc,od,kV,doc,pm,an,cdv,ct,osl,rfl,lk,hcd⟩:=F.ex;refine⟨len,λA outer s H args us vs Q κ us' hr e0 hb r L kp h=>?_⟩;obtain⟨t,ht,hq⟩:=hbody cdv A outer s H vs Q κ us' (hr.deeper _) L kp h;have old:∀b o,base.get? b=aa o->s.heap.get? b=aa o:=λb o e=>(e0.bs b o e).1;have kx:K.In s.heap:=e0.mod.kin.keeps old;refine zU hr.depth (kx _ _ lk) rfl S.co S.gen rfl (zD kx hcd) (hb _ _ _ _ (zT S.kind (λy hy=>?_) λenv he s1 x1=>?_))
 ·rcases S.par y.1 (sN (a:=y.1) (b:=y.2) hy).1 with z|z
  ·exact .inl z
  ·exact .inr ⟨z,vH _ _ _ (.inl z)⟩
 ·subst he;refine⟨(e0.mod.nolimit.keeps old).keeps x1.toInCall.keep,codeAny_func ?_⟩;refine g7 (ht.kB [] s1 (start N vs) H _ (yG S hr.hd e0 (len _ _ _ _ _ h) r x1) hq) (λfl s' hs=>?_) λe s' hs=>hs;cases fl with
  |ret u=>obtain⟨v,σ',H',J,rv,q⟩:=hs;exact⟨v,H',J.os,J.bare,J.base,J.hok,rv,q⟩
  |next=>obtain⟨σ',H',J,q⟩:=hs;exact⟨.non,H',J.os,J.bare,J.base,J.hok,rfl,q⟩
  |brk=>obtain⟨_,_,_,q⟩:=hs;exact eR q
  |cont=>obtain⟨_,_,_,q⟩:=hs;exact eR q
structure oA(X:Cx)(x:Str)(ρ:List Nat)(ys:List Str)(sc:dJ)(cl:List (Str×ag)):Prop where
 kind:sc.kind=.function
 co:sc.isCoroutine=false
 gen:sc.isGenerator=false
 lT:∀y∈sc.names,y.2≠.cell
 par:sc.names.lookup x=aa .local
 clo:∀p∈cl,X.env.cells.lookup p.1=aa p.2
 has:∀y,sc.names.lookup y=aa .free->∃c,cl.lookup y=aa c
 len:ys.length = ρ.length
 ix:∀(i j:Nat) y,ρ[i]? = aa j->ys[i]? = aa y->X.N[j]? = aa y/\sc.names.lookup y=aa .free/\(X.env.kindOf y=aa .cell\/X.env.kindOf y=aa .free)
section
variable{X:Cx}{fx lx qual:Str}{e:aW}{ps:nO}{body:aW}{sc:dJ}{cl:List (Str×ag)}{c T fa:ag}{p pos hV:Pos}{k kl:Nat}{ρ:List Nat}{ys pps:List Str}{te tb:TE}{fd:bD}{spl:List V->V->Hp->VK->Prop}{sp:Kp->Sp}
def xB(T:ag)(q:Str)(ρ:List Nat)(te:TE)(sp:Kp->Sp):TE:=λσ H Q=>te σ H λv H1=>∃(tps:Array ah) (ga:List ag),H1 T=aa (.tbl q tps)/\gJ H1/\(∀(i:Nat) (j:Nat),ρ[i]? = aa j->∃a:ag,ga[i]? = aa a/\σ[j]? = aa (aa (V.ref a)))/\ga.length = ρ.length /\
 ∀H2 f c',Tab T q H1 H2->H2 c'=aa (.ext (gz c' q))->H2 f=ac->sp ⟨f,c',q,ga⟩ [v,.ref f] H2 Q E0
theorem Nl{af:List (ag×Obj)}{σ:St}{H:Hp}{s:aw}{f c':ag}{pm ctv:ah}{ga:List ag}(I:Inv X af σ H s)(hfn:∀x,X.fn x=true)(S:oA X lx ρ ys sc cl)(hf:s.heap.get? f=aa (pQ "<lambda>" qual ps body sc cl pm c' ctv))(fp:gN X af H f)
 (hga:∀(i:Nat) (j:Nat),ρ[i]? = aa j->∃a:ag,ga[i]? = aa a/\σ[j]? = aa (aa (V.ref a))) (hgl:ga.length = ρ.length)
 (hbind:∀(pm:ah) (c':ag) (ctv u:ah),bindArgs (vL "<lambda>" qual ps body sc cl pm (.ref c') ctv) ⟨[u],[]⟩=pure [(lx,u)])
 (hb:∀(A:bH) (f c':ag) (s:aw) (H:Hp) (env:Env) (outer:List Env),cE kl (A.deeper env)->env=pi qual sc s f c' cl->PE (rS X.prog X.w X.K X.mg X.base A (lx::ys) env s H outer) body tb)
 (hsp:∀gs v H Q,spl gs v H Q->tb (aa v::gs.map aa) H Q) :
 ∃us,vk X.prog X.w X.K X.mg X.base (kl+1) f us c' qual (spl (ga.map V.ref))/\Kept us X.stack H s.heap:=by
 have HM:∀b,b≠X.env.locals->b∉X.fs->b∉frs X.stack:=λb h1 h2 z=>by
  rcases cS.mp (I.rB b z)with y|y
  ·exact h1 y
  ·exact h2 y
 have cfs:∀y c,X.env.cells.lookup y=aa c->c∉X.fs:=λy c e z=>by
  obtain⟨_,o,ho,_⟩:=I.ok.fF.mem z;exact absurd (fK (bX ho) (I.ok.cab y c (hfn y) e)) (ki _)
 let us:List (ag×Obj):=(f,pQ "<lambda>" qual ps body sc cl pm c' ctv)::cl.filterMap λyc=>(s.heap.get? yc.2).map λo=>(yc.2,o);have mem:∀y c o,cl.lookup y=aa c->s.heap.get? c=aa o->(c,o)∈us:=λy c o h1 h2=>by
  refine eP _ (vR.mpr ⟨(y,c),lO h1,?_⟩);simp[h2]
 have kp:Kept us X.stack H s.heap:=λp hp=>by
  rcases cS.mp hp with rfl|hp
  ·exact⟨hf,fp.1,HM f fp.2.1 fp.2.2.1⟩
  ·obtain⟨⟨y,c2⟩,h1,h2⟩:=vR.mp hp;obtain⟨o,h3,rfl⟩:=lP.mp h2;have hc:X.env.cells.lookup y=aa c2:=S.clo _ h1;exact⟨h3,I.gG y c2 hc,HM c2 (I.kH y c2 hc) (cfs y c2 hc)⟩
 have clo:∀y c,cl.lookup y=aa c->X.env.cells.lookup y=aa c:=λy c e=>S.clo (y,c) (lO e);have SC:xI lx ys (ga.map V.ref) sc cl us:=by
  refine⟨S.kind,S.co,S.gen,S.lT,S.par,S.has,λy z c h1 h2=>I.ok.inj y z c (clo y c h1) (clo z c h2),by rw[S.len,bd,hgl],λy c e=>?_,λi y g h1 h2=>?_⟩
  ·obtain⟨v,o,ho,hd⟩:=I.cell y c (clo y c e);exact⟨o,v,mem y c o e ho,hd⟩
  ·have hi:i < ρ.length:=by rw[<- S.len];exact(dG.mp h1).1
   have hj:ρ[i]? = aa ρ[i]:=by simp[hi]
   obtain⟨n1,n2,n3⟩:=S.ix i _ y hj h1;obtain⟨a,h3,h4⟩:=hga i _ hj;rw[d8,h3]at h2;cases h2;obtain⟨m,hm,hl⟩:=I.loc;have vis:rR X.env.scope y:=by
    rcases n3 with z|z
    ·exact .inr (.inl z)
    ·exact .inr (.inr z)
   obtain⟨u2,r2,lk⟩:=hl _ y _ n1 h4 vis;obtain⟨c2,hc2⟩:=S.has y n2;refine⟨n2,?_⟩;rcases lk with ⟨z,_⟩|⟨_,c3,e3,o,ho,hd⟩
   ·rcases n3 with y1|y1
    ·rw[z]at y1;cases y1
    ·rw[z]at y1;cases y1
   ·rw[clo y c2 hc2]at e3;cases e3;exact⟨c2,o,u2,hc2,mem y c2 o hc2 ho,hd,r2⟩
 refine⟨us,⟨⟨_,_,_,_,dS⟩,λA outer s3 H3 u v Q hr e0 kp3 hc3 rv h=>?_⟩,kp⟩;have hrec:s3.heap.CodeRec (.ref c') qual:=by obtain⟨⟨o,vs,t,e1,e2,e3⟩,_⟩:=e0.hok c' _ hc3;exact⟨c',o,vs,t,rfl,e1,e2,e3⟩
 exact PH e0 hr SC kp3 dS hrec (hbind pm c' ctv u) rv (λenv h1 h2=>hb A f c' s3 H3 env outer h1 h2) (hsp _ _ _ _ h)
theorem OD(F:sB X.prog X.w X.K X.mg X.base k fa fd pps (kl+1) spl sp)(hr:cE k X.A)(hg:Gl X fx)(hm:X.mg fx=aa (.ref fa))(hkp:j8 X.K (.ref fa)=true)(hbd:Binds X.K fd pps [])(he:PE X e te)
 (hc:X.env.code=.ref c) (C:i5 X.base c T) (hB:BM X.mg X.base) (hdef:defaultsOf ps X.env=([],[])) (hq:X.env.qual ++ "<lambda>" = qual) (hcl:closureFor sc X.env=pure cl) (hfn:∀x,X.fn x=true) (S:oA X lx ρ ys sc cl)
 (hbind:∀(pm:ah) (c':ag) (ctv u:ah),bindArgs (vL "<lambda>" qual ps body sc cl pm (.ref c') ctv) ⟨[u],[]⟩=pure [(lx,u)])
 (hb:∀(A:bH) (f c':ag) (s:aw) (H:Hp) (env:Env) (outer:List Env),cE kl (A.deeper env)->env=pi qual sc s f c' cl->PE (rS X.prog X.w X.K X.mg X.base A (lx::ys) env s H outer) body tb)
 (hsp:∀gs v H Q,spl gs v H Q->tb (aa v::gs.map aa) H Q)
 (hdb:(fx==("__debug__" : Str))=false:=by decide) (hs1:starEach [e,.Lambda ps body sc hV] X.env=(false,eval e X.env)::starEach [.Lambda ps body sc hV] X.env:=by rfl)
 (hs2:starEach [.Lambda ps body sc hV] X.env=(false,eval (.Lambda ps body sc hV) X.env)::starEach [] X.env:=by rfl) (hpl:(backTo pos (starEach [.Lambda ps body sc hV] X.env)).any (·.1)=false:=by rfl) :
 PE X (.Call (.Name fx p) [e,.Lambda ps body sc hV] [] pos) (xB T qual ρ te sp):=by
 intro af s σ H Q I h;refine nM (m7 I hg hm ?_ hdb);refine vI (h₀:=X.base) I.ok.mod.kin hkp ?_ hs1 hpl;rw[hs1];show wpAny _ _ (spliced ((false,eval e X.env)::backTo pos (starEach [.Lambda ps body sc hV] X.env))) _ _ s;refine tq (a5 (he af s σ H _ I h) λu s1 ⟨v,H1,I1,r1,q1⟩=>?_);obtain⟨tps,ga,hT,ck,hga,hgl,q2⟩:=q1;rw[hs2];show wpAny _ _ (spliced ((false,eval (.Lambda ps body sc hV) X.env)::backTo pos (starEach [] X.env))) _ _ s1;refine tq (Lm I1 hc C ck hT hB hdef hq hcl λf c' ctv pm s2 H2 tab hc' hf I2 fpf=>wC ⟨I2.dX,?_⟩);obtain⟨us,L,kp⟩:=Nl (spl:=spl) (qual:=qual) I2 hfn S hf fpf hga hgl hbind hb hsp;have q3:=q2 H2 f c' tab hc' fpf.1;have r2:Vals [v,.ref f] ([u,.ref f]++[]):=.cons r1 (.cons rfl .nil);have hl:([u,.ref f]++[]:List ah).length=pps.length:=by rw[<- r2.length];exact F.len _ _ _ _ _ q3
 show wpAny _ _ (call (.ref fa) [u,.ref f]) _ _ s2;refine sR (qa (F.run X.A X.stack s2 H2 ⟨[u,.ref f],[]⟩ _ _ Q ⟨f,c',qual,ga⟩ us hr I2.env0 (hbd s2 [u,.ref f] I2.dX hl) r2 L kp q3) λr s' hq=>?_);cases r with
 |error e=>exact hq.elim
 |ok fl=>
  cases fl with
  |ret u=>exact I2.after hq
  |next=>exact eR hq
  |brk=>exact eR hq
  |cont=>exact eR hq
end
end L2
namespace Mi
def nB(κ:Kp)(i:Nat)(f:Fn)(a:E):E:=λe=>match e[i]? with
 |some (aa (.fn κ' aJ))=>if κ' = κ then(a e).bind λx=>(f (.d x::aJ.map W.d)).bind oX else .no
 |_=>.no
def isRef:D->Bool
 |.lst _=>true
 |.tup _=>true
 |_=>false
def vD:List Nat->Env->Rs (List D)
 |[],_=>.ok []
 | j::r,e=>match e[j]? with
  |some (aa (.d d))=>if isRef d=true then(vD r e).bind λds=>.ok (d::ds)else .no
  |_=>.no
def Ep:W->Rs W
 |.dt ak=>if jy (ak.map (·.2))=true then .ok (.dt ak)else .no
 |_=>.no
def yj(F:D->List D->Rs W)(ρ:List Nat)(a:E):EW:=λe=>(a e).bind λx=>(vD ρ e).bind λaJ=>(F x aJ).bind Ep
def F4(a:E):Fn:=λws=>(a (ws.map aa)).bind λd=>.ok (.d d)
def sr(a:E):E:=λe=>(eK a e).bind λc=>.ok (.bl (!c))
end Mi
namespace A
open PySem L2 PyProof.Rows So
open Mi (D W Rs Fin aE Out Kp)
variable[Tb:bY]
section
variable{M:Nat->Bool}{te:TE}{a:Mi.E}{fn:Mi.Fn}{κ:Kp}{i:Nat}{ρ:List Nat}{T:ag}{q:Str}{F:Kp->Mi.Fn}{F0:D->List D->Rs W}
def tZ(fn:Mi.Fn)(gs:List V)(v:V)(H:Hp)(Q:VK):Prop:=aP fn (v::gs) H Q E0
theorem B9{H:Hp}:∀{aJ:List D} {ga:List ag},P2 (λd a=>Rep H d (.ref a)) aJ ga->P2 (fH H) (aJ.map W.d) (ga.map V.ref)
 |_,_,.nil=>.nil
 |_,_,.cons h t=>.cons h (B9 t)
theorem JQ(hM:M i=false)(ha:AE M qV te a):AE M qV (Db i κ.a κ.c κ.q te (tZ fn κ.vs)) (Mi.nB κ i fn a):=λe σ H Hv Q I h=>by
 unfold Mi.nB at h;cases he:e[i]? with
 |none=>rw[he]at h;exact h.elim
 |some o=>
  cases o with
  |none=>rw[he]at h;exact h.elim
  |some w=>
   cases w with
   |fn κ' aJ=>
    rw[he]at h;by_cases hk:κ' = κ
    ·subst hk;simp only[jK]at h;obtain⟨v,q,rfl,hc,rc⟩:=I.nob i _ he hM;refine⟨q,ha e σ H Hv _ I ((aE.mp h).mono λx hx v H1 Hv1 g1 rx=>⟨g1.vw.sub _ _ (g1.vis _ _ hc),Hv1,_,g1.vw,.cons rx (B9 (rc.imp λ_ _ z=>j1 g1.vis z)),(aE.mp hx).mono λw hw v2 H2 Hv2 g2 k=>?_⟩)⟩;cases w with
     |d y=>exact hw v2 H2 Hv2 (g1.trans g2) (KM.mono (κ:=qV) g1.old k)
     |_=>exact hw.elim
    ·simp only[hk,iT]at h;exact h.elim
   |_=>rw[he]at h;exact h.elim
theorem Ct{e:Mi.Env}{σ:L2.St}{H Hv:Hp}(I:R0 M e σ H Hv):∀{ρ:List Nat} (_:∀j∈ρ,M j=false) {Q:List D->Prop},Fin (Mi.vD ρ e) Q->∃aJ ga,P2 (λd a=>Rep Hv d (V.ref a)) aJ ga/\(∀(i j:Nat),ρ[i]? = aa j->∃a:ag,ga[i]? = aa a/\σ[j]? = aa (aa (V.ref a)))/\ga.length = ρ.length/\Q aJ
 |[],_,Q,h=>⟨[],[],.nil,λi j z=>by simp at z,rfl,h⟩
 |j::r,hM,Q,h=>by
  unfold Mi.vD at h;cases he:e[j]? with
  |none=>rw[he]at h;exact h.elim
  |some o=>
   cases o with
   |none=>rw[he]at h;exact h.elim
   |some w=>
    cases w with
    |d d=>
     rw[he]at h;by_cases hd:Mi.isRef d=true
     ·simp only[hd,jK]at h;obtain⟨aJ,ga,h1,h2,h3,h4⟩:=Ct I (λk hk=>hM k (eP _ hk)) (aE.mp h);obtain⟨v,hv,rv⟩:=I.nob j _ he (hM j dS);have rv:Rep Hv d v:=rv;obtain⟨b,rfl⟩ : ∃b,v=V.ref b:=by
       cases d with
       |lst ds=>obtain⟨b,_,e,_⟩:=mf.mp rv;exact⟨b,e⟩
       |tup ds=>obtain⟨b,_,e,_⟩:=jY.mp rv;exact⟨b,e⟩
       |_=>cases hd
      refine⟨d::aJ,b::ga,.cons rv h1,λi k hk=>?_,by simp[h3],h4⟩;cases i with
      |zero=>
       have:j=k:=by simpa using hk
       subst this;exact⟨b,rfl,hv⟩
      |succ i=>exact h2 i k (by simpa using hk)
     ·simp only[hd,iT]at h;exact h.elim
    |_=>rw[he]at h;exact h.elim
theorem Ll{H Hv H' Hv':Hp}{b:ag}{kv:List (List Key×V)}(v:Vw H Hv)(g:bC H Hv H' Hv')(hn:H b=ac)(ho:H' b=aa (.dT kv)):bC H Hv H' (λc=>if c=b then ac else Hv' c):=by
 have ne:∀{c o},Hv c=aa o->c≠b:=λ{c o} e z=>by subst z;have:=v.sub _ _ e;rw[hn]at this;cases this
 have get:∀{c o},(if c=b then ac else Hv' c)=aa o->Hv' c=aa o:=λ{c o} e=>by
  split at e
  ·cases e
  ·exact e
 refine⟨g.old,λc o e=>?_,⟨λc o e=>g.vw.sub c o (get e),λc xs e=>?_,λc q u e=>?_,g.vw.cd,λc o e=>g.vw.nv c o (get e)⟩,λc o e n=>?_⟩
 ·show(if c=b then ac else Hv' c)=aa o;rw[be (ne e)];exact g.vis c o e
 ·show(if c=b then ac else Hv' c)=_;rw[be (λz=>by subst z;rw[ho]at e;cases e)];exact g.vw.tup c xs e
 ·show(if c=b then ac else Hv' c)=_;rw[be (λz=>by subst z;rw[ho]at e;cases e)];exact g.vw.frz c q u e
 ·show(if c=b then ac else Hv' c)=ac;split
  ·rfl
  ·exact g.hid c o e n
theorem B3{H H':Hp}(t:∀a xs,H a=aa (.tup xs)->H' a=aa (.tup xs)):∀{ak:List (List Key×D)} {kv:List (List Key×V)},Mi.jy (ak.map (·.2))=true->eM H ak kv->eM H' ak kv
 |_,_,_,.nil=>.nil
 |p::r,_,hi,.cons h k=>by
  rw[dg,Mi.jy,mD]at hi;exact .cons ⟨h.1,D8 t hi.1 h.2⟩ (B3 t hi.2 k)
theorem Lz(hM:∀j∈ρ,M j=false)(hTb:(T,q)∈Tb.l)(Qd:∀(κ:Kp) (x:D) (aJ:List D),F κ [.d x,.fn κ aJ]=F0 x aJ)(ha:AE M qP te a):AW M qN (xB T q ρ te λκ=>cD (F κ)) (Mi.yj F0 ρ a):=λe σ H Hv Q I h=>
 ha e σ H Hv _ I ((aE.mp h).mono λx hx v H1 Hv1 g1 rx=>by
  have I1:=I.grow g1;obtain⟨aJ,ga,rc,hga,hgl,hq⟩:=Ct I1 hM (aE.mp hx);obtain⟨tps,hT⟩:=g1.vw.cd.has (T,q) hTb;refine⟨tps,ga,hT,g1.vw.cd,hga,hgl,λH2 f c' tab hc' hf=>?_⟩;have g2:=LZ g1.vw tab;have rx2:qP H H2 Hv1 (.d x) v:=KG.go g2 rx;have full:cA Hv1 (iH H2):=λb o z=>j0 (g2.vw.sub b o z) (g2.vw.nv b o z);refine⟨iH H2,[.d x,.fn ⟨f,c',q,ga⟩ aJ],.all g2.vw.cd,.cons (RB.Lg g2.vw rx2) (.cons ⟨rfl,j0 hc' trivial,rc.imp λ_ _ z=>j1 full z⟩ .nil),?_⟩;show Fin (F ⟨f,c',q,ga⟩ [.d x,.fn ⟨f,c',q,ga⟩ aJ]) _;rw[Qd];refine(aE.mp hq).mono λw hd v3 H3 Hv3 g3 k=>?_;cases w with
  |dt ak=>
   have hd:Fin (if Mi.jy (ak.map (·.2))=true then Rs.ok (W.dt ak)else Rs.no) _:=hd;by_cases hi:Mi.jy (ak.map (·.2))=true
   ·rw[a8 hi]at hd;obtain⟨b,o,rfl,n,q3,nv,c⟩:=k;cases o with
    |dT kv=>
     have g4:=Ll g2.vw (PU g2.vw g3.old g3.vw.cd) n q3;have c:eM Hv3 ak kv:=c;refine hd (.ref b) H3 _ (g1.trans (g2.trans g4)) ⟨b,.dT kv,rfl,g1.old.free (g2.old.free n),q3,a8 rfl,?_⟩;exact B3 g4.vw.tup hi (c.same g3.vw.sub)
    |_=>exact c.elim
   ·rw[be hi]at hd;exact hd.elim
  |_=>exact hd.elim)
end
theorem Cu{X:Cx}{a:aW}{ta:TE}{pos:Pos}(ha:PE X a ta):PE X (.UnaryOp .Not a pos) (λσ H Q=>ta σ H λx H'=>∃k,qR X.K x H' k/\Q (.bl (!k)) H'):=by intro af s σ H Q I h;refine UnaryOp_ (a5 (ha af s σ H _ I h) λv s1 ⟨x,H1,I1,r1,q1⟩=>?_);exact not_of (a5 (D5 af s1 σ H1 x v (λk H'=>Q (.bl (!k)) H') I1 r1 q1) λc s2 ⟨H2,I2,q2⟩=>⟨.bl (!c),H2,I2,rfl,q2⟩)
theorem BF{K:aI}{M:Nat->Bool}{ta:TE}{a:Mi.E}(ha:AE M qP ta a):AE M qV (λσ H Q=>ta σ H λx H'=>∃k,qR K x H' k/\Q (.bl (!k)) H') (Mi.sr a):=λe σ H Hv Q I h=>
 mX ha e σ H Hv (λk H'=>Q (.bl (!k)) H') I ((aE.mp h).mono λk hk H1 Hv1 g1=>hk _ H1 Hv1 g1 fv)
end A
namespace L2
open PySem PySem.Spec PyProof.Rows A So
theorem oA.of{X:Cx}{x:Str}{ρ:List Nat}{ys:List Str}{sc:dJ}{cl:List (Str×ag)}(kind:sc.kind=.function)(co:sc.isCoroutine=false)(gen:sc.isGenerator=false)(par:sc.names.lookup x=aa .local)(lT:∀y∈sc.names,y.2≠.cell)
 (clo:∀p∈cl,X.env.cells.lookup p.1=aa p.2) (has:sc.names.all (λp=>!(decide (p.2=.free))||(cl.map (·.1)).contains p.1)=true) (len:ys.length = ρ.length)
 (ix:(cI ρ.length).all (λi=>match ρ[i]?,ys[i]? with
  |some j,aa y=>decide (X.N[j]? = aa y)&&(decide (sc.names.lookup y=aa .free)&&decide (X.env.kindOf y=aa .cell))
  |_,_=>false)=true):oA X x ρ ys sc cl:=by
 refine⟨kind,co,gen,lT,par,clo,λy hy=>?_,len,λi j y h1 h2=>?_⟩
 ·have:=sM.mp has _ (lO hy);simp only[decide_true,Ad,Ac,List.contains_iff_mem]at this;obtain⟨⟨z,c⟩,hm,e⟩:=db.mp this;have e:z=y:=e;subst e;cases q:cl.lookup z with
  |some c2=>exact⟨c2,rfl⟩
  |none=>
   have key:∀l:List (Str×ag),(z,c)∈l->l.lookup z≠ac:=λl=>by
    induction l with
    |nil=>intro h;cases h
    |cons p r ih=>
     obtain⟨u,v⟩:=p;intro h;rw[vX];split
     ·exactλz=>by cases z
     ·rename_i hb;rcases cS.mp h with w|w
      ·cases w;rw[rQ]at hb;cases hb
      ·exact ih w
   exact absurd q (key cl hm)
 ·have hi:i < ρ.length:=(dG.mp h1).1;have:=sM.mp ix i (gF.mpr hi);rw[h1,h2]at this;simp only[mD,qL]at this;exact⟨this.1,this.2.1,.inl this.2.2⟩
theorem Jb{cs:List (Str×ag)}{y z:Str}{c d:ag}(h1:cs.lookup y=aa c)(h2:cs.lookup z=aa d):∀p∈[(y,c),(z,d)],cs.lookup p.1=aa p.2:=λp hp=>by
 rcases cS.mp hp with rfl|hp
 ·exact h1
 ·rw[cL.mp hp];exact h2
end L2
namespace A
open PySem L2 PyProof.Rows So
open Mi (D W Rs Fin aE Out Kp)
variable[Tb:bY]
theorem MC{tb:TE}{a:Mi.E}(ha:AE (λ_=>false) qV tb a):∀(gs:List V) (v:V) (H:Hp) (Q:VK),tZ (Mi.F4 a) gs v H Q->tb (aa v::gs.map aa) H Q:=λgs v H Q ⟨Hv,ws,vw,p,h⟩=>by
 have get:∀(i:Nat) (w:W),(ws.map aa)[i]? = aa (aa w)->ws[i]? = aa w:=λi w e=>by
  rw[d8]at e;obtain⟨z,e1,e2⟩:=lP.mp e;cases e2;exact e1
 have:=ha (ws.map aa) ((v::gs).map aa) H Hv Q ⟨vw,by rw[bd,bd,p.len],λi w e _=>?_,λi w e z=>by cases z⟩ ((aE.mp h).mono λd z v H' Hv' g k=>z v H' Hv' g k)
 ·exact this
 ·obtain⟨u,h1,h2⟩:=p.getL (get i w e);exact⟨u,by rw[d8,h1];rfl,h2⟩
end A
namespace L2
open PySem PySem.Spec PyProof.Rows A So
variable[Tb:bY]
structure yT(P:bt)(w:a9)(K:aI)(mg:Str->Option ah)(base:aL)(k:Nat)(x:Str)(ps:List Str)(kl:Nat)(spl:List V->V->Hp->VK->Prop)(sp:Mi.Kp->Sp):Prop where
 ex:∃(f:ag) (fd:bD),mg x=aa (.ref f)/\j8 K (.ref f)=true/\Binds K fd ps []/\sB P w K mg base k f fd ps kl spl sp
theorem cn.LD{K:aI}{mg:Str->Option ah}{k kl:Nat}{x:Str}{st:bq}{ps:List Str}{spl:List V->V->Hp->VK->Prop}{sp:Mi.Kp->Sp}(F:cn K mg x st ps)(P:bt)(w:a9)(base:aL)
 (h:∀f fd,bP K x x st f fd->sB P w K mg base k f fd ps kl spl sp):yT P w K mg base k x ps kl spl sp:=by
 obtain⟨f,fd,h1,h2,h3,_,h4⟩:=F.ex;exact⟨f,fd,h1,h2,h3,h f fd h4⟩
theorem NU{X:Cx}{fx lx qual:Str}{e:aW}{ps:nO}{body:aW}{sc:dJ}{cl:List (Str×ag)}{c T:ag}{p pos hV:Pos}{k kl:Nat}{ρ:List Nat}{ys pps:List Str}{te tb:TE}{spl:List V->V->Hp->VK->Prop}{sp:Mi.Kp->Sp}
 (C':yT X.prog X.w X.K X.mg X.base k fx pps (kl+1) spl sp) (hr:cE k X.A) (hg:Gl X fx) (he:PE X e te)
 (hc:X.env.code=.ref c) (C:i5 X.base c T) (hB:BM X.mg X.base) (hdef:defaultsOf ps X.env=([],[])) (hq:X.env.qual ++ "<lambda>" = qual) (hcl:closureFor sc X.env=pure cl) (hfn:∀x,X.fn x=true) (S:oA X lx ρ ys sc cl)
 (hbind:∀(pm:ah) (c':ag) (ctv u:ah),bindArgs (vL "<lambda>" qual ps body sc cl pm (.ref c') ctv) ⟨[u],[]⟩=pure [(lx,u)])
 (hb:∀(A:bH) (f c':ag) (s:aw) (H:Hp) (env:Env) (outer:List Env),cE kl (A.deeper env)->env=pi qual sc s f c' cl->PE (rS X.prog X.w X.K X.mg X.base A (lx::ys) env s H outer) body tb)
 (hsp:∀gs v H Q,spl gs v H Q->tb (aa v::gs.map aa) H Q)
 (hdb:(fx==("__debug__" : Str))=false:=by decide) (hs1:starEach [e,.Lambda ps body sc hV] X.env=(false,eval e X.env)::starEach [.Lambda ps body sc hV] X.env:=by rfl)
 (hs2:starEach [.Lambda ps body sc hV] X.env=(false,eval (.Lambda ps body sc hV) X.env)::starEach [] X.env:=by rfl) (hpl:(backTo pos (starEach [.Lambda ps body sc hV] X.env)).any (·.1)=false:=by rfl) :
 PE X (.Call (.Name fx p) [e,.Lambda ps body sc hV] [] pos) (xB T qual ρ te sp):=by
 obtain⟨f,fd,h1,h2,h3,F⟩:=C'.ex;exact OD F hr hg h1 h2 h3 he hc C hB hdef hq hcl hfn S hbind hb hsp hdb hs1 hs2 hpl
end L2
namespace Mi
end Mi
namespace L2
open PySem PySem.Spec PyProof.Rows
end L2
namespace A
open PySem L2 PyProof.Rows
open Mi (D W Rs Fin aE Tg)
variable[Tb:bY]{M:Nat->Bool}{κ:Kd}{K:aI}
end A
namespace Mi
def JR(b:Bool):Int:=if b=true then 1 else 0
end Mi
namespace So
open PySem PySem.W PyProof.Rows
open Mi (JR)
end So
namespace L2
end L2
namespace A
end A
namespace A
end A
namespace Mi
end Mi
namespace A
open PySem L2 PyProof.Rows
open Mi (D W Rs Fin aE Out)
end A
namespace Mi
end Mi
namespace L2
open PySem PySem.Spec PyProof.Rows
variable{X:Cx}
end L2
namespace A
open PySem L2 PyProof.Rows
variable[Tb:bY]
end A
namespace Mi
end Mi
namespace Zp
open PySem PySem.Spec PyProof.Rows L2 A
open Mi (D W Rs Fin aE Out)
variable[Tb:A.bY]{M:Nat->Bool}{i:Nat}{u s1:TS}{r m:Mi.SN}
end Zp
namespace Mr
open PySem Mi
def FG:S:=
 (dL (dh (mV 1)) (.n 2)
 (a7 (cB (m2 gb (mV 2) (mV 0)))
 fZ
 bu))
def iS:Fn:=c6 2 3 FG
def EZ:S:=
 (aD (gO (ba iS [(wD (m2 av (mV 0) (mC (.int 0)))),(wD (mN bg [(mV 1)]))]))
 (bL (wD (mN pk [(eL [aa 1,ac,ac] (dh (m2 av (mV 0) (mC (.int 1)))) (.t [1,2]) (cB (m2 bQ (mV 2) (mV 0))) (mV 1))]))))
def qW:Fn:=c6 2 2 EZ
def BU:S:=
 (aD (a4 2 (mC (.str "etaoinshrdlucmfwypvbgkqjxz")))
 (aD (a7 (cB (m2 eo (m2 aQ (mV 0) (mC (.int 4))) (mC (.int 2))))
 (aD (a4 3 (m2 u5 (mC (.str "")) (eL [aa 2,aa 0,ac] (f8 (mC (.int 8))) (.n 2) ej (m2 av (mV 0) (m2 aQ (m2 bn (mV 1) (m2 aZ (mC (.int 4)) (m2 bT (mC (.int 3)) (mV 2)))) (mC (.int 26)))))))
 (aD (a7 (cB (m2 bQ (m2 aQ (mV 0) (mC (.int 4))) (mC (.int 0))))
 (bL (wD (eL [aa 3,ac] (f8 (mV 1)) (.n 1) ej (cR dj (mV 0) ac (aa (m2 aZ (mV 1) (mC (.int 1))))))))
 bu)
 (bL (wD (eL [aa 3,ac] (f8 (mV 1)) (.n 1) ej (cR dj (mV 0) (aa (m2 jV (mC (.int 7)) (mV 1))) ac))))))
 bu)
 (aD (a4 4 (m2 aQ (m2 bn (mV 0) (mC (.int 4))) (mC (.int 8))))
 (aD (a4 5 (m2 u5 (mC (.str "")) (eL [aa 2,aa 0,ac] (f8 (mV 4)) (.n 2) ej (m2 av (mV 0) (m2 aQ (m2 aZ (m2 aZ (m2 bn (mV 1) (mC (.int 32))) (m2 bT (mC (.int 5)) (mV 2))) (m2 bT (mV 2) (mV 2))) (mC (.int 26)))))))
 (aD (a4 6 (m2 aQ (m2 bn (mV 0) (mC (.int 256))) (m2 aZ (mV 4) (mC (.int 1)))))
 (bL (wD (eL [aa 5,aa 2,aa 6,aa 0,ac] (f8 (mV 1)) (.n 4) ej (m2 aZ (m2 aZ (cR dj (mV 0) ac (aa (mV 2))) (m2 av (mV 1) (m2 aQ (m2 aZ (m2 bn (mV 3) (mC (.int 7))) (m2 bT (mC (.int 5)) (mV 4))) (mC (.int 26))))) (cR dj (mV 0) (aa (mV 2)) ac))))))))))
def qy:Fn:=fk 2 7 BU
def FY:S:=
 (aD (lg 3 (CT (mV 2) (mC (.bl true))))
 (aD (a4 4 (mN bg [(mV 2)]))
 (aD (lE 20 (eK (mV 4))
 (aD (ve 5 4)
 (dL (dh (mV 1)) (.t [6,7])
 (a7 (fq (cB (m2 bQ (mV 6) (mV 5))) (cB (gV 3 (mV 7))))
 (aD (dZ 3 (mV 7) (mC (.bl true)))
 (c7 4 (mV 7)))
 bu))))
 (bL (wD (eL [aa 3,ac] (dh (mV 0)) (.n 1) (cB (kI 0 (mV 1))) (mV 1)))))))
def rN:Fn:=fk 3 8 FY
def GA:S:=
 (aD (gO (ba iS [(wD (m2 av (mV 0) (mC (.int 0)))),(wD (mN bg [(mV 1)]))]))
 (bL (wD (ba rN [(wD (m2 av (mV 0) (mC (.int 0)))),(wD (m2 av (mV 0) (mC (.int 1)))),(wD (mV 1))]))))
def rn:Fn:=fk 2 2 GA
def F7:S:=
 (aD (lg 1 (λ_=>.ok (.dk [])))
 (dL (dh (mV 0)) (.n 2)
 (aD (a7 (cB (kI 1 (mV 2)))
 fZ
 bu)
 (dZ 1 (mV 2) (mC (.bl true))))))
def qM:Fn:=c6 1 3 F7
def Ev:S:=(bL (wD (mN xj [(eL [aa 2,ac] (dh (ba rn [(wD (mV 0)),(wD (mV 1))])) (.n 1) ej (m2 f9 (mV 1) (mV 0)))])))
def oP:Fn:=c6 3 3 Ev
def xr:S:=
 (aD (a7 (cB (m2 eo (mV 1) (mN bV [(mV 0)])))
 (bL (wD (m2 av (mV 0) (mV 1))))
 bu)
 (aD (a4 2 (m2 aZ (mC (.int 30011)) (m2 bT (m2 bT (mC (.int 709)) (mV 1)) (mV 1))))
 (aD (a7 (cB (m2 ku (mN bV [(mV 0)]) (mC (.int 0))))
 (a4 2 (m2 aZ (mV 2) (m2 bT (m2 aQ (m2 av (mV 0) (mC (.int 0))) (mC (.int 99991))) (m2 aZ (m2 aZ (m2 bT (mV 1) (mV 1)) (m2 bT (mC (.int 2)) (mV 1))) (mC (.int 5))))))
 bu)
 (bL (wD (mV 2))))))
def fi:Fn:=c6 2 3 xr
def Ef:S:=
 (aD (a4 2 (eL [ac] (f8 (mV 1)) (.n 0) ej (mV 0)))
 (aD (a4 3 (mN bg []))
 (aD (a4 4 (m2 aQ (mV 0) (mC (.int 2147483647))))
 (aD (dL (f8 (mV 1)) (.n 5)
 (aD (a4 4 (m2 aQ (m2 aZ (m2 aZ (m2 bT (mV 4) (mC (.int 48271))) (m2 bT (mC (.int 7)) (mV 5))) (mC (.int 1))) (mC (.int 2147483647))))
 (uv 3 2 (m2 aQ (m2 bn (mV 4) (mC (.int 32))) (mN bV [(mV 2)])))))
 (bL (wV 3))))))
def rC:Fn:=fk 2 6 Ef
def Ce:S:=
 (aD (a4 2 (m2 aZ (mC (.int 1)) (m2 aQ (ba fi [(wD (mV 0)),(wD (mC (.int 0)))]) (mV 1))))
 (aD (a4 3 (ba qy [(wD (ba fi [(wD (mV 0)),(wD (mC (.int 1)))])),(wD (mV 2))]))
 (aD (a4 4 (ba rC [(wD (ba fi [(wD (mV 0)),(wD (mC (.int 2)))])),(wD (mV 2))]))
 (aD (a4 5 (m2 av (mN bg [(mC (.int 4)),(mC (.int 1)),(mC (.int 2)),(mC (.int 3)),(mC (.int 2)),(mC (.int 3))]) (m2 aQ (ba fi [(wD (mV 0)),(wD (mC (.int 3)))]) (mC (.int 6)))))
 (aD (a4 6 (mN bg []))
 (aD (dL (f8 (mV 2)) (.n 7)
 (dL (f8 (mV 2)) (.n 8)
 (aD (a4 9 (ba fi [(wD (mV 0)),(wD (m2 aZ (m2 aZ (mC (.int 4)) (m2 bn (m2 bT (mN iJ [(mV 7),(mV 8)]) (m2 jV (mN iJ [(mV 7),(mV 8)]) (mC (.int 1)))) (mC (.int 2)))) (mN kK [(mV 7),(mV 8)])))]))
 (a7 (fq (cB (m2 eo (m2 av (mV 4) (mV 7)) (m2 av (mV 4) (mV 8)))) (cB (m2 eo (m2 aQ (m2 bn (m2 aQ (m2 bT (mV 9) (mC (.int 48271))) (mC (.int 2147483647))) (mC (.int 16))) (mC (.int 4))) (mV 5))))
 (c7 6 (mN dTup [(m2 av (mV 3) (mV 7)),(m2 av (mV 3) (mV 8))]))
 bu))))
 (bL (wD (mN dTup [(mN pk [(mV 3)]),(mN pk [(mV 6)])])))))))))
def rF:Fn:=c6 2 10 Ce
def CH:S:=
 (aD (a4 2 (ba fi [(wD (mV 0)),(wD (mC (.int 0)))]))
 (aD (a4 3 (m2 aQ (m2 bn (mV 2) (m2 jV (mV 1) (mC (.int 1)))) (m2 yH (mC (.int 10)) (mC (.int 9)))))
 (aD (a4 4 (m2 aZ (m2 aZ (mC (.int 1)) (m2 aQ (mV 2) (m2 jV (mV 1) (mC (.int 1))))) (m2 bT (mV 1) (mV 3))))
 (bL (wD (ba rF [(wD (m2 aZ (mN bg [(mV 4)]) (cR dj (mV 0) (aa (mC (.int 1))) ac))),(wD (mV 1))]))))))
def sE:Fn:=c6 2 5 CH
def Fx:S:=
 (aD (a4 2 (mN bg [(m2 aQ (ba fi [(wD (mV 0)),(wD (mC (.int 39)))]) (mC (.int 2147483647)))]))
 (aD (dL (xl (cR dj (mV 0) (aa (mC (.int 40))) (aa (mC (.int 63))))) (.t [3,4])
 (a7 (cB (m2 eo (m2 aZ (mV 3) (mC (.int 1))) (mV 1)))
 (c7 2 (m2 aQ (mV 4) (mC (.int 2147483647))))
 (qJ 2 (m2 aQ (mV 3) (mV 1)) (m2 aQ (m2 aZ (m2 bT (m2 av (mV 2) (m2 aQ (mV 3) (mV 1))) (mC (.int 69621))) (mV 4)) (mC (.int 2147483647))))))
 (bL (wV 2))))
def qw:Fn:=fk 2 5 Fx
def Fv:S:=(bL (wD (wT (t6 pI pI (mC (.int 1)) (mN bV [(mV 0)]) (mC (.int 8))) (mN xM [(eL [ac] (dh (mV 0)) (.n 0) ej (m2 f9 (mV 0) (mC (.str "abcdefghijklmnopqrstuvwxyz"))))]))))
def qq:Fn:=c6 1 1 Fv
def yf:S:=
 (dL (iP (dh (mV 1))) (.n 2)
 (a7 (cP (cB (m2 gb (mV 2) (mV 0))))
 (mh "NoName" [(gR 2),(λ_=>true)])
 (sP bu)))
def kz:Fn:=c6 2 3 yf
def Eg:S:=
 (aD (gO (ba iS [(wD (m2 av (mV 0) (mC (.int 0)))),(wD (mN bg [(mV 1)]))]))
 (bL (wD (mN pk [(eL [aa 1,ac,ac] (dh (m2 av (mV 0) (mC (.int 1)))) (.t [1,2]) (cB (m2 bQ (mV 1) (mV 0))) (mV 2))]))))
def rJ:Fn:=c6 2 2 Eg
def FL:S:=
 (aD (a4 2 (m2 av (mV 0) (m2 aQ (mV 1) (mN bV [(mV 0)]))))
 (aD (a4 3 (mC (.str "zqxjkvbpygfwmucldrhsnioate")))
 (aD (a4 4 (mN bg [(m2 aZ (mV 2) (m2 av (mV 3) (m2 aQ (m2 bn (mV 1) (mC (.int 8))) (mC (.int 26))))),(cR dj (mV 2) (aa (mC (.int 1))) ac),(cR dj (mV 2) ac (aa (m1 qC (mC (.int 1))))),(m2 aZ (m2 av (mV 3) (m2 aQ (m2 bn (mV 1) (mC (.int 5))) (mC (.int 26)))) (mV 2)),(m1 xy (mV 2))]))
 (aD (a4 4 (m2 aZ (mV 4) (eL [ac] (dh (mV 3)) (.n 0) ej (mV 0))))
 (aD (a4 4 (eL [aa 0,ac] (dh (mV 4)) (.n 1) (fq (cB (m2 gb (mV 1) (mV 0))) (cB (m2 fh (mV 1) (mC (.str ""))))) (mV 1)))
 (bL (wD (m2 av (mV 4) (m2 aQ (m2 bn (mV 1) (mC (.int 3))) (mN kK [(mC (.int 5)),(mN bV [(mV 4)])]))))))))))
def kA:Fn:=c6 2 5 FL
def Fl:S:=
 (aD (gO (ba iS [(wD (mV 0)),(wD (mV 1))]))
 (gO (ba qM [(wD (mV 1))])))
def qZ:Fn:=c6 2 2 Fl
def BK:S:=(bL (wD (eL [ac] (dh (ba rJ [(wD (mV 0)),(wD (mV 1))])) (.n 0) ej (mN dTup [(mV 0),(mC (.bl true))]))))
def lF:Fn:=fk 2 2 BK
def D9:S:=(bL (wD (eL [ac] (dh (ba qW [(wD (mV 0)),(wD (mV 1))])) (.n 0) ej (mN dTup [(mV 0),(mC (.bl false))]))))
def lM:Fn:=fk 2 2 D9
def DF:S:=
 (aD (El (.t [3,4]) (mV 1))
 (aD (a4 5 (m2 gb (mV 3) (mV 2)))
 (aD (a4 6 (lA (eK (mV 4)) (ba oP [(wD (mV 0)),(wD (mV 3)),(wD (mV 2))]) (mV 5)))
 (aD (a4 7 (lA (eK (mV 5)) (ba lF [(wD (mV 0)),(wD (mV 3))]) (mN bg [])))
 (aD (a4 8 (lA (eK (mV 6)) (ba lM [(wD (mV 0)),(wD (mV 3))]) (mN bg [])))
 (bL (wD (m2 aZ (mV 7) (mV 8)))))))))
def oG:Fn:=c6 3 9 DF
def uz:Fn:=F4 (ba oG [(wD (mV 1)),(wD (mV 0)),(wD (mV 2))])
def zz(κ:Kp):S:=
 (aD (lg 2 (λ_=>.ok (.dt [])))
 (aD (a4 3 (mN bg []))
 (aD (dL (dh (mV 0)) (.n 4)
 (aD (dZ 2 (mV 4) (mC .non))
 (c7 3 (mV 4))))
 (aD (lE 40 (eK (mV 3))
 (aD (ii 5 3 (mC (.int 0)))
 (dL (dh (nB κ 1 uz (mV 5))) (.n 4)
 (a7 (cB (gV 2 (mV 4)))
 (aD (dZ 2 (mV 4) (mV 5))
 (c7 3 (mV 4)))
 bu))))
 (bL (wV 2))))))
def ui(κ:Kp):Fn:=fk 2 6 (zz κ)
def qA(x:D)(aJ:List D):Rs W:=ui ⟨0,0, "",[]⟩ [.d x,.fn ⟨0,0, "", []⟩ aJ]
def C3:S:=
 (aD (a4 3 (m2 aZ (ba lF [(wD (mV 0)),(wD (mV 1))]) (ba lM [(wD (mV 0)),(wD (mV 1))])))
 (bL (yj qA [0,2] (mV 3))))
def kO:Fn:=fk 3 4 C3
def FO:S:=(bL (wD (eL [aa 0,ac] (ph 1) (.n 1) (cB (m2 bQ (m2 av (mV 1) (mC (.int 0))) (mV 0))) (mV 1))))
def lG:Fn:=fk 2 2 FO
def FZ:S:=
 (aD (gO (ba qZ [(wD (m2 av (mV 0) (mC (.int 0)))),(wD (m2 aZ (mN bg [(mV 1),(mV 2)]) (mN gB [(mV 3)])))]))
 (bL (wD (sr (ba lG [(wD (mV 2)),(qS (jz kO [(wD (mV 0)),(wD (mV 1)),(wD (mV 3))]))])))))
def pc:Fn:=c6 4 4 FZ
def Bn:S:=
 (aD (a4 2 (mN gB [(m2 av (mV 0) (mC (.int 0)))]))
 (aD (ii 3 2 (m2 aQ (mV 1) (mN bV [(mV 2)])))
 (aD (ii 4 2 (m2 aQ (m2 bn (mV 1) (mC (.int 8))) (mN bV [(mV 2)])))
 (aD (a4 5 (mN bg []))
 (aD (dL (f8 (mN bV [(mV 2)])) (.n 6)
 (a7 (cB (m2 bQ (m2 aQ (m2 bn (m2 aQ (m2 bT (mV 1) (m2 aZ (mC (.int 48271)) (m2 bT (m2 bT (mC (.int 614)) (mV 6)) (mV 6)))) (mC (.int 2147483647))) (mC (.int 16))) (m2 aZ (mC (.int 2)) (m2 aQ (m2 bn (mV 1) (mC (.int 64))) (mC (.int 2))))) (mC (.int 0))))
 (c7 5 (m2 av (mV 2) (mV 6)))
 bu))
 (aD (a7 (cB (m2 bQ (m2 aQ (m2 bn (mV 1) (mC (.int 128))) (mC (.int 2))) (mC (.int 1))))
 (w9 5)
 bu)
 (uI (bL (wD (mN bg [(mV 3),(mV 4),(mV 5)]))))))))))
def oV:Fn:=fk 2 7 Bn
def D6:S:=
 (aD (sP (lg 1 (λ_=>.ok (.dk []))))
 (dL (iP (dh (mV 0))) (.n 2)
 (aD (a7 (cP (cB (kI 1 (mV 2))))
 (mh "Twice" [(gR 2),(λ_=>true)])
 (sP bu))
 (sP (dZ 1 (mV 2) (mC (.bl true)))))))
def nh:Fn:=c6 1 3 D6
def Ge:S:=
 (aD (du kz [(wD (mV 0)),(wD (mV 1))])
 (du nh [(wD (mV 1))]))
def jQ:Fn:=c6 2 2 Ge
def Cc:S:=
 (aD (du jQ [(wD (m2 av (mV 0) (mC (.int 0)))),(wD (m2 aZ (mN bg [(mV 1),(mV 2)]) (mN gB [(mV 3)])))])
 (sP (bL (wD (sr (ba lG [(wD (mV 2)),(qS (jz kO [(wD (mV 0)),(wD (mV 1)),(wD (mV 3))]))]))))))
def pD:Fn:=c6 4 4 Cc
def E3:S:=
 (aD (a4 3 (ba kA [(wD (mN gB [(m2 av (mV 0) (mC (.int 0)))])),(wD (m2 bn (mV 2) (mC (.int 16))))]))
 (aD (B4 [4,5,6] (mV 1))
 (aD (a7 (cB (m2 bQ (m2 aQ (mV 2) (mC (.int 4))) (mC (.int 1))))
 (a4 5 (m2 av (mN bg [(mV 4),(mV 3)]) (m2 aQ (m2 bn (mV 2) (mC (.int 4))) (mC (.int 2)))))
 bu)
 (aD (a7 (cB (m2 bQ (m2 aQ (mV 2) (mC (.int 4))) (mC (.int 2))))
 (a4 4 (mV 3))
 bu)
 (aD (a7 (ju (cB (m2 fh (m2 aQ (mV 2) (mC (.int 4))) (mC (.int 1)))) (cB (m2 bQ (m2 aQ (m2 bn (mV 2) (mC (.int 8))) (mC (.int 2))) (mC (.int 1)))))
 (aD (a4 7 (m2 aQ (m2 bn (mV 2) (mC (.int 64))) (m2 aZ (mN bV [(mV 6)]) (mC (.int 1)))))
 (aD (a4 8 (m2 av (m2 aZ (mN bg [(mV 4),(mV 5)]) (mV 6)) (m2 aQ (m2 bn (mV 2) (mC (.int 512))) (m2 aZ (mC (.int 2)) (mN bV [(mV 6)])))))
 (a4 6 (m2 aZ (m2 aZ (cR dj (mV 6) ac (aa (mV 7))) (mN bg [(m2 av (mN bg [(mV 8),(mV 3)]) (m2 bn (m2 aQ (m2 bn (mV 2) (mC (.int 8))) (mC (.int 3))) (mC (.int 2))))])) (cR dj (mV 6) (aa (mV 7)) ac)))))
 bu)
 (bL (wD (mN bg [(mV 4),(mV 5),(mV 6)]))))))))
def oK:Fn:=fk 3 9 E3
def GD:S:=
 (aD (du jQ [(wD (m2 av (mV 0) (mC (.int 0)))),(wD (mN bg [(mV 1),(mV 2)]))])
 (sP fZ))
def oz:Fn:=c6 3 3 GD
def FD:S:=
 (aD (du kz [(wD (m2 av (mV 0) (mC (.int 0)))),(wD (mV 1))])
 (aD (du kz [(wD (m2 av (mV 0) (mC (.int 0)))),(wD (mV 2))])
 (aD (du nh [(wD (m2 aZ (mN bg [(m2 av (mV 1) (mC (.int 0))),(m2 av (mV 1) (m1 qC (mC (.int 1))))]) (mN gB [(mV 2)])))])
 (aD (sP fZ)
 (aD (sP fZ)
 (aD (sP fZ)
 (sP fZ)))))))
def oZ:Fn:=c6 3 5 FD
def BY:S:=
 (aD (du jQ [(wD (m2 av (mV 0) (mC (.int 0)))),(wD (m2 aZ (mN bg [(mV 1),(mV 2)]) (mN gB [(mV 3)])))])
 (aD (sP fZ)
 (aD (sP fZ)
 (aD (sP fZ)
 (aD (sP fZ)
 (sP fZ))))))
def oF:Fn:=c6 4 7 BY
def Ck:S:=
 (aD (du jQ [(wD (m2 av (mV 0) (mC (.int 0)))),(wD (m2 aZ (mN bg [(mV 1)]) (mN gB [(mV 2)])))])
 (aD (sP fZ)
 (sP fZ)))
def pM:Fn:=c6 3 4 Ck
def Jk:S:=
 (aD (a4 1 (mN bg []))
 (aD (a7 (cB (ji 0 (λc=>([("NoName",false),("Twice", false)]:List (String×Bool)).lookup c)))
 (c7 1 (mC (.str "Locked, NoArrow, NoLabel or NoNet")))
 bu)
 (aD (a7 (cB (ji 0 (λc=>([("NoName",false),("Twice", false)]:List (String×Bool)).lookup c)))
 (c7 1 (mC (.str "NoRow, NoSuch, NoText, NoTie or Unlike")))
 bu)
 (aD (a7 (cB (ji 0 (λc=>([("NoName",true),("Twice", false)]:List (String×Bool)).lookup c)))
 (c7 1 (mC (.str "NoName")))
 bu)
 (aD (a7 (cB (ji 0 (λc=>([("NoName",false),("Twice", false)]:List (String×Bool)).lookup c)))
 (c7 1 (mC (.str "NoWord")))
 bu)
 (aD (a7 (cB (ji 0 (λc=>([("NoName",false),("Twice", false)]:List (String×Bool)).lookup c)))
 (c7 1 (mC (.str "Ring")))
 bu)
 (aD (a7 (cB (ji 0 (λc=>([("NoName",false),("Twice", true)]:List (String×Bool)).lookup c)))
 (c7 1 (mC (.str "Twice")))
 bu)
 (aD (a7 (cB (ji 0 (λc=>([("NoName",false),("Twice", false)]:List (String×Bool)).lookup c)))
 (c7 1 (mC (.str "WrongSize")))
 bu)
 (aD (a7 (iu (cB (ji 0 (λc=>([("NoName",true),("Twice", true)]:List (String×Bool)).lookup c))))
 (c7 1 (mC (.str "no ValueError")))
 bu)
 (bL (wV 1)))))))))))
def rp:Fn:=fk 1 2 Jk
def Cj:S:=
 (aD (a4 3 (mN bg []))
 (aD (rq 4 ["NoName","Twice"]
 (a7 (cP (cB (m2 bQ (mV 2) (mC (.int 0)))))
 (du oz [(wD (mV 0)),(wD (m2 av (mV 1) (mC (.int 0)))),(wD (m2 av (mV 1) (mC (.int 1))))])
 (a7 (cP (cB (m2 bQ (mV 2) (mC (.int 1)))))
 (du pD [(wD (mV 0)),(wD (m2 av (mV 1) (mC (.int 0)))),(wD (m2 av (mV 1) (mC (.int 1)))),(wD (m2 av (mV 1) (mC (.int 2))))])
 (a7 (cP (cB (m2 bQ (mV 2) (mC (.int 2)))))
 (du oF [(wD (mV 0)),(wD (m2 av (mV 1) (mC (.int 0)))),(wD (m2 av (mV 1) (mC (.int 1)))),(wD (m2 av (mV 1) (mC (.int 2))))])
 (a7 (cP (cB (m2 bQ (mV 2) (mC (.int 3)))))
 (du pM [(wD (mV 0)),(wD (m2 av (mV 1) (mC (.int 0)))),(wD (m2 av (mV 1) (mC (.int 2))))])
 (du oZ [(wD (mV 0)),(wD (mN bg [(m2 av (mV 1) (mC (.int 0))),(m2 av (mV 1) (mC (.int 1)))])),(wD (m2 av (mV 1) (mC (.int 2))))])))))
 (a4 3 (ba rp [(wV 4)])))
 (bL (wD (mV 3)))))
def mK:Fn:=c6 3 5 Cj
def CB:S:=
 (aD (dL (dh (mV 1)) (.n 2)
 (a7 (cB (m2 gb (mV 2) (m2 av (mV 0) (mC (.int 0)))))
 (bL (wD (mN bg [(mC (.str "NoName"))])))
 bu))
 (aD (a7 (cB (m2 ku (mN bV [(eL [aa 1,ac] (f8 (mN bV [(mV 1)])) (.n 1) (cB (m2 f9 (m2 av (mV 0) (mV 1)) (cR dj (mV 0) ac (aa (mV 1))))) (mV 1))]) (mC (.int 0))))
 (bL (wD (mN bg [(mC (.str "Twice"))])))
 bu)
 (bL (wD (mN bg [])))))
def iR:Fn:=fk 2 3 CB
def EQ:S:=
 (aD (a4 3 (mN bg [(m2 av (mV 1) (mC (.int 0))),(m2 av (mV 1) (mC (.int 1))),(mN gB [(m2 av (mV 1) (mC (.int 2)))])]))
 (aD (a4 4 (m2 aZ (mN bg [(m2 av (mV 1) (mC (.int 0))),(m2 av (mV 1) (mC (.int 1)))]) (m2 av (mV 1) (mC (.int 2)))))
 (aD (dL (f8 (mC (.int 5))) (.n 5)
 (aD (a4 6 (m2 aQ (m2 aZ (mV 5) (mV 2)) (mC (.int 5))))
 (aD (a4 7 (ba iR [(wD (mV 0)),(wD (mV 4))]))
 (aD (a7 (cB (m2 bQ (mV 6) (mC (.int 0))))
 (a4 7 (ba iR [(wD (mV 0)),(wD (cR dj (mV 1) ac (aa (mC (.int 2)))))]))
 bu)
 (aD (a7 (cB (m2 bQ (mV 6) (mC (.int 3))))
 (a4 7 (ba iR [(wD (mV 0)),(wD (m2 aZ (mN bg [(m2 av (mV 1) (mC (.int 0)))]) (m2 av (mV 1) (mC (.int 2)))))]))
 bu)
 (aD (a4 8 (oj (m2 f9 (mN dTup [(m2 av (mV 1) (mC (.int 0))),(m2 av (mV 1) (mC (.int 1)))]) (m2 av (mV 0) (mC (.int 1)))) (m2 f9 (mN dTup [(m2 av (mV 1) (mC (.int 1))),(m2 av (mV 1) (mC (.int 0)))]) (m2 av (mV 0) (mC (.int 1))))))
 (a7 (fq (cB (m2 fh (mV 7) (mN bg []))) (ju (cB (m2 eo (mV 6) (mC (.int 4)))) (eK (mV 8))))
 (a7 (ju (cB (m2 fh (ba mK [(wD (mV 0)),(wD (mV 3)),(wD (mV 6))]) (mV 7))) (cB (m2 fh (m2 av (mV 3) (mC (.int 2))) (m2 av (mV 1) (mC (.int 2))))))
 (bL (wD (mC (.bl false))))
 bu)
 bu)))))))
 (bL (wD (mC (.bl true)))))))
def j5:Fn:=c6 3 9 EQ
def C6:S:=
 (aD (a4 1 (ba sE [(wD (mV 0)),(wD (mC (.int 8)))]))
 (aD (dL (dh (ba qw [(wD (mV 0)),(wD (mC (.int 5)))])) (.n 2)
 (aD (a4 3 (ba oV [(wD (mV 1)),(wD (mV 2))]))
 (aD (a4 4 (ba oK [(wD (mV 1)),(wD (mV 3)),(wD (m2 bn (mV 2) (mC (.int 3))))]))
 (aD (a7 (iu (cB (ba j5 [(wD (mV 1)),(wD (mV 4)),(wD (mV 2))])))
 (bL (wD (mC (.bl false))))
 bu)
 (aD (a7 (cB (m2 ku (mN bV [(m2 av (mV 1) (mC (.int 1)))]) (mC (.int 0))))
 (aD (a4 5 (m2 av (m2 av (mV 1) (mC (.int 1))) (m2 aQ (m2 bn (mV 2) (mC (.int 5))) (mN bV [(m2 av (mV 1) (mC (.int 1)))]))))
 (aD (a4 6 (mN bg [(m2 av (mN bg [(m2 av (mV 5) (mC (.int 0))),(m2 av (mV 5) (mC (.int 1))),(ba kA [(wD (mN gB [(m2 av (mV 1) (mC (.int 0)))])),(wD (m2 bn (mV 2) (mC (.int 7))))])]) (m2 aQ (mV 2) (mC (.int 3))))]))
 (a7 (iu (cB (ba j5 [(wD (mV 1)),(wD (mN bg [(m2 av (mV 5) (mC (.int 0))),(m2 av (mV 5) (mC (.int 1))),(mV 6)])),(wD (mV 2))])))
 (bL (wD (mC (.bl false))))
 bu)))
 bu)
 (aD (a4 7 (ba pc [(wD (mV 1)),(wD (m2 av (mV 3) (mC (.int 0)))),(wD (m2 av (mV 3) (mC (.int 1)))),(wD (m2 av (mV 3) (mC (.int 2))))]))
 (a7 (iu (cB (m1 (ua ["bool"]) (mV 7))))
 (bL (wD (mC (.bl false))))
 bu)))))))
 (bL (wD (mC (.bl true))))))
def xT:Fn:=c6 1 8 C6
end Mr
namespace Hp2
open Mi
def ER(κ κ':Kp)(aJ:List D)(e e':Mi.Env):Prop:=e[1]? = aa (aa (.fn κ aJ))/\e'=e.set 1 (aa (.fn κ' aJ))
section
variable{κ κ':Kp}{aJ:List D}{e e':Mi.Env}
theorem ER.get(h:ER κ κ' aJ e e'){i:Nat}(hi:1≠i):e'[i]? = e[i]?:=by rw[h.2,eQ hi]
theorem ER.one(h:ER κ κ' aJ e e'):e'[1]? = aa (aa (.fn κ' aJ)):=by rw[h.2,kP (dG.mp h.1).1]
theorem ER.set(h:ER κ κ' aJ e e'){i:Nat}(hi:1≠i)(w:Option W):ER κ κ' aJ (e.set i w) (e'.set i w):=⟨by rw[eQ (dO hi)];exact h.1,by rw[h.2,List.set_comm _ _ hi]⟩
end
variable(κ κ':Kp)(aJ:List D)
inductive OR:Rs Out->Rs Out->Prop
 |nx {e e':Mi.Env}:ER κ κ' aJ e e'->OR (.ok (.nx e)) (.ok (.nx e'))
 |ct {e e':Mi.Env}:ER κ κ' aJ e e'->OR (.ok (.ct e)) (.ok (.ct e'))
 |bk {e e':Mi.Env}:ER κ κ' aJ e e'->OR (.ok (.bk e)) (.ok (.bk e'))
 |rt (w:W):OR (.ok (.rt w)) (.ok (.rt w))
 |ex (x:dq):OR (.ex x) (.ex x)
 |no:OR .no .no
def Sr(s s':S):Prop:=∀e e',ER κ κ' aJ e e'->OR κ κ' aJ (s e) (s' e')
def Ar{α:Type}(a a':Mi.Env->Rs α):Prop:=∀e e',ER κ κ' aJ e e'->a' e'=a e
variable{κ κ' aJ}
theorem gE{α:Type}{r:Rs α}{f g:α->Rs Out}(h:∀x,r=.ok x->OR κ κ' aJ (f x) (g x)):OR κ κ' aJ (r.bind f) (r.bind g):=by
 cases r with
 |ok x=>exact h x rfl
 |ex x=>exact .ex x
 |no=>exact .no
theorem m8{s s' t t':S}(h:Sr κ κ' aJ s s')(k:Sr κ κ' aJ t t'):Sr κ κ' aJ (aD s t) (aD s' t'):=λe e' r=>by
 unfold aD;have q:=h e e' r;generalize s e=a at q ⊢;generalize s' e'=b at q ⊢;cases q with
 |nx z=>exact k _ _ z
 |ct z=>exact .ct z
 |bk z=>exact .bk z
 |rt w=>exact .rt w
 |ex x=>exact .ex x
 |no=>exact .no
theorem Ek{it it':I}{i:Nat}{s s':S}(hi:1≠i)(ha:Ar κ κ' aJ it it')(h:Sr κ κ' aJ s s'):Sr κ κ' aJ (dL it (.n i) s) (dL it' (.n i) s'):=λe e' r=>by
 unfold dL;rw[ha e e' r];refine gE λxs hxs=>?_;clear hxs
 induction xs generalizing e e' with
 |nil=>exact .nx r
 |cons x t ih=>
  show OR κ κ' aJ ((s (e.set i (aa (.d x)))).bind _) ((s' (e'.set i (aa (.d x)))).bind _);have q:=h _ _ (r.set hi (aa (.d x)));generalize s (e.set i (aa (.d x)))=a at q ⊢;generalize s' (e'.set i (aa (.d x)))=b at q ⊢;cases q with
  |nx z=>exact ih _ _ z
  |ct z=>exact ih _ _ z
  |bk z=>exact .nx z
  |rt w=>exact .rt w
  |ex x=>exact .ex x
  |no=>exact .no
theorem K0{c c':C}{n:Nat}{s s':S}(ha:Ar κ κ' aJ c c')(h:Sr κ κ' aJ s s'):Sr κ κ' aJ (lE n c s) (lE n c' s'):=by
 unfold lE
 induction n with
 |zero=>exactλe e' r=>.no
 |succ n ih=>
  intro e e' r;unfold jO;rw[ha e e' r];refine gE λb _=>?_;cases b with
  |false=>exact .nx r
  |true=>
   simp only[jK];have q:=h _ _ r;generalize s e=a at q ⊢;generalize s' e'=b at q ⊢;cases q with
   |nx z=>exact ih _ _ z
   |ct z=>exact ih _ _ z
   |bk z=>exact .nx z
   |rt w=>exact .rt w
   |ex x=>exact .ex x
   |no=>exact .no
theorem Ol{c c':C}{s s' t t':S}(ha:Ar κ κ' aJ c c')(h:Sr κ κ' aJ s s')(k:Sr κ κ' aJ t t'):Sr κ κ' aJ (a7 c s t) (a7 c' s' t'):=λe e' r=>by
 unfold a7;rw[ha e e' r];refine gE λb _=>?_;cases b with
 |true=>exact h _ _ r
 |false=>exact k _ _ r
theorem Pc:Sr κ κ' aJ bu bu:=λe e' r=>.nx r
theorem Nk{a a':EW}(ha:Ar κ κ' aJ a a'):Sr κ κ' aJ (bL a) (bL a'):=λe e' r=>by
 unfold bL;rw[ha e e' r];exact gE λw _=>.rt w
theorem Jh{i:Nat}{a a':EW}(hi:1≠i)(ha:Ar κ κ' aJ a a'):Sr κ κ' aJ (lg i a) (lg i a'):=λe e' r=>by
 unfold lg;rw[ha e e' r];exact gE λw _=>.nx (r.set hi _)
theorem MG{i:Nat}{a a':E}(hi:1≠i)(ha:Ar κ κ' aJ a a'):Sr κ κ' aJ (a4 i a) (a4 i a'):=λe e' r=>by
 unfold a4;rw[ha e e' r];exact gE λw _=>.nx (r.set hi _)
theorem lz{i:Nat}(hi:1≠i):Ar κ κ' aJ (mV i) (mV i):=λe e' r=>by unfold mV;rw[r.get hi]
theorem xZ{i:Nat}(hi:1≠i):Ar κ κ' aJ (wV i) (wV i):=λe e' r=>by unfold wV;rw[r.get hi]
theorem FC{i:Nat}(hi:1≠i):Ar κ κ' aJ (λe=>getL e i) (λe=>getL e i):=λe e' r=>by show getL e' i=getL e i;unfold getL;rw[r.get hi]
theorem uK{α:Type}{x:Rs α}:Ar κ κ' aJ (λ_=>x) (λ_=>x):=λe e' r=>rfl
theorem uM{α β:Type}{a a':Mi.Env->Rs α}{f:α->Rs β}(ha:Ar κ κ' aJ a a'):Ar κ κ' aJ (λe=>(a e).bind f) (λe=>(a' e).bind f):=λe e' r=>by
 show(a' e').bind f=(a e).bind f;rw[ha e e' r]
theorem Fy{i:Nat}{a a' b b':E}(hi:1≠i)(ha:Ar κ κ' aJ a a')(hb:Ar κ κ' aJ b b'):Sr κ κ' aJ (dZ i a b) (dZ i a' b'):=λe e' r=>by
 unfold dZ;rw[hb e e' r,ha e e' r,xZ hi e e' r];exact gE λx _=>gE λy _=>gE λz _=>gE λw _=>.nx (r.set hi _)
theorem N7{p:Prop}[Decidable p]{x y:Rs Out}(h:OR κ κ' aJ x y):OR κ κ' aJ (br p x) (br p y):=by
 unfold br;split
 ·exact h
 ·exact .no
theorem C4{i:Nat}{a a':E}(hi:1≠i)(ha:Ar κ κ' aJ a a'):Sr κ κ' aJ (c7 i a) (c7 i a'):=λe e' r=>by
 unfold c7;rw[ha e e' r,show getL e' i=getL e i from FC hi e e' r];exact gE λx _=>gE λy _=>N7 (.nx (r.set hi _))
theorem Nx{i j:Nat}{a a':E}(hi:1≠i)(hj:1≠j)(ha:Ar κ κ' aJ a a'):Sr κ κ' aJ (ii i j a) (ii i j a'):=λe e' r=>by
 unfold ii;rw[ha e e' r,show getL e' j=getL e j from FC hj e e' r];exact gE λx _=>gE λy _=>gE λz _=>gE λw _=>.nx ((r.set hj _).set hi _)
theorem PV{i:Nat}{a a':E}(hi:1≠i)(ha:Ar κ κ' aJ a a'):Ar κ κ' aJ (gV i a) (gV i a'):=λe e' r=>by
 unfold gV;rw[ha e e' r,xZ hi e e' r]
theorem OZ{f:Fn}{a a':E}(ha:Ar κ κ' aJ a a'):Ar κ κ' aJ (nB κ 1 f a) (nB κ' 1 f a'):=λe e' r=>by
 unfold nB;rw[r.1,r.one,ha e e' r];simp
theorem LV{a b:Rs Out}(h:OR κ κ' aJ a b):a.bind jL=b.bind jL:=by cases h<;>rfl
theorem _root_.Mr.KU(κ:Kp)(x:D)(aJ:List D):Mr.ui κ [.d x,.fn κ aJ]=Mr.qA x aJ:=by
 have h:Sr κ ⟨0,0, "",[]⟩ aJ (Mr.zz κ) (Mr.zz ⟨0,0, "", []⟩):=by refine m8 (Jh (by decide) uK) (m8 (MG (by decide) uK) (m8 (Ek (by decide) (uM (lz (by decide))) (m8 (Fy (by decide) (lz (by decide)) uK) (C4 (by decide) (lz (by decide))))) (m8 (K0 (uM (lz (by decide))) (m8 (Nx (by decide) (by decide) uK) (Ek (by decide) (uM (OZ (lz (by decide)))) (Ol (uM (PV (by decide) (lz (by decide)))) (m8 (Fy (by decide) (lz (by decide)) (lz (by decide))) (C4 (by decide) (lz (by decide)))) Pc)))) (Nk (xZ (by decide))))))
 have r:ER κ ⟨0,0, "",[]⟩ aJ [aa (.d x),aa (.fn κ aJ),ac,ac,ac,ac] [aa (.d x),aa (.fn ⟨0,0, "", []⟩ aJ),ac,ac,ac,ac]:=⟨rfl,rfl⟩;have q:=h _ _ r;exact congrArg (br ((2:Nat)=2)) (LV q)
end Hp2
namespace A
open PySem L2 PyProof.Rows
section
variable{P:bt}{w:a9}{K:aI}{mg:Str->Option ah}{base:aL}[Tb:bY]
variable{x qual:Str}{st:bq}{f:ag}{fd:bD}{N ps:List Str}{k:Nat}{m:Mi.S}
theorem gY(M:Nat->Bool)(F:bP K x qual st f fd)(S:bZ N ps (bA st))
 (hb:∀(cdv:ah) (A:bH) (outer:List Env) (s:aw) (H:Hp) (E:XK),cE k (A.deeper (envOfC qual (bA st) s.heap.objs.size f cdv))->N.Nodup->(A.deeper (envOfC qual (bA st) s.heap.objs.size f cdv)).units+1<cLine->(A.deeper (envOfC qual (bA st) s.heap.objs.size f cdv)).units+64<cLine ->
  ∃t,eZ (dQ aR P w K mg base N qual (bA st) f cdv A outer s H E).kB (gu st) t/\AS M qV t m)
 (hM:∀i,i<ps.length->M i=false:=by decide):bJ P w K mg base aR (k+1) f fd ps (aP (Mi.c6 ps.length N.length m)):=
 F.ok S (λvs H Q E h=>OQ h) λcdv A outer s H vs Q E hr h=>
  let ⟨t,a,b⟩:=hb cdv A outer s H E hr S.nd (jw hr) hr.units
  ⟨t,a,M3 b hM h⟩
theorem okN(M:Nat->Bool)(F:bP K x qual st f fd)(S:bZ N ps (bA st))
 (hb:∀(cdv:ah) (A:bH) (outer:List Env) (s:aw) (H:Hp) (E:XK),cE k (A.deeper (envOfC qual (bA st) s.heap.objs.size f cdv))->N.Nodup->(A.deeper (envOfC qual (bA st) s.heap.objs.size f cdv)).units+1<cLine->(A.deeper (envOfC qual (bA st) s.heap.objs.size f cdv)).units+64<cLine ->
  ∃t,eZ (dQ aR P w K mg base N qual (bA st) f cdv A outer s H E).kB (gu st) t/\AS M qN t m)
 (hM:∀i,i<ps.length->M i=false:=by decide):bJ P w K mg base aR (k+1) f fd ps (cD (Mi.fk ps.length N.length m)):=
 F.ok S (λvs H Q E h=>uX h) λcdv A outer s H vs Q E hr h=>
  let ⟨t,a,b⟩:=hb cdv A outer s H E hr S.nd (jw hr) hr.units
  ⟨t,a,runN b hM h⟩
end
theorem cZ{N P:List Str}{sc:dJ}(a:sc.kind=.function:=by rfl)(b:sc.isCoroutine=false:=by rfl)(c:sc.isGenerator=false:=by rfl)(d:N.Nodup:=by decide +kernel)(e:N.take P.length=P:=by rfl)
 (f:∀x∈P,sc.names.lookup x=aa .local\/sc.names.lookup x=aa .cell:=by decide +kernel) (g:∀y∈sc.names,y.2≠.free:=by decide +kernel):bZ N P sc:=⟨a,b,c,d,e,f,g⟩
section
variable{M:Nat->Bool}[Tb:bY]
theorem bE(i:Nat)(hm:M i=false:=by rfl):AE M qV (eB i) (Mi.mV i):=DM i hm
theorem bp(i:Nat)(hm:M i=false:=by rfl):AW M qV (eB i) (Mi.wD (Mi.mV i)):=AE.w (DM i hm)
end
section
variable{X:Cx}{e:aW}{te:TE}{pos pos':Pos}{x:Str}
theorem pS(i:Nat)(he:PE X e te)(hN:X.N.Nodup:=by assumption)(hi:X.N[i]? = aa x:=by rfl)(hx:Loc X.env.scope x:=by exact ee rfl)(hs:swapsWith e (aa (.Name x pos')) pos.line X.env=pure false:=by rfl)
 (hf:X.fn x=true\/X.env.scope.names.lookup x=aa .local:=by first|exact .inl rfl|exact .inr rfl|assumption):PS X (.Assign [.Name x pos'] e pos) (jv te (gr i)):=o0 hN hi hx he hs hf
theorem pG(i:Nat)(hN:X.N.Nodup:=by assumption)(hi:X.N[i]? = aa x:=by rfl)(hx:Loc X.env.scope x:=by exact ee rfl)
 (hf:X.fn x=true\/X.env.scope.names.lookup x=aa .local:=by first|exact .inl rfl|exact .inr rfl|assumption):L2.PG X (.Name x pos) (gr i):=fE hN hi hx hf
theorem l5{a:Str}:[a].Nodup:=nK.mpr ⟨(λh=>nomatch h),List.nodup_nil⟩
theorem lv{a b:Str}(h:a≠b:=by decide):[a,b].Nodup:=nK.mpr ⟨λz=>h (cL.mp z),l5⟩
theorem pC{k k':Nat}{ps:List Str}{sp:Sp}{es:List aW}{t:TA}(C:bN X.prog X.w X.K X.mg X.base aR k x ps sp)(hr:cE k' X.A)(ha:PA X (e::es) t)(hle:k<=k':=by decide)(hg:Gl X x:=by rfl)
 (hdb:(x==("__debug__" : Str))=false:=by decide) (he:starEach (e::es) X.env=(false,eval e X.env)::starEach es X.env:=by rfl) (hpl:(backTo pos (starEach es X.env)).any (·.1)=false:=by rfl) :
 PE X (.Call (.Name x pos') (e::es) [] pos) (lD sp [] E0 t):=iZ C (hr.mono hle) hg uV ha hdb he hpl
theorem bi(i:Nat)(hN:X.N[i]? = aa x:=by rfl)(hv:rR X.env.scope x:=by first|exact ee rfl|exact kj (ee rfl)|exact kj (kj rfl))(hd:(x==("__debug__" : Str))=false:=by decide)
 (hcd:(x==("__classdict__" : Str))=false:=by decide) (hs:starEach [Expr.Name x pos] X.env=(false,eval (.Name x pos) X.env)::starEach [] X.env:=by rfl):PA X [.Name x pos] (gc (eB i) ib):=ap (pv i hN hv hd hcd) aS hs
theorem pX{a b:aW}{ta tb:TE}(ha:PE X a ta)(hb:PE X b tb)(hs:BG b:=by exactλ_ _=>rfl):PE X (.Subscript a b pos) (oD (zk X.K) ta tb):=nG mZ ha hb hs
end
end A
namespace mG
open PySem L2 PyProof.Rows A
open Mr
def um(x:Str):Str:=x ++ ".<locals>." ++ "<lambda>"
def top(i:Nat):bq:=PySem.Challenge.pw_arrowfind_k14_roads_refused.main.body.getD i (.Pass ⟨0,0,0,0⟩)
structure Txt(mg:Str->Option ah):Prop where
 dD:mg "len" = ac
 jG:mg "range" = ac
 q8:mg "max" = ac
 qE:mg "min" = ac
 lb:mg "tuple" = ac
 fG:mg "list" = ac
 lU:mg "isinstance" = ac
 Ra:mg "all" = ac
 yg:mg "any" = ac
 Qe:mg "bool" = ac
 Rf:mg "str" = ac
 Rg:mg "int" = ac
 Rh:mg "zip" = ac
 Qf:mg "enumerate" = ac
 Ri:mg "sorted" = ac
 Rj:mg "reversed" = ac
 Rm:mg "set" = ac
section
variable[Tb:bY]
structure Own(mg:Str->Option ah)(base:aL):Prop where
 Qg:OwnCls "Twice" (Tb.cl "Twice") [.type "ValueError",.type "Exception",.type "BaseException",.type "object"] "ValueError.__new__" mg base
 Qh:OwnCls "NoName" (Tb.cl "NoName") [.type "ValueError",.type "Exception",.type "BaseException",.type "object"] "ValueError.__new__" mg base
 Qi:mg "ArrowError" = aa (.ref (Tb.cl "ArrowError"))
 Qj:mg "WrongSize" = aa (.ref (Tb.cl "WrongSize"))
 Qk:mg "NoWord" = aa (.ref (Tb.cl "NoWord"))
 Ql:mg "Twice" = aa (.ref (Tb.cl "Twice"))
 Qm:mg "NoName" = aa (.ref (Tb.cl "NoName"))
 Qo:mg "Ring" = aa (.ref (Tb.cl "Ring"))
 Qp:mg "Unlike" = aa (.ref (Tb.cl "Unlike"))
 Qq:mg "NoArrow" = aa (.ref (Tb.cl "NoArrow"))
 Qr:mg "Locked" = aa (.ref (Tb.cl "Locked"))
 Qs:mg "NoTie" = aa (.ref (Tb.cl "NoTie"))
 Qt:mg "NoSuch" = aa (.ref (Tb.cl "NoSuch"))
 Qu:mg "NoNet" = aa (.ref (Tb.cl "NoNet"))
 Qv:mg "NoText" = aa (.ref (Tb.cl "NoText"))
 Qw:mg "NoRow" = aa (.ref (Tb.cl "NoRow"))
 Qx:mg "NoLabel" = aa (.ref (Tb.cl "NoLabel"))
 Qy:mg "ValueError" = ac
end
section
variable{P:bt}{w:a9}{K:aI}{mg:Str->Option ah}{base:aL}[Tb:bY]
structure vj(K:aI):Prop where
 Qz:∀x k,(λc=>([("NoName",true),("Twice",true)]:List (String×Bool)).lookup c) x=aa k->iq K (Tb.cl x)/\eO K (.ref (Tb.cl x)) (.type "ValueError")=aa k
 QA:∀x k,(λc=>([("NoName",false),("Twice",false)]:List (String×Bool)).lookup c) x=aa k->iq K (Tb.cl x)/\eO K (.ref (Tb.cl x)) (.ref (Tb.cl "WrongSize"))=aa k
 QB:∀x k,(λc=>([("NoName",false),("Twice",true)]:List (String×Bool)).lookup c) x=aa k->iq K (Tb.cl x)/\eO K (.ref (Tb.cl x)) (.ref (Tb.cl "Twice"))=aa k
 QC:∀x k,(λc=>([("NoName",false),("Twice",false)]:List (String×Bool)).lookup c) x=aa k->iq K (Tb.cl x)/\eO K (.ref (Tb.cl x)) (.ref (Tb.cl "Ring"))=aa k
 QD:∀x k,(λc=>([("NoName",false),("Twice",false)]:List (String×Bool)).lookup c) x=aa k->iq K (Tb.cl x)/\eO K (.ref (Tb.cl x)) (.ref (Tb.cl "NoWord"))=aa k
 QE:∀x k,(λc=>([("NoName",true),("Twice",false)]:List (String×Bool)).lookup c) x=aa k->iq K (Tb.cl x)/\eO K (.ref (Tb.cl x)) (.ref (Tb.cl "NoName"))=aa k
 QF:∀x k,(λc=>([("NoName",false),("Twice",false)]:List (String×Bool)).lookup c) x=aa k->iq K (Tb.cl x)/\mq K (.ref (Tb.cl x)) (([Tb.cl "NoRow",Tb.cl "NoSuch",Tb.cl "NoText",Tb.cl "NoTie",Tb.cl "Unlike"]:List ag).map .ref)=aa k
 QG:∀x k,(λc=>([("NoName",false),("Twice",false)]:List (String×Bool)).lookup c) x=aa k->iq K (Tb.cl x)/\mq K (.ref (Tb.cl x)) (([Tb.cl "Locked",Tb.cl "NoArrow",Tb.cl "NoLabel",Tb.cl "NoNet"]:List ag).map .ref)=aa k
 QH:∀C,(∃c∈(["NoName","Twice"]:List String),C=Tb.cl c)->vK K (.ref C) (.ref (Tb.cl "ArrowError"))=aa true
abbrev t7:bq:=top 22
theorem xq:bZ ["names","asked","name"] ["names","asked"] (bA t7):=cZ
theorem Pq{f:ag}{fd:bD}(F:bP K "refuse_strangers" "refuse_strangers" t7 f fd)(T:Txt mg):bJ P w K mg base aR 1 f fd ["names","asked"] (aP iS):=
 gY (Mo []) F xq (λcdv A outer s H E hr nd hu bB=>by
  exact⟨_,(a6 (gX hO rfl (f7 (pv 1)) (pG 2)
 (a6 (cQ (cO (rA bB) (pv 2) (pv 0) rfl)
 (a6 ig)
 cX)))),
  (iU (K:=K) (tg:=(.n 2)) (ly (bE 1)) (by decide)
 (c8 (cM (AE.p (am qD (ao 2) (ao 0))))
 ir
 cV))⟩)
theorem PM{f:ag}{fd:bD}(F:bP K "refuse_strangers" "refuse_strangers" t7 f fd)(T:Txt mg)(O:Own mg base)   : bJ P w K mg base (ce P w) 1 f fd ["names","asked"] (et Tb.cl kz):=
 F.mn xq (λvs H Q E h=>l7 h) (λcdv A outer s H vs Q E hr h=>by
  have nd:=xq.nd;have hu:=jw hr;have bB:=hr.units;exact⟨_,(a6 (gX Cv rfl (f7 (pv 1)) (pG 2)
 (a6 (cQ (cO (rA bB) (pv 2) (pv 0) rfl)
 (a6 (Co Hb O.Qh (CN (tX (Bv (pv 2)) (tX (Ee (by decide +kernel)) GI)) (by decide)) rfl))
 cX)))),
  _root_.A.ml (N:=["names","asked","name"]) (M:=Mo []) (EN (K:=K) (tg:=(.n 2)) (ly (bE 1)) (by decide)
 (Dn (cM (AE.p (am qD (ao 2) (ao 0))))
 (Ei (vv (CU 2 rfl) (vv Gx Go)))
 (gf cV))) (by decide) h⟩)
abbrev u7:bq:=top 23
theorem xz:bZ ["asked","stood","name"] ["asked"] (bA u7):=cZ
theorem O0{f:ag}{fd:bD}(F:bP K "refuse_repeats" "refuse_repeats" u7 f fd)(T:Txt mg):bJ P w K mg base aR 1 f fd ["asked"] (aP qM):=
 gY (Mo [1]) F xz (λcdv A outer s H E hr nd hu bB=>by
  exact⟨_,(aM (pS 1 BJ)
 (a6 (gX hO rfl (f7 (pv 0)) (pG 2)
 (aM (cQ (qp (w6 hu (pv 2) (pv 1)) rfl)
 (a6 ig)
 cX)
 (a6 (qY hu (pv 1) (pv 2) jn rfl)))))),
  (aX (vn 1 rfl Ea)
 (iU (K:=K) (tg:=(.n 2)) (ly (bE 0)) (by decide)
 (aX (c8 (gi (AE.p (y6 1 (bE 2))))
 ir
 cV)
 (qK 1 rfl (bE 2) jo))))⟩)
theorem Lf{f:ag}{fd:bD}(F:bP K "refuse_repeats" "refuse_repeats" u7 f fd)(T:Txt mg)(O:Own mg base)   : bJ P w K mg base (ce P w) 1 f fd ["asked"] (et Tb.cl nh):=
 F.mn xz (λvs H Q E h=>l7 h) (λcdv A outer s H vs Q E hr h=>by
  have nd:=xz.nd;have hu:=jw hr;have bB:=hr.units;exact⟨_,(aM (pS 1 BJ)
 (a6 (gX Cv rfl (f7 (pv 0)) (pG 2)
 (aM (cQ (qp (w6 hu (pv 2) (pv 1)) rfl)
 (a6 (Co Hb O.Qg (CN (tX (Bv (pv 2)) (tX (Ee (by decide +kernel)) GI)) (by decide)) rfl))
 cX)
 (a6 (qY hu (pv 1) (pv 2) jn rfl)))))),
  _root_.A.ml (N:=["asked","stood","name"]) (M:=Mo [1]) (fS (gf (vn 1 rfl Ea))
 (EN (K:=K) (tg:=(.n 2)) (ly (bE 0)) (by decide)
 (fS (Dn (gi (AE.p (y6 1 (bE 2))))
 (Ei (vv (CU 2 rfl) (vv Gx Go)))
 (gf cV))
 (gf (qK 1 rfl (bE 2) jo))))) (by decide) h⟩)
abbrev uc:bq:=top 24
theorem yv:bZ ["names","asked"] ["names","asked"] (bA uc):=cZ
theorem NF{f:ag}{fd:bD}(F:bP K "refuse_wrong_asks" "refuse_wrong_asks" uc f fd)(T:Txt mg)(jH:bN P w K mg base aR 1 "refuse_strangers" ["names","asked"] (aP iS))(Al:bN P w K mg base aR 1 "refuse_repeats" ["asked"] (aP qM)):bJ P w K mg base aR 2 f fd ["names","asked"] (aP qZ):=
 gY (Mo []) F yv (λcdv A outer s H E hr nd hu bB=>by
  exact⟨_,(aM (dr (pC jH hr (ap (pv 0) (bi 1))))
 (a6 (dr (pC Al hr (bi 1))))),
  (aX (pq (AE.p (eh (aH (bp 0) (aH (bp 1) bI)))))
 (pq (AE.p (eh (aH (bp 1) bI)))))⟩)
theorem NL{f:ag}{fd:bD}(F:bP K "refuse_wrong_asks" "refuse_wrong_asks" uc f fd)(T:Txt mg)(O:Own mg base)  (nX:bN P w K mg base (ce P w) 1 "refuse_strangers" ["names","asked"] (et Tb.cl kz))(qh:bN P w K mg base (ce P w) 1 "refuse_repeats" ["asked"] (et Tb.cl nh)):bJ P w K mg base (ce P w) 2 f fd ["names","asked"] (et Tb.cl jQ):=
 F.mn yv (λvs H Q E h=>l7 h) (λcdv A outer s H vs Q E hr h=>by
  have nd:=yv.nd;have hu:=jw hr;have bB:=hr.units;have wI:=hr.mono (show 1<=_ by decide);have Am:=hr.mono (show 1<=_ by decide);exact⟨_,(aM (dr (iZ nX wI rfl k7 (ap (pv 0) (bi 1))))
 (a6 (dr (iZ qh Am rfl k7 (bi 1))))),
  _root_.A.ml (N:=["names","asked"]) (M:=Mo []) (fS (lJ (aH (bp 0) (aH (bp 1) bI)))
 (lJ (aH (bp 1) bI))) (by decide) h⟩)
abbrev yV:bq:=top 25
theorem Km:bZ ["names","steps","name","found","waiting","here","start","end"] ["names","steps","name"] (bA yV):=cZ
theorem Ni{f:ag}{fd:bD}(F:bP K "names_along" "names_along" yV f fd)(T:Txt mg):bJ P w K mg base aR 1 f fd ["names","steps","name"] (cD rN):=
 okN (Mo [3,4]) F Km (λcdv A outer s H E hr nd hu bB=>by
  exact⟨_,(aM (o0 (i:=3) nd rfl (kj rfl) (Zp.KJ (pv 2) jn))
 (aM (pS 4 (cy (bi 2)))
 (aM (Fq hO (nZ (pv 4) (by intro _;rfl))
 (aM (pS 5 (zo fg sU sV NA (pv 4)))
 (a6 (gX hO rfl (f7 (pv 1)) (rO rfl (iN (pG 6) (iN (pG 7) oE)))
 (a6 (cQ (PW.pt (pw_and (cO (gA bB) (pv 6) (pv 5) (dA _)) (pw_and1 (qp (Gq hu (pv 7) (pv 3)) rfl))))
 (aM (qY hu (pv 3) (pv 7) jn rfl)
 (a6 (dr (fb fg g9 hG gT (pv 4) (bi 7)))))
 cX))))))
 (a6 (cJ (iA (N':=["found","each"]) (ρ:=[aa 3,ac]) rfl (fc.of rfl (by kernel_rfl)) (f7 (pv 0)) (λ_ _ _ _ _=>(fE (i:=1) lv rfl (ee rfl))) (ia rfl) (λ_ _ _ _ _=>(n9 (qp (w6 hu (pv 1) (pv 0)) rfl))) (λ_ _ _ _ _=>(pv 1)))))))),
  (aX (vn 3 rfl (Zp.Oj (bE 2) jo))
 (aX (lK 4 rfl (cz (aU (bE 2) bh)))
 (aX (Du 20 (mX (ao 4))
 (aX (MD 5 4 rfl rfl)
 (iU (K:=K) (tg:=(.t [6,7])) (ly (bE 1)) (by decide)
 (c8 (tW (cM (AE.p (am gD (ao 6) (ao 5)))) (gi (AE.p (ED 3 (bE 7)))))
 (aX (qK 3 rfl (bE 7) jo)
 (iw 4 rfl (bE 7)))
 cV))))
 (ip (AE.w (gy (K:=K) (tg:=(.n 1)) (l9 (ao 0)) (by decide) (gi (AE.p (y6 0 (bE 1)))) (bE 1)))))))⟩)
abbrev yl:bq:=top 21
theorem Nr:bZ ["net","name"] ["net","name"] (bA yl):=cZ
theorem LX{f:ag}{fd:bD}(F:bP K "names_below" "names_below" yl f fd)(T:Txt mg)(jH:bN P w K mg base aR 1 "refuse_strangers" ["names","asked"] (aP iS))(An:bN P w K mg base aR 1 "names_along" ["names","steps","name"] (cD rN)):bJ P w K mg base aR 2 f fd ["net","name"] (cD rn):=
 okN (Mo []) F Nr (λcdv A outer s H E hr nd hu bB=>by
  exact⟨_,(aM (dr (pC jH hr (ap (pX (pv 0) aB) (ap (cy (bi 1)) aS))))
 (a6 (cJ (pC An hr (ap (pX (pv 0) aB) (ap (pX (pv 0) aB) (bi 1))))))),
  (aX (pq (AE.p (eh (aH (AE.w (am bc (ao 0) (AE.p aC))) (aH (AW.nv (AE.w (cz (aU (bE 1) bh)))) bI)))))
 (ip (AE.w (gj (aH (AE.w (am bc (ao 0) (AE.p aC))) (aH (AE.w (am bc (ao 0) (AE.p aC))) (aH (bp 1) bI)))))))⟩)
abbrev yh:bq:=top 32
theorem Jt:bZ ["net","name","held"] ["net","name","held"] (bA yh):=cZ
theorem NX{f:ag}{fd:bD}(F:bP K "has_held_below" "has_held_below" yh f fd)(T:Txt mg)(Ao:bN P w K mg base aR 2 "names_below" ["net","name"] (cD rn)):bJ P w K mg base aR 3 f fd ["net","name","held"] (aP oP):=
 gY (Mo []) F Jt (λcdv A outer s H E hr nd hu bB=>by
  exact⟨_,(a6 (cJ (dN (K8 rfl) rfl T.yg boot_any (ap (iA (N':=["held","below"]) (ρ:=[aa 2,ac]) rfl (fc.of rfl (by kernel_rfl)) (f7 (pC Ao hr (ap (pv 0) (bi 1)))) (λ_ _ _ _ _=>(fE (i:=1) lv rfl (ee rfl))) (ia rfl) (λ_ _ _ _ _=>kN) (λ_ _ _ _ _=>(vh (tP bB) (pv 1) (pv 0) rfl))) aS)))),
  (fP (AE.w (dc yg (aU (AE.np (gy (K:=K) (tg:=(.n 1)) (l9 (AE.np (gj (aH (bp 0) (aH (bp 1) bI))))) (by decide) kF (am vE (ao 1) (ao 0)))) bh))))⟩)
abbrev x8:bq:=top 19
theorem MN:bZ ["net","name"] ["net","name"] (bA x8):=cZ
theorem La{f:ag}{fd:bD}(F:bP K "heirs_of" "heirs_of" x8 f fd)(T:Txt mg)(jH:bN P w K mg base aR 1 "refuse_strangers" ["names","asked"] (aP iS)):bJ P w K mg base aR 2 f fd ["net","name"] (aP rJ):=
 gY (Mo []) F MN (λcdv A outer s H E hr nd hu bB=>by
  exact⟨_,(aM (dr (pC jH hr (ap (pX (pv 0) aB) (ap (cy (bi 1)) aS))))
 (a6 (cJ (iM ul rfl T.lb wB (ap (iA (N':=["name","tail","head"]) (ρ:=[aa 1,ac,ac]) rfl (fc.of rfl (by kernel_rfl)) (f7 (pX (pv 0) aB)) (λ_ _ _ _ _=>(rO rfl (iN (fE (i:=1) (by show(["name","tail","head"]:List Str).Nodup;decide +kernel) rfl (ee rfl)) (iN (fE (i:=2) (by show(["name","tail","head"]:List Str).Nodup;decide +kernel) rfl (ee rfl)) oE)))) (Cq (tF rfl (tF rfl EF vm) (BB vm))) (λ_ _ _ _ _=>(n9 (cO (gA bB) (pv 1) (pv 0) (dA _)))) (λ_ _ _ _ _=>(pv 2))) aS))))),
  (aX (pq (AE.p (eh (aH (AE.w (am bc (ao 0) (AE.p aC))) (aH (AW.nv (AE.w (cz (aU (bE 1) bh)))) bI)))))
 (fP (AE.w (dc lb (aU (AE.np (gy (K:=K) (tg:=(.t [1,2])) (l9 (AE.p (am bc (ao 0) (AE.p aC)))) (by decide) (cM (AE.p (am gD (ao 1) (ao 0)))) (bE 2))) bh)))))⟩)
abbrev yD:bq:=top 40
theorem Ks:bZ ["net","name"] ["net","name"] (bA yD):=cZ
theorem LO{f:ag}{fd:bD}(F:bP K "heir_spots" "heir_spots" yD f fd)(T:Txt mg)(Ap:bN P w K mg base aR 2 "heirs_of" ["net","name"] (aP rJ)):bJ P w K mg base aR 3 f fd ["net","name"] (cD lF):=
 okN (Mo []) F Ks (λcdv A outer s H E hr nd hu bB=>by
  exact⟨_,(a6 (cJ (iA (N':=["heir"]) (ρ:=[ac]) rfl (fc.of rfl (by kernel_rfl)) (f7 (pC Ap hr (ap (pv 0) (bi 1)))) (λ_ _ _ _ _=>(fE (i:=0) l5 rfl (ee rfl))) (ia rfl) (λ_ _ _ _ _=>kN) (λ_ _ _ _ _=>(l0 (ap (pv 0) (ap jn aS))))))),
  (ip (AE.w (gy (K:=K) (tg:=(.n 0)) (l9 (AE.p (eh (aH (bp 0) (aH (bp 1) bI))))) (by decide) kF (oh (aU (bE 0) (aU jo bh))))))⟩)
abbrev zf:bq:=top 18
theorem Ng:bZ ["net","name"] ["net","name"] (bA zf):=cZ
theorem NK{f:ag}{fd:bD}(F:bP K "elders_of" "elders_of" zf f fd)(T:Txt mg)(jH:bN P w K mg base aR 1 "refuse_strangers" ["names","asked"] (aP iS)):bJ P w K mg base aR 2 f fd ["net","name"] (aP qW):=
 gY (Mo []) F Ng (λcdv A outer s H E hr nd hu bB=>by
  exact⟨_,(aM (dr (pC jH hr (ap (pX (pv 0) aB) (ap (cy (bi 1)) aS))))
 (a6 (cJ (iM ul rfl T.lb wB (ap (iA (N':=["name","tail","head"]) (ρ:=[aa 1,ac,ac]) rfl (fc.of rfl (by kernel_rfl)) (f7 (pX (pv 0) aB)) (λ_ _ _ _ _=>(rO rfl (iN (fE (i:=1) (by show(["name","tail","head"]:List Str).Nodup;decide +kernel) rfl (ee rfl)) (iN (fE (i:=2) (by show(["name","tail","head"]:List Str).Nodup;decide +kernel) rfl (ee rfl)) oE)))) (Cq (tF rfl (tF rfl EF vm) (BB vm))) (λ_ _ _ _ _=>(n9 (cO (gA bB) (pv 2) (pv 0) (dA _)))) (λ_ _ _ _ _=>(pv 1))) aS))))),
  (aX (pq (AE.p (eh (aH (AE.w (am bc (ao 0) (AE.p aC))) (aH (AW.nv (AE.w (cz (aU (bE 1) bh)))) bI)))))
 (fP (AE.w (dc lb (aU (AE.np (gy (K:=K) (tg:=(.t [1,2])) (l9 (AE.p (am bc (ao 0) (AE.p aC)))) (by decide) (cM (AE.p (am gD (ao 2) (ao 0)))) (bE 1))) bh)))))⟩)
abbrev xY:bq:=top 41
theorem MB:bZ ["net","name"] ["net","name"] (bA xY):=cZ
theorem JY{f:ag}{fd:bD}(F:bP K "elder_spots" "elder_spots" xY f fd)(T:Txt mg)(Aq:bN P w K mg base aR 2 "elders_of" ["net","name"] (aP qW)):bJ P w K mg base aR 3 f fd ["net","name"] (cD lM):=
 okN (Mo []) F MB (λcdv A outer s H E hr nd hu bB=>by
  exact⟨_,(a6 (cJ (iA (N':=["elder"]) (ρ:=[ac]) rfl (fc.of rfl (by kernel_rfl)) (f7 (pC Aq hr (ap (pv 0) (bi 1)))) (λ_ _ _ _ _=>(fE (i:=0) l5 rfl (ee rfl))) (ia rfl) (λ_ _ _ _ _=>kN) (λ_ _ _ _ _=>(l0 (ap (pv 0) (ap jn aS))))))),
  (ip (AE.w (gy (K:=K) (tg:=(.n 0)) (l9 (AE.p (eh (aH (bp 0) (aH (bp 1) bI))))) (by decide) kF (oh (aU (bE 0) (aU jo bh))))))⟩)
abbrev wU:bq:=top 39
theorem M9:bZ ["net","spot","held","name","came_down","passes","goes_up","downs","ups"] ["net","spot","held"] (bA wU):=cZ
theorem NP{f:ag}{fd:bD}(F:bP K "spots_from" "spots_from" wU f fd)(T:Txt mg)(As:bN P w K mg base aR 3 "has_held_below" ["net","name","held"] (aP oP))(qi:bN P w K mg base aR 3 "heir_spots" ["net","name"] (cD lF))(qj:bN P w K mg base aR 3 "elder_spots" ["net","name"] (cD lM)):bJ P w K mg base aR 4 f fd ["net","spot","held"] (aP oG):=
 gY (Mo []) F M9 (λcdv A outer s H E hr nd hu bB=>by
  exact⟨_,(aM (xC (pv 1) (rO rfl (iN (pG 3) (iN (pG 4) oE))))
 (aM (pS 5 (vh (rA bB) (pv 3) (pv 2) rfl))
 (aM (pS 6 (xQ (nZ (pv 4) (by intro _;rfl)) (pC As hr (ap (pv 0) (ap (pv 3) (bi 2)))) (pv 5)))
 (aM (pS 7 (xQ (nZ (pv 5) (by intro _;rfl)) (pC qi hr (ap (pv 0) (bi 3))) (cy aS)))
 (aM (pS 8 (xQ (nZ (pv 6) (by intro _;rfl)) (pC qj hr (ap (pv 0) (bi 3))) (cy aS)))
 (a6 (cJ (aG cq (pv 7) (pv 8))))))))),
  (aX (Jw (K:=K) (.t [3,4]) (by decide) (bE 1))
 (aX (bS 5 rfl (am qD (ao 3) (ao 2)))
 (aX (bS 6 rfl (yR (mX (ao 4)) (eh (aH (bp 0) (aH (bp 3) (aH (bp 2) bI)))) (bE 5)))
 (aX (bS 7 rfl (yR (mX (ao 5)) (AE.nv (gj (aH (bp 0) (aH (bp 3) bI)))) (AE.nv (cz bh))))
 (aX (bS 8 rfl (yR (mX (ao 6)) (AE.nv (gj (aH (bp 0) (aH (bp 3) bI)))) (AE.nv (cz bh))))
 (fP (AE.w (am cr (ao 7) (ao 8)))))))))⟩)
abbrev zt:bq:=top 38
theorem Gg:bZ ["starts","onward","before","waiting","spot","here"] ["starts","onward"] (bA zt):=cZ
theorem J8{f:ag}{fd:bD}(F:bP K "spots_walked" "spots_walked" zt f fd)(T:Txt mg):sB P w K mg base 6 f fd ["starts","onward"] 5 (tZ uz) (λκ=>cD (ui κ)):=
 L8 F Gg (λκ vs H Q E h=>uX h) (λcdv A outer s H vs Q κ us hr L kp h=>by
  have nd:=Gg.nd;have hu:=jw hr;have bB:=hr.units;exact⟨_,(aM (pS 2 Lq)
 (aM (pS 3 (cy aS))
 (aM (gX hO rfl (f7 (pv 0)) (pG 4)
 (aM (qY hu (pv 2) (pv 4) NV rfl)
 (a6 (dr (fb fg g9 hG gT (pv 3) (bi 4))))))
 (aM (Fq hO (nZ (pv 3) (by intro _;rfl))
 (aM (pS 5 (fb fg sU sV uU (pv 3) (ap aB aS)))
 (a6 (gX hO rfl (f7 (K1 L kp rfl (hr.mono (by decide)) (pv 1) (pv 5))) (pG 4)
 (a6 (cQ (qp (Gq hu (pv 4) (pv 2)) rfl)
 (aM (qY hu (pv 2) (pv 4) (pv 5) rfl)
 (a6 (dr (fb fg g9 hG gT (pv 3) (bi 4)))))
 cX))))))
 (a6 (cJ (pv 2))))))),
  _root_.A.runN (N:=["starts","onward","before","waiting","spot","here"]) (M:=Mo [2,3]) (aX (vn 2 rfl Pj)
 (aX (lK 3 rfl (cz bh))
 (aX (iU (K:=K) (tg:=(.n 4)) (ly (bE 0)) (by decide)
 (aX (qK 2 rfl (bE 4) Px)
 (iw 3 rfl (bE 4))))
 (aX (Du 40 (mX (ao 3))
 (aX (yo 5 3 rfl rfl (AE.p aC))
 (iU (K:=K) (tg:=(.n 4)) (ly (JQ rfl (bE 5))) (by decide)
 (c8 (gi (AE.p (ED 2 (bE 4))))
 (aX (qK 2 rfl (bE 4) (bE 5))
 (iw 3 rfl (bE 4)))
 cV))))
 (t8 2 rfl))))) (by decide) h⟩)
abbrev zp:bq:=top 37
theorem Gy:bZ ["net","one","held","starts"] ["net","one","held"] (bA zp):=cZ
theorem NB{f:ag}{fd:bD}{cc TT:ag}(F:r6 K "spots_before" "spots_before" zp cc f fd)(T:Txt mg)(hB:BM mg base)(hC:i5 base cc TT)(hTb:(TT,um "spots_before")∈Tb.l)(At:yT P w K mg base 6 "spots_walked" ["starts","onward"] 5 (tZ uz) (λκ=>cD (ui κ)))(Au:bN P w K mg base aR 4 "spots_from" ["net","spot","held"] (aP oG))(qi:bN P w K mg base aR 3 "heir_spots" ["net","name"] (cD lF))(qj:bN P w K mg base aR 3 "elder_spots" ["net","name"] (cD lM)):bJ P w K mg base aR 10 f fd ["net","one","held"] (cD kO):=
 F.ok Gy (λvs H Q E h=>uX h) (λA outer s H vs Q E hr h=>by
  have nd:=Gy.nd;have hu:=jw hr;have bB:=hr.units;have QI:=hr.mono (show 6<=_ by decide);have HN:=hr.mono (show 4<=_ by decide);exact⟨_,(aM (pS 3 (aG cq (pC qi hr (ap (pv 0) (bi 1))) (pC qj hr (ap (pv 0) (bi 1)))))
 (a6 (cJ (NU (lx := "spot") (ρ:=[0,2]) (ys:=["net","held"]) (kl:=4) (qual:=um "spots_before") At QI rfl (pv 3) rfl hC hB rfl rfl rfl (λ_=>rfl) (oA.of rfl rfl rfl rfl (by decide +kernel) (Jb rfl rfl) (by kernel_rfl) rfl (by kernel_rfl)) (λpm c' ctv u=>rfl) (λA f c' s H env outer hrl he=>by subst he;have HN:=hrl.mono (show 4<=_ by decide);exact(iZ Au HN rfl uV (ap (pv 1) (ap (pv 0) (bi 2))))) (MC (eh (aH (bp 1) (aH (bp 0) (aH (bp 2) bI))))))))),
  _root_.A.runN (N:=["net","one","held","starts"]) (M:=Mo []) (aX (bS 3 rfl (am cr (AE.np (gj (aH (bp 0) (aH (bp 1) bI)))) (AE.np (gj (aH (bp 0) (aH (bp 1) bI))))))
 (ip (Lz (by decide) hTb KU (ao 3)))) (by decide) h⟩)
abbrev zy:bq:=top 42
theorem JH:bZ ["name","before"] ["name","before"] (bA zy):=cZ
theorem NI{f:ag}{fd:bD}(F:bP K "spots_of" "spots_of" zy f fd)(T:Txt mg):bJ P w K mg base aR 1 f fd ["name","before"] (cD lG):=
 okN (Mo []) F JH (λcdv A outer s H E hr nd hu bB=>by
  exact⟨_,(a6 (cJ (iA (N':=["name","spot"]) (ρ:=[aa 0,ac]) rfl (fc.of rfl (by kernel_rfl)) (Mu (pv 1)) (λ_ _ _ _ _=>(fE (i:=1) lv rfl (ee rfl))) (ia rfl) (λ_ _ _ _ _=>(n9 (cO (gA bB) (pX (pv 1) aB) (pv 0) (dA _)))) (λ_ _ _ _ _=>(pv 1))))),
  (ip (AE.w (gy (K:=K) (tg:=(.n 1)) (gv.c (Mq 1 rfl)) (by decide) (cM (AE.p (am gD (AE.p (am bc (ao 1) (AE.p aC))) (ao 0)))) (bE 1))))⟩)
abbrev uZ:bq:=top 34
theorem yi:bZ ["net","one","other","held"] ["net","one","other","held"] (bA uZ):=cZ
theorem NC{f:ag}{fd:bD}(F:bP K "are_parted" "are_parted" uZ f fd)(T:Txt mg)(Av:bN P w K mg base aR 2 "refuse_wrong_asks" ["names","asked"] (aP qZ))(qk:bN P w K mg base aR 10 "spots_before" ["net","one","held"] (cD kO))(ql:bN P w K mg base aR 1 "spots_of" ["name","before"] (cD lG)):bJ P w K mg base aR 11 f fd ["net","one","other","held"] (aP pc):=
 gY (Mo []) F yi (λcdv A outer s H E hr nd hu bB=>by
  exact⟨_,(aM (dr (pC Av hr (ap (pX (pv 0) aB) (ap (aG cq (cy (ap (pv 1) (bi 2))) (iM li rfl T.fG lR (bi 3))) aS))))
 (a6 (cJ (Cu (pC ql hr (ap (pv 2) (ap (Dd (pC qk hr (ap (pv 0) (ap (pv 1) (bi 3))))) aS))))))),
  (aX (pq (AE.p (eh (aH (AE.w (am bc (ao 0) (AE.p aC))) (aH (AE.w (am cr (AE.np (cz (aU (bE 1) (aU (bE 2) bh)))) (AE.np (dc fG (aU (ao 3) bh))))) bI)))))
 (fP (AE.w (BF (AE.np (gj (aH (bp 2) (aH (Ch (xG (aH (bp 0) (aH (bp 1) (aH (bp 3) bI))))) bI))))))))⟩)
theorem Li{f:ag}{fd:bD}(F:bP K "are_parted" "are_parted" uZ f fd)(T:Txt mg)(O:Own mg base)(qk:bN P w K mg base aR 10 "spots_before" ["net","one","held"] (cD kO))(ql:bN P w K mg base aR 1 "spots_of" ["name","before"] (cD lG))(jI:bN P w K mg base (ce P w) 2 "refuse_wrong_asks" ["names","asked"] (et Tb.cl jQ)):bJ P w K mg base (ce P w) 11 f fd ["net","one","other","held"] (et Tb.cl pD):=
 F.mn yi (λvs H Q E h=>l7 h) (λcdv A outer s H vs Q E hr h=>by
  have nd:=yi.nd;have hu:=jw hr;have bB:=hr.units;have nY:=hr.mono (show 2<=_ by decide);have QJ:=hr.mono (show 10<=_ by decide);have QK:=hr.mono (show 1<=_ by decide);exact⟨_,(aM (dr (iZ jI nY rfl k7 (ap (pX (pv 0) aB) (ap (aG cq (cy (ap (pv 1) (bi 2))) (iM li rfl T.fG lR (bi 3))) aS))))
 (a6 (cJ (Cu (iZ ql QK rfl uV (ap (pv 2) (ap (Dd (iZ qk QJ rfl uV (ap (pv 0) (ap (pv 1) (bi 3))))) aS))))))),
  _root_.A.ml (N:=["net","one","other","held"]) (M:=Mo []) (fS (lJ (aH (AE.w (am bc (ao 0) (AE.p aC))) (aH (AE.w (am cr (AE.np (cz (aU (bE 1) (aU (bE 2) bh)))) (AE.np (dc fG (aU (ao 3) bh))))) bI)))
 (gf (fP (AE.w (BF (AE.np (gj (aH (bp 2) (aH (Ch (xG (aH (bp 0) (aH (bp 1) (aH (bp 3) bI))))) bI))))))))) (by decide) h⟩)
abbrev za:bq:=top 46
theorem MF:bZ ["_law_script","_law_k","_law_spare"] ["_law_script","_law_k"] (bA za):=cZ
theorem Jy{f:ag}{fd:bD}(F:bP K "_law_cell" "_law_cell" za f fd)(T:Txt mg):bJ P w K mg base aR 1 f fd ["_law_script","_law_k"] (aP fi):=
 gY (Mo []) F MF (λcdv A outer s H E hr nd hu bB=>by
  exact⟨_,(aM (cQ (cO og (pv 1) (dN ic rfl T.dD iB (bi 0)) (dA _))
 (a6 (cJ (pX (pv 0) (pv 1))))
 cX)
 (aM (pS 2 (aG cq aB (aG fU (aG fU aB (pv 1)) (pv 1))))
 (aM (cQ (cO yL (dN ic rfl T.dD iB (bi 0)) aB (dA _))
 (a6 (pS 2 (aG cq (pv 2) (aG fU (aG cj (pX (pv 0) aB) aB) (aG cq (aG cq (aG fU (pv 1) (pv 1)) (aG fU aB (pv 1))) aB)))))
 cX)
 (a6 (cJ (pv 2)))))),
  (aX (c8 (cM (AE.p (am pj (ao 1) (AE.p (dc dD (aU (ao 0) bh))))))
 (fP (AE.w (am bc (ao 0) (ao 1))))
 cV)
 (aX (bS 2 rfl (am cr (AE.p aC) (AE.p (am fO (AE.p (am fO (AE.p aC) (ao 1))) (ao 1)))))
 (aX (c8 (cM (AE.p (am zv (AE.p (dc dD (aU (ao 0) bh))) (AE.p aC))))
 (bS 2 rfl (am cr (ao 2) (AE.p (am fO (AE.p (am cg (AE.p (am bc (ao 0) (AE.p aC))) (AE.p aC))) (AE.p (am cr (AE.p (am cr (AE.p (am fO (ao 1) (ao 1))) (AE.p (am fO (AE.p aC) (ao 1))))) (AE.p aC)))))))
 cV)
 (fP (bp 2)))))⟩)
abbrev yz:bq:=top 47
theorem Jj:bZ ["_law_cell_here","_law_many","_law_letters","_law_long","_law_size","_law_stem","_law_at"] ["_law_cell_here","_law_many"] (bA yz):=cZ
theorem LC{f:ag}{fd:bD}(F:bP K "_law_words" "_law_words" yz f fd)(T:Txt mg):bJ P w K mg base aR 1 f fd ["_law_cell_here","_law_many"] (cD qy):=
 okN (Mo []) F Jj (λcdv A outer s H E hr nd hu bB=>by
  exact⟨_,(aM (o0 (i:=2) nd rfl (kj rfl) gp)
 (aM (cQ (cO og (aG cj (pv 0) aB) aB (dA _))
 (aM (o0 (i:=3) nd rfl (kj rfl) (fb z9 Hf Hg Ej gp (ap (iA (N':=["_law_letters","_law_cell_here","_law_k"]) (ρ:=[aa 2,aa 0,ac]) rfl (fc.of rfl (by kernel_rfl)) (jg rfl T.jG (ap aB aS)) (λ_ _ _ _ _=>(fE (i:=2) (by show(["_law_letters","_law_cell_here","_law_k"]:List Str).Nodup;decide +kernel) rfl (ee rfl))) (ia rfl) (λ_ _ _ _ _=>kN) (λ_ _ _ _ _=>(pX (pv 0) (aG cj (aG d3 (pv 1) (aG cq aB (aG fU aB (pv 2)))) aB)))) aS)))
 (aM (cQ (cO (gA bB) (aG cj (pv 0) aB) aB (dA _))
 (a6 (cJ (iA (N':=["_law_long","_law_k"]) (ρ:=[aa 3,ac]) rfl (fc.of rfl (by kernel_rfl)) (jg rfl T.jG (bi 1)) (λ_ _ _ _ _=>(fE (i:=1) lv rfl (ee rfl))) (ia rfl) (λ_ _ _ _ _=>kN) (λ_ _ _ _ _=>(je jr (pv 0) jU (iV (aG cq (pv 1) aB)))))))
 cX)
 (a6 (cJ (iA (N':=["_law_long","_law_k"]) (ρ:=[aa 3,ac]) rfl (fc.of rfl (by kernel_rfl)) (jg rfl T.jG (bi 1)) (λ_ _ _ _ _=>(fE (i:=1) lv rfl (ee rfl))) (ia rfl) (λ_ _ _ _ _=>kN) (λ_ _ _ _ _=>(je jr (pv 0) (iV (aG vC aB (pv 1))) jU)))))))
 cX)
 (aM (pS 4 (aG cj (aG d3 (pv 0) aB) aB))
 (aM (o0 (i:=5) nd rfl (kj rfl) (fb z9 Hf Hg Ej gp (ap (iA (N':=["_law_letters","_law_cell_here","_law_k"]) (ρ:=[aa 2,aa 0,ac]) rfl (fc.of rfl (by kernel_rfl)) (jg rfl T.jG (bi 4)) (λ_ _ _ _ _=>(fE (i:=2) (by show(["_law_letters","_law_cell_here","_law_k"]:List Str).Nodup;decide +kernel) rfl (ee rfl))) (ia rfl) (λ_ _ _ _ _=>kN) (λ_ _ _ _ _=>(pX (pv 0) (aG cj (aG cq (aG cq (aG d3 (pv 1) aB) (aG fU aB (pv 2))) (aG fU (pv 2) (pv 2))) aB)))) aS)))
 (aM (o0 (i:=6) nd rfl (kj rfl) (aG cj (aG d3 (pv 0) aB) (aG cq (pv 4) aB)))
 (a6 (cJ (iA (N':=["_law_stem","_law_letters","_law_at","_law_cell_here","_law_k"]) (ρ:=[aa 5,aa 2,aa 6,aa 0,ac]) rfl (fc.of rfl (by kernel_rfl)) (jg rfl T.jG (bi 1)) (λ_ _ _ _ _=>(fE (i:=4) (by show(["_law_stem","_law_letters","_law_at","_law_cell_here","_law_k"]:List Str).Nodup;decide +kernel) rfl (ee rfl))) (ia rfl) (λ_ _ _ _ _=>kN) (λ_ _ _ _ _=>(aG cq (aG cq (je jr (pv 0) jU (iV (pv 2))) (pX (pv 1) (aG cj (aG cq (aG d3 (pv 3) aB) (aG fU aB (pv 4))) aB))) (je jr (pv 0) (iV (pv 2)) jU))))))))))),
  (aX (bS 2 rfl gQ)
 (aX (c8 (cM (AE.p (am pj (AE.p (am cg (ao 0) (AE.p aC))) (AE.p aC))))
 (aX (bS 3 rfl (Dh (AE.p gQ) (AE.np (gy (K:=K) (tg:=(.n 2)) (gv.c (jt (AE.p aC))) (by decide) kF (am bc (ao 0) (AE.p (am cg (AE.p (am d5 (ao 1) (AE.p (am cr (AE.p aC) (AE.p (am fO (AE.p aC) (ao 2))))))) (AE.p aC))))))))
 (aX (c8 (cM (AE.p (am gD (AE.p (am cg (ao 0) (AE.p aC))) (AE.p aC))))
 (ip (AE.w (gy (K:=K) (tg:=(.n 1)) (gv.c (jt (ao 1))) (by decide) kF (js jd (ao 0) j3 (iW (AE.p (am cr (ao 1) (AE.p aC))))))))
 cV)
 (ip (AE.w (gy (K:=K) (tg:=(.n 1)) (gv.c (jt (ao 1))) (by decide) kF (js jd (ao 0) (iW (AE.p (am vG (AE.p aC) (ao 1)))) j3))))))
 cV)
 (aX (bS 4 rfl (am cg (AE.p (am d5 (ao 0) (AE.p aC))) (AE.p aC)))
 (aX (bS 5 rfl (Dh (AE.p gQ) (AE.np (gy (K:=K) (tg:=(.n 2)) (gv.c (jt (ao 4))) (by decide) kF (am bc (ao 0) (AE.p (am cg (AE.p (am cr (AE.p (am cr (AE.p (am d5 (ao 1) (AE.p aC))) (AE.p (am fO (AE.p aC) (ao 2))))) (AE.p (am fO (ao 2) (ao 2))))) (AE.p aC))))))))
 (aX (bS 6 rfl (am cg (AE.p (am d5 (ao 0) (AE.p aC))) (AE.p (am cr (ao 4) (AE.p aC)))))
 (ip (AE.w (gy (K:=K) (tg:=(.n 4)) (gv.c (jt (ao 1))) (by decide) kF (am cr (AE.p (am cr (AE.p (js jd (ao 0) j3 (iW (ao 2)))) (AE.p (am bc (ao 1) (AE.p (am cg (AE.p (am cr (AE.p (am d5 (ao 3) (AE.p aC))) (AE.p (am fO (AE.p aC) (ao 4))))) (AE.p aC))))))) (AE.p (js jd (ao 0) (iW (ao 2)) j3)))))))))))⟩)
abbrev x6:bq:=top 48
theorem O5:bZ ["_law_cell_here","_law_many","_law_left","_law_ranks_here","_law_draw","_law_k"] ["_law_cell_here","_law_many"] (bA x6):=cZ
theorem J3{f:ag}{fd:bD}(F:bP K "_law_ranks" "_law_ranks" x6 f fd)(T:Txt mg):bJ P w K mg base aR 1 f fd ["_law_cell_here","_law_many"] (cD rC):=
 okN (Mo [2,3]) F O5 (λcdv A outer s H E hr nd hu bB=>by
  exact⟨_,(aM (F3 (i:=2) (N':=["_law_k"]) (ρ:=[ac]) rfl nd rfl (ee rfl) (fc.of rfl (by kernel_rfl)) (jg rfl T.jG (bi 1)) (λ_ _ _ _ _=>(fE (i:=0) l5 rfl (ee rfl))) (ia rfl) (λ_ _ _ _ _=>kN) (λ_ _ _ _ _=>(pv 0)))
 (aM (pS 3 (cy aS))
 (aM (pS 4 (aG cj (pv 0) aB))
 (aM (gX hO rfl (jg rfl T.jG (bi 1)) (pG 5)
 (aM (pS 4 (aG cj (aG cq (aG cq (aG fU (pv 4) aB) (aG fU aB (pv 5))) aB) aB))
 (a6 (dr (fb fg g9 hG gT (pv 3) (ap (fb fg sU sV uU (pv 2) (ap (aG cj (aG d3 (pv 4) aB) (dN ic rfl T.dD iB (bi 2))) aS)) aS))))))
 (a6 (cJ (pv 3))))))),
  (aX (lK 2 rfl (gy (K:=K) (tg:=(.n 0)) (gv.c (jt (ao 1))) (by decide) kF (bE 0)))
 (aX (lK 3 rfl (cz bh))
 (aX (bS 4 rfl (am cg (ao 0) (AE.p aC)))
 (aX (iU (K:=K) (tg:=(.n 5)) (jt (ao 1)) (by decide)
 (aX (bS 4 rfl (am cg (AE.p (am cr (AE.p (am cr (AE.p (am fO (ao 4) (AE.p aC))) (AE.p (am fO (AE.p aC) (ao 5))))) (AE.p aC))) (AE.p aC)))
 (OS 3 2 (by decide) rfl rfl (AE.p (am cg (AE.p (am d5 (ao 4) (AE.p aC))) (AE.p (dc dD (aU (ao 2) bh))))))))
 (t8 3 rfl)))))⟩)
abbrev xA:bq:=top 49
theorem No:bZ ["_law_script","_law_most","_law_many","_law_names","_law_ranks_here","_law_thick","_law_arrows","_law_j","_law_k","_law_cell_here"] ["_law_script","_law_most"] (bA xA):=cZ
theorem Kg{f:ag}{fd:bD}(F:bP K "_law_net" "_law_net" xA f fd)(T:Txt mg)(ja:bN P w K mg base aR 1 "_law_cell" ["_law_script","_law_k"] (aP fi))(Aw:bN P w K mg base aR 1 "_law_words" ["_law_cell_here","_law_many"] (cD qy))(Ax:bN P w K mg base aR 1 "_law_ranks" ["_law_cell_here","_law_many"] (cD rC)):bJ P w K mg base aR 2 f fd ["_law_script","_law_most"] (aP rF):=
 gY (Mo [6]) F No (λcdv A outer s H E hr nd hu bB=>by
  exact⟨_,(aM (pS 2 (aG cq aB (aG cj (pC ja hr (ap (pv 0) (ap aB aS))) (pv 1))))
 (aM (pS 3 (pC Aw hr (ap (pC ja hr (ap (pv 0) (ap aB aS))) (bi 2))))
 (aM (pS 4 (pC Ax hr (ap (pC ja hr (ap (pv 0) (ap aB aS))) (bi 2))))
 (aM (pS 5 (nG mZ (cy (ap aB (ap aB (ap aB (ap aB (ap aB (ap aB aS))))))) (aG cj (pC ja hr (ap (pv 0) (ap aB aS))) aB) (λ_ _=>rfl)))
 (aM (pS 6 (cy aS))
 (aM (gX hO rfl (jg rfl T.jG (bi 2)) (pG 7)
 (a6 (gX hO rfl (jg rfl T.jG (bi 2)) (pG 8)
 (aM (pS 9 (pC ja hr (ap (pv 0) (ap (aG cq (aG cq aB (aG d3 (aG fU (dN (F8 rfl) rfl T.q8 boot_max (ap (pv 7) (bi 8))) (aG vC (dN (F8 rfl) rfl T.q8 boot_max (ap (pv 7) (bi 8))) aB)) aB)) (dN (Bt rfl) rfl T.qE boot_min (ap (pv 7) (bi 8)))) aS))))
 (a6 (cQ (PW.pt (pw_and (cO og (pX (pv 4) (pv 7)) (pX (pv 4) (pv 8)) (dA _)) (pw_and1 (cO og (aG cj (aG d3 (aG cj (aG fU (pv 9) aB) aB) aB) aB) (pv 5) (dA _)))))
 (a6 (dr (fb fg g9 hG gT (pv 6) (ap (l0 (ap (pX (pv 3) (pv 7)) (ap (pX (pv 3) (pv 8)) aS))) aS))))
 cX))))))
 (a6 (cJ (l0 (ap (iM ul rfl T.lb wB (bi 3)) (ap (iM ul rfl T.lb wB (bi 6)) aS))))))))))),
  (aX (bS 2 rfl (am cr (AE.p aC) (AE.p (am cg (AE.p (eh (aH (bp 0) (aH (AE.w aC) bI)))) (ao 1)))))
 (aX (bS 3 rfl (AE.nv (gj (aH (AE.w (eh (aH (bp 0) (aH (AE.w aC) bI)))) (aH (bp 2) bI)))))
 (aX (bS 4 rfl (AE.nv (gj (aH (AE.w (eh (aH (bp 0) (aH (AE.w aC) bI)))) (aH (bp 2) bI)))))
 (aX (bS 5 rfl (am bc (AE.np (cz (aU aC (aU aC (aU aC (aU aC (aU aC (aU aC bh)))))))) (AE.p (am cg (AE.p (eh (aH (bp 0) (aH (AE.w aC) bI)))) (AE.p aC)))))
 (aX (lK 6 rfl (cz bh))
 (aX (iU (K:=K) (tg:=(.n 7)) (jt (ao 2)) (by decide)
 (iU (K:=K) (tg:=(.n 8)) (jt (ao 2)) (by decide)
 (aX (bS 9 rfl (eh (aH (bp 0) (aH (AE.w (am cr (AE.p (am cr (AE.p aC) (AE.p (am d5 (AE.p (am fO (AE.p (dc q8 (aU (ao 7) (aU (ao 8) bh)))) (AE.p (am vG (AE.p (dc q8 (aU (ao 7) (aU (ao 8) bh)))) (AE.p aC))))) (AE.p aC))))) (AE.p (dc qE (aU (ao 7) (aU (ao 8) bh)))))) bI))))
 (c8 (tW (cM (AE.p (am pj (AE.p (am bc (ao 4) (ao 7))) (AE.p (am bc (ao 4) (ao 8)))))) (cM (AE.p (am pj (AE.p (am cg (AE.p (am d5 (AE.p (am cg (AE.p (am fO (ao 9) (AE.p aC))) (AE.p aC))) (AE.p aC))) (AE.p aC))) (ao 5)))))
 (iw 6 rfl (oh (aU (am bc (ao 3) (ao 7)) (aU (am bc (ao 3) (ao 8)) bh))))
 cV))))
 (fP (AE.w (oh (aU (dc lb (aU (ao 3) bh)) (aU (dc lb (aU (ao 6) bh)) bh)))))))))))⟩)
abbrev yO:bq:=top 50
theorem Mv:bZ ["_law_script","_law_most","_law_cell_here","_law_more","_law_first"] ["_law_script","_law_most"] (bA yO):=cZ
theorem MV{f:ag}{fd:bD}(F:bP K "_law_two" "_law_two" yO f fd)(T:Txt mg)(ja:bN P w K mg base aR 1 "_law_cell" ["_law_script","_law_k"] (aP fi))(Ay:bN P w K mg base aR 2 "_law_net" ["_law_script","_law_most"] (aP rF)):bJ P w K mg base aR 3 f fd ["_law_script","_law_most"] (aP sE):=
 gY (Mo []) F Mv (λcdv A outer s H E hr nd hu bB=>by
  exact⟨_,(aM (pS 2 (pC ja hr (ap (pv 0) (ap aB aS))))
 (aM (pS 3 (aG cj (aG d3 (pv 2) (aG vC (pv 1) aB)) (aG IS aB aB)))
 (aM (pS 4 (aG cq (aG cq aB (aG cj (pv 2) (aG vC (pv 1) aB))) (aG fU (pv 1) (pv 3))))
 (a6 (cJ (pC Ay hr (ap (aG cq (cy (bi 4)) (je jr (pv 0) (iV aB) jU)) (bi 1)))))))),
  (aX (bS 2 rfl (eh (aH (bp 0) (aH (AE.w aC) bI))))
 (aX (bS 3 rfl (am cg (AE.p (am d5 (ao 2) (AE.p (am vG (ao 1) (AE.p aC))))) (AE.p (am Ov (AE.p aC) (AE.p aC)))))
 (aX (bS 4 rfl (am cr (AE.p (am cr (AE.p aC) (AE.p (am cg (ao 2) (AE.p (am vG (ao 1) (AE.p aC))))))) (AE.p (am fO (ao 1) (ao 3)))))
 (fP (AE.w (eh (aH (AE.w (am cr (AE.np (cz (aU (bE 4) bh))) (AE.p (js jd (ao 0) (iW (AE.p aC)) j3)))) (aH (bp 1) bI))))))))⟩)
abbrev xu:bq:=top 51
theorem Pr:bZ ["_law_script","_law_many","_law_found","_law_k","_law_cell_here"] ["_law_script","_law_many"] (bA xu):=cZ
theorem MX{f:ag}{fd:bD}(F:bP K "_law_questions" "_law_questions" xu f fd)(T:Txt mg)(ja:bN P w K mg base aR 1 "_law_cell" ["_law_script","_law_k"] (aP fi)):bJ P w K mg base aR 2 f fd ["_law_script","_law_many"] (cD qw):=
 okN (Mo [2]) F Pr (λcdv A outer s H E hr nd hu bB=>by
  exact⟨_,(aM (pS 2 (cy (ap (aG cj (pC ja hr (ap (pv 0) (ap aB aS))) aB) aS)))
 (aM (gX hO rfl (OI rfl T.Qf (je jr (pv 0) (iV aB) (iV aB))) (rO rfl (iN (pG 3) (iN (pG 4) oE)))
 (a6 (cQ (cO og (aG cq (pv 3) aB) (pv 1) (dA _))
 (a6 (dr (fb fg g9 hG gT (pv 2) (ap (aG cj (pv 4) aB) aS))))
 (a6 (xC (aG cj (aG cq (aG fU (pX (pv 2) (aG cj (pv 3) (pv 1))) aB) (pv 4)) aB) (O1 (pv 2) (aG cj (pv 3) (pv 1)) set_list))))))
 (a6 (cJ (pv 2))))),
  (aX (lK 2 rfl (cz (aU (am cg (AE.p (eh (aH (bp 0) (aH (AE.w aC) bI)))) (AE.p aC)) bh)))
 (aX (iU (K:=K) (tg:=(.t [3,4])) (N0 (js jd (ao 0) (iW (AE.p aC)) (iW (AE.p aC)))) (by decide)
 (c8 (cM (AE.p (am pj (AE.p (am cr (ao 3) (AE.p aC))) (ao 1))))
 (iw 2 rfl (am cg (ao 4) (AE.p aC)))
 (Py 2 rfl (am cg (AE.p (am cr (AE.p (am fO (AE.p (am bc (ao 2) (AE.p (am cg (ao 3) (ao 1))))) (AE.p aC))) (ao 4))) (AE.p aC)) (AE.p (am cg (ao 3) (ao 1))))))
 (t8 2 rfl)))⟩)
abbrev ym:bq:=top 52
theorem Ke:bZ ["_law_net_here","_law_draw","_law_names","_law_one","_law_other","_law_held","_law_k"] ["_law_net_here","_law_draw"] (bA ym):=cZ
theorem Pw{f:ag}{fd:bD}(F:bP K "_law_asked" "_law_asked" ym f fd)(T:Txt mg):bJ P w K mg base aR 1 f fd ["_law_net_here","_law_draw"] (cD oV):=
 okN (Mo [2,5]) F Ke (λcdv A outer s H E hr nd hu bB=>by
  exact⟨_,(aM (pS 2 (iM li rfl T.fG lR (ap (pX (pv 0) aB) aS)))
 (aM (pS 3 (fb fg sU sV uU (pv 2) (ap (aG cj (pv 1) (dN ic rfl T.dD iB (bi 2))) aS)))
 (aM (pS 4 (fb fg sU sV uU (pv 2) (ap (aG cj (aG d3 (pv 1) aB) (dN ic rfl T.dD iB (bi 2))) aS)))
 (aM (pS 5 (cy aS))
 (aM (gX hO rfl (jg rfl T.jG (ap (dN ic rfl T.dD iB (bi 2)) aS)) (pG 6)
 (a6 (cQ (cO (gA bB) (aG cj (aG d3 (aG cj (aG fU (pv 1) (aG cq aB (aG fU (aG fU aB (pv 6)) (pv 6)))) aB) aB) (aG cq aB (aG cj (aG d3 (pv 1) aB) aB))) aB (dA _))
 (a6 (dr (fb fg g9 hG gT (pv 5) (ap (pX (pv 2) (pv 6)) aS))))
 cX)))
 (aM (cQ (cO (gA bB) (aG cj (aG d3 (pv 1) aB) aB) aB (dA _))
 (a6 (dr (zo fg PySem.F.slot_list_reverse PySem.F.type_list_reverse Kx (pv 5))))
 cX)
 (a6 (cJ (cy (ap (pv 3) (ap (pv 4) (bi 5)))))))))))),
  (aX (lK 2 rfl (dc fG (aU (AE.p (am bc (ao 0) (AE.p aC))) bh)))
 (aX (yo 3 2 rfl rfl (AE.p (am cg (ao 1) (AE.p (dc dD (aU (ao 2) bh))))))
 (aX (yo 4 2 rfl rfl (AE.p (am cg (AE.p (am d5 (ao 1) (AE.p aC))) (AE.p (dc dD (aU (ao 2) bh))))))
 (aX (lK 5 rfl (cz bh))
 (aX (iU (K:=K) (tg:=(.n 6)) (jt (AE.p (dc dD (aU (ao 2) bh)))) (by decide)
 (c8 (cM (AE.p (am gD (AE.p (am cg (AE.p (am d5 (AE.p (am cg (AE.p (am fO (ao 1) (AE.p (am cr (AE.p aC) (AE.p (am fO (AE.p (am fO (AE.p aC) (ao 6))) (ao 6))))))) (AE.p aC))) (AE.p aC))) (AE.p (am cr (AE.p aC) (AE.p (am cg (AE.p (am d5 (ao 1) (AE.p aC))) (AE.p aC))))))) (AE.p aC))))
 (iw 5 rfl (am bc (ao 2) (ao 6)))
 cV))
 (aX (c8 (cM (AE.p (am gD (AE.p (am cg (AE.p (am d5 (ao 1) (AE.p aC))) (AE.p aC))) (AE.p aC))))
 (JW 5 rfl)
 cV)
 (Jq 5 rfl (ip (AE.w (cz (aU (bE 3) (aU (bE 4) (aU (bE 5) bh)))))))))))))⟩)
abbrev wL:bq:=top 53
theorem ML:bZ ["_law_names","_law_cell_here","_law_one","_law_letters","_law_some"] ["_law_names","_law_cell_here"] (bA wL):=cZ
theorem Mm{f:ag}{fd:bD}(F:bP K "_law_stranger" "_law_stranger" wL f fd)(T:Txt mg):bJ P w K mg base aR 1 f fd ["_law_names","_law_cell_here"] (aP kA):=
 gY (Mo []) F ML (λcdv A outer s H E hr nd hu bB=>by
  exact⟨_,(aM (pS 2 (nG mZ (pv 0) (aG cj (pv 1) (dN ic rfl T.dD iB (bi 0))) (λ_ _=>rfl)))
 (aM (pS 3 gp)
 (aM (pS 4 (cy (ap (aG cq (pv 2) (pX (pv 3) (aG cj (aG d3 (pv 1) aB) aB))) (ap (je jr (pv 2) (iV aB) jU) (ap (je jr (pv 2) jU (iV (E1 Fa aB))) (ap (aG cq (pX (pv 3) (aG cj (aG d3 (pv 1) aB) aB)) (pv 2)) (ap (zo z9 PySem.F.slot_str_upper PySem.F.type_str_upper KA (pv 2)) aS)))))))
 (aM (pS 4 (aG cq (pv 4) (iA (N':=["_law_sign"]) (ρ:=[ac]) rfl (fc.of rfl (by kernel_rfl)) (f7 (pv 3)) (λ_ _ _ _ _=>(fE (i:=0) l5 rfl (ee rfl))) (ia rfl) (λ_ _ _ _ _=>kN) (λ_ _ _ _ _=>(pv 0)))))
 (aM (F3 (i:=4) (N':=["_law_names","_law_text"]) (ρ:=[aa 0,ac]) rfl nd rfl (ee rfl) (fc.of rfl (by kernel_rfl)) (f7 (pv 4)) (λ_ _ _ _ _=>(fE (i:=1) lv rfl (ee rfl))) (ia rfl) (λ_ _ _ _ _=>(n9 (PW.pt (pw_and (cO (rA bB) (pv 1) (pv 0) rfl) (pw_and1 (cO (qI bB) (pv 1) gp (dA _))))))) (λ_ _ _ _ _=>(pv 1)))
 (a6 (cJ (nG mZ (pv 4) (aG cj (aG d3 (pv 1) aB) (dN (Bt rfl) rfl T.qE boot_min (ap aB (ap (dN ic rfl T.dD iB (bi 4)) aS)))) (λ_ _=>rfl))))))))),
  (aX (bS 2 rfl (am bc (ao 0) (AE.p (am cg (ao 1) (AE.p (dc dD (aU (ao 0) bh)))))))
 (aX (bS 3 rfl gQ)
 (aX (bS 4 rfl (AE.nv (cz (aU (am cr (ao 2) (AE.p (am bc (ao 3) (AE.p (am cg (AE.p (am d5 (ao 1) (AE.p aC))) (AE.p aC)))))) (aU (js jd (ao 2) (iW (AE.p aC)) j3) (aU (js jd (ao 2) j3 (iW (AE.p (Ft DW (AE.p aC))))) (aU (am cr (AE.p (am bc (ao 3) (AE.p (am cg (AE.p (am d5 (ao 1) (AE.p aC))) (AE.p aC))))) (ao 2)) (aU (Ob (ao 2)) bh))))))))
 (aX (bS 4 rfl (am cr (ao 4) (AE.np (gy (K:=K) (tg:=(.n 0)) (l9 (ao 3)) (by decide) kF (bE 0)))))
 (aX (bS 4 rfl (AE.nv (gy (K:=K) (tg:=(.n 1)) (l9 (ao 4)) (by decide) (tW (cM (AE.p (am qD (ao 1) (ao 0)))) (cM (AE.p (am qv (ao 1) (AE.p gQ))))) (bE 1))))
 (fP (AE.w (am bc (ao 4) (AE.p (am cg (AE.p (am d5 (ao 1) (AE.p aC))) (AE.p (dc qE (aU (AE.p aC) (aU (AE.p (dc dD (aU (ao 4) bh))) bh))))))))))))))⟩)
abbrev yn:bq:=top 57
theorem OL:bZ ["_law_net_here","_law_some","_law_cell_here","_law_strange","_law_one","_law_other","_law_held","_law_at","_law_again"] ["_law_net_here","_law_some","_law_cell_here"] (bA yn):=cZ
theorem M5{f:ag}{fd:bD}(F:bP K "_law_spoiled" "_law_spoiled" yn f fd)(T:Txt mg)(qm:bN P w K mg base aR 1 "_law_stranger" ["_law_names","_law_cell_here"] (aP kA)):bJ P w K mg base aR 2 f fd ["_law_net_here","_law_some","_law_cell_here"] (cD oK):=
 okN (Mo []) F OL (λcdv A outer s H E hr nd hu bB=>by
  exact⟨_,(aM (pS 3 (pC qm hr (ap (iM li rfl T.fG lR (ap (pX (pv 0) aB) aS)) (ap (aG d3 (pv 2) aB) aS))))
 (aM (xC (pv 1) (OP rfl (iN (pG 4) (iN (pG 5) (iN (pG 6) oE)))))
 (aM (cQ (cO (gA bB) (aG cj (pv 2) aB) aB (dA _))
 (a6 (pS 5 (pX (cy (ap (pv 4) (bi 3))) (aG cj (aG d3 (pv 2) aB) aB))))
 cX)
 (aM (cQ (cO (gA bB) (aG cj (pv 2) aB) aB (dA _))
 (a6 (pS 4 (pv 3)))
 cX)
 (aM (cQ (PW.pt (pw_or (cO (qI bB) (aG cj (pv 2) aB) aB (dA _)) (pw_or1 (cO (gA bB) (aG cj (aG d3 (pv 2) aB) aB) aB (dA _)))))
 (aM (pS 7 (aG cj (aG d3 (pv 2) aB) (aG cq (dN ic rfl T.dD iB (bi 6)) aB)))
 (aM (pS 8 (nG mZ (aG cq (cy (ap (pv 4) (bi 5))) (pv 6)) (aG cj (aG d3 (pv 2) aB) (aG cq aB (dN ic rfl T.dD iB (bi 6)))) (λ_ _=>rfl)))
 (a6 (pS 6 (aG cq (aG cq (je jr (pv 6) jU (iV (pv 7))) (cy (ap (pX (cy (ap (pv 8) (bi 3))) (aG d3 (aG cj (aG d3 (pv 2) aB) aB) aB)) aS))) (je jr (pv 6) (iV (pv 7)) jU))))))
 cX)
 (a6 (cJ (cy (ap (pv 4) (ap (pv 5) (bi 6))))))))))),
  (aX (bS 3 rfl (eh (aH (AW.nv (AE.w (dc fG (aU (AE.p (am bc (ao 0) (AE.p aC))) bh)))) (aH (AE.w (am d5 (ao 2) (AE.p aC))) bI))))
 (aX (OE [4,5,6] (by decide) (bE 1))
 (aX (c8 (cM (AE.p (am gD (AE.p (am cg (ao 2) (AE.p aC))) (AE.p aC))))
 (bS 5 rfl (am bc (AE.np (cz (aU (bE 4) (aU (bE 3) bh)))) (AE.p (am cg (AE.p (am d5 (ao 2) (AE.p aC))) (AE.p aC)))))
 cV)
 (aX (c8 (cM (AE.p (am gD (AE.p (am cg (ao 2) (AE.p aC))) (AE.p aC))))
 (bS 4 rfl (bE 3))
 cV)
 (aX (c8 (yU (cM (AE.p (am qv (AE.p (am cg (ao 2) (AE.p aC))) (AE.p aC)))) (cM (AE.p (am gD (AE.p (am cg (AE.p (am d5 (ao 2) (AE.p aC))) (AE.p aC))) (AE.p aC)))))
 (aX (bS 7 rfl (am cg (AE.p (am d5 (ao 2) (AE.p aC))) (AE.p (am cr (AE.p (dc dD (aU (ao 6) bh))) (AE.p aC)))))
 (aX (bS 8 rfl (am bc (AE.p (am cr (AE.np (cz (aU (bE 4) (aU (bE 5) bh)))) (ao 6))) (AE.p (am cg (AE.p (am d5 (ao 2) (AE.p aC))) (AE.p (am cr (AE.p aC) (AE.p (dc dD (aU (ao 6) bh)))))))))
 (bS 6 rfl (am cr (AE.p (am cr (AE.p (js jd (ao 6) j3 (iW (ao 7)))) (AE.np (cz (aU (am bc (AE.np (cz (aU (bE 8) (aU (bE 3) bh)))) (AE.p (am d5 (AE.p (am cg (AE.p (am d5 (ao 2) (AE.p aC))) (AE.p aC))) (AE.p aC)))) bh))))) (AE.p (js jd (ao 6) (iW (ao 7)) j3))))))
 cV)
 (ip (AE.w (cz (aU (bE 4) (aU (bE 5) (aU (bE 6) bh)))))))))))⟩)
abbrev zj:bq:=top 27
theorem Gf:bZ ["net","one","other"] ["net","one","other"] (bA zj):=cZ
theorem L3{f:ag}{fd:bD}(F:bP K "all_roads" "all_roads" zj f fd)(T:Txt mg)(O:Own mg base)  (jI:bN P w K mg base (ce P w) 2 "refuse_wrong_asks" ["names","asked"] (et Tb.cl jQ)):bJ P w K mg base (ce P w) 3 f fd ["net","one","other"] (et Tb.cl oz):=
 F.mn Gf (λvs H Q E h=>l7 h) (λcdv A outer s H vs Q E hr h=>by
  have nd:=Gf.nd;have hu:=jw hr;have bB:=hr.units;have nY:=hr.mono (show 2<=_ by decide);exact⟨_,(aM (dr (iZ jI nY rfl k7 (ap (pX (pv 0) aB) (ap (cy (ap (pv 1) (bi 2))) aS))))
 (a6 ig)),
  _root_.A.ml (N:=["net","one","other"]) (M:=Mo []) (fS (lJ (aH (AE.w (am bc (ao 0) (AE.p aC))) (aH (AW.nv (AE.w (cz (aU (bE 1) (aU (bE 2) bh))))) bI)))
 (gf ir)) (by decide) h⟩)
abbrev wP:bq:=top 29
theorem Et:bZ ["net","road","held","meetings","passed"] ["net","road","held"] (bA wP):=cZ
theorem K2{f:ag}{fd:bD}(F:bP K "is_open" "is_open" wP f fd)(T:Txt mg)(O:Own mg base)  (nX:bN P w K mg base (ce P w) 1 "refuse_strangers" ["names","asked"] (et Tb.cl kz))(qh:bN P w K mg base (ce P w) 1 "refuse_repeats" ["asked"] (et Tb.cl nh)):bJ P w K mg base (ce P w) 2 f fd ["net","road","held"] (et Tb.cl oZ):=
 F.mn Et (λvs H Q E h=>l7 h) (λcdv A outer s H vs Q E hr h=>by
  have nd:=Et.nd;have hu:=jw hr;have bB:=hr.units;have wI:=hr.mono (show 1<=_ by decide);have Am:=hr.mono (show 1<=_ by decide);exact⟨_,(aM (dr (iZ nX wI rfl k7 (ap (pX (pv 0) aB) (bi 1))))
 (aM (dr (iZ nX wI rfl k7 (ap (pX (pv 0) aB) (bi 2))))
 (aM (dr (iZ qh Am rfl k7 (ap (aG cq (cy (ap (pX (pv 1) aB) (ap (pX (pv 1) (E1 Fa aB)) aS))) (iM li rfl T.fG lR (bi 2))) aS)))
 (aM ig
 (aM ig
 (aM ig
 (a6 ig))))))),
  _root_.A.ml (N:=["net","road","held","meetings","passed"]) (M:=Mo []) (fS (lJ (aH (AE.w (am bc (ao 0) (AE.p aC))) (aH (bp 1) bI)))
 (fS (lJ (aH (AE.w (am bc (ao 0) (AE.p aC))) (aH (bp 2) bI)))
 (fS (lJ (aH (AE.w (am cr (AE.np (cz (aU (am bc (ao 1) (AE.p aC)) (aU (am bc (ao 1) (AE.p (Ft DW (AE.p aC)))) bh)))) (AE.np (dc fG (aU (ao 2) bh))))) bI))
 (fS (gf ir)
 (fS (gf ir)
 (fS (gf ir)
 (gf ir))))))) (by decide) h⟩)
abbrev xE:bq:=top 35
theorem BZ:bZ ["net","one","other","held","before","ends","road"] ["net","one","other","held"] (bA xE):=cZ
theorem OO{f:ag}{fd:bD}(F:bP K "open_road" "open_road" xE f fd)(T:Txt mg)(O:Own mg base)  (jI:bN P w K mg base (ce P w) 2 "refuse_wrong_asks" ["names","asked"] (et Tb.cl jQ)):bJ P w K mg base (ce P w) 3 f fd ["net","one","other","held"] (et Tb.cl oF):=
 F.mn BZ (λvs H Q E h=>l7 h) (λcdv A outer s H vs Q E hr h=>by
  have nd:=BZ.nd;have hu:=jw hr;have bB:=hr.units;have nY:=hr.mono (show 2<=_ by decide);exact⟨_,(aM (dr (iZ jI nY rfl k7 (ap (pX (pv 0) aB) (ap (aG cq (cy (ap (pv 1) (bi 2))) (iM li rfl T.fG lR (bi 3))) aS))))
 (aM ig
 (aM ig
 (aM ig
 (aM ig
 (a6 ig)))))),
  _root_.A.ml (N:=["net","one","other","held","before","ends","road"]) (M:=Mo []) (fS (lJ (aH (AE.w (am bc (ao 0) (AE.p aC))) (aH (AE.w (am cr (AE.np (cz (aU (bE 1) (aU (bE 2) bh)))) (AE.np (dc fG (aU (ao 3) bh))))) bI)))
 (fS (gf ir)
 (fS (gf ir)
 (fS (gf ir)
 (fS (gf ir)
 (gf ir)))))) (by decide) h⟩)
abbrev yB:bq:=top 36
theorem DG:bZ ["net","one","held","names"] ["net","one","held"] (bA yB):=cZ
theorem ON{f:ag}{fd:bD}(F:bP K "reach_of" "reach_of" yB f fd)(T:Txt mg)(O:Own mg base)  (jI:bN P w K mg base (ce P w) 2 "refuse_wrong_asks" ["names","asked"] (et Tb.cl jQ)):bJ P w K mg base (ce P w) 3 f fd ["net","one","held"] (et Tb.cl pM):=
 F.mn DG (λvs H Q E h=>l7 h) (λcdv A outer s H vs Q E hr h=>by
  have nd:=DG.nd;have hu:=jw hr;have bB:=hr.units;have nY:=hr.mono (show 2<=_ by decide);exact⟨_,(aM (dr (iZ jI nY rfl k7 (ap (pX (pv 0) aB) (ap (aG cq (cy (bi 1)) (iM li rfl T.fG lR (bi 2))) aS))))
 (aM ig
 (a6 ig))),
  _root_.A.ml (N:=["net","one","held","names"]) (M:=Mo []) (fS (lJ (aH (AE.w (am bc (ao 0) (AE.p aC))) (aH (AE.w (am cr (AE.np (cz (aU (bE 1) bh))) (AE.np (dc fG (aU (ao 2) bh))))) bI)))
 (fS (gf ir)
 (gf ir))) (by decide) h⟩)
abbrev yW:bq:=top 54
theorem Dv:bZ ["_law_e","_law_some"] ["_law_e"] (bA yW):=cZ
theorem M2{f:ag}{fd:bD}(F:bP K "_law_kinds" "_law_kinds" yW f fd)(T:Txt mg)(O:Own mg base)(Kt:vj K):qB P w K mg base 1 f fd ["_law_e"] (cD rp):=
 F.PD Dv (λvs H Q E h=>uX h) (λcdv A outer s H vs Q E hr h=>by
  have nd:=Dv.nd;have bB:=hr.units;exact⟨_,(aM (pS 1 (cy aS))
 (aM (cQ (jX (dN EE rfl T.lU lQ (ap (pv 0) (ap (l0 (ap (hZ (v:=.ref (Tb.cl "Locked")) rfl O.Qr rfl) (ap (hZ (v:=.ref (Tb.cl "NoArrow")) rfl O.Qq rfl) (ap (hZ (v:=.ref (Tb.cl "NoLabel")) rfl O.Qx rfl) (ap (hZ (v:=.ref (Tb.cl "NoNet")) rfl O.Qu rfl) aS))))) aS))))
 (a6 (dr (fb fg g9 hG gT (pv 1) (ap gp aS))))
 cX)
 (aM (cQ (jX (dN EE rfl T.lU lQ (ap (pv 0) (ap (l0 (ap (hZ (v:=.ref (Tb.cl "NoRow")) rfl O.Qw rfl) (ap (hZ (v:=.ref (Tb.cl "NoSuch")) rfl O.Qt rfl) (ap (hZ (v:=.ref (Tb.cl "NoText")) rfl O.Qv rfl) (ap (hZ (v:=.ref (Tb.cl "NoTie")) rfl O.Qs rfl) (ap (hZ (v:=.ref (Tb.cl "Unlike")) rfl O.Qp rfl) aS)))))) aS))))
 (a6 (dr (fb fg g9 hG gT (pv 1) (ap gp aS))))
 cX)
 (aM (cQ (jX (dN oW rfl T.lU lQ (ap (pv 0) (ap (hZ (v:=.ref (Tb.cl "NoName")) rfl O.Qm rfl) aS))))
 (a6 (dr (fb fg g9 hG gT (pv 1) (ap gp aS))))
 cX)
 (aM (cQ (jX (dN oW rfl T.lU lQ (ap (pv 0) (ap (hZ (v:=.ref (Tb.cl "NoWord")) rfl O.Qk rfl) aS))))
 (a6 (dr (fb fg g9 hG gT (pv 1) (ap gp aS))))
 cX)
 (aM (cQ (jX (dN oW rfl T.lU lQ (ap (pv 0) (ap (hZ (v:=.ref (Tb.cl "Ring")) rfl O.Qo rfl) aS))))
 (a6 (dr (fb fg g9 hG gT (pv 1) (ap gp aS))))
 cX)
 (aM (cQ (jX (dN oW rfl T.lU lQ (ap (pv 0) (ap (hZ (v:=.ref (Tb.cl "Twice")) rfl O.Ql rfl) aS))))
 (a6 (dr (fb fg g9 hG gT (pv 1) (ap gp aS))))
 cX)
 (aM (cQ (jX (dN oW rfl T.lU lQ (ap (pv 0) (ap (hZ (v:=.ref (Tb.cl "WrongSize")) rfl O.Qj rfl) aS))))
 (a6 (dr (fb fg g9 hG gT (pv 1) (ap gp aS))))
 cX)
 (aM (cQ (tT (jX (dN oW rfl T.lU lQ (ap (pv 0) (ap (DK rfl O.Qy (by kernel_rfl)) aS)))))
 (a6 (dr (fb fg g9 hG gT (pv 1) (ap gp aS))))
 cX)
 (a6 (cJ (pv 1)))))))))))),
  _root_.A.runN (N:=["_law_e","_law_some"]) (M:=Mo [1]) (aX (lK 1 rfl (cz bh))
 (aX (c8 (gi (AE.p (Gh (Cs:=[Tb.cl "Locked",Tb.cl "NoArrow",Tb.cl "NoLabel",Tb.cl "NoNet"]) rfl (by simp) Kt.QG)))
 (iw 1 rfl gQ)
 cV)
 (aX (c8 (gi (AE.p (Gh (Cs:=[Tb.cl "NoRow",Tb.cl "NoSuch",Tb.cl "NoText",Tb.cl "NoTie",Tb.cl "Unlike"]) rfl (by simp) Kt.QF)))
 (iw 1 rfl gQ)
 cV)
 (aX (c8 (gi (AE.p (pA rfl (.own _) Kt.QE)))
 (iw 1 rfl gQ)
 cV)
 (aX (c8 (gi (AE.p (pA rfl (.own _) Kt.QD)))
 (iw 1 rfl gQ)
 cV)
 (aX (c8 (gi (AE.p (pA rfl (.own _) Kt.QC)))
 (iw 1 rfl gQ)
 cV)
 (aX (c8 (gi (AE.p (pA rfl (.own _) Kt.QB)))
 (iw 1 rfl gQ)
 cV)
 (aX (c8 (gi (AE.p (pA rfl (.own _) Kt.QA)))
 (iw 1 rfl gQ)
 cV)
 (aX (c8 (tI (gi (AE.p (pA rfl (.blt _) Kt.Qz))))
 (iw 1 rfl gQ)
 cV)
 (t8 1 rfl)))))))))) (by decide) h⟩)
abbrev xP:bq:=top 55
theorem O6:bZ ["_law_net_here","_law_some","_law_way","_law_kinds_here","_law_e"] ["_law_net_here","_law_some","_law_way"] (bA xP):=cZ
theorem ME{f:ag}{fd:bD}(F:bP K "_law_refused" "_law_refused" xP f fd)(T:Txt mg)(O:Own mg base)(Kt:vj K)  (Az:bN P w K mg base (ce P w) 3 "all_roads" ["net","one","other"] (et Tb.cl oz))(AB:bN P w K mg base (ce P w) 2 "is_open" ["net","road","held"] (et Tb.cl oZ))(AC:bN P w K mg base (ce P w) 11 "are_parted" ["net","one","other","held"] (et Tb.cl pD))(AD:bN P w K mg base (ce P w) 3 "open_road" ["net","one","other","held"] (et Tb.cl oF))(AF:bN P w K mg base (ce P w) 3 "reach_of" ["net","one","held"] (et Tb.cl pM))(AG:wK P w K mg base 1 "_law_kinds" ["_law_e"] (cD rp)):bJ P w K mg base aR 12 f fd ["_law_net_here","_law_some","_law_way"] (aP mK):=
 gY (Mo []) F O6 (λcdv A outer s H E hr nd hu bB=>by
  have QL:=hr.mono (show 3<=_ by decide);have QM:=hr.mono (show 2<=_ by decide);have QN:=hr.mono (show 11<=_ by decide);have QO:=hr.mono (show 3<=_ by decide);have QP:=hr.mono (show 3<=_ by decide);have QQ:=λea:ag=>(hr.mono (show 1<=_ by decide)).IV (.ref ea);exact⟨_,(aM (pS 3 (cy aS))
 (aM (Kv (i:=4) rfl rfl rfl nd rfl rfl rfl O.Qi Kt.QH
 (k9 (vi rfl (cO (gA bB) (pv 2) aB (dA _))
 (k9 (rT rfl Az QL rfl (ap (pv 0) (ap (pX (pv 1) aB) (ap (pX (pv 1) aB) aS)))))
 (k9 (vi rfl (cO (gA bB) (pv 2) aB (dA _))
 (k9 (rT rfl AC QN rfl (ap (pv 0) (ap (pX (pv 1) aB) (ap (pX (pv 1) aB) (ap (pX (pv 1) aB) aS))))))
 (k9 (vi rfl (cO (gA bB) (pv 2) aB (dA _))
 (k9 (rT rfl AD QO rfl (ap (pv 0) (ap (pX (pv 1) aB) (ap (pX (pv 1) aB) (ap (pX (pv 1) aB) aS))))))
 (k9 (vi rfl (cO (gA bB) (pv 2) aB (dA _))
 (k9 (rT rfl AF QP rfl (ap (pv 0) (ap (pX (pv 1) aB) (ap (pX (pv 1) aB) aS)))))
 (k9 (rT rfl AB QM rfl (ap (pv 0) (ap (cy (ap (pX (pv 1) aB) (ap (pX (pv 1) aB) aS))) (ap (pX (pv 1) aB) aS)))))))))))))
 (λea=>(a6 (pS 3 (LG (E:=λ_ _ _=>False) AG (QQ ea) rfl (bi 4))))))
 (a6 (cJ (pv 3))))),
  (aX (bS 3 rfl (AE.nv (cz bh)))
 (aX (KP (cs:=["NoName","Twice"]) rfl
 (uW (cM (AE.p (am gD (ao 2) (AE.p aC))))
 (qF (aH (bp 0) (aH (AE.w (am bc (ao 1) (AE.p aC))) (aH (AE.w (am bc (ao 1) (AE.p aC))) bI))))
 (uW (cM (AE.p (am gD (ao 2) (AE.p aC))))
 (qF (aH (bp 0) (aH (AE.w (am bc (ao 1) (AE.p aC))) (aH (AE.w (am bc (ao 1) (AE.p aC))) (aH (AE.w (am bc (ao 1) (AE.p aC))) bI)))))
 (uW (cM (AE.p (am gD (ao 2) (AE.p aC))))
 (qF (aH (bp 0) (aH (AE.w (am bc (ao 1) (AE.p aC))) (aH (AE.w (am bc (ao 1) (AE.p aC))) (aH (AE.w (am bc (ao 1) (AE.p aC))) bI)))))
 (uW (cM (AE.p (am gD (ao 2) (AE.p aC))))
 (qF (aH (bp 0) (aH (AE.w (am bc (ao 1) (AE.p aC))) (aH (AE.w (am bc (ao 1) (AE.p aC))) bI))))
 (qF (aH (bp 0) (aH (AW.nv (AE.w (cz (aU (am bc (ao 1) (AE.p aC)) (aU (am bc (ao 1) (AE.p aC)) bh))))) (aH (AE.w (am bc (ao 1) (AE.p aC))) bI))))))))
 (bS 3 rfl (AE.nv (gj (aH (Oa 4 rfl) bI)))))
 (fP (bp 3))))⟩)
abbrev zg:bq:=top 56
theorem Ou:bZ ["_law_net_here","_law_some","_law_name"] ["_law_net_here","_law_some"] (bA zg):=cZ
theorem M7{f:ag}{fd:bD}(F:bP K "_law_due" "_law_due" zg f fd)(T:Txt mg):bJ P w K mg base aR 1 f fd ["_law_net_here","_law_some"] (cD iR):=
 okN (Mo []) F Ou (λcdv A outer s H E hr nd hu bB=>by
  exact⟨_,(aM (gX hO rfl (f7 (pv 1)) (pG 2)
 (a6 (cQ (cO (rA bB) (pv 2) (pX (pv 0) aB) rfl)
 (a6 (cJ (cy (ap gp aS))))
 cX)))
 (aM (cQ (cO yL (dN ic rfl T.dD iB (ap (iA (N':=["_law_some","_law_k"]) (ρ:=[aa 1,ac]) rfl (fc.of rfl (by kernel_rfl)) (jg rfl T.jG (ap (dN ic rfl T.dD iB (bi 1)) aS)) (λ_ _ _ _ _=>(fE (i:=1) lv rfl (ee rfl))) (ia rfl) (λ_ _ _ _ _=>(n9 (cO (tP bB) (pX (pv 0) (pv 1)) (je jr (pv 0) jU (iV (pv 1))) rfl))) (λ_ _ _ _ _=>(pv 1))) aS)) aB (dA _))
 (a6 (cJ (cy (ap gp aS))))
 cX)
 (a6 (cJ (cy aS))))),
  (aX (iU (K:=K) (tg:=(.n 2)) (ly (bE 1)) (by decide)
 (c8 (cM (AE.p (am qD (ao 2) (AE.p (am bc (ao 0) (AE.p aC))))))
 (ip (AE.w (cz (aU gQ bh))))
 cV))
 (aX (c8 (cM (AE.p (am zv (AE.p (dc dD (aU (AE.np (gy (K:=K) (tg:=(.n 1)) (gv.c (jt (AE.p (dc dD (aU (ao 1) bh))))) (by decide) (cM (AE.p (am vE (AE.p (am bc (ao 0) (ao 1))) (AE.p (js jd (ao 0) j3 (iW (ao 1))))))) (bE 1))) bh))) (AE.p aC))))
 (ip (AE.w (cz (aU gQ bh))))
 cV)
 (ip (AE.w (cz bh)))))⟩)
abbrev wS:bq:=top 58
theorem LF:bZ ["_law_net_here","_law_some","_law_cell_here","_law_handed","_law_whole_row","_law_k","_law_way","_law_due_here","_law_tied"] ["_law_net_here","_law_some","_law_cell_here"] (bA wS):=cZ
theorem JO{f:ag}{fd:bD}(F:bP K "_law_by_ways" "_law_by_ways" wS f fd)(T:Txt mg)(AH:bN P w K mg base aR 12 "_law_refused" ["_law_net_here","_law_some","_law_way"] (aP mK))(tz:bN P w K mg base aR 1 "_law_due" ["_law_net_here","_law_some"] (cD iR)):bJ P w K mg base aR 13 f fd ["_law_net_here","_law_some","_law_cell_here"] (aP j5):=
 gY (Mo []) F LF (λcdv A outer s H E hr nd hu bB=>by
  exact⟨_,(aM (pS 3 (cy (ap (pX (pv 1) aB) (ap (pX (pv 1) aB) (ap (iM li rfl T.fG lR (ap (pX (pv 1) aB) aS)) aS)))))
 (aM (pS 4 (aG cq (cy (ap (pX (pv 1) aB) (ap (pX (pv 1) aB) aS))) (pX (pv 1) aB)))
 (aM (gX hO rfl (jg rfl T.jG (ap aB aS)) (pG 5)
 (aM (pS 6 (aG cj (aG cq (pv 5) (pv 2)) aB))
 (aM (pS 7 (pC tz hr (ap (pv 0) (bi 4))))
 (aM (cQ (cO (gA bB) (pv 6) aB (dA _))
 (a6 (pS 7 (pC tz hr (ap (pv 0) (ap (je jr (pv 1) jU (iV aB)) aS)))))
 cX)
 (aM (cQ (cO (gA bB) (pv 6) aB (dA _))
 (a6 (pS 7 (pC tz hr (ap (pv 0) (ap (aG cq (cy (ap (pX (pv 1) aB) aS)) (pX (pv 1) aB)) aS)))))
 cX)
 (aM (pS 8 (MJ (vh (tP bB) (l0 (ap (pX (pv 1) aB) (ap (pX (pv 1) aB) aS))) (pX (pv 0) aB) rfl) (N9 (vh (tP bB) (l0 (ap (pX (pv 1) aB) (ap (pX (pv 1) aB) aS))) (pX (pv 0) aB) rfl))))
 (a6 (cQ (PW.pt (pw_and (cO (qI bB) (pv 7) (cy aS) (dA _)) (pw_and1 (PW.pt (pw_or (cO og (pv 6) aB (dA _)) (pw_or1 (nZ (pv 8) (by intro _;rfl))))))))
 (a6 (cQ (PW.pt (pw_or (cO (qI bB) (pC AH hr (ap (pv 0) (ap (pv 3) (bi 6)))) (pv 7) (dA _)) (pw_or1 (cO (qI bB) (pX (pv 3) aB) (pX (pv 1) aB) (dA _)))))
 (a6 (cJ jn))
 cX))
 cX))))))))
 (a6 (cJ jn))))),
  (aX (bS 3 rfl (AE.nv (cz (aU (am bc (ao 1) (AE.p aC)) (aU (am bc (ao 1) (AE.p aC)) (aU (AE.nv (dc fG (aU (AE.p (am bc (ao 1) (AE.p aC))) bh))) bh))))))
 (aX (bS 4 rfl (am cr (AE.np (cz (aU (am bc (ao 1) (AE.p aC)) (aU (am bc (ao 1) (AE.p aC)) bh)))) (AE.p (am bc (ao 1) (AE.p aC)))))
 (aX (iU (K:=K) (tg:=(.n 5)) (jt (AE.p aC)) (by decide)
 (aX (bS 6 rfl (am cg (AE.p (am cr (ao 5) (ao 2))) (AE.p aC)))
 (aX (bS 7 rfl (AE.nv (gj (aH (bp 0) (aH (bp 4) bI)))))
 (aX (c8 (cM (AE.p (am gD (ao 6) (AE.p aC))))
 (bS 7 rfl (AE.nv (gj (aH (bp 0) (aH (AE.w (js jd (ao 1) j3 (iW (AE.p aC)))) bI)))))
 cV)
 (aX (c8 (cM (AE.p (am gD (ao 6) (AE.p aC))))
 (bS 7 rfl (AE.nv (gj (aH (bp 0) (aH (AE.w (am cr (AE.np (cz (aU (am bc (ao 1) (AE.p aC)) bh))) (AE.p (am bc (ao 1) (AE.p aC))))) bI)))))
 cV)
 (aX (bS 8 rfl (Nv (AE.p (am vE (AE.p (oh (aU (am bc (ao 1) (AE.p aC)) (aU (am bc (ao 1) (AE.p aC)) bh)))) (AE.p (am bc (ao 0) (AE.p aC))))) (am vE (AE.p (oh (aU (am bc (ao 1) (AE.p aC)) (aU (am bc (ao 1) (AE.p aC)) bh)))) (AE.p (am bc (ao 0) (AE.p aC))))))
 (c8 (tW (cM (AE.p (am qv (ao 7) (AE.np (cz bh))))) (yU (cM (AE.p (am pj (ao 6) (AE.p aC)))) (mX (ao 8))))
 (c8 (yU (cM (AE.p (am qv (AE.p (eh (aH (bp 0) (aH (bp 3) (aH (bp 6) bI))))) (ao 7)))) (cM (AE.p (am qv (AE.p (am bc (ao 3) (AE.p aC))) (AE.p (am bc (ao 1) (AE.p aC)))))))
 (fP (AE.w jo))
 cV)
 cV)))))))
 (fP (AE.w jo)))))⟩)
abbrev yx:bq:=top 59
theorem Md:bZ ["_law_script","_law_net_here","_law_draw","_law_some","_law_bad","_law_pair","_law_held","_law_found"] ["_law_script"] (bA yx):=cZ
theorem NG{f:ag}{fd:bD}(F:bP K "law" "law" yx f fd)(T:Txt mg)(AI:bN P w K mg base aR 11 "are_parted" ["net","one","other","held"] (aP pc))(AJ:bN P w K mg base aR 3 "_law_two" ["_law_script","_law_most"] (aP sE))(AK:bN P w K mg base aR 2 "_law_questions" ["_law_script","_law_many"] (cD qw))(AL:bN P w K mg base aR 1 "_law_asked" ["_law_net_here","_law_draw"] (cD oV))(qm:bN P w K mg base aR 1 "_law_stranger" ["_law_names","_law_cell_here"] (aP kA))(AM:bN P w K mg base aR 2 "_law_spoiled" ["_law_net_here","_law_some","_law_cell_here"] (cD oK))(wJ:bN P w K mg base aR 13 "_law_by_ways" ["_law_net_here","_law_some","_law_cell_here"] (aP j5)):bJ P w K mg base aR 14 f fd ["_law_script"] (aP xT):=
 gY (Mo []) F Md (λcdv A outer s H E hr nd hu bB=>by
  exact⟨_,(aM (pS 1 (pC AJ hr (ap (pv 0) (ap aB aS))))
 (aM (gX hO rfl (f7 (pC AK hr (ap (pv 0) (ap aB aS)))) (pG 2)
 (aM (pS 3 (pC AL hr (ap (pv 1) (bi 2))))
 (aM (pS 4 (pC AM hr (ap (pv 1) (ap (pv 3) (ap (aG d3 (pv 2) aB) aS)))))
 (aM (cQ (tT (jX (pC wJ hr (ap (pv 1) (ap (pv 4) (bi 2))))))
 (a6 (cJ jn))
 cX)
 (aM (cQ (cO yL (dN ic rfl T.dD iB (ap (pX (pv 1) aB) aS)) aB (dA _))
 (aM (pS 5 (nG mZ (pX (pv 1) aB) (aG cj (aG d3 (pv 2) aB) (dN ic rfl T.dD iB (ap (pX (pv 1) aB) aS))) (λ_ _=>rfl)))
 (aM (pS 6 (cy (ap (nG mZ (cy (ap (pX (pv 5) aB) (ap (pX (pv 5) aB) (ap (pC qm hr (ap (iM li rfl T.fG lR (ap (pX (pv 1) aB) aS)) (ap (aG d3 (pv 2) aB) aS))) aS)))) (aG cj (pv 2) aB) (λ_ _=>rfl)) aS)))
 (a6 (cQ (tT (jX (pC wJ hr (ap (pv 1) (ap (cy (ap (pX (pv 5) aB) (ap (pX (pv 5) aB) (bi 6)))) (bi 2))))))
 (a6 (cJ jn))
 cX))))
 cX)
 (aM (pS 7 (pC AI hr (ap (pv 1) (ap (pX (pv 3) aB) (ap (pX (pv 3) aB) (ap (pX (pv 3) aB) aS))))))
 (a6 (cQ (tT (jX (dN K3 rfl T.lU lQ (ap (pv 7) (ap (DK rfl T.Qe boot_bool) aS)))))
 (a6 (cJ jn))
 cX))))))))
 (a6 (cJ jn)))),
  (aX (bS 1 rfl (eh (aH (bp 0) (aH (AE.w aC) bI))))
 (aX (iU (K:=K) (tg:=(.n 2)) (ly (AE.nv (gj (aH (bp 0) (aH (AE.w aC) bI))))) (by decide)
 (aX (bS 3 rfl (AE.nv (gj (aH (bp 1) (aH (bp 2) bI)))))
 (aX (bS 4 rfl (AE.nv (gj (aH (bp 1) (aH (bp 3) (aH (AE.w (am d5 (ao 2) (AE.p aC))) bI))))))
 (aX (c8 (tI (gi (AE.p (eh (aH (bp 1) (aH (bp 4) (aH (bp 2) bI)))))))
 (fP (AE.w jo))
 cV)
 (aX (c8 (cM (AE.p (am zv (AE.p (dc dD (aU (AE.p (am bc (ao 1) (AE.p aC))) bh))) (AE.p aC))))
 (aX (bS 5 rfl (am bc (AE.p (am bc (ao 1) (AE.p aC))) (AE.p (am cg (AE.p (am d5 (ao 2) (AE.p aC))) (AE.p (dc dD (aU (AE.p (am bc (ao 1) (AE.p aC))) bh)))))))
 (aX (bS 6 rfl (AE.nv (cz (aU (am bc (AE.np (cz (aU (am bc (ao 5) (AE.p aC)) (aU (am bc (ao 5) (AE.p aC)) (aU (eh (aH (AW.nv (AE.w (dc fG (aU (AE.p (am bc (ao 1) (AE.p aC))) bh)))) (aH (AE.w (am d5 (ao 2) (AE.p aC))) bI))) bh))))) (AE.p (am cg (ao 2) (AE.p aC)))) bh))))
 (c8 (tI (gi (AE.p (eh (aH (bp 1) (aH (AW.nv (AE.w (cz (aU (am bc (ao 5) (AE.p aC)) (aU (am bc (ao 5) (AE.p aC)) (aU (bE 6) bh)))))) (aH (bp 2) bI)))))))
 (fP (AE.w jo))
 cV)))
 cV)
 (aX (bS 7 rfl (eh (aH (bp 1) (aH (AE.w (am bc (ao 3) (AE.p aC))) (aH (AE.w (am bc (ao 3) (AE.p aC))) (aH (AE.w (am bc (ao 3) (AE.p aC))) bI))))))
 (c8 (tI (gi (AE.p (KI (ty_bool K) (ao 7)))))
 (fP (AE.w jo))
 cV)))))))
 (fP (AE.w jo))))⟩)
end
end mG
namespace L2
open PySem PySem.Spec PyProof.Rows
theorem Ec{K:aI}{h:aL}{mg:Str->Option ah}{y:Str}{D:ag}{bb:List ah}{nw:String}(X:K.In h)(G:h.Ns mainGlobals mg)(a:cK K mainGlobals y=aa (aa (.ref D)))(t:vM K D bb nw=true):OwnCls y D bb nw mg h:=by
 refine⟨fW X G a,?_⟩;simp only[vM]at t;split at t
 case h_2=>cases t
 case h_1 d1 c1 s1 e1=>
  split at t
  case h_2=>cases t
  case h_1 D' m1 p0 p1 p2 p3 b1 p5 em es=>
   obtain⟨n1,bs,mr,N1,qn,hd,sn,sb,ab,co,de⟩:=c1;obtain⟨l1⟩:=s1;dsimp only at em es t;subst em;subst es;have t1:=sW.mp t;have t2:=sW.mp t1.1;have t3:=sW.mp t2.1;have t4:=sW.mp t3.1;have t5:=sW.mp t4.1;have u1:=nu.mp t5.1;have u2:=nu.mp t5.2;have u3:de=false:=by simpa using t4.2
   subst u1 u2 u3;exact⟨m1,N1,n1,qn,bs,hd,sn,sb,ab,co,d1,p0,p1,p2,p3,p5,h.nsMap N1,X _ _ e1,.of_isNs (PySem.W.isNs_of_in X t2.2),PySem.W.nsMap_none_of_in X t2.2 (nu.mp t1.2),PySem.W.tail_of_in X t3.2⟩
theorem lV{R:String->Bool->Prop}:∀x k,(λc=>([]:List (String×Bool)).lookup c) x=aa k->R x k:=λ_ _ h=>nomatch h
theorem gm{n:String}{b:Bool}{l:List (String×Bool)}{R:String->Bool->Prop}(h:R n b)(t:∀x k,(λc=>l.lookup c) x=aa k->R x k):∀x k,(λc=>((n,b)::l).lookup c) x=aa k->R x k:=by
 intro x k e;simp only[vX]at e;split at e
 ·rename_i q;cases e;rw[nu.mp q];exact h
 ·exact t x k e
theorem Jn{R:ag->Prop}{cl:String->ag}:∀C,(∃c∈([]:List String),C=cl c)->R C:=λC ⟨c,h,_⟩=>nomatch h
theorem CM{n:String}{l:List String}{R:ag->Prop}{cl:String->ag}(h:R (cl n))(t:∀C,(∃c∈l,C=cl c)->R C):∀C,(∃c∈n::l,C=cl c)->R C:=λC ⟨c,hc,e⟩=>by
 cases hc with
 |head=>rw[e];exact h
 |tail _ k=>exact t C ⟨c,k,e⟩
theorem cn.Jl{P:bt}{w:a9}{K:aI}{mg:Str->Option ah}{CX:f6}{k:Nat}{x p:Str}{st:bq}{sp:Sp}{fa c T:ag}(F:cn K mg x st [p])(hm:mg x=aa (.ref fa))(h:∀base,K.In base->base.Ns mainGlobals mg->BM mg base->i5 base c T->∀f fd,bP K x x st f fd->bJ P w K mg base CX k f fd [p] sp) :
 ∃fd:bD,(∀(s:aw) (u:ah),kT s fd ⟨[u],[]⟩ [(p,u)])/\∀base:aL,K.In base->base.Ns mainGlobals mg->BM mg base->i5 base c T->bJ P w K mg base CX k fa fd [p] sp:=by
 obtain⟨f,fd,h1,h2,h3,h5,h4⟩:=F.ex;rw[h1]at hm;cases hm;exact⟨fd,λs u=>h5 s [u] rfl,λbase kb nb b1 b2=>h base kb nb b1 b2 _ fd h4⟩
def EB(K:aI):Bool:=K.all λp=>match p.2.cls with|.type "list" => false|_=>true
theorem Jp{K:aI}(h:EB K=true){a:ag}{o:Obj}(e:K.lookup a=aa o)(c:o.cls=.type "list"):False:=by
 have hm:(a,o)∈K:=by
  clear h
  induction K with
  |nil=>cases e
  |cons p r ih=>
   obtain⟨b,x⟩:=p;simp only[vX]at e;split at e
   ·rename_i q;cases e;rw[nu.mp q];exact List.Mem.head _
   ·exact List.Mem.tail _ (ih e)
 have h2:=sM.mp h _ hm;simp only[c]at h2;cases h2
end L2
namespace Mi
open PySem
@[simp] theorem kJ {α:Type} (a:α):dE (aa a)=.ok a:=rfl
@[simp] theorem Q2 {α:Type} {c:Prop} [Decidable c] (h:c) (r:Rs α):br c r=r:=a8 h
@[simp] theorem n6 (a b:Str):bM (.str a) (.str b)=decide (a=b):=by rw[bM];by_cases h:a=b<;>simp[h]
@[simp] theorem Cf (a b:Int):bM (.int a) (.int b)=decide (a=b):=by rw[bM];by_cases h:a=b<;>simp[h]
@[simp] theorem Oi (x:Str):(D.str x).dep=0:=by simp[D.dep]
@[simp] theorem Q4 (x:Int):(D.int x).dep=0:=by simp[D.dep]
@[simp] theorem Q1 (x:Bool):(D.bl x).dep=0:=by simp[D.dep]
@[simp] theorem Q0:D.non.dep=0:=by simp[D.dep]
@[simp] theorem QY (ds:List D):(D.lst ds).dep=dF ds+1:=by simp[D.dep]
@[simp] theorem Q5 (ds:List D):(D.tup ds).dep=dF ds+1:=by simp[D.dep]
@[simp] theorem QZ:dF []=0:=rfl
@[simp] theorem CL (d:D) (r:List D):dF (d::r)=max d.dep (dF r):=by rw[dF]
@[simp] theorem uy:∀xs:List Str,dF (xs.map D.str)=0
 |[]=>rfl
 |x::r=>by rw[dg,CL,Oi,uy r];rfl
theorem wN(xs:List Str)(x:Str):((xs.map D.str).any λe=>bM e (.str x))=decide (x∈xs):=by
 induction xs with
 |nil=>rfl
 |cons y r ih=>
  rw[dg,jC,ih,n6];by_cases h:y=x
  ·simp[h]
  ·have h2:¬ x=y:=λz=>h z.symm;simp[h,h2]
theorem Fk(xs:List Str)(x:Str):f9 (.str x) (.lst (xs.map D.str))=.ok (.bl (decide (x∈xs))):=by show br _ _=_;rw[aF (by rw[uy];omega),wN]
theorem D0(xs:List Str)(x:Str):gb (.str x) (.lst (xs.map D.str))=.ok (.bl (!decide (x∈xs))):=by show br _ _=_;rw[aF (by rw[uy];omega),wN]
theorem uA(xs:List Str)(x:Str):gb (.str x) (.tup (xs.map D.str))=.ok (.bl (!decide (x∈xs))):=by show br _ _=_;rw[aF (by rw[uy];omega),wN]
theorem uO(x y:Str):bQ (.str x) (.str y)=.ok (.bl (decide (x=y))):=by show br _ _=_;rw[aF (by simp),n6]
theorem Pn(x y:Str):fh (.str x) (.str y)=.ok (.bl (!decide (x=y))):=by show br _ _=_;rw[aF (by simp),n6]
theorem kL(x y:Int):bQ (.int x) (.int y)=.ok (.bl (decide (x=y))):=by show br _ _=_;rw[aF (by simp),Cf]
theorem JV(x y:Int):fh (.int x) (.int y)=.ok (.bl (!decide (x=y))):=by show br _ _=_;rw[aF (by simp),Cf]
theorem Fg{α:Type}(f:α->Bool)(xs:List α):jN (xs.map λx=>D.bl (f x))=aa (xs.map f):=by
 induction xs with
 |nil=>rfl
 |cons a r ih=>rw[dg,jN,ih];rfl
theorem LW(xs:List Str):k4 (xs.map D.str)=aa xs:=by
 induction xs with
 |nil=>rfl
 |cons a r ih=>rw[dg,k4,ih];rfl
theorem u9(n:Nat)(b:S)(a0:W):c6 1 n b [a0]=(b ([aa a0]++cG (n-1) ac)).bind nC:=aF rfl
theorem jp(n:Nat)(b:S)(a0 a1:W):c6 2 n b [a0,a1]=(b ([aa a0,aa a1]++cG (n-2) ac)).bind nC:=aF rfl
theorem mU(n:Nat)(b:S)(a0 a1 a2:W):c6 3 n b [a0,a1,a2]=(b ([aa a0,aa a1,aa a2]++cG (n-3) ac)).bind nC:=aF rfl
theorem xL(n:Nat)(b:S)(a0 a1 a2 a3:W):c6 4 n b [a0,a1,a2,a3]=(b ([aa a0,aa a1,aa a2,aa a3]++cG (n-4) ac)).bind nC:=aF rfl
theorem kM(n:Nat)(b:S)(a0 a1:W):fk 2 n b [a0,a1]=(b ([aa a0,aa a1]++cG (n-2) ac)).bind jL:=aF rfl
theorem yF(n:Nat)(b:S)(a0 a1 a2:W):fk 3 n b [a0,a1,a2]=(b ([aa a0,aa a1,aa a2]++cG (n-3) ac)).bind jL:=aF rfl
theorem Bu{α:Type}(r:Rs α):br (1<=16777216) r=r:=aF (by decide)
theorem kE(i j:Int):aZ (.int i) (.int j)=.ok (.int (i+j)):=rfl
theorem ud(i j:Str):aZ (.str i) (.str j)=br (i.length+j.length<=16777216) (.ok (.str (i++j))):=rfl
theorem pH(i j:List D):aZ (.lst i) (.lst j)=br (i.length+j.length<=16777216) (.ok (.lst (i++j))):=rfl
theorem NZ(i j:Int):jV (.int i) (.int j)=.ok (.int (i-j)):=rfl
theorem sd(i j:Int):bT (.int i) (.int j)=br (lc i j) (.ok (.int (i*j))):=rfl
theorem div_ii(i j:Int):bn (.int i) (.int j)=br (lp j) (.ok (.int (i/j))):=rfl
theorem fr(i j:Int):aQ (.int i) (.int j)=br (0<j) (.ok (.int (i%j))):=rfl
theorem se(i j:Int):eo (.int i) (.int j)=.ok (.bl (decide (i<j))):=rfl
theorem F1(i j:Int):ku (.int i) (.int j)=.ok (.bl (decide (j<i))):=rfl
theorem m9(ds:List D):bV [.lst ds]=.ok (.int ds.length):=rfl
theorem PY(z:Str):bV [.str z]=br (z.length<=16777216) (.ok (.int z.length)):=rfl
theorem Ox(i j:Int):iJ [.int i,.int j]=.ok (.int (max i j)):=rfl
theorem Cg(i j:Int):kK [.int i,.int j]=.ok (.int (min i j)):=rfl
theorem NQ(ds:List D):xM [.lst ds]=(dE (jN ds)).bind λbs=>.ok (.bl (bs.all id)):=rfl
theorem MA(ds:List D):xj [.lst ds]=(dE (jN ds)).bind λbs=>.ok (.bl (bs.any id)):=rfl
theorem Ld(ds:List D):pk [.lst ds]=.ok (.tup ds):=rfl
theorem sA(z:Str)(lo hi:Option Int):dj (.str z) lo hi=br (z.length<=16777216) (.ok (.str (iF z lo hi))):=rfl
theorem JX(ds:List D):tH (.lst ds)=.ok ds:=rfl
theorem Lx(ds:List D):tH (.tup ds)=.ok ds:=rfl
theorem re(b:Bool):pO (.bl b)=.ok b:=rfl
theorem lW(b:Int):m3 (.int b)=.ok b:=rfl
theorem r9(x:D):oX (.d x)=.ok x:=rfl
theorem LY(i:Nat)(d:D)(e:Mi.Env):(Tg.n i).put d e=.ok (e.set i (aa (.d d))):=rfl
theorem all_cons(i:Nat)(is:List Nat)(d:D)(ds:List D)(e:Mi.Env):lL (i::is) (d::ds) e=lL is ds (e.set i (aa (.d d))):=rfl
theorem L4(w:W):nC (.rt w)=.ok w:=rfl
theorem JF(e:Mi.Env):nC (.nx e)=.ok (.d .non):=rfl
theorem Nf(w:W):jL (.rt w)=.ok w:=rfl
theorem au{f:D->D->Rs D}{a b:E}{e:Mi.Env}{x y:D}{z:Rs D}(ha:a e=.ok x)(hb:b e=.ok y)(h:f x y=z):m2 f a b e=z:=by unfold m2;rw[ha,aO,hb,aO,h]
theorem aV{s t:S}{e e':Mi.Env}(h:s e=.ok (.nx e')):aD s t e=t e':=by unfold aD;rw[h];rfl
theorem nr{s t:S}{e:Mi.Env}{w:W}(h:s e=.ok (.rt w)):aD s t e=.ok (.rt w):=by unfold aD;rw[h];rfl
theorem bF{i:Nat}{a:E}{e:Mi.Env}{d:D}(h:a e=.ok d):a4 i a e=.ok (.nx (e.set i (aa (.d d)))):=by unfold a4;rw[h];rfl
theorem el{a:EW}{e:Mi.Env}{w:W}(h:a e=.ok w):bL a e=.ok (.rt w):=by unfold bL;rw[h];rfl
theorem bj{a:E}{e:Mi.Env}{d:D}(h:a e=.ok d):wD a e=.ok (.d d):=by unfold wD;rw[h];rfl
theorem dP{c:C}{s t:S}{e:Mi.Env}(h:c e=.ok true):a7 c s t e=s e:=by unfold a7;rw[h];rfl
theorem cU{c:C}{s t:S}{e:Mi.Env}(h:c e=.ok false):a7 c s t e=t e:=by unfold a7;rw[h];rfl
theorem cu{a:E}{e:Mi.Env}{b:Bool}(h:a e=.ok (.bl b)):cB a e=.ok b:=by unfold cB;rw[h];rfl
theorem gh{ρ:List (Option Nat)}{it:I}{tg:Tg}{c:C}{a:E}{e:Mi.Env}{xs ys:List D}(h:it e=.ok xs)(hl:xs.length<=16777216)(hc:dC tg c a (j4 ρ e) xs=.ok ys):eL ρ it tg c a e=.ok (.lst ys):=by unfold eL;rw[h,aO,aF hl,hc,aO]
theorem iG{a:E}{e:Mi.Env}{n:Int}(h:a e=.ok (.int n))(hr:okR n):f8 a e=.ok (dB 0 n):=by unfold f8;rw[h,aO,lW,aO,aF hr]
theorem gK{it:I}{tg:Tg}{b:S}{e:Mi.Env}{xs:List D}(h:it e=.ok xs):dL it tg b e=fu tg b xs e:=by unfold dL;rw[h];rfl
theorem gg{a:E}{e:Mi.Env}{x:D}{xs:List D}(h:a e=.ok x)(hx:tH x=.ok xs):dh a e=.ok xs:=by unfold dh;rw[h,aO,hx]
theorem oI{i:Nat}{a:E}{e:Mi.Env}{d:D}{ds:List D}(h:a e=.ok d)(hg:getL e i=.ok ds)(hl:ds.length<16777216):c7 i a e=.ok (.nx (putL e i (ds++[d]))):=by unfold c7;rw[h,aO,hg,aO,aF hl]
theorem eA{f:List D->Rs D}{a:E}{e:Mi.Env}{x:D}(h:a e=.ok x):mN f [a] e=f [x]:=by unfold mN;rw[eS,h];rfl
theorem tJ{f:List D->Rs D}{a b:E}{e:Mi.Env}{x y:D}(h:a e=.ok x)(h':b e=.ok y):mN f [a,b] e=f [x,y]:=by unfold mN;rw[eS,h,aO,eS,h'];rfl
theorem j7{a:E}{e:Mi.Env}{x:D}(h:a e=.ok x):mN bg [a] e=.ok (.lst [x]):=by rw[eA h];exact aF (by simp)
theorem py{a b:E}{e:Mi.Env}{x y:D}(h:a e=.ok x)(h':b e=.ok y):mN dTup [a,b] e=.ok (.tup [x,y]):=by rw[tJ h h'];exact aF (by simp)
theorem Ez{f:Fn}{a:EW}{e:Mi.Env}{x:W}{d:D}(h:a e=.ok x)(hf:f [x]=.ok (.d d)):ba f [a] e=.ok d:=by unfold ba jz;rw[b8,h];simp only[aO,b8,hf,r9]
theorem call2{f:Fn}{a b:EW}{e:Mi.Env}{x y:W}{d:D}(h:a e=.ok x)(h':b e=.ok y)(hf:f [x,y]=.ok (.d d)):ba f [a,b] e=.ok d:=by unfold ba jz;rw[b8,h,aO,b8,h'];simp only[aO,b8,hf,r9]
theorem mY{f:Fn}{a b c:EW}{e:Mi.Env}{x y z:W}{d:D}(h:a e=.ok x)(h':b e=.ok y)(h'':c e=.ok z)(hf:f [x,y,z]=.ok (.d d)):ba f [a,b,c] e=.ok d:=by unfold ba jz;rw[b8,h,aO,b8,h',aO,b8,h''];simp only[aO,b8,hf,r9]
theorem iL{α:Type}{tg:Tg}{c:C}{a:E}{e:Mi.Env}(f g:α->D)(p:α->Bool):∀(xs:List α),(∀x∈xs,∃e1,tg.put (f x) e=.ok e1/\c e1=.ok (p x)/\(p x=true->a e1=.ok (g x)))->dC tg c a e (xs.map f)=.ok ((xs.filter p).map g)
 |[],_=>rfl
 |x::r,h=>by
  obtain⟨e1,h1,h2,h3⟩:=h x dS;have ih:=iL (tg:=tg) (c:=c) (a:=a) (e:=e) f g p r λy hy=>h y (eP _ hy);rw[dg,dC,h1,aO,h2,aO];cases hp:p x with
  |true=>rw[a8 rfl,h3 hp,aO,ih,aO,List.filter_cons_of_pos hp];rfl
  |false=>rw[be dW,ih,List.filter_cons_of_neg (by rw[hp];exact dW)]
theorem i4{tg:Tg}{body:S}(Inv:Nat->Mi.Env->Prop):∀(xs:List D) (k:Nat),(∀i x e,xs[i]? = aa x->Inv (k+i) e->∃e1 e2,tg.put x e=.ok e1/\body e1=.ok (.nx e2)/\Inv (k+i+1) e2)->∀e,Inv k e->∃e',fu tg body xs e=.ok (.nx e')/\Inv (k+xs.length) e'
 |[],k,_,e,h=>⟨e,rfl,h⟩
 |x::r,k,hs,e,h=>by
  obtain⟨e1,e2,h1,h2,h3⟩:=hs 0 x e rfl h;obtain⟨e',h4,h5⟩:=i4 Inv r (k+1) (λi y e hy hi=>by
   have:=hs (i+1) y e (by simpa using hy) (by rw[show k+(i+1)=k+1+i by omega];exact hi);rw[show k+(i+1)+1=k+1+i+1 by omega]at this;exact this) e2 h3
  refine⟨e',?_,by rw[bU,show k+(r.length+1)=k+1+r.length by omega];exact h5⟩;rw[fu,h1,aO,h2,aO];exact h4
theorem Eb{α:Type}{tg:Tg}{body:S}{e:Mi.Env}{w:Out}(f:α->D)(st:Option α->Mi.Env)(p:α->Bool)(out:α->Out):∀(xs:List α) (o:Option α),
 (∀x∈xs,∀o,∃e1,tg.put (f x) (st o)=.ok e1/\body e1=.ok (if p x=true then out x else .nx (st (aa x)))) ->
 (∀x∈xs,p x=true->∃w,out x=.rt w) ->
 fu tg body (xs.map f) (st o)=.ok (match xs.find? p with|some x=>out x|none=>.nx (st (xs.getLast?.or o)))
 |[],o,_,_=>by cases o<;>rfl
 |x::r,o,h,ho=>by
  obtain⟨e1,h1,h2⟩:=h x dS o;rw[dg,fu,h1,aO,h2,aO];cases hp:p x with
  |true=>
   obtain⟨w,hw⟩:=ho x dS hp;rw[List.find?_cons_of_pos hp];simp only[jK,hw]
  |false=>
   rw[List.find?_cons_of_neg (by rw[hp];exact dW)];have ih:=Eb (e:=e) (w:=w) f st p out r (aa x) (λy hy=>h y (eP _ hy)) λy hy=>ho y (eP _ hy);simp only[nP,iT];rw[ih];have:(r.getLast?.or (aa x))=((x::r).getLast?.or o):=by
    cases r with
    |nil=>rfl
    |cons y t=>simp[List.getLast?_cons]
   rw[this]
end Mi
namespace Mr
open PySem Mi
abbrev Ar:=Str×Str
def pairD(p:Ar):D:=.tup [.str p.1,.str p.2]
def bK(ae:List Str):D:=.tup (ae.map D.str)
def eg(aA:List Ar):D:=.tup (aA.map pairD)
def aK(ae:List Str)(aA:List Ar):D:=.tup [bK ae,eg aA]
def ai(xs:List Str):D:=.lst (xs.map D.str)
theorem at0{α:Type}(a:α)(r:List α):dM (a::r) 0=aa a:=by simp[dM,en]
theorem at1{α:Type}(a b:α)(r:List α):dM (a::b::r) 1=aa b:=by unfold dM en;rw[a8 (by decide),a8 (by simp only[bU];omega)];rfl
theorem fQ(ae:List Str)(aA:List Ar):av (aK ae aA) (.int 0)=.ok (bK ae):=by unfold aK av;simp[at0]
theorem mJ(ae:List Str)(aA:List Ar):av (aK ae aA) (.int 1)=.ok (eg aA):=by unfold aK av;simp[at1]
theorem t0{ae asked:List Str}(h:∀x∈asked,x∈ae):iS [.d (bK ae),.d (ai asked)]=.ok (.d .non):=by
 have key:∀(xs:List Str) (o:Option W),(∀x∈xs,x∈ae)->∃o',fu (.n 2) (a7 (cB (m2 gb (mV 2) (mV 0))) fZ bu) (xs.map D.str) [aa (.d (bK ae)),aa (.d (ai asked)),o]=.ok (.nx [aa (.d (bK ae)),aa (.d (ai asked)),o']):=by
  intro xs
  induction xs with
  |nil=>exactλo _=>⟨o,rfl⟩
  |cons x r ih=>
   intro o hx;obtain⟨o',e⟩:=ih (aa (.d (.str x))) λy hy=>hx y (eP _ hy);refine⟨o',?_⟩;rw[dg,fu];have:x∈ae:=hx x dS;simp only[bK,LY,G3,G4,a7,cB,m2,mV,bu,aO,j9,ke,uA,this,decide_true,Ad,re,nP,iT];exact e
 obtain⟨o',e⟩:=key asked ac h;unfold ai at e;unfold iS FG;rw[jp];simp only[dL,dh,mV,ai,Nat.reduceSub,List.replicate_succ,G2,vT,sO,j9,ke,aO,JX,e,JF]
def hW(aA:List Ar)(x:Str):List Str:=(aA.filter λp=>decide (p.2=x)).map (·.1)
theorem Oy{ae:List Str}{aA:List Ar}{x:Str}(hx:x∈ae)(hl:aA.length<=64):qW [.d (aK ae aA),.d (.str x)]=.ok (.d (.tup ((hW aA x).map D.str))):=by
 have hr:=t0 (ae:=ae) (asked:=[x]) (by simpa using hx);unfold qW EZ;rw[jp];have hc:dC (.t [1,2]) (cB (m2 bQ (mV 2) (mV 0))) (mV 1) [aa (.d (.str x)),ac,ac] (aA.map pairD)=.ok ((aA.filter λp=>decide (p.2=x)).map λp=>D.str p.1):=iL pairD (λp=>D.str p.1) (λp=>decide (p.2=x)) aA λp _=>⟨[aa (.d (.str x)),aa (.d (.str p.1)),aa (.d (.str p.2))],rfl,by simp only[cB,m2,mV,j9,ke,aO,uO,re],λ_=>by simp only[mV,j9,ke]⟩
 have hg:br (([D.str x]:List D).length<=16777216) (Rs.ok (D.lst [D.str x]))=.ok (.lst [.str x]):=aF (by simp);unfold ai at hr;have hp:j4 [aa 1,ac,ac] [aa (W.d (aK ae aA)),aa (W.d (D.str x))]=[aa (.d (.str x)),ac,ac]:=rfl;simp only[bU,d9,fL,Bu]at hg;simp only[dg,vV,aD,gO,ba,jz,b8,wD,m2,mV,Nat.reduceSub,G2,vT,sO,ke,mC,aO,fQ,mN,eS,j9,bg,bU,d9,fL,Bu,bL]at hr ⊢;rw[hr];simp only[aO,r9,eL,dh,m2,mV,mC,ke,mJ,eg,Lx,hp];rw[aF (by rw[bd];omega),hc];simp only[aO,Ld,L4,hW,ff];rfl
def ready(aA:List Ar)(told:List Str)(x:Str):Bool:=!decide (x∈told)&&(hW aA x).all λy=>decide (y∈told)
def nxt(ae:List Str)(aA:List Ar)(told:List Str):Option Str:=ae.find? (ready aA told)
theorem Fu{aA:List Ar}{x:Str}(hl:aA.length<=64):(hW aA x).length<=64:=by unfold hW;rw[bd];exact eW (sJ _ _) hl
structure lX(ae:List Str)(aA:List Ar):Prop where
 nd:ae.Nodup
 pos:1<=ae.length
 le:ae.length<=8
 al:aA.length<=64
 tl:∀p∈aA,p.1∈ae
 rk:∃r:Str->Int,∀p∈aA,r p.1<r p.2
theorem C1{aA:List Ar}{x y:Str}:y∈hW aA x↔(y,x)∈aA:=by
 unfold hW;constructor
 ·intro h;obtain⟨p,hp,rfl⟩:=db.mp h;obtain⟨h1,h2⟩:=eV.mp hp;have:p.2=x:=by simpa using h2
  rw[<- this];exact h1
 ·intro h;exact db.mpr ⟨(y,x),eV.mpr ⟨h,by simp⟩,rfl⟩
def ord(ae:List Str)(aA:List Ar):Nat->List Str
 |0=>[]
 | k+1=>match nxt ae aA (ord ae aA k)with
  |some x=>ord ae aA k++[x]
  |none=>ord ae aA k
theorem jM{α:Type}[DecidableEq α]:∀{l m:List α},l.Nodup->(∀x∈l,x∈m)->l.length<=m.length
 |[],_,_,_=>iC _
 |a::l,m,nd,h=>by
  have nd:=nK.mp nd;have:l.length<=(m.erase a).length:=jM nd.2 λx hx=>(List.mem_erase_of_ne (λz:x=a=>nd.1 (z ▸ hx))).mpr (h x (eP _ hx));have hm:=h a dS;rw[List.length_erase_of_mem hm]at this;have:0<m.length:=zM hm;rw[bU];omega
end Mr
namespace Mr
open PySem Mi
theorem FN{α:Type}(xs:List α)(k:Nat):eI xs ac (aa (k:Int))=xs.take k:=by
 show(xs.drop 0).take ((if(k:Int)<0 then((k:Int)+(xs.length:Int)).toNat else min (k:Int).toNat xs.length)-0)=_;rw[be (by omega),nL,Nat.sub_zero,kU];rcases wq k xs.length with h|h
 ·rw[wg h]
 ·rw[wf h,mv (bO _),mv h]
theorem Do:∀xs ys:List Str,gW (xs.map D.str) (ys.map D.str)=decide (xs=ys)
 |[],[]=>rfl
 |[],_::_=>rfl
 |_::_,[]=>rfl
 |x::xs,y::ys=>by
  rw[dg,dg,gW,n6,Do xs ys];by_cases h1:x=y<;>by_cases h2:xs=ys<;>simp[h1,h2]
theorem zd(xs ys:List Str):fh (ai xs) (ai ys)=.ok (.bl (!decide (xs=ys))):=by unfold fh ai;rw[aF (by simp),bM,Do]
end Mr
namespace My
def wl:List Nat:=[101,116,97,111,105,110,115,104,114,100,108,117,99,109,102,119,121,112,118,98,103,107,113,106,120,122]
def fA(n:Int):Nat:=wl.getD (n%26).toNat 0
def fB(c:Int):List Nat:=(cI 8).map λ(k:Nat)=>fA (c/(4+3*(k:Int)))
def fR(c:Int)(n:Nat):List Nat:=(cI n).map λ(k:Nat)=>fA (c/32+5*(k:Int)+(k:Int)*(k:Int))
def words(c:Int)(many:Nat):List (List Nat):=
 if c%4<2 then
  if c%4=0 then(cI many).map λ(k:Nat)=>(fB c).take (k+1)
  else(cI many).map λ(k:Nat)=>(fB c).drop (7-k)
 else
  (cI many).map λ(k:Nat)=>(fR c (c/4%8).toNat).take (c/256%(c/4%8+1)).toNat++[fA (c/7+5*(k:Int))]++(fR c (c/4%8).toNat).drop (c/256%(c/4%8+1)).toNat
def eU(x:List Nat):Prop:=1<=x.length/\x.length<=8/\∀c∈x,97<=c/\c<=122
theorem xD:∀c∈wl,97<=c/\c<=122:=by decide
theorem O8:wl.Nodup:=by decide
theorem vz:wl.length=26:=by decide
theorem xO(n:Int):fA n∈wl:=by
 unfold fA;have h1:=eu n (b:=26) (by decide);have h2:=eG n (b:=26) (by decide);have h3:(n%26).toNat<wl.length:=by rw[vz];omega
 rw[fX,fI h3];exact nJ h3
theorem NM{n m:Int}(h:fA n=fA m):n%26=m%26:=by
 unfold fA at h;have h1:=eu n (b:=26) (by decide);have h2:=eG n (b:=26) (by decide);have h3:(n%26).toNat<wl.length:=by rw[vz];omega
 have h1':=eu m (b:=26) (by decide);have h2':=eG m (b:=26) (by decide);have h3':(m%26).toNat<wl.length:=by rw[vz];omega
 rw[fX,fI h3,fX,fI h3']at h;have:=(pV O8).mp h;omega
theorem kC(c:Int):(fB c).length=8:=by simp[fB]
theorem om(c:Int)(n:Nat):(fR c n).length=n:=by simp[fR]
theorem FA(c:Int):∀x∈fB c,97<=x/\x<=122:=λx hx=>by
 obtain⟨k,_,rfl⟩:=db.mp hx;exact xD _ (xO _)
theorem Dx(c:Int)(n:Nat):∀x∈fR c n,97<=x/\x<=122:=λx hx=>by
 obtain⟨k,_,rfl⟩:=db.mp hx;exact xD _ (xO _)
theorem rZ(c:Int)(many:Nat):(words c many).length=many:=by unfold words;split<;>(try split)<;>simp
theorem wO{α:Type}(f:Nat->α)(n:Nat)(h:∀i j,i<n->j<n->f i=f j->i=j):((cI n).map f).Nodup:=by
 induction n with
 |zero=>simp
 |succ n ih=>
  rw[List.range_succ,fJ,List.map_singleton];rw[kQ];refine⟨ih λi j hi hj=>h i j (by omega) (by omega),by simp,λa ha b hb=>?_⟩;obtain⟨i,hi,rfl⟩:=db.mp ha;have hi:=gF.mp hi;have hb:b=f n:=by simpa using hb
  subst hb;intro e;have:=h i n (by omega) (by omega) e;omega
theorem sk(c:Int)(many:Nat)(hm:many<=8):(words c many).Nodup:=by
 unfold words;split
 ·split
  ·refine wO _ _ λi j hi hj e=>?_;have:=congrArg zS e;rw[g6,g6,kC]at this;omega
  ·refine wO _ _ λi j hi hj e=>?_;have:=congrArg zS e;rw[jB,jB,kC]at this;omega
 ·refine wO _ _ λi j hi hj e=>?_;rw[vS,vS]at e;have e1:=List.append_cancel_left e;have e2:=List.append_cancel_right e1;have e3:fA (c/7+5*(i:Int))=fA (c/7+5*(j:Int)):=by simpa using e2
  have:=NM e3;omega
theorem eT(c:Int)(many:Nat)(hm:many<=8):∀x∈words c many,eU x:=by
 unfold words;split
 ·split
  ·intro x hx;obtain⟨k,hk,rfl⟩:=db.mp hx;have hk:=gF.mp hk;refine⟨by rw[g6,kC];omega,by rw[g6,kC];omega,λy hy=>FA c y (pR hy)⟩
  ·intro x hx;obtain⟨k,hk,rfl⟩:=db.mp hx;have hk:=gF.mp hk;refine⟨by rw[jB,kC];omega,by rw[jB,kC];omega,λy hy=>FA c y (vP hy)⟩
 ·intro x hx;obtain⟨k,hk,rfl⟩:=db.mp hx;have h1:=eu (c/4) (b:=8) (by decide);have h2:=eG (c/4) (b:=8) (by decide);have h3:=eu (c/256) (b:=c/4%8+1) (by omega);have h4:=eG (c/256) (b:=c/4%8+1) (by omega);have hl:((fR c (c/4%8).toNat).take (c/256%(c/4%8+1)).toNat++[fA (c/7+5*(k:Int))]++(fR c (c/4%8).toNat).drop (c/256%(c/4%8+1)).toNat).length=(c/4%8).toNat+1:=by
   rw[cC,cC,g6,jB,om];simp;omega
  refine⟨by rw[hl];omega,by rw[hl];omega,λy hy=>?_⟩;rcases da.mp hy with hy|hy
  ·rcases da.mp hy with hy|hy
   ·exact Dx c _ y (pR hy)
   ·have:y=fA (c/7+5*(k:Int)):=by simpa using hy
    subst this;exact xD _ (xO _)
  ·exact Dx c _ y (vP hy)
end My
namespace Mi
open PySem
def S'(l:List Nat):Str:=⟨l.toArray⟩
theorem tK(l:List Nat):(S' l).cps.toList=l:=rfl
theorem jh(l:List Nat):(S' l).length=l.length:=by simp[S',nU]
theorem JD{x y:Str}(h:x.cps.toList=y.cps.toList):x=y:=by obtain⟨a⟩:=x;obtain⟨b⟩:=y;have h:a.toList=b.toList:=h;rw[Array.toList_inj.mp h]
theorem JU{l m:List Nat}(h:S' l=S' m):l=m:=by have:=congrArg (λx:Str=>x.cps.toList) h;simpa [S']using this
theorem OY(l m:List Nat):S' l++S' m=S' (l++m):=by show(⟨l.toArray++m.toArray⟩ : Str)=⟨(l++m).toArray⟩;simp
theorem EG:∀l:List Str,(jF "" l).cps.toList=l.flatMap (·.cps.toList)
 |[]=>by simp[jF,i7]
 |[x]=>by simp[jF]
 |x::y::r=>by
  have ih:=EG (y::r);have e:jF "" (x::y::r)=x ++ "" ++ jF "" (y::r):=rfl;have e2:("" : Str).cps.toList=[]:=by decide +kernel
  rw[e];show((x.cps++("" : Str).cps)++(jF "" (y::r)).cps).toList=_;rw[s0,s0,e2,ih];simp
theorem join_ones(l:List Nat):jF "" (l.map λx=>S' [x])=S' l:=by
 refine JD ?_;rw[EG,tK]
 induction l with
 |nil=>rfl
 |cons a r ih=>rw[dg,pU,ih];rfl
theorem JN{α:Type}(xs:List α)(k:Nat):eI xs ac (aa (k:Int))=xs.take k:=by
 show(xs.drop 0).take ((if(k:Int)<0 then((k:Int)+(xs.length:Int)).toNat else min (k:Int).toNat xs.length)-0)=_;rw[be (by omega),nL,Nat.sub_zero,kU];rcases wq k xs.length with h|h
 ·rw[wg h]
 ·rw[wf h,mv (bO _),mv h]
theorem DB{α:Type}(xs:List α)(k:Nat):eI xs (aa (k:Int)) ac=xs.drop k:=by
 show(xs.drop (if(k:Int)<0 then((k:Int)+(xs.length:Int)).toNat else min (k:Int).toNat xs.length)).take (xs.length-(if(k:Int)<0 then((k:Int)+(xs.length:Int)).toNat else min (k:Int).toNat xs.length))=_;rw[be (by omega),kU];rcases wq k xs.length with h|h
 ·rw[wg h];exact mv (by rw[jB];exact bO _)
 ·rw[wf h,sH (bO _),sH h];simp
theorem FE(l:List Nat)(k:Nat):iF (S' l) ac (aa (k:Int))=S' (l.take k):=by unfold iF;rw[tK,JN];rfl
theorem EM(l:List Nat)(k:Nat):iF (S' l) (aa (k:Int)) ac=S' (l.drop k):=by unfold iF;rw[tK,DB];rfl
def cW:Str := "etaoinshrdlucmfwypvbgkqjxz"
theorem MZ:cW.cps.toList=My.wl:=by decide +kernel
theorem Nz:cW.length<=16777216:=by decide +kernel
theorem vg{α:Type}{xs:List α}{i:Int}(h0:0<=i)(h1:i<xs.length)(d:α):dM xs i=aa (xs.getD i.toNat d):=by
 unfold dM en;rw[a8 h0,a8 h1];have h3:i.toNat<xs.length:=by omega
 show xs[i.toNat]? = _;rw[fX,fI h3];rfl
theorem PR(n:Int):dM cW.cps.toList (n%26)=aa (My.fA n):=by rw[MZ];have h1:=eu n (b:=26) (by decide);have h2:=eG n (b:=26) (by decide);exact vg h1 (by rw[My.vz];omega) 0
theorem rj{cs:List Int}{i:Int}(h0:0<=i)(h1:i<cs.length):av (.lst (cs.map D.int)) (.int i)=.ok (.int (cs.getD i.toNat 0)):=by
 show dE (dM (cs.map D.int) i)=_;rw[vg h0 (by rw[bd];exact h1) (.int 0),kJ];have h3:i.toNat<cs.length:=by omega
 rw[fX,d8,fX,fI h3];rfl
theorem oU{cs:List Str}{i:Int}(h0:0<=i)(h1:i<cs.length):av (.lst (cs.map D.str)) (.int i)=.ok (.str (cs.getD i.toNat i7)):=by
 show dE (dM (cs.map D.str) i)=_;rw[vg h0 (by rw[bd];exact h1) (.str i7),kJ];have h3:i.toNat<cs.length:=by omega
 rw[fX,d8,fX,fI h3];rfl
theorem ue(n:Nat):dB 0 (n:Int)=(cI n).map λ(k:Nat)=>D.int (k:Int):=by unfold dB;rw[show((n:Int)-0).toNat=n by omega];exact G1 λk _=>by rw[Int.zero_add]
theorem lH(n:Nat):(dB 0 (n:Int)).length=n:=by rw[ue];simp
theorem qG{n i:Nat}{x:D}(h:(dB 0 (n:Int))[i]? = aa x):i<n/\x=.int (i:Int):=by
 rw[ue,d8]at h;cases hr:(cI n)[i]? with
 |none=>rw[hr]at h;cases h
 |some k=>
  rw[hr]at h;obtain⟨h1,h2⟩:=dG.mp hr;rw[G5]at h2;subst h2;rw[zP]at h1;exact⟨h1,(fM h).symm⟩
theorem oM{tg:Tg}{a:E}{e:Mi.Env}(g:Nat->D)(n:Nat)(h:∀k<n,∃e1,tg.put (.int (k:Int)) e=.ok e1/\a e1=.ok (g k)):dC tg ej a e (dB 0 (n:Int))=.ok ((cI n).map g):=by
 rw[ue,iL (λ(k:Nat)=>D.int (k:Int)) g (λ_=>true) (cI n) λk hk=>?_]
 ·rw[pT.mpr λ_ _=>rfl]
 ·obtain⟨e1,h1,h2⟩:=h k (gF.mp hk);exact⟨e1,h1,rfl,λ_=>h2⟩
theorem oS{i:Int}(h0:-1000<=i)(h1:i<=1000):okR i:=by unfold okR;omega
theorem jq{i j:Int}(h0:-(2 ^ 64)<i)(h1:i<2 ^ 64):lc i j:=.inl ⟨h0,h1⟩
theorem pK{i j:Int}(h0:-(2 ^ 64)<j)(h1:j<2 ^ 64):lc i j:=.inr ⟨h0,h1⟩
theorem eY{j:Int}(h0:0<j)(h1:j<2 ^ 64):lp j:=by
 refine⟨h0,?_⟩;have h2:j.natAbs<2 ^ 64:=by omega
 have h3:j.natAbs≠0:=by omega
 have:=(Nat.log2_lt h3).mpr h2;omega
end Mi
namespace Mr
open PySem Mi
open My (words fB fR fA kC om rZ sk)
theorem yJ(n:Int):av (.str cW) (.int (n%26))=.ok (.str (S' [fA n])):=by show br _ _=_;rw[aF Nz,PR];rfl
theorem DY(l:List Nat)(h:l.length<=8):u5 (.str "") (.lst (l.map λx=>D.str (S' [x])))=.ok (.str (S' l)):=by
 show(dE (k4 (l.map λx=>D.str (S' [x])))).bind _=_;have e:l.map (λx=>D.str (S' [x]))=(l.map λx=>S' [x]).map D.str:=by rw[ff];rfl
 rw[e,LW,kJ,aO,aF ?_,join_ones];have h1:((l.map λx=>S' [x]).map (·.length)).sum=l.length:=by
  clear h e
  induction l with
  |nil=>rfl
  |cons a r ih=>rw[dg,dg,List.sum_cons,ih,jh,bU];simp;omega
 have h2:("" : Str).length=0:=by decide +kernel
 rw[h1,h2];omega
theorem st1(c:Int)(k:Nat)(d32:lp 32)(m5:lc 5 (k:Int))(mk:lc (k:Int) k):(m2 aZ (m2 aZ (m2 bn (mV 1) (mC (.int 32))) (m2 bT (mC (.int 5)) (mV 2))) (m2 bT (mV 2) (mV 2))) [aa (.d (.str cW)),aa (.d (.int c)),aa (.d (.int k))]=.ok (.int (c/32+5*(k:Int)+(k:Int)*(k:Int))):=(au (au (au rfl rfl (aF d32)) (au rfl rfl (aF m5)) rfl) (au rfl rfl (aF mk)) rfl)
theorem st2(c:Int)(e:Mi.Env)(a:E)(h:a e=.ok (.int c))(h0:e[0]? = aa (aa (.d (.str cW)))):m2 av (mV 0) (m2 aQ a (mC (.int 26))) e=.ok (.str (S' [fA c])):=au (x:=.str cW) (by unfold mV;rw[h0]) (au h rfl (aF (by decide))) (yJ _)
theorem Ji{k n:Nat}(h:k<n)(h8:n<8):lc (k:Int) k:=jq (by omega) (by omega)
theorem size_of(c:Int):∃n:Nat,c/4%8=(n:Int)/\n<8:=by have z1:=eu (c/4) (b:=8) (by decide);have z2:=eG (c/4) (b:=8) (by decide);exact⟨(c/4%8).toNat,by omega,by omega⟩
theorem at_of(c:Int)(n:Nat):∃t:Nat,c/256%((n:Int)+1)=(t:Int)/\t<=n:=by have z3:=eu (c/256) (b:=(n:Int)+1) (by omega);have z4:=eG (c/256) (b:=(n:Int)+1) (by omega);exact⟨(c/256%((n:Int)+1)).toNat,by omega,by omega⟩
theorem LU(c:Int)(m:Nat)(hm:m<=8):qy [.d (.int c),.d (.int (m:Int))]=.ok (.d (ai ((words c m).map S'))):=by
 unfold qy BU;rw[kM];have hr8:okR 8:=oS (by decide) (by decide);have hrm:okR (m:Int):=oS (by omega) (by omega);have hl0:(PySem.Str.ofString "etaoinshrdlucmfwypvbgkqjxz")=cW:=rfl;have g4:∀r:Rs D,br ((0:Int)<4) r=r:=λr=>aF (by decide);have g26:∀r:Rs D,br ((0:Int)<26) r=r:=λr=>aF (by decide);have g8:∀r:Rs D,br ((0:Int)<8) r=r:=λr=>aF (by decide);by_cases c1:c%4<2
 ·have HP:dC (.n 2) ej (m2 av (mV 0) (m2 aQ (m2 bn (mV 1) (m2 aZ (mC (.int 4)) (m2 bT (mC (.int 3)) (mV 2)))) (mC (.int 26)))) [aa (.d (.str cW)),aa (.d (.int c)),ac] (dB 0 8)=.ok ((fB c).map λx=>D.str (S' [x])):=by
   have:=oM (tg:=.n 2) (a:=m2 av (mV 0) (m2 aQ (m2 bn (mV 1) (m2 aZ (mC (.int 4)) (m2 bT (mC (.int 3)) (mV 2)))) (mC (.int 26)))) (e:=[aa (.d (.str cW)),aa (.d (.int c)),ac]) (λk=>D.str (S' [fA (c/(4+3*(k:Int)))])) 8 λk hk=>⟨[aa (.d (.str cW)),aa (.d (.int c)),aa (.d (.int k))],rfl,by
    simp only[m2,mV,ke,j9,mC,aO,sd];rw[aF (jq (by decide) (by decide))];simp only[aO,kE,div_ii];rw[aF (eY (by omega) (by omega))];simp only[aO,fr,g26,yJ]⟩
   rw[show((8:Nat):Int)=8 from rfl]at this;rw[this];unfold fB;rw[ff];rfl
  have hp:j4 [aa 2,aa 0,ac] [aa (.d (.int c)),aa (.d (.int (m:Int))),aa (.d (.str cW)),ac,ac,ac,ac]=[aa (.d (.str cW)),aa (.d (.int c)),ac]:=rfl;have hj:=DY (fB c) (by rw[kC];omega);have hw8:(dB 0 8).length<=16777216:=by rw[show(8:Int)=((8:Nat):Int)from rfl,lH];omega
  have hwm:(dB 0 (m:Int)).length<=16777216:=by rw[lH];omega
  by_cases c2:c%4=0
  ·have hc:dC (.n 1) ej (cR dj (mV 0) ac (aa (m2 aZ (mV 1) (mC (.int 1))))) [aa (.d (.str (S' (fB c)))),ac] (dB 0 (m:Int))=.ok ((words c m).map λl=>D.str (S' l)):=by
    rw[oM (λk=>D.str (S' ((fB c).take (k+1)))) m λk hk=>⟨[aa (.d (.str (S' (fB c)))),aa (.d (.int k))],rfl,by
     simp only[cR,mV,ke,iX,m2,j9,mC,aO,kE,lW,sA];rw[aF (by rw[jh,kC];omega),show(k:Int)+1=((k+1:Nat):Int)by omega,FE]⟩]
    unfold words;rw[a8 c1,a8 c2,ff];rfl
   have hp2:∀z,j4 [aa 3,ac] [aa (.d (.int c)),aa (.d (.int (m:Int))),aa (.d (.str cW)),aa z,ac,ac,ac]=[aa z,ac]:=λ_=>rfl;have hmod:cB (m2 eo (m2 aQ (mV 0) (mC (.int 4))) (mC (.int 2))) [aa (.d (.int c)),aa (.d (.int (m:Int))),aa (.d (.str cW)),ac,ac,ac,ac]=.ok true:=cu ((au (au rfl rfl (g4 _)) rfl rfl).trans (by rw[se,bR c1]))
   have AN:cB (m2 bQ (m2 aQ (mV 0) (mC (.int 4))) (mC (.int 0))) [aa (.d (.int c)),aa (.d (.int (m:Int))),aa (.d (.str cW)),aa (.d (.str (S' (fB c)))),ac,ac,ac]=.ok true:=cu ((au (au rfl rfl (g4 _)) rfl rfl).trans (by rw[kL,bR c2]))
   show Rs.bind _ jL=_;rw[aV (e':=[aa (.d (.int c)),aa (.d (.int (m:Int))),aa (.d (.str cW)),ac,ac,ac,ac]) (bF rfl)];refine(congrArg (λr=>Rs.bind r jL) (nr (w:=.d (ai ((words c m).map S'))) ?_)).trans rfl;rw[dP hmod,aV (e':=[aa (.d (.int c)),aa (.d (.int (m:Int))),aa (.d (.str cW)),aa (.d (.str (S' (fB c)))),ac,ac,ac]) (bF (au rfl (gh (iG rfl hr8) hw8 HP) hj))];rw[nr ((dP AN).trans (el (bj (gh (iG rfl hrm) hwm hc))))];rw[ai,ff];rfl
  ·have hc:dC (.n 1) ej (cR dj (mV 0) (aa (m2 jV (mC (.int 7)) (mV 1))) ac) [aa (.d (.str (S' (fB c)))),ac] (dB 0 (m:Int))=.ok ((words c m).map λl=>D.str (S' l)):=by
    rw[oM (λk=>D.str (S' ((fB c).drop (7-k)))) m λk hk=>⟨[aa (.d (.str (S' (fB c)))),aa (.d (.int k))],rfl,by
     simp only[cR,mV,ke,iX,m2,mC,j9,aO,NZ,lW,sA];rw[aF (by rw[jh,kC];omega),show(7:Int)-(k:Int)=((7-k:Nat):Int)by omega,EM]⟩]
    unfold words;rw[a8 c1,be c2,ff];rfl
   have hp2:∀z,j4 [aa 3,ac] [aa (.d (.int c)),aa (.d (.int (m:Int))),aa (.d (.str cW)),aa z,ac,ac,ac]=[aa z,ac]:=λ_=>rfl;have hmod:cB (m2 eo (m2 aQ (mV 0) (mC (.int 4))) (mC (.int 2))) [aa (.d (.int c)),aa (.d (.int (m:Int))),aa (.d (.str cW)),ac,ac,ac,ac]=.ok true:=cu ((au (au rfl rfl (g4 _)) rfl rfl).trans (by rw[se,bR c1]))
   have AN:cB (m2 bQ (m2 aQ (mV 0) (mC (.int 4))) (mC (.int 0))) [aa (.d (.int c)),aa (.d (.int (m:Int))),aa (.d (.str cW)),aa (.d (.str (S' (fB c)))),ac,ac,ac]=.ok false:=cu ((au (au rfl rfl (g4 _)) rfl rfl).trans (by rw[kL,cp c2]))
   show Rs.bind _ jL=_;rw[aV (e':=[aa (.d (.int c)),aa (.d (.int (m:Int))),aa (.d (.str cW)),ac,ac,ac,ac]) (bF rfl)];refine(congrArg (λr=>Rs.bind r jL) (nr (w:=.d (ai ((words c m).map S'))) ?_)).trans rfl;rw[dP hmod,aV (e':=[aa (.d (.int c)),aa (.d (.int (m:Int))),aa (.d (.str cW)),aa (.d (.str (S' (fB c)))),ac,ac,ac]) (bF (au rfl (gh (iG rfl hr8) hw8 HP) hj))];rw[aV (cU AN),el (bj (gh (iG rfl hrm) hwm hc))];rw[ai,ff];rfl
 ·obtain⟨n,hn,hn8⟩:=size_of c;obtain⟨t,ht,ht8⟩:=at_of c n;have hrn:okR (n:Int):=oS (by omega) (by omega);have d4:lp 4:=eY (by decide) (by decide);have d32:lp 32:=eY (by decide) (by decide);have QR:lp 256:=eY (by decide) (by decide);have d7:lp 7:=eY (by decide) (by decide);have QS:dC (.n 2) ej (m2 av (mV 0) (m2 aQ (m2 aZ (m2 aZ (m2 bn (mV 1) (mC (.int 32))) (m2 bT (mC (.int 5)) (mV 2))) (m2 bT (mV 2) (mV 2))) (mC (.int 26)))) [aa (.d (.str cW)),aa (.d (.int c)),ac] (dB 0 (n:Int))=.ok ((fR c n).map λx=>D.str (S' [x])):=by
   rw[oM (λk=>D.str (S' [fA (c/32+5*(k:Int)+(k:Int)*(k:Int))])) n λk hk=>⟨[aa (.d (.str cW)),aa (.d (.int c)),aa (.d (.int k))],rfl,by
    exact st2 _ _ _ (st1 c k d32 (jq (by decide) (by decide)) (Ji hk hn8)) rfl⟩]
   unfold fR;rw[ff];rfl
  have hp:j4 [aa 2,aa 0,ac] [aa (.d (.int c)),aa (.d (.int (m:Int))),aa (.d (.str cW)),ac,aa (.d (.int (n:Int))),ac,ac]=[aa (.d (.str cW)),aa (.d (.int c)),ac]:=rfl;have hj:=DY (fR c n) (by rw[om];omega);have hwn:(dB 0 (n:Int)).length<=16777216:=by rw[lH];omega
  have hwm:(dB 0 (m:Int)).length<=16777216:=by rw[lH];omega
  have hc:dC (.n 4) ej (m2 aZ (m2 aZ (cR dj (mV 0) ac (aa (mV 2))) (m2 av (mV 1) (m2 aQ (m2 aZ (m2 bn (mV 3) (mC (.int 7))) (m2 bT (mC (.int 5)) (mV 4))) (mC (.int 26))))) (cR dj (mV 0) (aa (mV 2)) ac))
   [aa (.d (.str (S' (fR c n)))),aa (.d (.str cW)),aa (.d (.int (t:Int))),aa (.d (.int c)),ac] (dB 0 (m:Int))=.ok ((words c m).map λl=>D.str (S' l)):=by
   rw[oM (λk=>D.str (S' ((fR c n).take t++[fA (c/7+5*(k:Int))]++(fR c n).drop t))) m λk hk=>⟨[aa (.d (.str (S' (fR c n)))),aa (.d (.str cW)),aa (.d (.int (t:Int))),aa (.d (.int c)),aa (.d (.int k))],rfl,by
    have gS:∀r:Rs D,br ((S' (fR c n)).length<=16777216) r=r:=λr=>aF (by rw[jh,om];omega);have gM:∀r:Rs D,br (lc 5 (k:Int)) r=r:=λr=>aF (jq (by decide) (by decide));simp only[m2,cR,mV,ke,iX,j9,aO,lW,sA,FE,gS,mC,div_ii,aF d7,sd,gM,kE,fr,g26,yJ,ud,EM];rw[aF (by rw[jh,jh,g6,om];simp;omega)];simp only[OY,aO,ud];rw[aF (by rw[jh,jh,cC,g6,jB,om];simp;omega)]⟩]
   unfold words;rw[be c1,ff,hn,ht];rfl
  have hmod:cB (m2 eo (m2 aQ (mV 0) (mC (.int 4))) (mC (.int 2))) [aa (.d (.int c)),aa (.d (.int (m:Int))),aa (.d (.str cW)),ac,ac,ac,ac]=.ok false:=cu ((au (au rfl rfl (g4 _)) rfl rfl).trans (by rw[se,cp c1]))
  show Rs.bind _ jL=_;rw[aV (e':=[aa (.d (.int c)),aa (.d (.int (m:Int))),aa (.d (.str cW)),ac,ac,ac,ac]) (bF rfl)];rw[aV (cU hmod)];rw[aV (e':=[aa (.d (.int c)),aa (.d (.int (m:Int))),aa (.d (.str cW)),ac,aa (.d (.int (n:Int))),ac,ac]) (bF (d:=.int (n:Int)) ((au (au rfl rfl (aF d4)) rfl (g8 _)).trans (by rw[hn])))];rw[aV (e':=[aa (.d (.int c)),aa (.d (.int (m:Int))),aa (.d (.str cW)),ac,aa (.d (.int (n:Int))),aa (.d (.str (S' (fR c n)))),ac]) (bF (au rfl (gh (iG rfl hrn) hwn QS) hj))];rw[aV (e':=[aa (.d (.int c)),aa (.d (.int (m:Int))),aa (.d (.str cW)),ac,aa (.d (.int (n:Int))),aa (.d (.str (S' (fR c n)))),aa (.d (.int (t:Int)))]) (bF (d:=.int (t:Int)) ((au (au rfl rfl (aF QR)) (au rfl rfl rfl) (aF (by omega))).trans (by rw[ht])))];rw[el (bj (gh (iG rfl hrm) hwm hc))];simp only[aO,Nf,ai,ff];rfl
end Mr
namespace Mr
open PySem Mi
open My (words rZ sk eU)
theorem rH(n:Nat)(h:n<=8):okR (n:Int):=oS (by omega) (by omega)
theorem Mw{ls:List Int}{z:Int}(h0:0<=z)(h1:z<ls.length)(hl:ls.length<=100):jS (ls.map D.int) z=.ok (.int (ls.getD z.toNat 0),(ls.eraseIdx z.toNat).map D.int):=by
 have h3:z.toNat<ls.length:=by omega
 unfold jS;rw[aF (by omega),show en (ls.map D.int).length z=aa z.toNat by
  unfold en;rw[a8 h0,a8 (by rw[bd];exact h1)],kJ,aO,d8,fI h3,fX,fI h3]
 show Rs.ok (D.int ls[z.toNat],(ls.map D.int).eraseIdx z.toNat)=_;have:∀(l:List Int) (k:Nat),(l.map D.int).eraseIdx k=(l.eraseIdx k).map D.int:=by
  intro l
  induction l with
  |nil=>intro k;rfl
  |cons a r ih=>
   intro k;cases k with
   |zero=>rfl
   |succ k=>rw[dg,zL,ih k];rfl
 rw[this];rfl
theorem lC(e:Mi.Env):mN bg [] e=.ok (.lst []):=by show br (([]:List D).length<=16777216) (Rs.ok (D.lst []))=_;exact aF (by simp)
end Mr
namespace Mr
open PySem Mi
theorem Nm{ls:List Int}{z v:Int}(h0:0<=z)(h1:z<ls.length):∃j,en (ls.map D.int).length z=aa j/\(ls.map D.int).set j (.int v)=(ls.set j v).map D.int:=by
 refine⟨z.toNat,?_,?_⟩
 ·unfold en;rw[a8 h0,a8 (by rw[bd];exact h1)]
 ·rw[List.map_set]
theorem Od{i:Nat}{k a:E}{e:Mi.Env}{ls:List Int}{z v:Int}(ha:a e=.ok (.int v))(hk:k e=.ok (.int z))(hg:getL e i=.ok (ls.map D.int))(h0:0<=z)(h1:z<ls.length):∃ls':List Int,ls'.length=ls.length/\qJ i k a e=.ok (.nx (putL e i (ls'.map D.int))):=by obtain⟨j,hj,hs⟩:=Nm (v:=v) h0 h1;refine⟨ls.set j v,by simp,?_⟩;unfold qJ;rw[ha,aO,hk,aO,lW,aO,hg,aO,hj,kJ,aO,hs]
end Mr
namespace Mr
open PySem Mi
abbrev Ix:=Nat×Nat
def yE(p q:Ix):Prop:=p.1<q.1\/(p.1=q.1/\p.2<q.2)
def nth(ae:List Str)(i:Nat):Str:=ae.getD i i7
def arrOf(ae:List Str)(p:Ix):Ar:=(nth ae p.1,nth ae p.2)
structure oo(ae:List Str)(A:List Ix)(r:Nat->Int):Prop where
 nd:ae.Nodup
 pos:1<=ae.length
 le:ae.length<=8
 gP:A.Pairwise yE
 all:∀p∈A,p.1<ae.length/\p.2<ae.length/\r p.1<r p.2
 al:A.length<=64
theorem uH{ae:List Str}{i:Nat}(h:i<ae.length):nth ae i∈ae:=by unfold nth;rw[fX,fI h];exact nJ h
theorem qz{ae:List Str}(nd:ae.Nodup){i j:Nat}(hi:i<ae.length)(hj:j<ae.length)(h:nth ae i=nth ae j):i=j:=by unfold nth at h;rw[fX,fI hi,fX,fI hj]at h;exact(pV nd).mp h
theorem oo.bf{ae:List Str}{A:List Ix}{r:Nat->Int}(N:oo ae A r):lX ae (A.map (arrOf ae)):=by
 refine⟨N.nd,N.pos,N.le,by rw[bd];exact N.al,λp hp=>?_,λx=>r (ae.idxOf x),λp hp=>?_⟩
 ·obtain⟨q,hq,rfl⟩:=db.mp hp;exact uH (N.all q hq).1
 ·obtain⟨q,hq,rfl⟩:=db.mp hp;obtain⟨h1,h2,h3⟩:=N.all q hq;have key:∀i,i<ae.length->ae.idxOf (nth ae i)=i:=λi hi=>by
   have hm:=uH hi;have hl:ae.idxOf (nth ae i)<ae.length:=List.idxOf_lt_length_of_mem hm;refine qz N.nd hl hi ?_;have h4:ae[ae.idxOf (nth ae i)]=nth ae i:=List.getElem_idxOf hl;show ae.getD (ae.idxOf (nth ae i)) i7=_;rw[fX,fI hl];exact h4
  show r (ae.idxOf (nth ae q.1))<r (ae.idxOf (nth ae q.2));rw[key _ h1,key _ h2];exact h3
def good(m:Nat)(r:Nat->Int)(A:List Ix)(j k:Nat):Prop:=A.Pairwise yE/\(∀p∈A,p.1<m/\p.2<m/\r p.1<r p.2/\(p.1<j\/(p.1=j/\p.2<k)))/\A.length<=8*j+k
theorem good.skip{m:Nat}{r:Nat->Int}{A:List Ix}{j k:Nat}(h:good m r A j k):good m r A j (k+1):=⟨h.1,λp hp=>⟨(h.2.1 p hp).1,(h.2.1 p hp).2.1,(h.2.1 p hp).2.2.1,by have:=(h.2.1 p hp).2.2.2;omega⟩,by have:=h.2.2;omega⟩
theorem good.add{m:Nat}{r:Nat->Int}{A:List Ix}{j k:Nat}(h:good m r A j k)(hj:j<m)(hk:k<m)(hr:r j<r k):good m r (A++[(j,k)]) j (k+1):=by
 refine⟨List.pairwise_append.mpr ⟨h.1,List.pairwise_singleton _ _,λp hp q hq=>?_⟩,λp hp=>?_,by rw[cC];have:=h.2.2;simp;omega⟩
 ·have:q=(j,k):=by simpa using hq
  subst this;have:=(h.2.1 p hp).2.2.2;exact this
 ·rcases da.mp hp with hp|hp
  ·exact(h.skip.2.1 p hp)
  ·have:p=(j,k):=by simpa using hp
   subst this;exact⟨hj,hk,hr,.inr ⟨rfl,by omega⟩⟩
theorem good.next{m:Nat}{r:Nat->Int}{A:List Ix}{j k:Nat}(h:good m r A j k)(hk:k<=8):good m r A (j+1) 0:=⟨h.1,λp hp=>⟨(h.2.1 p hp).1,(h.2.1 p hp).2.1,(h.2.1 p hp).2.2.1,by have:=(h.2.1 p hp).2.2.2;omega⟩,by have:=h.2.2;omega⟩
def gL(ae:List Str)(A:List Ix):D:=.lst ((A.map (arrOf ae)).map pairD)
theorem I0{a:Int}(h0:0<=a)(h1:a<8):-(2 ^ 64)<a/\a<2 ^ 64/\0<=a*(a-1)/2/\a*(a-1)/2<=21:=by
 have:a=0\/a=1\/a=2\/a=3\/a=4\/a=5\/a=6\/a=7:=by omega
 rcases this with h|h|h|h|h|h|h|h<;>subst h<;>decide
end Mr
namespace Mr
open PySem Mi
open My (words rZ sk)
theorem mL(ns:List Int)(k:Nat)(hk:k<=100):∃c:Int,fi [.d (.lst (ns.map D.int)),.d (.int (k:Int))]=.ok (.d (.int c)):=by
 unfold fi xr;rw[jp];have hl:mN bV [mV 0] [aa (.d (.lst (ns.map D.int))),aa (.d (.int (k:Int))),ac]=.ok (.int (ns.length:Int)):=by show Rs.ok (D.int ((ns.map D.int).length:Int))=_;rw[bd]
 have c1:cB (m2 eo (mV 1) (mN bV [(mV 0)])) [aa (.d (.lst (ns.map D.int))),aa (.d (.int (k:Int))),ac]=.ok (decide ((k:Int)<(ns.length:Int))):=cu (au rfl hl rfl);by_cases h:(k:Int)<(ns.length:Int)
 ·rw[bR h]at c1;exact⟨_,by
   rw[show([aa (W.d (.lst (ns.map D.int))),aa (.d (.int (k:Int)))]++cG (3-2) ac)=[aa (.d (.lst (ns.map D.int))),aa (.d (.int (k:Int))),ac]from rfl];rw[nr ((dP c1).trans (el (bj (au rfl rfl (rj (by omega) h)))))];rfl⟩
 ·rw[cp h]at c1;have s1:a4 2 (m2 aZ (mC (.int 30011)) (m2 bT (m2 bT (mC (.int 709)) (mV 1)) (mV 1))) [aa (.d (.lst (ns.map D.int))),aa (.d (.int (k:Int))),ac]=.ok (.nx [aa (.d (.lst (ns.map D.int))),aa (.d (.int (k:Int))),aa (.d (.int (30011+709*(k:Int)*(k:Int))))]):=
   bF (au rfl (au (au rfl rfl (aF (jq (by decide) (by decide)))) rfl (aF (pK (by omega) (by omega)))) rfl)
  have hl2:mN bV [mV 0] [aa (.d (.lst (ns.map D.int))),aa (.d (.int (k:Int))),aa (.d (.int (30011+709*(k:Int)*(k:Int))))]=.ok (.int (ns.length:Int)):=by show Rs.ok (D.int ((ns.map D.int).length:Int))=_;rw[bd]
  have c2:cB (m2 ku (mN bV [(mV 0)]) (mC (.int 0))) [aa (.d (.lst (ns.map D.int))),aa (.d (.int (k:Int))),aa (.d (.int (30011+709*(k:Int)*(k:Int))))]=.ok (decide ((0:Int)<(ns.length:Int))):=cu (au hl2 rfl rfl);by_cases h0:(0:Int)<(ns.length:Int)
  ·rw[bR h0]at c2;refine⟨_,by
    rw[show([aa (W.d (.lst (ns.map D.int))),aa (.d (.int (k:Int)))]++cG (3-2) ac)=[aa (.d (.lst (ns.map D.int))),aa (.d (.int (k:Int))),ac]from rfl];rw[aV ((cU c1).trans rfl),aV s1,aV ((dP c2).trans (bF (au rfl (au (au (au rfl rfl (rj (by decide) h0)) rfl (aF (by decide))) (au (au (au rfl rfl (aF (jq (by omega) (by omega)))) (au rfl rfl (aF (jq (by decide) (by decide)))) rfl) rfl rfl) (aF (jq ?_ ?_))) rfl)))];rfl⟩
   ·have:=eu (ns.getD (0:Int).toNat 0) (b:=99991) (by decide);omega
   ·have:=eG (ns.getD (0:Int).toNat 0) (b:=99991) (by decide);omega
  ·rw[cp h0]at c2;exact⟨_,by
    rw[show([aa (W.d (.lst (ns.map D.int))),aa (.d (.int (k:Int)))]++cG (3-2) ac)=[aa (.d (.lst (ns.map D.int))),aa (.d (.int (k:Int))),ac]from rfl];rw[aV ((cU c1).trans rfl),aV s1,aV ((cU c2).trans rfl)];rfl⟩
theorem KQ(d:Int)(m:Nat)(hm:m<=8):∃rs:List Int,rC [.d (.int d),.d (.int (m:Int))]=.ok (.d (.lst (rs.map D.int)))/\rs.length=m:=by
 unfold rC Ef;rw[kM];have hw:(dB 0 (m:Int)).length<=16777216:=by rw[lH];omega
 have hc:dC (.n 0) ej (mV 0) [ac] (dB 0 (m:Int))=.ok ((cI m).map λ(k:Nat)=>D.int (k:Int)):=oM (λk=>D.int (k:Int)) m λk _=>⟨[aa (.d (.int k))],rfl,rfl⟩
 have hr:((cI m).map λ(k:Nat)=>D.int (k:Int))=((cI m).map λ(k:Nat)=>(k:Int)).map D.int:=by rw[ff];rfl
 rw[hr]at hc;obtain⟨e',h1,h2⟩:=i4 (tg:=.n 5) (body:=aD (a4 4 (m2 aQ (m2 aZ (m2 aZ (m2 bT (mV 4) (mC (.int 48271))) (m2 bT (mC (.int 7)) (mV 5))) (mC (.int 1))) (mC (.int 2147483647)))) (uv 3 2 (m2 aQ (m2 bn (mV 4) (mC (.int 32))) (mN bV [(mV 2)]))))
  (λi e=>∃(x:Int) (ls rs:List Int) (o:Option W),e=[aa (.d (.int d)),aa (.d (.int (m:Int))),aa (.d (.lst (ls.map D.int))),aa (.d (.lst (rs.map D.int))),aa (.d (.int x)),o]/\ls.length+i=m/\rs.length=i) (dB 0 (m:Int)) 0 (λi x e hx ⟨x0,ls,rs,o,he,hl,hrs⟩=>by
   obtain⟨hi,rfl⟩:=qG hx;subst he;rw[fL]at hl hrs;have hpos:(0:Int)<(ls.length:Int):=by omega
   obtain⟨y,hy⟩ : ∃y,y=(x0*48271+7*(i:Int)+1)%2147483647:=⟨_,rfl⟩;have z1:=eu (y/32) (b:=(ls.length:Int)) (by omega);have z2:=eG (y/32) hpos;refine⟨[aa (.d (.int d)),aa (.d (.int (m:Int))),aa (.d (.lst (ls.map D.int))),aa (.d (.lst (rs.map D.int))),aa (.d (.int x0)),aa (.d (.int (i:Int)))],[aa (.d (.int d)),aa (.d (.int (m:Int))),aa (.d (.lst ((ls.eraseIdx (y/32%(ls.length:Int)).toNat).map D.int))),aa (.d (.lst ((rs++[ls.getD (y/32%(ls.length:Int)).toNat 0]).map D.int))),aa (.d (.int y)),aa (.d (.int (i:Int)))],rfl,?_,y,ls.eraseIdx (y/32%(ls.length:Int)).toNat,rs++[ls.getD (y/32%(ls.length:Int)).toNat 0],aa (.d (.int (i:Int))),rfl,?_,?_⟩
   ·have h0:m2 aQ (m2 bn (mV 4) (mC (.int 32))) (mN bV [(mV 2)]) [aa (.d (.int d)),aa (.d (.int (m:Int))),aa (.d (.lst (ls.map D.int))),aa (.d (.lst (rs.map D.int))),aa (.d (.int y)),aa (.d (.int (i:Int)))]=.ok (.int (y/32%(ls.length:Int))):=
     au (x:=.int (y/32)) (y:=.int (ls.length:Int)) (au rfl rfl (aF (eY (by decide) (by decide)))) (by show Rs.ok (D.int ((ls.map D.int).length:Int))=_;rw[bd]) (aF hpos)
    rw[aV (e':=[aa (.d (.int d)),aa (.d (.int (m:Int))),aa (.d (.lst (ls.map D.int))),aa (.d (.lst (rs.map D.int))),aa (.d (.int y)),aa (.d (.int (i:Int)))])]
    ·unfold uv;rw[h0];simp only[aO,lW,getL,j9,ke,Mw z1 z2 (by omega),putL,G3,G4];rw[aF (by rw[bd];omega),fJ];rfl
    ·rw[hy];exact bF (au (au (au (au rfl rfl (aF (pK (by decide) (by decide)))) (au rfl rfl (aF (jq (by decide) (by decide)))) rfl) rfl rfl) rfl (aF (by decide)))
   ·rw[List.length_eraseIdx_of_lt (by omega)];omega
   ·rw[cC,hrs];simp) [aa (.d (.int d)),aa (.d (.int (m:Int))),aa (.d (.lst (((cI m).map λ(k:Nat)=>(k:Int)).map D.int))),aa (.d (.lst [])),aa (.d (.int (d%2147483647))),ac] ⟨_,_,[],ac,rfl,by simp,rfl⟩
 obtain⟨d2,ls,rs,o,he,hl,hrs⟩:=h2;subst he;rw[lH,fL]at hl hrs;refine⟨rs,?_,hrs⟩;rw[aV (e':=[aa (.d (.int d)),aa (.d (.int (m:Int))),aa (.d (.lst (((cI m).map λ(k:Nat)=>(k:Int)).map D.int))),ac,ac,ac]) (bF (gh (iG rfl (rH m hm)) hw hc))];rw[aV (e':=[aa (.d (.int d)),aa (.d (.int (m:Int))),aa (.d (.lst (((cI m).map λ(k:Nat)=>(k:Int)).map D.int))),aa (.d (.lst [])),ac,ac]) (bF (lC _))];rw[aV (e':=[aa (.d (.int d)),aa (.d (.int (m:Int))),aa (.d (.lst (((cI m).map λ(k:Nat)=>(k:Int)).map D.int))),aa (.d (.lst [])),aa (.d (.int (d%2147483647))),ac]) (bF (au rfl rfl (aF (by decide))))];rw[aV ((gK (iG rfl (rH m hm))).trans h1)];rfl
end Mr
namespace Mr
open PySem Mi
open My (words rZ sk)
theorem LH(ns:List Int){e:Mi.Env}{j k:Nat}(hj:j<8)(hk:k<8)(e0:mV 0 e=.ok (.lst (ns.map D.int)))(e7:mV 7 e=.ok (.int (j:Int)))(e8:mV 8 e=.ok (.int (k:Int))):∃c:Int,(ba fi [(wD (mV 0)),(wD (m2 aZ (m2 aZ (mC (.int 4)) (m2 bn (m2 bT (mN iJ [(mV 7),(mV 8)]) (m2 jV (mN iJ [(mV 7),(mV 8)]) (mC (.int 1)))) (mC (.int 2)))) (mN kK [(mV 7),(mV 8)])))]) e=.ok (.int c):=by have hx:mN iJ [(mV 7),(mV 8)] e=.ok (.int (max (j:Int) (k:Int))):=(tJ e7 e8).trans (Ox _ _);have hn:mN kK [(mV 7),(mV 8)] e=.ok (.int (min (j:Int) (k:Int))):=(tJ e7 e8).trans (Cg _ _);obtain⟨t1,t2,t3,t4⟩:=I0 (a:=max (j:Int) (k:Int)) (by omega) (by omega);obtain⟨z,hz⟩ : ∃z:Nat,4+max (j:Int) (k:Int)*(max (j:Int) (k:Int)-1)/2+min (j:Int) (k:Int)=(z:Int):=⟨(4+max (j:Int) (k:Int)*(max (j:Int) (k:Int)-1)/2+min (j:Int) (k:Int)).toNat,by omega⟩;obtain⟨c,hc⟩:=mL ns z (by omega);refine⟨c,call2 (bj e0) (bj (au (au rfl (au (au hx (au hx rfl rfl) (aF (jq t1 t2))) rfl (aF (eY (by decide) (by decide)))) rfl) hn rfl)) ?_⟩;rw[hz];exact hc
theorem K6(ns:List Int)(hi:Nat)(h0:1<=hi)(h2:hi<=8) :
 ∃ae A r,rF [.d (.lst (ns.map D.int)),.d (.int (hi:Int))]=.ok (.d (aK ae (A.map (arrOf ae))))/\oo ae A r/\(∃(c:Int) (m:Nat),m<=8/\ae=(words c m).map S')/\∃c0:Int,fi [.d (.lst (ns.map D.int)),.d (.int 0)]=.ok (.d (.int c0))/\(ae.length:Int)=1+c0%(hi:Int):=by
 obtain⟨c0,hc0⟩:=mL ns 0 (by decide);obtain⟨c1,hc1⟩:=mL ns 1 (by decide);obtain⟨c2,hc2⟩:=mL ns 2 (by decide);obtain⟨c3,hc3⟩:=mL ns 3 (by decide);have hw:(0:Int)<(hi:Int):=by omega
 have q1:=eu c0 (b:=(hi:Int)) (by omega);have q2:=eG c0 hw;obtain⟨m,hm⟩ : ∃m:Nat,1+c0%(hi:Int)=(m:Int):=⟨(1+c0%(hi:Int)).toNat,by omega⟩;have hm1:1<=m:=by omega
 have hm2:m<=hi:=by omega
 have hm8:m<=8:=by omega
 obtain⟨ae,hnm⟩ : ∃ae,ae=(words c1 m).map S':=⟨_,rfl⟩;have hn:=LU c1 m hm8;rw[<- hnm]at hn;have hnl:ae.length=m:=by rw[hnm,bd];exact rZ c1 m
 have hnd:ae.Nodup:=by rw[hnm];exact List.Pairwise.map _ (λa b h z=>h (JU z)) (sk _ _ hm8)
 obtain⟨rs,hr,hrl⟩:=KQ c2 m hm8;have q3:=eu c3 (b:=6) (by decide);have q4:=eG c3 (b:=6) (by decide);obtain⟨th,hth⟩ : ∃th,av (.lst ([4,1,2,3,2,3].map D.int)) (.int (c3%6))=.ok (.int th):=⟨_,rj q3 (by simp;omega)⟩;have hrx:∀i:Nat,i<m->av (.lst (rs.map D.int)) (.int (i:Int))=.ok (.int (rs.getD i 0)):=λi hi=>by
  have:=rj (cs:=rs) (i:=(i:Int)) (by omega) (by omega)
  rwa [kU]at this
 have hnx:∀i:Nat,i<m->av (ai ae) (.int (i:Int))=.ok (.str (nth ae i)):=λi hi=>by
  have:=oU (cs:=ae) (i:=(i:Int)) (by omega) (by omega)
  rwa [kU]at this
 have inner:∀(j:Nat) (A:List Ix) (o8 o9:Option W),j<m->good m (λi=>rs.getD i 0) A j 0->∃(A':List Ix) (p8 p9:Option W),fu (.n 8) (aD (a4 9 (ba fi [(wD (mV 0)),(wD (m2 aZ (m2 aZ (mC (.int 4)) (m2 bn (m2 bT (mN iJ [(mV 7),(mV 8)]) (m2 jV (mN iJ [(mV 7),(mV 8)]) (mC (.int 1)))) (mC (.int 2)))) (mN kK [(mV 7),(mV 8)])))])) (a7 (fq (cB (m2 eo (m2 av (mV 4) (mV 7)) (m2 av (mV 4) (mV 8)))) (cB (m2 eo (m2 aQ (m2 bn (m2 aQ (m2 bT (mV 9) (mC (.int 48271))) (mC (.int 2147483647))) (mC (.int 16))) (mC (.int 4))) (mV 5)))) (c7 6 (mN dTup [(m2 av (mV 3) (mV 7)),(m2 av (mV 3) (mV 8))])) bu)) (dB 0 (m:Int)) [aa (.d (.lst (ns.map D.int))),aa (.d (.int (hi:Int))),aa (.d (.int (m:Int))),aa (.d (ai ae)),aa (.d (.lst (rs.map D.int))),aa (.d (.int th)),aa (.d (gL ae A)),aa (.d (.int (j:Int))),o8,o9]=.ok (.nx [aa (.d (.lst (ns.map D.int))),aa (.d (.int (hi:Int))),aa (.d (.int (m:Int))),aa (.d (ai ae)),aa (.d (.lst (rs.map D.int))),aa (.d (.int th)),aa (.d (gL ae A')),aa (.d (.int (j:Int))),p8,p9])/\good m (λi=>rs.getD i 0) A' (j+1) 0:=by
  intro j A o8 o9 hj hg;obtain⟨e',f1,A',p8,p9,he,hg'⟩:=i4 (tg:=.n 8) (body:=(aD (a4 9 (ba fi [(wD (mV 0)),(wD (m2 aZ (m2 aZ (mC (.int 4)) (m2 bn (m2 bT (mN iJ [(mV 7),(mV 8)]) (m2 jV (mN iJ [(mV 7),(mV 8)]) (mC (.int 1)))) (mC (.int 2)))) (mN kK [(mV 7),(mV 8)])))])) (a7 (fq (cB (m2 eo (m2 av (mV 4) (mV 7)) (m2 av (mV 4) (mV 8)))) (cB (m2 eo (m2 aQ (m2 bn (m2 aQ (m2 bT (mV 9) (mC (.int 48271))) (mC (.int 2147483647))) (mC (.int 16))) (mC (.int 4))) (mV 5)))) (c7 6 (mN dTup [(m2 av (mV 3) (mV 7)),(m2 av (mV 3) (mV 8))])) bu))) (λk e=>∃(A:List Ix) (o8 o9:Option W),e=[aa (.d (.lst (ns.map D.int))),aa (.d (.int (hi:Int))),aa (.d (.int (m:Int))),aa (.d (ai ae)),aa (.d (.lst (rs.map D.int))),aa (.d (.int th)),aa (.d (gL ae A)),aa (.d (.int (j:Int))),o8,o9]/\good m (λi=>rs.getD i 0) A j k)
   (dB 0 (m:Int)) 0 (λk x e hx ⟨A,o8,o9,he,hg⟩=>by
    obtain⟨hk,rfl⟩:=qG hx;subst he;rw[fL]at hg;obtain⟨c,hc⟩:=LH ns (e:=[aa (.d (.lst (ns.map D.int))),aa (.d (.int (hi:Int))),aa (.d (.int (m:Int))),aa (.d (ai ae)),aa (.d (.lst (rs.map D.int))),aa (.d (.int th)),aa (.d (gL ae A)),aa (.d (.int (j:Int))),aa (.d (.int (k:Int))),o9]) (j:=j) (k:=k) (by omega) (by omega) rfl rfl rfl;have c1:cB (m2 eo (m2 av (mV 4) (mV 7)) (m2 av (mV 4) (mV 8))) [aa (.d (.lst (ns.map D.int))),aa (.d (.int (hi:Int))),aa (.d (.int (m:Int))),aa (.d (ai ae)),aa (.d (.lst (rs.map D.int))),aa (.d (.int th)),aa (.d (gL ae A)),aa (.d (.int (j:Int))),aa (.d (.int (k:Int))),aa (.d (.int c))]=.ok (decide (rs.getD j 0<rs.getD k 0)):=cu (au (au rfl rfl (hrx j hj)) (au rfl rfl (hrx k hk)) rfl);have c2:cB (m2 eo (m2 aQ (m2 bn (m2 aQ (m2 bT (mV 9) (mC (.int 48271))) (mC (.int 2147483647))) (mC (.int 16))) (mC (.int 4))) (mV 5)) [aa (.d (.lst (ns.map D.int))),aa (.d (.int (hi:Int))),aa (.d (.int (m:Int))),aa (.d (ai ae)),aa (.d (.lst (rs.map D.int))),aa (.d (.int th)),aa (.d (gL ae A)),aa (.d (.int (j:Int))),aa (.d (.int (k:Int))),aa (.d (.int c))]=.ok (decide (c*48271%2147483647/16%4<th)):=cu (au (au (au (au (au rfl rfl (aF (pK (by decide) (by decide)))) rfl (aF (by decide))) rfl (aF (eY (by decide) (by decide)))) rfl (aF (by decide))) rfl rfl);by_cases hb:rs.getD j 0<rs.getD k 0/\c*48271%2147483647/16%4<th
    ·refine⟨[aa (.d (.lst (ns.map D.int))),aa (.d (.int (hi:Int))),aa (.d (.int (m:Int))),aa (.d (ai ae)),aa (.d (.lst (rs.map D.int))),aa (.d (.int th)),aa (.d (gL ae A)),aa (.d (.int (j:Int))),aa (.d (.int (k:Int))),o9],[aa (.d (.lst (ns.map D.int))),aa (.d (.int (hi:Int))),aa (.d (.int (m:Int))),aa (.d (ai ae)),aa (.d (.lst (rs.map D.int))),aa (.d (.int th)),aa (.d (gL ae (A++[(j,k)]))),aa (.d (.int (j:Int))),aa (.d (.int (k:Int))),aa (.d (.int c))],rfl,?_,A++[(j,k)],aa (.d (.int (k:Int))),aa (.d (.int c)),rfl,by rw[fL];exact hg.add hj hk hb.1⟩;rw[aV (e':=[aa (.d (.lst (ns.map D.int))),aa (.d (.int (hi:Int))),aa (.d (.int (m:Int))),aa (.d (ai ae)),aa (.d (.lst (rs.map D.int))),aa (.d (.int th)),aa (.d (gL ae A)),aa (.d (.int (j:Int))),aa (.d (.int (k:Int))),aa (.d (.int c))]) (bF hc)];rw[dP (by unfold fq;rw[c1,aO,bR hb.1,a8 rfl,c2,bR hb.2])];rw[oI (d:=pairD (nth ae j,nth ae k)) (ds:=(A.map (arrOf ae)).map pairD) (py (au rfl rfl (hnx j hj)) (au rfl rfl (hnx k hk))) rfl (by rw[bd,bd];have:=hg.2.2;omega)];show Rs.ok (Out.nx [_,_,_,_,_,_,aa (W.d (D.lst ((A.map (arrOf ae)).map pairD++[pairD (nth ae j,nth ae k)]))),_,_,_])=_;rw[gL,fJ,fJ];rfl
    ·refine⟨[aa (.d (.lst (ns.map D.int))),aa (.d (.int (hi:Int))),aa (.d (.int (m:Int))),aa (.d (ai ae)),aa (.d (.lst (rs.map D.int))),aa (.d (.int th)),aa (.d (gL ae A)),aa (.d (.int (j:Int))),aa (.d (.int (k:Int))),o9],[aa (.d (.lst (ns.map D.int))),aa (.d (.int (hi:Int))),aa (.d (.int (m:Int))),aa (.d (ai ae)),aa (.d (.lst (rs.map D.int))),aa (.d (.int th)),aa (.d (gL ae A)),aa (.d (.int (j:Int))),aa (.d (.int (k:Int))),aa (.d (.int c))],rfl,?_,A,aa (.d (.int (k:Int))),aa (.d (.int c)),rfl,by rw[fL];exact hg.skip⟩;rw[aV (e':=[aa (.d (.lst (ns.map D.int))),aa (.d (.int (hi:Int))),aa (.d (.int (m:Int))),aa (.d (ai ae)),aa (.d (.lst (rs.map D.int))),aa (.d (.int th)),aa (.d (gL ae A)),aa (.d (.int (j:Int))),aa (.d (.int (k:Int))),aa (.d (.int c))]) (bF hc)];rw[cU (by
      unfold fq;rw[c1,aO];by_cases hb1:rs.getD j 0<rs.getD k 0
      ·rw[bR hb1,a8 rfl,c2,cp λz=>hb ⟨hb1,z⟩]
      ·rw[cp hb1,be dW])]
     rfl) _ ⟨A,o8,o9,rfl,hg⟩
  subst he;rw[lH,fL]at hg';exact⟨A',p8,p9,f1,hg'.next hm8⟩
 obtain⟨e',f1,A,p7,p8,p9,he,hg⟩:=i4 (tg:=.n 7) (body:=(dL (f8 (mV 2)) (.n 8) (aD (a4 9 (ba fi [(wD (mV 0)),(wD (m2 aZ (m2 aZ (mC (.int 4)) (m2 bn (m2 bT (mN iJ [(mV 7),(mV 8)]) (m2 jV (mN iJ [(mV 7),(mV 8)]) (mC (.int 1)))) (mC (.int 2)))) (mN kK [(mV 7),(mV 8)])))])) (a7 (fq (cB (m2 eo (m2 av (mV 4) (mV 7)) (m2 av (mV 4) (mV 8)))) (cB (m2 eo (m2 aQ (m2 bn (m2 aQ (m2 bT (mV 9) (mC (.int 48271))) (mC (.int 2147483647))) (mC (.int 16))) (mC (.int 4))) (mV 5)))) (c7 6 (mN dTup [(m2 av (mV 3) (mV 7)),(m2 av (mV 3) (mV 8))])) bu)))) (λj e=>∃(A:List Ix) (o7 o8 o9:Option W),e=[aa (.d (.lst (ns.map D.int))),aa (.d (.int (hi:Int))),aa (.d (.int (m:Int))),aa (.d (ai ae)),aa (.d (.lst (rs.map D.int))),aa (.d (.int th)),aa (.d (gL ae A)),o7,o8,o9]/\good m (λi=>rs.getD i 0) A j 0)
  (dB 0 (m:Int)) 0 (λj x e hx ⟨A,o7,o8,o9,he,hg⟩=>by
   obtain⟨hj,rfl⟩:=qG hx;subst he;rw[fL]at hg;obtain⟨A',p8,p9,f1,hg'⟩:=inner j A o8 o9 hj hg;exact⟨_,_,rfl,(gK (iG rfl (rH m hm8))).trans f1,A',_,p8,p9,rfl,by rw[fL];exact hg'⟩)
  [aa (.d (.lst (ns.map D.int))),aa (.d (.int (hi:Int))),aa (.d (.int (m:Int))),aa (.d (ai ae)),aa (.d (.lst (rs.map D.int))),aa (.d (.int th)),aa (.d (.lst [])),ac,ac,ac] ⟨[],ac,ac,ac,rfl,HC,λp hp=>absurd hp (by simp),iC _⟩
 subst he;rw[lH,fL]at hg;refine⟨ae,A,λi=>rs.getD i 0,?_,⟨hnd,by omega,by omega,hg.1,λp hp=>?_,by have:=hg.2.2;omega⟩,⟨c1,m,hm8,hnm⟩,c0,hc0,by rw[hnl,<- hm]⟩
 ·unfold rF Ce;rw[jp];rw[show((0:Nat):Int)=0 from rfl]at hc0;rw[show((1:Nat):Int)=1 from rfl]at hc1;rw[show((2:Nat):Int)=2 from rfl]at hc2;rw[show((3:Nat):Int)=3 from rfl]at hc3;rw[aV (e':=[aa (.d (.lst (ns.map D.int))),aa (.d (.int (hi:Int))),aa (.d (.int (m:Int))),ac,ac,ac,ac,ac,ac,ac]) (bF (d:=.int (m:Int)) ((au rfl (au (call2 rfl rfl hc0) rfl (aF hw)) rfl).trans (by rw[kE,hm])))];rw[aV (e':=[aa (.d (.lst (ns.map D.int))),aa (.d (.int (hi:Int))),aa (.d (.int (m:Int))),aa (.d (ai ae)),ac,ac,ac,ac,ac,ac]) (bF (call2 (bj (call2 rfl rfl hc1)) rfl hn))];rw[aV (e':=[aa (.d (.lst (ns.map D.int))),aa (.d (.int (hi:Int))),aa (.d (.int (m:Int))),aa (.d (ai ae)),aa (.d (.lst (rs.map D.int))),ac,ac,ac,ac,ac]) (bF (call2 (bj (call2 rfl rfl hc2)) rfl hr))];have hl6:mN bg [(mC (.int 4)),(mC (.int 1)),(mC (.int 2)),(mC (.int 3)),(mC (.int 2)),(mC (.int 3))] [aa (.d (.lst (ns.map D.int))),aa (.d (.int (hi:Int))),aa (.d (.int (m:Int))),aa (.d (ai ae)),aa (.d (.lst (rs.map D.int))),ac,ac,ac,ac,ac]=.ok (.lst ([4,1,2,3,2,3].map D.int)):=by
   show br (([4,1,2,3,2,3].map D.int).length<=16777216) _=_;exact aF (by simp)
  rw[aV (e':=[aa (.d (.lst (ns.map D.int))),aa (.d (.int (hi:Int))),aa (.d (.int (m:Int))),aa (.d (ai ae)),aa (.d (.lst (rs.map D.int))),aa (.d (.int th)),ac,ac,ac,ac]) (bF (au hl6 (au (call2 rfl rfl hc3) rfl (aF (by decide))) hth))];rw[aV (e':=[aa (.d (.lst (ns.map D.int))),aa (.d (.int (hi:Int))),aa (.d (.int (m:Int))),aa (.d (ai ae)),aa (.d (.lst (rs.map D.int))),aa (.d (.int th)),aa (.d (.lst [])),ac,ac,ac]) (bF (lC _))];rw[aV ((gK (iG rfl (rH m hm8))).trans f1)];rw[el (bj (py (x:=bK ae) (y:=eg (A.map (arrOf ae))) (eA (x:=ai ae) rfl) (eA (x:=gL ae A) rfl)))];rfl
 ·obtain⟨a,b,c,_⟩:=hg.2.1 p hp;exact⟨by omega,by omega,c⟩
end Mr
namespace Mr
open PySem Mi
theorem CG:∀{ds:List D} {k i:Nat} {x:D},(iO k ds)[i]? = aa x->∃d,ds[i]? = aa d/\x=.tup [.int ((k+i:Nat):Int),d]
 |[],_,_,_,h=>by simp[iO]at h
 |d::r,k,0,x,h=>by simp[iO]at h;exact⟨d,rfl,by rw[<- h];simp⟩
 |d::r,k,i+1,x,h=>by
  obtain⟨d',h1,h2⟩:=CG (ds:=r) (k:=k+1) (i:=i) (x:=x) (by simpa [iO]using h);exact⟨d',by simpa using h1,by rw[h2,show k+1+i=k+(i+1)by omega]⟩
theorem Kh(ns:List Int)(m:Nat)(h1:1<=m)(hm:m<=8):∃qs:List Int,qw [.d (.lst (ns.map D.int)),.d (.int (m:Int))]=.ok (.d (.lst (qs.map D.int))):=by
 obtain⟨c,hc⟩:=mL ns 39 (by decide);rw[show((39:Nat):Int)=39 from rfl]at hc;unfold qw Fx;rw[kM];obtain⟨xs,hxs⟩ : ∃xs:List Int,eI (ns.map D.int) (aa 40) (aa 63)=xs.map D.int:=⟨eI ns (aa 40) (aa 63),by unfold eI;simp only[bd,zQ,zR]⟩;obtain⟨e',f1,ls,o3,o4,he,hls⟩:=i4 (tg:=.t [3,4]) (body:=(a7 (cB (m2 eo (m2 aZ (mV 3) (mC (.int 1))) (mV 1)))
 (c7 2 (m2 aQ (mV 4) (mC (.int 2147483647))))
 (qJ 2 (m2 aQ (mV 3) (mV 1)) (m2 aQ (m2 aZ (m2 bT (m2 av (mV 2) (m2 aQ (mV 3) (mV 1))) (mC (.int 69621))) (mV 4)) (mC (.int 2147483647))))))
  (λi e=>∃(ls:List Int) (o3 o4:Option W),e=[aa (.d (.lst (ns.map D.int))),aa (.d (.int (m:Int))),aa (.d (.lst (ls.map D.int))),o3,o4]/\ls.length=min (i+1) m) (iO 0 (xs.map D.int)) 0 (λi x e hx ⟨ls,o3,o4,he,hls⟩=>by
   obtain⟨d,hd,rfl⟩:=CG hx;subst he;rw[fL]at hls ⊢;obtain⟨v,rfl⟩ : ∃v:Int,d=.int v:=by obtain⟨v,_,rfl⟩:=db.mp (sK hd);exact⟨v,rfl⟩
   have ct:cB (m2 eo (m2 aZ (mV 3) (mC (.int 1))) (mV 1)) [aa (.d (.lst (ns.map D.int))),aa (.d (.int (m:Int))),aa (.d (.lst (ls.map D.int))),aa (.d (.int (i:Int))),aa (.d (.int v))]=.ok (decide ((i:Int)+1<(m:Int))):=cu (au (au rfl rfl rfl) rfl rfl);by_cases hb:(i:Int)+1<(m:Int)
   ·rw[bR hb]at ct;refine⟨[aa (.d (.lst (ns.map D.int))),aa (.d (.int (m:Int))),aa (.d (.lst (ls.map D.int))),aa (.d (.int (i:Int))),aa (.d (.int v))],[aa (.d (.lst (ns.map D.int))),aa (.d (.int (m:Int))),aa (.d (.lst ((ls++[v%2147483647]).map D.int))),aa (.d (.int (i:Int))),aa (.d (.int v))],rfl,?_,ls++[v%2147483647],_,_,rfl,by rw[cC,hls];simp;omega⟩;rw[dP ct,oI (d:=.int (v%2147483647)) (ds:=ls.map D.int) (au rfl rfl (aF (by decide))) rfl (by rw[bd];omega)];rw[fJ];rfl
   ·rw[cp hb]at ct;have z0:=eu (i:Int) (b:=(m:Int)) (by omega);have z1:=eG (i:Int) (b:=(m:Int)) (by omega);have hk:∀e:Mi.Env,mV 3 e=.ok (.int (i:Int))->mV 1 e=.ok (.int (m:Int))->m2 aQ (mV 3) (mV 1) e=.ok (.int ((i:Int)%(m:Int))):=λe a b=>au a b (aF (by omega));have hix:av (.lst (ls.map D.int)) (.int ((i:Int)%(m:Int)))=.ok (.int (ls.getD ((i:Int)%(m:Int)).toNat 0)):=rj z0 (by omega);have hv:m2 aQ (m2 aZ (m2 bT (m2 av (mV 2) (m2 aQ (mV 3) (mV 1))) (mC (.int 69621))) (mV 4)) (mC (.int 2147483647)) [aa (.d (.lst (ns.map D.int))),aa (.d (.int (m:Int))),aa (.d (.lst (ls.map D.int))),aa (.d (.int (i:Int))),aa (.d (.int v))]=.ok (.int ((ls.getD ((i:Int)%(m:Int)).toNat 0*69621+v)%2147483647)):=
     au (au (au (au rfl (hk _ rfl rfl) hix) rfl (aF (pK (by decide) (by decide)))) rfl rfl) rfl (aF (by decide))
    obtain⟨ls',hl',hs⟩:=Od (i:=2) (e:=[aa (.d (.lst (ns.map D.int))),aa (.d (.int (m:Int))),aa (.d (.lst (ls.map D.int))),aa (.d (.int (i:Int))),aa (.d (.int v))]) (ls:=ls) hv (hk _ rfl rfl) rfl z0 (by omega);exact⟨[aa (.d (.lst (ns.map D.int))),aa (.d (.int (m:Int))),aa (.d (.lst (ls.map D.int))),aa (.d (.int (i:Int))),aa (.d (.int v))],[aa (.d (.lst (ns.map D.int))),aa (.d (.int (m:Int))),aa (.d (.lst (ls'.map D.int))),aa (.d (.int (i:Int))),aa (.d (.int v))],rfl,(cU ct).trans hs,ls',_,_,rfl,by omega⟩) [aa (.d (.lst (ns.map D.int))),aa (.d (.int (m:Int))),aa (.d (.lst ([c%2147483647].map D.int))),ac,ac] ⟨[c%2147483647],ac,ac,rfl,by simp;omega⟩
 subst he;refine⟨ls,?_⟩;rw[aV (e':=[aa (.d (.lst (ns.map D.int))),aa (.d (.int (m:Int))),aa (.d (.lst ([c%2147483647].map D.int))),ac,ac]) (bF (j7 (au (call2 rfl rfl hc) rfl (aF (by decide)))))];have hit:xl (cR dj (mV 0) (aa (mC (.int 40))) (aa (mC (.int 63)))) [aa (.d (.lst (ns.map D.int))),aa (.d (.int (m:Int))),aa (.d (.lst ([c%2147483647].map D.int))),ac,ac]=.ok (iO 0 (xs.map D.int)):=by rw[<- hxs];rfl
 rw[aV ((gK hit).trans f1)];rfl
end Mr
namespace Mr
open PySem Mi
inductive i0(aA:List Ar)(x:Str):Str->Prop
 |refl:i0 aA x x
 |step {y z:Str}:i0 aA x y->(y,z)∈aA->i0 aA x z
structure Good(ae:List Str)(aA:List Ar)(x:Str)(met:List Str):Prop where
 nd:met.Nodup
 sub:∀y∈met,y∈ae
 r:∀y∈met,i0 aA x y
 x:x∈met
def uS(aA:List Ar)(met:List Str):Prop:=∀p∈aA,p.1∈met->p.2∈met
theorem uS.all{aA:List Ar}{met:List Str}(h:uS aA met){x:Str}(hx:x∈met):∀{y:Str},i0 aA x y->y∈met
 |_,.refl=>hx
 |_,.step r a=>h _ a (h.all hx r)
theorem Good.iff{ae:List Str}{aA:List Ar}{x:Str}{met:List Str}(g:Good ae aA x met)(h:uS aA met)(y:Str):y∈met↔i0 aA x y:=⟨g.r y,h.all g.x⟩
end Mr
namespace Mr
open PySem Mi
noncomputable def rch (aA:List Ar) (x y:Str):Bool:=@decide (i0 aA x y) (wA _)
theorem yq{aA:List Ar}{x y:Str}:rch aA x y=true↔i0 aA x y:=by unfold rch;exact@uh _ (wA _)
noncomputable def mH (ae:List Str) (aA:List Ar) (x:Str):List Str:=ae.filter (rch aA x)
theorem Nd{aA:List Ar}{x:Str}{met:List Str}(h:∀y,y∈met↔i0 aA x y)(y:Str):decide (y∈met)=rch aA x y:=by rw[Ab,yq,uh];exact h y
def cH(fs:List Str):W:=.dk (fs.map λy=>((gl y:Ky),D.bl true))
theorem BI(fs:List Str)(y:Str):(jj (fs.map λy=>((gl y:Ky),D.bl true)) (gl y)).isSome=decide (y∈fs):=by
 unfold jj
 induction fs with
 |nil=>rfl
 |cons a r ih=>
  rw[dg,kR];by_cases h:a=y
  ·subst h;simp
  ·rw[cp (λz:(gl a:Ky)=gl y=>h (Ak z))];simp only[ih];rw[decide_eq_decide];exact⟨λz=>eP _ z,λz=>by
    rcases cS.mp z with z|z
    ·exact absurd z.symm h
    ·exact z⟩
theorem ye{i:Nat}{k:E}{e:Mi.Env}{fs:List Str}{y:Str}(hk:k e=.ok (.str y))(hw:wV i e=.ok (cH fs)):kI i k e=.ok (.bl (decide (y∈fs))):=by unfold kI;rw[hk,aO,hw,aO,<- BI];rfl
theorem LS{i:Nat}{k:E}{e:Mi.Env}{fs:List Str}{y:Str}(hk:k e=.ok (.str y))(hw:wV i e=.ok (cH fs)):gV i k e=.ok (.bl (!decide (y∈fs))):=by unfold gV;rw[hk,aO,hw,aO,<- BI];rfl
theorem yN{i:Nat}{k:E}{e:Mi.Env}{fs:List Str}{y:Str}(hk:k e=.ok (.str y))(hw:wV i e=.ok (cH fs))(hn:y∉fs)(hl:fs.length<=1000):dZ i k (mC (.bl true)) e=.ok (.nx (e.set i (aa (cH (fs++[y]))))):=by
 unfold dZ;have h1:sw (cH fs) (.str y) (.bl true)=.ok (cH (fs++[y])):=by
  show br ((fs.map λy=>((gl y:Ky),D.bl true)).length<16777216) ((dE (nz (.str y))).bind λk=>Rs.ok (W.dk (Mi.putK k (.bl true) (fs.map λy=>((gl y:Ky),D.bl true)))))=_;rw[aF (by rw[bd];omega)];show Rs.ok (W.dk (Mi.putK (gl y:Ky) (.bl true) (fs.map λy=>((gl y:Ky),D.bl true))))=_;unfold Mi.putK;rw[be (by
   rw[vW,Bool.not_eq_true,G7];intro z hz;simp only[Function.comp,qL];exactλq=>hn (Ak q ▸ hz))]
  unfold cH;rw[fJ];rfl
 show(k e).bind _=_;rw[hk,aO,hw,aO,h1];rfl
structure ol(ae:List Str)(aA:List Ar)(x:Str)(h:Option Str)(fs ws:List Str):Prop where
 g:Good ae aA x fs
 wnd:ws.Nodup
 qo:∀y∈ws,y∈fs
 ex:∀y∈fs,y∉ws->h=aa y\/∀p∈aA,p.1=y->p.2∈fs
abbrev u8:S:=(aD (ve 5 4)
 (dL (dh (mV 1)) (.t [6,7])
 (a7 (fq (cB (m2 bQ (mV 6) (mV 5))) (cB (gV 3 (mV 7))))
 (aD (dZ 3 (mV 7) (mC (.bl true)))
 (c7 4 (mV 7)))
 bu)))
theorem L9{ae:List Str}{aA:List Ar}(N:lX ae aA)(hd:∀p∈aA,p.2∈ae){x h:Str}{fs ws:List Str}(w:ol ae aA x ac fs (ws++[h]))(o5 o6 o7:Option W) :
 ∃fs' ws' p6 p7,u8 [aa (.d (bK ae)),aa (.d (eg aA)),aa (.d (.str x)),aa (cH fs),aa (.d (ai (ws++[h]))),o5,o6,o7]=.ok (.nx [aa (.d (bK ae)),aa (.d (eg aA)),aa (.d (.str x)),aa (cH fs'),aa (.d (ai ws')),aa (.d (.str h)),p6,p7]) /\
  ol ae aA x ac fs' ws'/\fs.length<=fs'.length/\ws'.length+fs.length=ws.length+fs'.length:=by
 have hnd:=kQ.mp w.wnd;have hh:h∈fs:=w.qo h (by simp);have hnw:h∉ws:=λz=>hnd.2.2 h z h (by simp) rfl;obtain⟨e',f1,fs',ws',p6,p7,he,w',hl,hl2,hx,_⟩:=i4 (tg:=.t [6,7]) (body:=(a7 (fq (cB (m2 bQ (mV 6) (mV 5))) (cB (gV 3 (mV 7)))) (aD (dZ 3 (mV 7) (mC (.bl true))) (c7 4 (mV 7))) bu))
  (λi e=>∃(fs' ws':List Str) (o6 o7:Option W),e=[aa (.d (bK ae)),aa (.d (eg aA)),aa (.d (.str x)),aa (cH fs'),aa (.d (ai ws')),aa (.d (.str h)),o6,o7]/\ol ae aA x (aa h) fs' ws'/\fs.length<=fs'.length/\ws'.length+fs.length=ws.length+fs'.length/\(∀j p,j<i->aA[j]? = aa p->p.1=h->p.2∈fs')/\h∈fs') (aA.map pairD) 0 (λi d e hi ⟨f1,w1,o6,o7,he,W1,hl,hl2,hx,hf1⟩=>by
   subst he;rw[fL]at hx ⊢;rw[d8]at hi;obtain⟨p,hp,rfl⟩:=lP.mp hi;have hpm:=sK hp;have c1:cB (m2 bQ (mV 6) (mV 5)) [aa (.d (bK ae)),aa (.d (eg aA)),aa (.d (.str x)),aa (cH f1),aa (.d (ai w1)),aa (.d (.str h)),aa (.d (.str p.1)),aa (.d (.str p.2))]=.ok (decide (p.1=h)):=cu ((au rfl rfl rfl).trans (uO _ _));have c2:cB (gV 3 (mV 7)) [aa (.d (bK ae)),aa (.d (eg aA)),aa (.d (.str x)),aa (cH f1),aa (.d (ai w1)),aa (.d (.str h)),aa (.d (.str p.1)),aa (.d (.str p.2))]=.ok (!decide (p.2∈f1)):=cu (LS rfl rfl);have hl8:f1.length<=8:=eW (jM W1.g.nd W1.g.sub) N.le;have hw8:w1.length<=8:=eW (jM W1.wnd (λy hy=>W1.g.sub y (W1.qo y hy))) N.le;by_cases hb:p.1=h/\p.2∉f1
   ·refine⟨[aa (.d (bK ae)),aa (.d (eg aA)),aa (.d (.str x)),aa (cH f1),aa (.d (ai w1)),aa (.d (.str h)),aa (.d (.str p.1)),aa (.d (.str p.2))],[aa (.d (bK ae)),aa (.d (eg aA)),aa (.d (.str x)),aa (cH (f1++[p.2])),aa (.d (ai (w1++[p.2]))),aa (.d (.str h)),aa (.d (.str p.1)),aa (.d (.str p.2))],rfl,?_,f1++[p.2],w1++[p.2],_,_,rfl,⟨⟨?_,λy hy=>?_,λy hy=>?_,fe _ W1.g.x⟩,?_,λy hy=>?_,λy hy hn=>?_⟩,by rw[cC];omega,by rw[cC,cC];simp;omega,λj q hj hq h1=>?_,fe _ hf1⟩
    ·rw[dP (by unfold fq;rw[c1,aO,bR hb.1,a8 rfl,c2,cp hb.2];rfl)];rw[aV (yN (y:=p.2) (fs:=f1) rfl rfl hb.2 (by omega))];rw[oI (d:=.str p.2) (ds:=w1.map D.str) rfl rfl (by rw[bd];omega)];show Rs.ok (Out.nx [_,_,_,_,aa (W.d (D.lst (w1.map D.str++[.str p.2]))),_,_,_])=_;rw[ai,fJ];rfl
    ·exact kQ.mpr ⟨W1.g.nd,by simp,λa ha b hb'=>by
      have:b=p.2:=by simpa using hb'
      subst this;exactλz=>hb.2 (z ▸ ha)⟩
    ·rcases da.mp hy with z|z
     ·exact W1.g.sub y z
     ·have:y=p.2:=by simpa using z
      subst this;exact hd p hpm
    ·rcases da.mp hy with z|z
     ·exact W1.g.r y z
     ·have:y=p.2:=by simpa using z
      subst this;exact .step (W1.g.r p.1 (hb.1 ▸ hf1)) hpm
    ·exact kQ.mpr ⟨W1.wnd,by simp,λa ha b hb'=>by
      have:b=p.2:=by simpa using hb'
      subst this;exactλz=>hb.2 (z ▸ W1.qo a ha)⟩
    ·rcases da.mp hy with z|z
     ·exact fe _ (W1.qo y z)
     ·exact dH _ z
    ·rcases da.mp hy with z|z
     ·rcases W1.ex y z (λq=>hn (fe _ q))with q|q
      ·exact .inl q
      ·exact .inr λr hr h1=>fe _ (q r hr h1)
     ·exact absurd (dH _ z) hn
    ·by_cases hji:j=i
     ·subst hji;rw[hp]at hq;cases hq;simp
     ·exact fe _ (hx j q (by omega) hq h1)
   ·refine⟨[aa (.d (bK ae)),aa (.d (eg aA)),aa (.d (.str x)),aa (cH f1),aa (.d (ai w1)),aa (.d (.str h)),aa (.d (.str p.1)),aa (.d (.str p.2))],[aa (.d (bK ae)),aa (.d (eg aA)),aa (.d (.str x)),aa (cH f1),aa (.d (ai w1)),aa (.d (.str h)),aa (.d (.str p.1)),aa (.d (.str p.2))],rfl,?_,f1,w1,_,_,rfl,W1,hl,hl2,λj q hj hq h1=>?_,hf1⟩
    ·rw[cU (by
      unfold fq;rw[c1,aO];by_cases h1:p.1=h
      ·rw[bR h1,a8 rfl,c2,bR (s9 λz=>hb ⟨h1,z⟩)];rfl
      ·rw[cp h1,be dW])]
     rfl
    ·by_cases hji:j=i
     ·subst hji;rw[hp]at hq;cases hq;exact s9 λz=>hb ⟨h1,z⟩
     ·exact hx j q (by omega) hq h1) [aa (.d (bK ae)),aa (.d (eg aA)),aa (.d (.str x)),aa (cH fs),aa (.d (ai ws)),aa (.d (.str h)),o6,o7]
  ⟨fs,ws,o6,o7,rfl,⟨w.g,hnd.1,λy hy=>w.qo y (fe _ hy),λy hy hn=>by
   by_cases hyh:y=h
   ·exact .inl (by rw[hyh])
   ·rcases w.ex y hy (λz=>by
     rcases da.mp z with z|z
     ·exact hn z
     ·exact hyh (by simpa using z))with q|q
    ·cases q
    ·exact .inr q⟩,bO _,rfl,λj p hj=>absurd hj (wj _),hh⟩
 subst he;refine⟨fs',ws',p6,p7,?_,⟨w'.g,w'.wnd,w'.qo,λy hy hn=>.inr ?_⟩,hl,hl2⟩
 ·rw[show u8=aD (ve 5 4) (dL (dh (mV 1)) (.t [6,7]) (a7 (fq (cB (m2 bQ (mV 6) (mV 5))) (cB (gV 3 (mV 7)))) (aD (dZ 3 (mV 7) (mC (.bl true))) (c7 4 (mV 7))) bu))from rfl];rw[aV (e':=[aa (.d (bK ae)),aa (.d (eg aA)),aa (.d (.str x)),aa (cH fs),aa (.d (ai ws)),aa (.d (.str h)),o6,o7]) (by
   show(dE (((ws++[h]).map D.str)[((ws++[h]).map D.str).length-1]?)).bind _=_;have e1:((ws++[h]).map D.str)[((ws++[h]).map D.str).length-1]? = aa (.str h):=by simp
   have e2:((ws++[h]).map D.str).dropLast=ws.map D.str:=by simp
   rw[e1,kJ,aO,e2];rfl)]
  exact(gK (gg (x:=eg aA) rfl rfl)).trans f1
 ·rcases w'.ex y hy hn with q|q
  ·cases q;intro p hp h1;obtain⟨j,hj⟩:=vQ hp;exact hx j p (by rw[bd];have:=(dG.mp hj).1;omega) hj h1
  ·exact q
end Mr
namespace Mr
open PySem Mi
theorem C7{ae:List Str}{aA:List Ar}(N:lX ae aA)(hd:∀p∈aA,p.2∈ae){x:Str}:∀(n:Nat) (fs ws:List Str) (o5 o6 o7:Option W),ol ae aA x ac fs ws->(ae.length-fs.length)+ws.length<n ->
 ∃fs' p5 p6 p7,jO (eK (mV 4)) u8 n [aa (.d (bK ae)),aa (.d (eg aA)),aa (.d (.str x)),aa (cH fs),aa (.d (ai ws)),o5,o6,o7]=.ok (.nx [aa (.d (bK ae)),aa (.d (eg aA)),aa (.d (.str x)),aa (cH fs'),aa (.d (ai [])),p5,p6,p7])/\ol ae aA x ac fs' []
 |0,_,_,_,_,_,_,h=>absurd h (wj _)
 |n+1,fs,ws,o5,o6,o7,w,h=>by
  have hc:eK (mV 4) [aa (.d (bK ae)),aa (.d (eg aA)),aa (.d (.str x)),aa (cH fs),aa (.d (ai ws)),o5,o6,o7]=.ok (!(ws.map D.str).isEmpty):=rfl;rcases List.eq_nil_or_concat ws with rfl|⟨ws1,y,rfl⟩
  ·exact⟨fs,o5,o6,o7,by rw[jO,hc];rfl,w⟩
  ·rw[List.concat_eq_append]at w h hc ⊢;obtain⟨fs',ws',p6,p7,f1,w',l1,l2⟩:=L9 N hd w o5 o6 o7;have l3:fs'.length<=ae.length:=jM w'.g.nd w'.g.sub;obtain⟨fs2,q5,q6,q7,f2,w2⟩:=C7 N hd n fs' ws' (aa (.d (.str y))) p6 p7 w' (by rw[cC]at h;simp at h;omega);refine⟨fs2,q5,q6,q7,?_,w2⟩;rw[jO,hc,show(!((ws1++[y]).map D.str).isEmpty)=true by simp,aO,a8 rfl,f1,aO];exact f2
theorem Lh{ae:List Str}{aA:List Ar}(N:lX ae aA)(hd:∀p∈aA,p.2∈ae){x:Str}(hx:x∈ae):rN [.d (bK ae),.d (eg aA),.d (.str x)]=.ok (.d (ai (mH ae aA x))):=by
 have w0:ol ae aA x ac [x] [x]:=⟨⟨by simp,λy hy=>by simp at hy;subst hy;exact hx,λy hy=>by simp at hy;subst hy;exact .refl,by simp⟩,by simp,λy hy=>hy,λy hy hn=>absurd hy hn⟩;obtain⟨fs,p5,p6,p7,f1,w⟩:=C7 N hd 20 [x] [x] ac ac ac w0 (by have:=N.le;simp;omega);have hcl:uS aA fs:=λp hp h1=>by
  rcases w.ex p.1 h1 (by simp)with q|q
  ·cases q
  ·exact q p hp rfl
 unfold rN FY;rw[yF];rw[aV (e':=[aa (.d (bK ae)),aa (.d (eg aA)),aa (.d (.str x)),aa (cH [x]),ac,ac,ac,ac]) rfl];rw[aV (e':=[aa (.d (bK ae)),aa (.d (eg aA)),aa (.d (.str x)),aa (cH [x]),aa (.d (ai [x])),ac,ac,ac]) (bF (j7 rfl))];rw[aV (show lE 20 (eK (mV 4)) u8 _=_ from f1)];have hc:dC (.n 1) (cB (kI 0 (mV 1))) (mV 1) [aa (cH fs),ac] (ae.map D.str)=.ok ((ae.filter (rch aA x)).map D.str):=
  iL D.str D.str _ ae λy _=>⟨[aa (cH fs),aa (.d (.str y))],rfl,cu ((ye rfl rfl).trans (by rw[Nd (w.g.iff hcl)])),λ_=>rfl⟩
 rw[el (bj (gh (gg (x:=bK ae) rfl rfl) (by rw[bd];have:=N.le;omega) hc))];rfl
theorem KS{ae:List Str}{aA:List Ar}(N:lX ae aA)(hd:∀p∈aA,p.2∈ae){x:Str}(hx:x∈ae):rn [.d (aK ae aA),.d (.str x)]=.ok (.d (ai (mH ae aA x))):=by
 unfold rn GA;rw[kM];have hr:iS [.d (bK ae),.d (ai [x])]=.ok (.d .non):=t0 λy hy=>by simp at hy;subst hy;exact hx
 rw[aV (e':=[aa (.d (aK ae aA)),aa (.d (.str x))]) (by unfold gO;rw[call2 (bj (au rfl rfl (fQ _ _))) (bj (j7 rfl)) hr];rfl)];rw[el (bj (mY (bj (au rfl rfl (fQ _ _))) (bj (au rfl rfl (mJ _ _))) rfl (Lh N hd hx)))];rfl
noncomputable def hb (ae:List Str) (aA:List Ar) (aj:List Str) (x:Str):Bool:=(mH ae aA x).any λy=>decide (y∈aj)
theorem Lu{ae:List Str}{aA:List Ar}(N:lX ae aA)(hd:∀p∈aA,p.2∈ae){x:Str}(hx:x∈ae)(aj:List Str):oP [.d (aK ae aA),.d (.str x),.d (ai aj)]=.ok (.d (.bl (hb ae aA aj x))):=by
 unfold oP Ev;rw[mU];have hc:dC (.n 1) ej (m2 f9 (mV 1) (mV 0)) [aa (.d (ai aj)),ac] ((mH ae aA x).map D.str)=.ok (((mH ae aA x).filter λ_=>true).map λy=>D.bl (decide (y∈aj))):=
  iL D.str (λy=>D.bl (decide (y∈aj))) _ _ λy _=>⟨[aa (.d (ai aj)),aa (.d (.str y))],rfl,rfl,λ_=>(au rfl rfl rfl).trans (Fk _ _)⟩
 rw[pT.mpr (λ_ _=>rfl)]at hc;have hl:((mH ae aA x).map D.str).length<=16777216:=by rw[bd];have:=sJ (rch aA x) ae;have:=N.le;unfold mH;omega
 rw[el (bj ((eA (gh (gg (call2 rfl rfl (KS N hd hx)) rfl) hl hc)).trans (by rw[MA,Fg,kJ,aO,vW];first|done|rfl)))];rfl
end Mr
namespace Mr
open PySem Mi
abbrev Jf:=Str×Str×Str
theorem Ku(aA:List Ar)(p:Ar):((aA.map pairD).any λe=>bM e (pairD p))=decide (p∈aA):=by
 induction aA with
 |nil=>rfl
 |cons q r ih=>
  rw[dg,jC,ih];have:bM (pairD q) (pairD p)=decide (q=p):=by unfold pairD;rw[bM,gW,gW,gW,n6,n6];obtain⟨a,b⟩:=q;obtain⟨c,d⟩:=p;by_cases h1:a=c<;>by_cases h2:b=d<;>simp[h1,h2]
  rw[this];by_cases h:q=p
  ·simp[h]
  ·have h2:¬ p=q:=λz=>h z.symm;simp[h,h2]
theorem Gc:∀aA:List Ar,dF (aA.map pairD)<=1
 |[]=>by simp
 |p::r=>by
  have:=Gc r;rw[dg,CL];have h:(pairD p).dep=1:=by simp[pairD]
  omega
theorem CJ(aA:List Ar)(p:Ar):f9 (pairD p) (eg aA)=.ok (.bl (decide (p∈aA))):=by show br _ _=_;rw[aF (by have:=Gc aA;omega),Ku]
theorem K7(ms:List Str)(x:Str):D.lst (ms.map D.str++[.str x])=ai (ms++[x]):=by unfold ai;rw[fJ];rfl
end Mr
namespace Mr
open PySem Mi
def J4(a:Ar)(aA:List Ar):List Ar:=aA.map λp=>if p=a then(p.2,p.1)else p
def Rk(aA:List Ar):Prop:=∃r:Str->Int,∀p∈aA,r p.1<r p.2
def vB(aA:List Ar)(a m b:Str):Bool:=(decide ((a,m)∈aA)&&decide ((b,m)∈aA)) && !(decide ((a,b)∈aA)||decide ((b,a)∈aA))
theorem BX{α β:Type}{f g:α->List β}:∀{l:List α},(∀x∈l,f x=g x)->l.flatMap f=l.flatMap g
 |[],_=>rfl
 |x::r,h=>by rw[pU,pU,h x dS,BX λy hy=>h y (eP _ hy)]
end Mr
namespace Mr
open PySem Mi
theorem NJ{l:List Str}(nd:l.Nodup)(hl:l.length<=1000):qM [.d (ai l)]=.ok (.d .non):=by
 unfold qM F7;rw[u9];obtain⟨e',f1,o2,he⟩:=i4 (tg:=.n 2) (body:=(aD (a7 (cB (kI 1 (mV 2))) fZ bu) (dZ 1 (mV 2) (mC (.bl true)))))
  (λi e=>∃o2:Option W,e=[aa (.d (ai l)),aa (cH (l.take i)),o2]) (l.map D.str) 0 (λi d e hi ⟨o2,he⟩=>by
   subst he;rw[fL];rw[d8]at hi;obtain⟨x,hx,rfl⟩:=lP.mp hi;obtain⟨il,hxe⟩:=dG.mp hx;have hn:x∉l.take i:=λz=>by
    obtain⟨j,hj⟩:=vQ z;have hj2:=(dG.mp hj).1;rw[g6]at hj2;rw[zK (by omega)]at hj;obtain⟨jl,hje⟩:=dG.mp hj;have:=(pV nd).mp (hje.trans hxe.symm);omega
   refine⟨[aa (.d (ai l)),aa (cH (l.take i)),aa (.d (.str x))],[aa (.d (ai l)),aa (cH (l.take (i+1))),aa (.d (.str x))],rfl,?_,_,rfl⟩;rw[aV (e':=[aa (.d (ai l)),aa (cH (l.take i)),aa (.d (.str x))]) ((cU (cu ((ye (y:=x) (fs:=l.take i) rfl rfl).trans (by rw[cp hn])))).trans rfl)];rw[yN (y:=x) (fs:=l.take i) rfl rfl hn (by rw[g6];omega)];rw[List.take_succ,hx];rfl) [aa (.d (ai l)),aa (cH []),ac] ⟨ac,rfl⟩
 subst he;rw[aV (e':=[aa (.d (ai l)),aa (cH []),ac]) rfl];rw[gK (gg (x:=ai l) rfl rfl),f1];rfl
theorem EK{ko:List Str}{i:Nat}(h:i<ko.length):ko[i]? = aa (nth ko i):=by unfold nth;rw[fX,fI h];rfl
end Mr
namespace Mr
open PySem Mi
end Mr
namespace Mr
open PySem Mi
def tie(aA:List Ar)(a b:Str):Bool:=decide ((a,b)∈aA)||decide ((b,a)∈aA)
end Mr
namespace Mr
open PySem Mi
end Mr
namespace Mr
open PySem Mi
end Mr
namespace Mr
open PySem Mi
theorem Fd{a b:C}{e:Mi.Env}{p q:Bool}(ha:a e=.ok p)(hb:p=true->b e=.ok q):fq a b e=.ok (p&&q):=by
 unfold fq;rw[ha,aO];cases p with
 |true=>rw[a8 rfl,hb rfl];rfl
 |false=>rfl
theorem yZ{a b:C}{e:Mi.Env}{p q:Bool}(ha:a e=.ok p)(hb:p=false->b e=.ok q):ju a b e=.ok (p||q):=by
 unfold ju;rw[ha,aO];cases p with
 |true=>rfl
 |false=>rw[be dW,hb rfl];rfl
theorem wW{a:C}{e:Mi.Env}{p:Bool}(ha:a e=.ok p):iu a e=.ok (!p):=by unfold iu;rw[ha];rfl
theorem O9{a b:E}{e:Mi.Env}{p q:Bool}(ha:a e=.ok (.bl p))(hb:p=true->b e=.ok (.bl q)):wT a b e=.ok (.bl (p&&q)):=by
 unfold wT;rw[ha,aO,re,aO];cases p with
 |true=>rw[a8 rfl,hb rfl];rfl
 |false=>rfl
theorem Na{a b:E}{e:Mi.Env}{p q:Bool}(ha:a e=.ok (.bl p))(hb:p=false->b e=.ok (.bl q)):oj a b e=.ok (.bl (p||q)):=by
 unfold oj;rw[ha,aO,re,aO];cases p with
 |true=>rfl
 |false=>rw[be dW,hb rfl];rfl
theorem qr{f:List D->Rs D}{a b c:E}{e:Mi.Env}{x y z:D}(h:a e=.ok x)(h':b e=.ok y)(h'':c e=.ok z):mN f [a,b,c] e=f [x,y,z]:=by unfold mN;rw[eS,h,aO,eS,h',aO,eS,h''];rfl
theorem Mj{f:D->Option Int->Option Int->Rs D}{a b:E}{e:Mi.Env}{x:D}{i:Int}(h:a e=.ok x)(h':b e=.ok (.int i)):cR f a (aa b) ac e=f x (aa i) ac:=by unfold cR;rw[h,aO,show iX (aa b) e=.ok (aa i)from by rw[iX,h'];rfl];rfl
theorem Oo{f:D->Option Int->Option Int->Rs D}{a b:E}{e:Mi.Env}{x:D}{i:Int}(h:a e=.ok x)(h':b e=.ok (.int i)):cR f a ac (aa b) e=f x ac (aa i):=by unfold cR;rw[h,aO,show iX (aa b) e=.ok (aa i)from by rw[iX,h'];rfl];rfl
theorem FR{α β γ : Type}(f:β->γ)(g:α->List β):∀l:List α,(l.flatMap g).map f=l.flatMap λx=>(g x).map f
 |[]=>rfl
 |x::r=>by rw[pU,fJ,FR f g r,pU]
theorem Gm{α β:Type}{g:α->List β}{m:Nat}:∀{l:List α},(∀x∈l,(g x).length<=m)->(l.flatMap g).length<=l.length*m
 |[],_=>by simp
 |x::r,h=>by
  have ih:=Gm (l:=r) λy hy=>h y (eP _ hy);have h1:=h x dS;rw[pU,cC,bU,Nat.add_mul];omega
def JE(aA:List Ar):D:=.lst (aA.map pairD)
end Mr
namespace Mr
open PySem Mi
structure Nt(ae:List Str)(aA:List Ar):Prop where
 nd:ae.Nodup
 le:ae.length<=8
 al:aA.length<=64
 inn:∀p∈aA,p.1∈ae/\p.2∈ae
 rk:Rk aA
def cov(aA:List Ar)(p:Ar):Bool:=Ps (hW aA p.2) (hW aA p.1++[p.1])
end Mr
namespace Mr
open PySem Mi
def gP(ae:List Str)(aA:List Ar):List Ar:=ae.flatMap λt=>(ae.filter λh=>decide ((t,h)∈aA)).map λh=>(t,h)
theorem JL{ae:List Str}{aA:List Ar}{p:Ar}:p∈gP ae aA↔p∈aA/\p.1∈ae/\p.2∈ae:=by
 obtain⟨a,b⟩:=p;unfold gP;simp only[List.mem_flatMap,db,eV,qL,Prod.mk.injEq];constructor
 ·rintro⟨t,ht,h,⟨h1,h2⟩,rfl,rfl⟩;exact⟨h2,ht,h1⟩
 ·rintro⟨h1,h2,h3⟩;exact⟨a,h2,b,⟨h3,h1⟩,rfl,rfl⟩
theorem Jc{ae:List Str}(hn:ae.length<=8)(aA:List Ar):(gP ae aA).length<=64:=by unfold gP;refine eW (Gm (m:=8) λt _=>?_) (by omega);rw[bd];exact eW (sJ _ _) hn
theorem LR{xs:List Ar}{i:Int}(h0:0<=i)(h1:i<xs.length):∃p,p∈xs/\av (JE xs) (.int i)=.ok (pairD p):=by
 have hk:i.toNat<xs.length:=by omega
 refine⟨xs[i.toNat],nJ hk,?_⟩;show dE (dM (xs.map pairD) i)=_;unfold dM en;rw[a8 h0,bd,a8 h1];show dE ((xs.map pairD)[i.toNat]?)=_;rw[d8,fI hk];rfl
end Mr
namespace Mr
open PySem Mi
def sq(k:Bool)(ds:List D):D:=if k then .lst ds else .tup ds
end Mr
namespace Mr
open PySem Mi
def ky(ae row:List Str):List Int:=row.map λx=>((ae.idxOf x:Nat):Int)
end Mr
namespace Mr
open PySem Mi
def tr(t:Jf):List Str:=[t.1,t.2.1,t.2.2]
end Mr
namespace Mr
open PySem Mi
theorem kG{a b:E}{e:Mi.Env}{x y:D}(h:a e=.ok x)(h':b e=.ok y):mN bg [a,b] e=.ok (.lst [x,y]):=by unfold mN;rw[eS,h,aO,eS,h',aO];rfl
theorem MS{a:E}{e:Mi.Env}{x:D}(h:a e=.ok x):gO a e=.ok (.nx e):=by unfold gO;rw[h];rfl
end Mr
namespace Mr
open PySem Mi
open My (words eU eT)
theorem MP:("abcdefghijklmnopqrstuvwxyz" : Str).cps.toList=(cI 26).map (· + 97):=by decide +kernel
theorem NE{a b c:E}{e:Mi.Env}{i j k:Int}(ha:a e=.ok (.int i))(hb:b e=.ok (.int j))(hc:c e=.ok (.int k))(h1:i<=j)(h2:j<=k):t6 pI pI a b c e=.ok (.bl true):=by unfold t6;rw[ha,aO,hb,aO];show(Rs.ok (D.bl (decide (i<=j)))).bind _=_;rw[bR h1,aO,re,aO,a8 rfl,hc,aO];show Rs.ok (D.bl (decide (j<=k)))=_;rw[bR h2]
theorem Lb{l:List Nat}(hw:eU l):qq [.d (.str (S' l))]=.ok (.d (.bl true)):=by
 unfold qq Fv;rw[u9];rw[show([aa (W.d (.str (S' l)))]++cG (1-1) ac)=[aa (W.d (.str (S' l)))]from rfl];obtain⟨h1,h8,hl⟩:=hw;have hc:dC (.n 0) ej (m2 f9 (mV 0) (mC (.str "abcdefghijklmnopqrstuvwxyz"))) [ac] (l.map λc=>D.str (S' [c]))=.ok ((l.filter λ_=>true).map λc=>D.bl ((λ_=>true) c)):=
  iL (λc=>D.str (S' [c])) (λc=>D.bl ((λ_=>true) c)) (λ_=>true) l λc hcl=>⟨[aa (.d (.str (S' [c])))],rfl,rfl,λ_=>au (x:=.str (S' [c])) rfl rfl (by
   show br ((S' [c]).length=1) (Rs.ok (D.bl (decide ((S' [c]).cps.getD 0 0∈("abcdefghijklmnopqrstuvwxyz" : Str).cps.toList))))=_;have hm:(S' [c]).cps.getD 0 0∈("abcdefghijklmnopqrstuvwxyz" : Str).cps.toList:=by rw[MP];have:=hl c hcl;exact db.mpr ⟨c-97,gF.mpr (by omega),by show c-97+97=c;omega⟩
   rw[aF (by rw[jh];rfl),bR hm])⟩
 rw[pT.mpr (λ_ _=>rfl)]at hc;have h2:mN xM [(eL [ac] (dh (mV 0)) (.n 0) ej (m2 f9 (mV 0) (mC (.str "abcdefghijklmnopqrstuvwxyz"))))] [aa (W.d (.str (S' l)))]=.ok (.bl true):=by refine(eA (gh (ρ:=[ac]) (gg (a:=mV 0) (x:=.str (S' l)) rfl rfl) (by rw[bd,tK];omega) hc)).trans ?_;rw[NQ,Fg,kJ,aO,List.all_map];show Rs.ok (D.bl (l.all λ_=>true))=_;rw[sM.mpr (λ_ _=>rfl)]
 have h3:t6 pI pI (mC (.int 1)) (mN bV [(mV 0)]) (mC (.int 8)) [aa (W.d (.str (S' l)))]=.ok (.bl true):=NE (j:=((l.length:Nat):Int)) rfl ((eA (x:=.str (S' l)) rfl).trans (by rw[PY,aF (by rw[jh];omega),jh])) rfl (by omega) (by omega);rw[el (bj (O9 h3 λ_=>h2))];rfl
theorem yp{α:Type}{l:List α}(nd:l.Nodup){i:Nat}{x:α}(hx:l[i]? = aa x):x∉l.take i:=λz=>by
 obtain⟨il,hxe⟩:=dG.mp hx;obtain⟨j,hj⟩:=vQ z;have hj2:=(dG.mp hj).1;rw[g6]at hj2;rw[zK (by omega)]at hj;obtain⟨jl,hje⟩:=dG.mp hj;have:=(pV nd).mp (hje.trans hxe.symm);omega
def both(xs:List Ar):List Ar:=xs.flatMap λp=>[p,(p.2,p.1)]
end Mr
namespace Mr
open PySem Mi
open My (words eU eT)
theorem Nj{α:Type}(xs:List α)(k:Nat):eI xs (aa (k:Int)) ac=xs.drop k:=by
 have e:c5 xs.length 0 (aa (k:Int))=min k xs.length:=by show(if(k:Int)<0 then((k:Int)+(xs.length:Int)).toNat else min (k:Int).toNat xs.length)=_;rw[be (by omega),kU]
 unfold eI;rw[e,show c5 xs.length xs.length ac=xs.length from rfl];rcases wq k xs.length with h|h
 ·rw[wg h];exact mv (by rw[jB];exact bO _)
 ·rw[wf h,Nat.sub_self,List.take_zero,List.drop_eq_nil_of_le h]
end Mr
namespace Mr
open PySem Mi
def Sh(x:Str):Prop:=x.length<=100/\∀c∈x.cps.toList,c<128
theorem Sh.rep{x:Str}(h:Sh x):(v6 x).length<=100000:=by have h1:=PySem.StrLaws.reprText_len x λc hc=>Nat.lt_trans (h.2 c hc) (by decide);have h2:=h.1;omega
theorem uB{c:C}{e:Mi.Env}{b:Bool}(h:c e=.ok b):cP c e=.ok b:=xf h
theorem Jm{m:S}{e:Mi.Env}{o:Out}(h:m e=.ok o):sP m e=.ok o:=xf h
theorem xN{m:I}{e:Mi.Env}{o:List D}(h:m e=.ok o):iP m e=.ok o:=xf h
theorem Dl{c:String}{gs:List (Mi.Env->Bool)}{e:Mi.Env}(h:(gs.all λg=>g e)=true):mh c gs e=.ex ⟨c,[]⟩:=a8 h
theorem lq{s t:S}{e:Mi.Env}{z:dq}(h:s e=.ex z):aD s t e=.ex z:=by unfold aD;rw[h];rfl
theorem mQ{f:Fn}{a b:EW}{e:Mi.Env}{x y:W}{z:dq}(h:a e=.ok x)(h':b e=.ok y)(hf:f [x,y]=.ex z):du f [a,b] e=.ex z:=by unfold du;rw[b8,h,aO,b8,h',aO,b8,aO];show((f [x,y]).bind λ_=>_)=_;rw[hf];rfl
theorem zB{f:Fn}{a b c:EW}{e:Mi.Env}{x y w:W}{z:dq}(h:a e=.ok x)(h':b e=.ok y)(h2:c e=.ok w)(hf:f [x,y,w]=.ex z):du f [a,b,c] e=.ex z:=by unfold du;rw[b8,h,aO,b8,h',aO,b8,h2,aO,b8,aO];show((f [x,y,w]).bind λ_=>_)=_;rw[hf];rfl
theorem B8{i:Nat}{e:Mi.Env}{x:Str}(h:e[i]? = aa (aa (.d (.str x))))(s:Sh x):gR i e=true:=by unfold gR;rw[h];exact bR s.rep
abbrev pf:dq:=⟨"NoName", []⟩
theorem zr{ae asked:List Str}(h:∃x∈asked,x∉ae)(hs:∀x∈asked,Sh x):kz [.d (bK ae),.d (ai asked)]=.ex pf:=by
 unfold kz yf;rw[jp];rw[show([aa (W.d (bK ae)),aa (W.d (ai asked))]++cG (3-2) ac)=[aa (W.d (bK ae)),aa (W.d (ai asked)),ac]from rfl];have key:∀(l:List Str) (o:Option W),(∃x∈l,x∉ae)->(∀x∈l,Sh x)->fu (.n 2) (a7 (cP (cB (m2 gb (mV 2) (mV 0)))) (mh "NoName" [(gR 2),(λ_=>true)]) (sP bu)) (l.map D.str) [aa (W.d (bK ae)),aa (W.d (ai asked)),o]=.ex pf:=by
  intro l
  induction l with
  |nil=>intro o hx;obtain⟨x,hx,_⟩:=hx;exact nomatch hx
  |cons a r ih=>
   intro o hx hsh;rw[dg,fu];show(Rs.bind (a7 _ _ _ [aa (W.d (bK ae)),aa (W.d (ai asked)),aa (.d (.str a))]) _)=_;have ct:cP (cB (m2 gb (mV 2) (mV 0))) [aa (W.d (bK ae)),aa (W.d (ai asked)),aa (.d (.str a))]=.ok (!decide (a∈ae)):=uB (cu (au rfl rfl (uA ae a)));by_cases ha:a∈ae
   ·rw[bR ha]at ct;rw[cU ct];obtain⟨x,hx,hn⟩:=hx;rcases cS.mp hx with rfl|hx
    ·exact absurd ha hn
    ·exact ih _ ⟨x,hx,hn⟩ λy hy=>hsh y (eP _ hy)
   ·rw[cp ha]at ct;rw[dP ct,Dl (by
     show(gR 2 [aa (W.d (bK ae)),aa (W.d (ai asked)),aa (.d (.str a))]&&(true&&true))=true;rw[B8 rfl (hsh a (dS ..))];rfl)]
    rfl
 rw[gK (xN (gg (a:=mV 1) (x:=ai asked) rfl rfl)),key asked ac h hs];rfl
theorem tG{ae asked:List Str}(h:∀x∈asked,x∈ae):kz [.d (bK ae),.d (ai asked)]=.ok (.d .non):=by
 unfold kz yf;rw[jp];rw[show([aa (W.d (bK ae)),aa (W.d (ai asked))]++cG (3-2) ac)=[aa (W.d (bK ae)),aa (W.d (ai asked)),ac]from rfl];obtain⟨e',f1,o,he⟩:=i4 (tg:=.n 2) (body:=(a7 (cP (cB (m2 gb (mV 2) (mV 0)))) (mh "NoName" [(gR 2),(λ_=>true)]) (sP bu)))
  (λi e=>∃o:Option W,e=[aa (W.d (bK ae)),aa (W.d (ai asked)),o]) (asked.map D.str) 0 (λi d e hi ⟨o,he⟩=>by
   subst he;rw[d8]at hi;obtain⟨x,hx,rfl⟩:=lP.mp hi;have ct:cP (cB (m2 gb (mV 2) (mV 0))) [aa (W.d (bK ae)),aa (W.d (ai asked)),aa (.d (.str x))]=.ok (!decide (x∈ae)):=uB (cu (au rfl rfl (uA ae x)));rw[bR (h x (sK hx))]at ct;exact⟨[aa (W.d (bK ae)),aa (W.d (ai asked)),aa (.d (.str x))],_,rfl,(cU ct).trans rfl,_,rfl⟩) [aa (W.d (bK ae)),aa (W.d (ai asked)),ac] ⟨ac,rfl⟩
 subst he;rw[gK (xN (gg (a:=mV 1) (x:=ai asked) rfl rfl)),f1];rfl
abbrev nn:D:=.lst [.str "NoName"]
theorem LL{i:Nat}{cs:List String}{b h:S}{e:Mi.Env}{z:dq}{o:Out}(hb:b e=.ex z)(hc:z.cls∈cs)(hh:h (e.set i (aa (.ex z.cls)))=.ok o):rq i cs b h e=.ok (Fi i o):=by unfold rq;rw[hb];show br _ _=_;rw[aF hc,hh];rfl
def gq:Str := "zqxjkvbpygfwmucldrhsnioate"
theorem Bm:gq.length=26:=by decide +kernel
theorem Dt:∀c∈gq.cps.toList,c<128:=by decide +kernel
def ma(c:Nat):Str:=⟨#[c]⟩
def io:List Str:=gq.cps.toList.map ma
theorem qO:io.length=26:=by decide +kernel
theorem Lj:io.Nodup:=by decide +kernel
theorem LA:∀x∈io,x≠i7:=by decide +kernel
theorem xn{c:Nat}(h:c<128):Sh (ma c):=⟨by show 1<=100;omega,λd hd=>by
 have:d∈[c]:=hd;rw[cL.mp this];exact h⟩
theorem Po:∀x∈io,Sh x:=λx hx=>by
 obtain⟨c,hc,rfl⟩:=db.mp hx;exact xn (Dt c hc)
theorem Sh.cat{x y:Str}{k:Nat}(hx:x.length<=50)(hy:y.length<=50)(ax:∀c∈x.cps.toList,c<128)(ay:∀c∈y.cps.toList,c<128):Sh (x++y):=by
 have e:(x++y).cps.toList=x.cps.toList++y.cps.toList:=by show(x.cps++y.cps).toList=_;rw[s0]
 refine⟨?_,λc hc=>?_⟩
 ·show(x++y).cps.size<=100;rw[<- nS,e,cC,nS,nS];have h1:x.cps.size<=50:=hx;have h2:y.cps.size<=50:=hy;omega
 ·rw[e]at hc;rcases da.mp hc with h|h
  ·exact ax c h
  ·exact ay c h
theorem PF{α:Type}(xs:List α)(lo hi:Option Int):(eI xs lo hi).length<=xs.length:=by unfold eI;rw[g6,jB];omega
theorem Kq{α:Type}{xs:List α}{lo hi:Option Int}{x:α}(h:x∈eI xs lo hi):x∈xs:=vP (pR h)
theorem Sh.cut{x:Str}(h:Sh x)(lo hi:Option Int):Sh (iF x lo hi):=by refine⟨?_,λc hc=>h.2 c (Kq (show c∈eI x.cps.toList lo hi from hc))⟩;show(eI x.cps.toList lo hi).toArray.size<=100;rw[dI];have h1:=PF x.cps.toList lo hi;have h3:x.cps.toList.length=x.cps.size:=nS;have h2:x.cps.size<=100:=h.1;omega
theorem Jr:∀c,c<128->∀d∈wF c,d<128:=by decide +kernel
theorem Sh.up{x:Str}(h:x.length<=30)(a:∀c∈x.cps.toList,c<128):Sh (eD x):=by have hl:(eD x).length<=3*x.length:=Hr x;refine⟨by omega,λc hc=>?_⟩;have hc:c∈(v7 x λ_ c=>wF c).toList:=hc;unfold v7 at hc;rw[Ag,Array.mem_flatten]at hc;obtain⟨b,hb,hcb⟩:=hc;obtain⟨i,hi,rfl⟩:=Array.mem_mapIdx.mp hb;exact Jr _ (a _ (by rw[Ag];exact Array.getElem_mem hi)) c (by simpa using hcb)
end Mr
namespace Mr
open PySem Mi
open My (words eU eT)
theorem OX{a b c d g:E}{e:Mi.Env}{x y z u v:D}(h1:a e=.ok x)(h2:b e=.ok y)(h3:c e=.ok z)(h4:d e=.ok u)(h5:g e=.ok v):mN bg [a,b,c,d,g] e=.ok (.lst [x,y,z,u,v]):=by unfold mN;rw[eS,h1,aO,eS,h2,aO,eS,h3,aO,eS,h4,aO,eS,h5,aO];rfl
theorem LJ{f:Fn}{a b c g:EW}{e:Mi.Env}{x y z u:W}{d:D}(h:a e=.ok x)(h':b e=.ok y)(h'':c e=.ok z)(h3:g e=.ok u)(hf:f [x,y,z,u]=.ok (.d d)):ba f [a,b,c,g] e=.ok d:=by unfold ba jz;rw[b8,h,aO,b8,h',aO,b8,h'',aO,b8,h3];simp only[aO,b8,hf,r9]
theorem Lc{f:D->Rs D}{a:E}{e:Mi.Env}{x:D}(h:a e=.ok x):m1 f a e=f x:=by unfold m1;rw[h];rfl
theorem DE{i:Int}(h0:0<=i)(h1:i<26):∃c,c<128/\av (.str gq) (.int i)=.ok (.str (ma c)):=by
 have hl:(gq.cps.toList.length:Int)=26:=by have:=Bm;rw[nS];exact congrArg Int.ofNat this
 have hi:i<(gq.cps.toList.length:Int):=by rw[hl];exact h1
 have ha:=vg (xs:=gq.cps.toList) h0 hi 0;refine⟨gq.cps.toList.getD i.toNat 0,Dt _ ?_,?_⟩
 ·have hn:i.toNat<gq.cps.toList.length:=by omega
  rw[fX,fI hn];exact nJ hn
 ·show br _ _=_;rw[aF (by rw[Bm];decide),ha];rfl
theorem BC{ae:List Str}(hp:1<=ae.length)(h8:ae.length<=8)(hs:∀x∈ae,x.length<=8/\∀c∈x.cps.toList,c<128)(d:Int):∃x,kA [.d (ai ae),.d (.int d)]=.ok (.d (.str x))/\x∉ae/\Sh x:=by
 have q0:=eu d (b:=(ae.length:Int)) (by omega);have q1:=eG d (b:=(ae.length:Int)) (by omega);have hone:=oU (cs:=ae) q0 q1;obtain⟨one,e1⟩ : ∃one,one=ae.getD (d%(ae.length:Int)).toNat i7:=⟨_,rfl⟩;have mo1:one∈ae:=by rw[e1];exact uH (by omega)
 rw[<- e1]at hone;obtain⟨l1,a1⟩:=hs one mo1;have s1:Sh one:=⟨by omega,a1⟩;obtain⟨ca,va,xa⟩:=DE (eu (d/8) (b:=26) (by decide)) (eG (d/8) (b:=26) (by decide));obtain⟨cb,vb,xb⟩:=DE (eu (d/5) (b:=26) (by decide)) (eG (d/5) (b:=26) (by decide));have pa:=(xn va).2;have pb:=(xn vb).2;have l1':one.length<=50:=by omega
 have o50:∀c,(ma c).length<=50:=λc=>by show 1<=50;omega
 obtain⟨ts,ets⟩ : ∃ts:List Str,ts=[one++ma ca,iF one (aa 1) ac,iF one ac (aa (-1)),ma cb++one,eD one]:=⟨_,rfl⟩;have tsh:∀x∈ts,Sh x:=λx hx=>by
  rw[ets]at hx;simp only[cS,pW,or_false]at hx;rcases hx with rfl|rfl|rfl|rfl|rfl
  ·exact Sh.cat (k:=0) l1' (o50 _) a1 pa
  ·exact s1.cut _ _
  ·exact s1.cut _ _
  ·exact Sh.cat (k:=0) (o50 _) l1' pb a1
  ·exact Sh.up (by omega) a1
 have ts5:ts.length=5:=by rw[ets];rfl
 obtain⟨fs,efs⟩ : ∃fs:List Str,fs=(ts++io).filter λt=>!decide (t∈ae) && !decide (t=("" : Str)):=⟨_,rfl⟩;have fin:∀x∈fs,x∉ae/\Sh x:=λx hx=>by
  rw[efs]at hx;obtain⟨h1,h2⟩:=eV.mp hx;rw[mD,Aa,Aa]at h2;refine⟨of_decide_eq_false h2.1,?_⟩;rcases da.mp h1 with h|h
  ·exact tsh x h
  ·exact Po x h
 have Rn:1<=fs.length:=by
  rcases Nat.eq_zero_or_pos fs.length with h|h
  ·exfalso;have all:∀x∈io,x∈ae:=λx hx=>by
    by_cases hn:x∈ae
    ·exact hn
    ·have:x∈fs:=by
      rw[efs];refine eV.mpr ⟨dH _ hx,?_⟩;rw[cp hn,cp (show x≠("" : Str)from LA x hx)];rfl
     rw[List.length_eq_zero_iff.mp h]at this;exact nomatch this
   have:=jM Lj all;rw[qO]at this;omega
  ·exact h
 have Ro:fs.length<=31:=by rw[efs];refine eW (sJ _ _) ?_;rw[cC,ts5,qO];decide
 have QT:0<min (5:Int) (fs.length:Int):=by omega
 have z0:=eu (d/3) (b:=min (5:Int) (fs.length:Int)) (by omega);have z1:=eG (d/3) (b:=min (5:Int) (fs.length:Int)) (by omega);have zix:=oU (cs:=fs) z0 (by omega);have zm:fs.getD (d/3%min (5:Int) (fs.length:Int)).toNat i7∈fs:=uH (by omega);refine⟨fs.getD (d/3%min (5:Int) (fs.length:Int)).toNat i7,?_,(fin _ zm).1,(fin _ zm).2⟩;unfold kA FL;rw[jp];rw[show([aa (W.d (ai ae)),aa (W.d (.int d))]++cG (5-2) ac)=[aa (W.d (ai ae)),aa (W.d (.int d)),ac,ac,ac]from rfl];have hlen:∀e:Mi.Env,mV 0 e=.ok (ai ae)->mN bV [(mV 0)] e=.ok (.int (ae.length:Int)):=λe h=>(eA h).trans (by unfold ai;rw[m9,bd]);rw[aV (e':=[aa (W.d (ai ae)),aa (W.d (.int d)),aa (W.d (.str one)),ac,ac]) (bF (au rfl (au rfl (hlen _ rfl) ((fr _ _).trans (aF (by omega)))) hone))];rw[aV (e':=[aa (W.d (ai ae)),aa (W.d (.int d)),aa (W.d (.str one)),aa (W.d (.str gq)),ac]) (bF rfl)];have dv:∀(k:Int) (e:Mi.Env),0<k->k<2 ^ 64->mV 1 e=.ok (.int d)->m2 aQ (m2 bn (mV 1) (mC (.int k))) (mC (.int 26)) e=.ok (.int (d/k%26)):=λk e k0 k1 h=>au (au h rfl ((div_ii _ _).trans (aF (eY k0 k1)))) rfl ((fr _ _).trans (aF (by decide)));have five:=OX (e:=[aa (W.d (ai ae)),aa (W.d (.int d)),aa (W.d (.str one)),aa (W.d (.str gq)),ac])
  (au (a:=mV 2) (b:=m2 av (mV 3) (m2 aQ (m2 bn (mV 1) (mC (.int 8))) (mC (.int 26)))) rfl (au rfl (dv 8 _ (by decide) (by decide) rfl) xa) ((ud _ _).trans (aF (by have:=o50 ca;omega))))
  ((Mj (f:=dj) (a:=mV 2) (b:=mC (.int 1)) rfl rfl).trans ((sA _ _ _).trans (aF (by omega))))
  ((Oo (f:=dj) (a:=mV 2) (b:=m1 qC (mC (.int 1))) rfl rfl).trans ((sA _ _ _).trans (aF (by omega))))
  (au (a:=m2 av (mV 3) (m2 aQ (m2 bn (mV 1) (mC (.int 5))) (mC (.int 26)))) (b:=mV 2) (au rfl (dv 5 _ (by decide) (by decide) rfl) xb) rfl ((ud _ _).trans (aF (by have:=o50 cb;omega))))
  ((Lc (f:=xy) (a:=mV 2) (x:=.str one) rfl).trans (aF (by have:(eD one).length<=3*one.length:=Hr one;omega)))
 rw[show([D.str (one++ma ca),.str (iF one (aa 1) ac),.str (iF one ac (aa (-1))),.str (ma cb++one),.str (eD one)]:List D)=ts.map D.str from by rw[ets];rfl]at five;rw[aV (e':=[aa (W.d (ai ae)),aa (W.d (.int d)),aa (W.d (.str one)),aa (W.d (.str gq)),aa (W.d (ai ts))]) (bF five)];have cl:dC (.n 0) ej (mV 0) [ac] (io.map D.str)=.ok ((io.filter λ_=>true).map D.str):=iL D.str D.str (λ_=>true) _ λt _=>⟨[aa (.d (.str t))],rfl,rfl,λ_=>rfl⟩;rw[pT.mpr (λ_ _=>rfl)]at cl;have hl5:=gh (ρ:=[ac]) (e:=[aa (W.d (ai ae)),aa (W.d (.int d)),aa (W.d (.str one)),aa (W.d (.str gq)),aa (W.d (ai ts))]) (it:=dh (mV 3)) (xs:=io.map D.str) (gg (a:=mV 3) (x:=.str gq) rfl (by show Rs.ok _=_;unfold io;rw[ff];rfl)) (by rw[bd,qO];decide) cl;rw[aV (e':=[aa (W.d (ai ae)),aa (W.d (.int d)),aa (W.d (.str one)),aa (W.d (.str gq)),aa (W.d (ai (ts++io)))])
  (bF (au (x:=ai ts) rfl hl5 ((pH _ _).trans ((aF (by rw[bd,bd,ts5,qO];decide)).trans (by unfold ai;rw[fJ])))))]
 have cf:dC (.n 1) (fq (cB (m2 gb (mV 1) (mV 0))) (cB (m2 fh (mV 1) (mC (.str ""))))) (mV 1) [aa (.d (ai ae)),ac] ((ts++io).map D.str)=.ok (((ts++io).filter λt=>!decide (t∈ae) && !decide (t=("" : Str))).map D.str):=iL D.str D.str _ _ λt _=>⟨[aa (.d (ai ae)),aa (.d (.str t))],rfl,Fd (cu (au rfl rfl (D0 ae t))) λ_=>cu (au rfl rfl (Pn t "")),λ_=>rfl⟩
 rw[<- efs]at cf;rw[aV (e':=[aa (W.d (ai ae)),aa (W.d (.int d)),aa (W.d (.str one)),aa (W.d (.str gq)),aa (W.d (ai fs))])
  (bF (gh (ρ:=[aa 0,ac]) (gg (a:=mV 4) (x:=ai (ts++io)) rfl rfl) (by rw[bd,cC,ts5,qO];decide) cf))]
 have hln:∀e:Mi.Env,mV 4 e=.ok (ai fs)->mN kK [(mC (.int 5)),(mN bV [(mV 4)])] e=.ok (.int (min (5:Int) (fs.length:Int))):=λe h=>(tJ rfl ((eA h).trans (by unfold ai;rw[m9,bd]))).trans (Cg _ _);rw[el (bj (au (x:=ai fs) rfl (au (au rfl rfl ((div_ii _ _).trans (aF (eY (by decide) (by decide))))) (hln _ rfl) ((fr _ _).trans (aF QT))) zix))];rfl
theorem EY{α:Type}(f:α->Nat):∀(l m:List α),l.Pairwise (λa b=>f a<f b)->m.Pairwise (λa b=>f a<f b)->(∀x,x∈l↔x∈m)->l=m
 |[],[],_,_,_=>rfl
 |[],b::t,_,_,h=>nomatch (h b).mpr (dS ..)
 |a::r,[],_,_,h=>nomatch (h a).mp (dS ..)
 |a::r,b::t,hl,hm,h=>by
  have l1:=G6.mp hl;have m1:=G6.mp hm;have e:a=b:=by
   rcases cS.mp ((h a).mp (dS ..))with z|z
   ·exact z
   ·rcases cS.mp ((h b).mpr (dS ..))with y|y
    ·exact y.symm
    ·have k1:=m1.1 a z;have k2:=l1.1 b y;omega
  subst e;rw[EY f r t l1.2 m1.2 λx=>⟨λhx=>by
   rcases cS.mp ((h x).mp (eP _ hx))with z|z
   ·have:=l1.1 x hx;rw[z]at this;omega
   ·exact z,λhx=>by
   rcases cS.mp ((h x).mpr (eP _ hx))with z|z
   ·have:=m1.1 x hx;rw[z]at this;omega
   ·exact z⟩]
def jP(aA:List Ar)(x:Str):List Str:=(aA.filter λp=>decide (p.1=x)).map (·.2)
theorem Gr{aA:List Ar}{x y:Str}:y∈jP aA x↔(x,y)∈aA:=by
 unfold jP;constructor
 ·intro h;obtain⟨p,hp,rfl⟩:=db.mp h;obtain⟨h1,h2⟩:=eV.mp hp;rw[<- jT h2];exact h1
 ·exactλh=>db.mpr ⟨(x,y),eV.mpr ⟨h,bR rfl⟩,rfl⟩
theorem NY{ae:List Str}{aA:List Ar}{x:Str}(hx:x∈ae)(hl:aA.length<=64):rJ [.d (aK ae aA),.d (.str x)]=.ok (.d (.tup ((jP aA x).map D.str))):=by
 unfold rJ Eg;rw[jp];rw[show([aa (W.d (aK ae aA)),aa (W.d (.str x))]++cG (2-2) ac)=[aa (W.d (aK ae aA)),aa (W.d (.str x))]from rfl];have hr:iS [.d (bK ae),.d (ai [x])]=.ok (.d .non):=t0 λy hy=>by rw[cL.mp hy];exact hx
 rw[aV (MS (call2 (bj (au rfl rfl (fQ _ _))) (bj (j7 rfl)) hr))];have hc:dC (.t [1,2]) (cB (m2 bQ (mV 1) (mV 0))) (mV 2) [aa (.d (.str x)),ac,ac] (aA.map pairD)=.ok ((aA.filter λp=>decide (p.1=x)).map λp=>D.str p.2):=
  iL pairD (λp=>D.str p.2) (λp=>decide (p.1=x)) aA λp _=>⟨[aa (.d (.str x)),aa (.d (.str p.1)),aa (.d (.str p.2))],rfl,cu (au rfl rfl (uO p.1 x)),λ_=>rfl⟩
 rw[el (bj ((eA (gh (ρ:=[aa 1,ac,ac]) (gg (au rfl rfl (mJ ae aA)) rfl) (by rw[bd];omega) hc)).trans rfl))];show Rs.ok (W.d (.tup _))=_;unfold jP;rw[ff];rfl
end Mr
namespace Mr
open PySem Mi
open My (words eU eT)
end Mr
namespace Mr
open PySem Mi
open My (words eU eT)
def ixs(ae:List Str)(B:List Ar):List Ix:=(cI ae.length).flatMap λi=>((cI ae.length).filter λj=>decide ((nth ae i,nth ae j)∈B)).map λj=>(i,j)
theorem B0(ae:List Str):(cI ae.length).map (nth ae)=ae:=by refine List.ext_getElem (by rw[bd,zP]) λi h1 h2=>?_;rw[List.getElem_map,G5];unfold nth;rw[fX,fI h2];rfl
theorem Gj(ae:List Str)(B:List Ar):(ixs ae B).map (arrOf ae)=gP ae B:=by
 unfold ixs gP;rw[FR];have e:ae.flatMap (λt=>(ae.filter λh=>decide ((t,h)∈B)).map λh=>(t,h))=((cI ae.length).map (nth ae)).flatMap (λt=>(ae.filter λh=>decide ((t,h)∈B)).map λh=>(t,h)):=by rw[B0]
 rw[e,List.flatMap_map];refine BX λi _=>?_;have e2:ae.filter (λh=>decide ((nth ae i,h)∈B))=((cI ae.length).map (nth ae)).filter (λh=>decide ((nth ae i,h)∈B)):=by rw[B0]
 rw[e2,List.filter_map,ff,ff];rfl
theorem zx{ae:List Str}{B:List Ar}{p:Ix}:p∈ixs ae B↔p.1<ae.length/\p.2<ae.length/\(nth ae p.1,nth ae p.2)∈B:=by
 unfold ixs;rw[List.mem_flatMap];constructor
 ·rintro⟨i,hi,h⟩;obtain⟨j,hj,rfl⟩:=db.mp h;obtain⟨h1,h2⟩:=eV.mp hj;exact⟨gF.mp hi,gF.mp h1,jT h2⟩
 ·rintro⟨h1,h2,h3⟩;exact⟨p.1,gF.mpr h1,db.mpr ⟨p.2,eV.mpr ⟨gF.mpr h2,bR h3⟩,rfl⟩⟩
theorem OT{ae:List Str}(nd:ae.Nodup)(h8:ae.length<=8)(B:List Ar):(gP ae B).Nodup:=by
 rw[<- Gj];refine nI.mpr (List.Pairwise.imp_of_mem (R:=yE) (λ{p q} hp hq h z=>?_) ?_)
 ·obtain⟨a,b,_⟩:=zx.mp hp;obtain⟨c,d,_⟩:=zx.mp hq;have e1:=qz nd a c (congrArg wG z);have e2:=qz nd b d (congrArg Prod.snd z);rcases h with h|⟨_,h⟩<;>omega
 ·unfold ixs;rw[GY];refine⟨λi _=>?_,?_⟩
  ·rw[nI];exact(HB _ vO).imp λ{a b} h=>.inr ⟨rfl,h⟩
  ·refine vO.imp λ{a b} h=>?_;intro x hx y hy;obtain⟨j,_,rfl⟩:=db.mp hx;obtain⟨j',_,rfl⟩:=db.mp hy;exact .inl h
structure Gd(ae:List Str)(aA:List Ar):Prop where
 nd:ae.Nodup
 pos:1<=ae.length
 le:ae.length<=8
 rk:Rk aA
 gP:gP ae aA=aA
 wd:∀x∈ae,qq [.d (.str x)]=.ok (.d (.bl true))
theorem Gd.inn{ae:List Str}{aA:List Ar}(G:Gd ae aA):∀p∈aA,p.1∈ae/\p.2∈ae:=λp hp=>by
 rw[<- G.gP]at hp;exact(JL.mp hp).2
theorem Gd.al{ae:List Str}{aA:List Ar}(G:Gd ae aA):aA.length<=64:=by rw[<- G.gP];exact Jc G.le _
theorem Gd.nodup{ae:List Str}{aA:List Ar}(G:Gd ae aA):aA.Nodup:=by rw[<- G.gP];exact OT G.nd G.le _
theorem uk{f:Fn}{a b:EW}{e:Mi.Env}{x y w:W}(h:a e=.ok x)(h':b e=.ok y)(hf:f [x,y]=.ok w):du f [a,b] e=.ok (.nx e):=by unfold du;rw[b8,h,aO,b8,h',aO,b8,aO];show((f [x,y]).bind λ_=>_)=_;rw[hf];rfl
end Mr
namespace Mr
open PySem Mi
open My (words eU eT)
structure Lk(ae:List Str)(aA:List Ar):Prop where
 nd:ae.Nodup
 le:ae.length<=8
 al:aA.length<=64
 inn:∀p∈aA,p.1∈ae/\p.2∈ae
 rk:Rk aA
 nda:aA.Nodup
theorem Gd.lk{ae:List Str}{aA:List Ar}(G:Gd ae aA):Lk ae aA:=⟨G.nd,G.le,G.al,G.inn,G.rk,G.nodup⟩
theorem Lk.PX{ae:List Str}{aA:List Ar}(G:Lk ae aA)(x:Str):(hW aA x).Nodup:=by unfold hW;refine nI.mpr ((G.nda.filter _).imp_of_mem λ{p q} hp hq h z=>h ?_);have h1:=jT (eV.mp hp).2;have h2:=jT (eV.mp hq).2;exact qe z (h1.trans h2.symm)
end Mr
namespace Mr
open PySem Mi
open My (words eU eT)
end Mr
namespace Mr
open PySem Mi
open My (words eU eT)
def Wk(ae:List Str)(B:List Ar):List Ar->List Ar->Prop
 |[],L=>gP ae L=B
 |p::r,L=>p∈L/\cov L p=true/\Wk ae B r (J4 p L)
end Mr
namespace Mr
open PySem Mi
open My (words eU eT)
theorem oo.gd{ae:List Str}{A:List Ix}{r:Nat->Int}(N:oo ae A r)(hw:∀x∈ae,qq [.d (.str x)]=.ok (.d (.bl true))):Gd ae (A.map (arrOf ae)):=by
 refine⟨N.nd,N.pos,N.le,N.bf.rk,?_,hw⟩;rw[<- Gj]
 congr 1
 refine(EY (λp:Ix=>p.1*8+p.2) _ _ ?_ ?_ λp=>?_)
 ·unfold ixs;have h8:=N.le;rw[GY];refine⟨λi _=>?_,?_⟩
  ·rw[nI];refine(HB _ vO).imp λ{a b} h=>?_;show i*8+a<i*8+b;omega
  ·refine vO.imp λ{a b} h=>?_;intro x hx y hy;obtain⟨j,hj,rfl⟩:=db.mp hx;obtain⟨j',_,rfl⟩:=db.mp hy;have:=gF.mp (eV.mp hj).1;show a*8+j<b*8+j';omega
 ·refine N.gP.imp_of_mem λ{p q} hp hq h=>?_;have h1:=(N.all p hp).2.1;have h8:=N.le;rcases h with h|⟨e,h⟩
  ·show p.1*8+p.2<q.1*8+q.2;omega
  ·show p.1*8+p.2<q.1*8+q.2;omega
 ·rw[zx];constructor
  ·rintro⟨h1,h2,h3⟩;obtain⟨q,hq,e⟩:=db.mp h3;have e1:=qz N.nd (N.all q hq).1 h1 (congrArg wG e);have e2:=qz N.nd (N.all q hq).2.1 h2 (congrArg Prod.snd e);have:q=p:=qe e1 e2;rw[<- this];exact hq
  ·exactλh=>⟨(N.all p h).1,(N.all p h).2.1,db.mpr ⟨p,h,rfl⟩⟩
end Mr
namespace Mr
open PySem Mi
open My (words eU eT)
end Mr
namespace Mr
open PySem Mi
def rk(r:List Str):List Ky:=r.map gl
abbrev By:=List (Ar×D)
def yr(told:By):List Ar:=told.map (·.1)
end Mr
namespace Mr
open PySem Mi
structure Dc(ae:List Str)(A:List Ar)(KT KC:List (List Str)):Prop where
 kt:∀a∈ae,∀b∈ae,a≠b->([a,b]∈KT↔tie A a b=true)
 ktm:∀k∈KT,∃a b,k=[a,b]/\a∈ae/\b∈ae/\a≠b/\tie A a b=true
 kc:∀a∈ae,∀m∈ae,∀b∈ae,[a,m,b]∈KC↔a≠b/\vB A a m b=true
def J2(t h s:Str)(x:List Str):D:=.tup [.str t,.str h,.str s,.tup (x.map D.str)]
inductive Rl(ae:List Str)(A P:List Ar)(t h:Str):Str->List Str->Prop
 |QU {z:Str} (zn:z∈ae) (ne:t≠z) (c:vB A t h z=true):Rl ae A P t h "corner" [z]
 |on {z:Str} (zn:z∈ae) (ne:z≠h) (nt:tie A z h=false) (nc:vB A z t h=false) (p:(z,t)∈P):Rl ae A P t h "on" [z]
 |over {z:Str} (zn:z∈ae) (p:(t,z)∈P) (q:(z,h)∈P):Rl ae A P t h "over" [z]
 |both {z w:Str} (zn:z∈ae) (wn:w∈ae) (ne:z≠w) (nt:tie A z w=false) (nc:vB A z t w=false) (t1:tie A z t=true) (t2:tie A w t=true) (p:(z,h)∈P) (q:(w,h)∈P):Rl ae A P t h "both" [z,w]
end Mr
namespace Mr
open PySem Mi
end Mr
namespace Mr
open PySem Mi
structure Gt(ae:List Str)(A:List Ar)(told:By):Prop where
 nd:(yr told).Nodup
 sub:∀p∈yr told,p∈A
 ord:∀i q,told[i]? = aa q->∃s x,q.2=J2 q.1.1 q.1.2 s x/\Rl ae A (yr (told.take i)) q.1.1 q.1.2 s x
end Mr
namespace Mr
open PySem Mi
end Mr
namespace Mr
open PySem Mi
end Mr
namespace Mr
open PySem Mi
end Mr
namespace Mr
open PySem Mi
end Mr
namespace Mr
open PySem Mi
end Mr
namespace Mr
open PySem Mi
end Mr
namespace Mr
open PySem Mi
open My (words eU eT)
end Mr
namespace Mr
open PySem Mi
open My (words eU eT)
end Mr
namespace Mr
open PySem Mi
end Mr
namespace Mr
open PySem Mi
open My (words eU eT)
end Mr
namespace Mr
open PySem Mi
open PySem.Builtin PySem.Builtin.Str
def cl(x:Str):List Nat:=x.cps.toList
end Mr
namespace Mr
open PySem Mi
open My (words eU eT)
def F5(c:Str)(p:Ar):Str:=LQ [p.1,c,p.2]
def Bz(ae:List Str)(xs:List Ar):List Str:=ae++[(":" : Str)]++xs.map (F5 ">")
def tx(ae:List Str)(xs:List Ar):Str:=jF " " (Bz ae xs)
def nt(ae:List Str):List Nat:=ae.flatMap λn=>cl n++[32]
theorem xF{α:Type}{l:List α}{i:Nat}{x:α}(h:l[i]? = aa x):l.take (i+1)=l.take i++[x]:=by rw[List.take_succ,h];rfl
end Mr
namespace Mr
open PySem Mi
open My (words eU eT)
def tp(ae:List Str)(R S:List Ar):Str:=jF " " (Bz ae R++S.map (F5 "-"))
end Mr
namespace Vp
section
variable{α:Type}
inductive Up(A:α->α->Prop):α->α->Prop
 |refl (x:α):Up A x x
 |step {x y z:α}:A x y->Up A y z->Up A x z
def Hi(A:α->α->Prop)(T:α->Prop)(x:α):Prop:=∃y,T y/\Up A x y
theorem Hi.of{A:α->α->Prop}{T:α->Prop}{x:α}(h:T x):Hi A T x:=⟨x,h,.refl x⟩
theorem Hi.up{A:α->α->Prop}{T:α->Prop}{x y:α}(a:A x y)(h:Hi A T y):Hi A T x:=let ⟨z,t,u⟩:=h;⟨z,t,.step a u⟩
theorem Up.trans{A:α->α->Prop}{x y z:α}(h:Up A x y)(k:Up A y z):Up A x z:=by
 induction h with
 |refl=>exact k
 |step a _ ih=>exact .step a (ih k)
def fam(A:α->α->Prop)(n u:α):Prop:=u=n\/A u n
def mP(A:α->α->Prop)(U:α->Prop)(u v:α):Prop:=∃n,U n/\fam A n u/\fam A n v
inductive Met(adj:α->α->Prop)(S:α->Prop)(i:α):α->Prop
 |base:Met adj S i i
 |step {u v:α}:Met adj S i u->adj u v->¬ S v->Met adj S i v
def Tg(i j:α)(S:α->Prop)(x:α):Prop:=x=i\/x=j\/S x
def ou(A:α->α->Prop)(i j:α)(S:α->Prop):Prop:=Met (mP A (Hi A (Tg i j S))) S i j
end
end Vp
namespace Mr
open PySem Mi
open Vp
def ar(A:List Ar)(u v:Str):Prop:=(u,v)∈A
def yX:List Str->List (List Str)
 |[]=>[[]]
 |x::r=>yX r++(yX r).map (· ++ [x])
def rst(ae:List Str)(i j:Str):List Str:=ae.filter λn=>!decide (n=i) && !decide (n=j)
end Mr
namespace Mr
open PySem Mi
end Mr
namespace Mr
open PySem Mi
end Mr
namespace Mr
open PySem Mi
open My (eT)
end Mr
namespace Mr
open PySem Mi
open Vp
noncomputable def mI (A:List Ar) (i j:Str) (aj:List Str):Bool:=@decide (ou (ar A) i j (·∈aj)) (wA _)
theorem Mt{A:List Ar}{i j:Str}{aj:List Str}:mI A i j aj=true↔ou (ar A) i j (·∈aj):=by unfold mI;exact@uh _ (wA _)
end Mr
namespace Mr
open PySem Mi
open Vp
end Mr
namespace Mr
open PySem Mi
open Vp
abbrev Qn:=Str×Str×List Str
def J9(ae:List Str)(a b:Str):List Qn:=(yX (rst ae a b).reverse).map λl=>(a,b,l)
def KD(ae:List Str)(k:Nat):List Qn:=(ae.drop (k+1)).flatMap λb=>J9 ae (nth ae k) b
def qs(ae:List Str):List Qn:=(cI ae.length).flatMap (KD ae)
end Mr
namespace Vp
section
variable{α:Type}
def EJ(A:α->α->Prop)(S:α->Prop)(s t:α×Bool):Prop:=¬ S s.1/\A s.1 t.1/\t.2=true
def fm(A:α->α->Prop)(S:α->Prop)(x:α):Prop:=∃z,S z/\Up A x z
def Goes(A:α->α->Prop)(S:α->Prop)(s:α×Bool):Prop:=(s.2=true/\fm A S s.1)\/(s.2=false/\¬ S s.1)
def D2(A:α->α->Prop)(S:α->Prop)(s t:α×Bool):Prop:=Goes A S s/\A t.1 s.1/\t.2=false
def uL(A:α->α->Prop)(S:α->Prop)(s t:α×Bool):Prop:=EJ A S s t\/D2 A S s t
def uw(A:α->α->Prop)(i:α)(t:α×Bool):Prop:=(A i t.1/\t.2=true)\/(A t.1 i/\t.2=false)
inductive Rc(st:α×Bool->Prop)(nx:α×Bool->α×Bool->Prop):α×Bool->Prop
 |base {t:α×Bool}:st t->Rc st nx t
 |step {s t:α×Bool}:Rc st nx s->nx s t->Rc st nx t
variable{A:α->α->Prop}{S:α->Prop}{i j:α}
abbrev Wk(A:α->α->Prop)(S:α->Prop)(i:α):α×Bool->Prop:=Rc (uw A i) (uL A S)
theorem fm.hi{T:α->Prop}(h:∀z,S z->T z){x:α}(b:fm A S x):Hi A T x:=let ⟨z,s,u⟩:=b;⟨z,h z s,u⟩
theorem Kc(ni:¬ S i)(nj:¬ S j){b:Bool}(w:Wk A S i (j,b)):ou A i j S:=by
 obtain⟨T,hT⟩ : ∃T,T=Tg i j S:=⟨_,rfl⟩;have tS:∀z,S z->T z:=λz h=>by rw[hT];exact .inr (.inr h)
 have ti:Hi A T i:=.of (by rw[hT];exact .inl rfl);have tj:Hi A T j:=.of (by rw[hT];exact .inr (.inl rfl));have down:∀x t,Hi A T x->Met (mP A (Hi A T)) S i x->A x t->(¬ Hi A T t)\/(Hi A T t/\(¬ S t->Met (mP A (Hi A T)) S i t)/\∃y,A y t/\Met (mP A (Hi A T)) S i y):=λx t hx m a=>
  (Hq (Hi A T t)).elim (λh=>.inr ⟨h,λns=>.step m ⟨t,h,.inr a,.inl rfl⟩ ns,x,a,m⟩) .inl
 have key:∀s,Wk A S i s->(s.2=true/\¬ Hi A T s.1)\/(Hi A T s.1/\(¬ S s.1->Met (mP A (Hi A T)) S i s.1)/\(s.2=true->∃y,A y s.1/\Met (mP A (Hi A T)) S i y)):=λs w=>by
  induction w with
  |base h=>
   rcases h with ⟨a,e⟩|⟨a,e⟩
   ·rcases down i _ ti .base a with h|⟨h1,h2,h3⟩
    ·exact .inl ⟨e,h⟩
    ·exact .inr ⟨h1,h2,λ_=>h3⟩
   ·exact .inr ⟨.up a ti,λns=>.step .base ⟨i,ti,.inl rfl,.inr a⟩ ns,λq=>by rw[e]at q;cases q⟩
  | @step s t w h ih=>
   rcases h with ⟨ns,a,e⟩|⟨g,a,e⟩
   ·rcases ih with ⟨_,ih⟩|⟨ih,im,_⟩
    ·exact .inl ⟨e,λh=>ih (.up a h)⟩
    ·rcases down s.1 _ ih (im ns) a with h|⟨h1,h2,h3⟩
     ·exact .inl ⟨e,h⟩
     ·exact .inr ⟨h1,h2,λ_=>h3⟩
   ·have hs:Hi A T s.1:=by
     rcases ih with ⟨d,ih⟩|⟨ih,_⟩
     ·rcases g with ⟨_,g⟩|⟨g,_⟩
      ·exact g.hi tS
      ·rw[d]at g;cases g
     ·exact ih
    refine .inr ⟨.up a hs,λns=>?_,λq=>by rw[e]at q;cases q⟩;rcases ih with ⟨_,ih⟩|⟨_,im,iy⟩
    ·exact absurd hs ih
    ·rcases g with ⟨g,_⟩|⟨_,g⟩
     ·obtain⟨y,ay,my⟩:=iy g;exact .step my ⟨s.1,hs,.inr ay,.inr a⟩ ns
     ·exact .step (im g) ⟨s.1,hs,.inl rfl,.inr a⟩ ns
 rcases key _ w with ⟨_,h⟩|⟨_,h,_⟩
 ·exact absurd tj h
 ·unfold ou;rw[<- hT];exact h nj
def Rd(A:α->α->Prop)(S:α->Prop)(i x:α):Prop:=x=i\/∃b,Wk A S i (x,b)
def Rb(A:α->α->Prop)(S:α->Prop)(i x:α):Prop:=x=i\/∃b,Wk A S i (x,b)/\Goes A S (x,b)
theorem Rd.down{x t:α}(r:Rd A S i x)(ns:¬ S x)(a:A x t):Wk A S i (t,true):=by
 rcases r with rfl|⟨b,w⟩
 ·exact .base (.inl ⟨a,rfl⟩)
 ·exact .step w (.inl ⟨ns,a,rfl⟩)
theorem Rb.up{x t:α}(r:Rb A S i x)(a:A t x):Wk A S i (t,false):=by
 rcases r with rfl|⟨b,w,g⟩
 ·exact .base (.inr ⟨a,rfl⟩)
 ·exact .step w (.inr ⟨g,a,rfl⟩)
theorem fm.no{x:α}(n:¬ fm A S x):¬ S x:=λh=>n ⟨x,h,.refl x⟩
theorem fm.wM{x y:α}(n:¬ fm A S x)(a:A x y):¬ fm A S y:=λ⟨z,s,u⟩=>n ⟨z,s,.step a u⟩
theorem M8{x y:α}(u:Up A x y):Rd A S i x->¬ fm A S x->Rd A S i y:=by
 induction u with
 |refl=>exactλr _=>r
 |step a _ ih=>exactλr n=>ih (.inr ⟨true,r.down (fm.no n) a⟩) (fm.wM n a)
theorem Pf{x:α}(u:Up A x i)(n:¬ fm A S x):x=i\/Wk A S i (x,false):=by
 obtain⟨k,hk⟩ : ∃k,k=i:=⟨_,rfl⟩;rw[<- hk]at u
 induction u with
 |refl=>exact .inl hk
 |step a _ ih=>
  have n':=fm.wM n a;rcases ih n' hk with e|w
  ·rw[e]at a;exact .inr (.base (.inr ⟨a,rfl⟩))
  ·exact .inr (.step w (.inr ⟨.inr ⟨rfl,fm.no n'⟩,a,rfl⟩))
theorem LP(ij:i≠j)(ni:¬ S i)(h:ou A i j S):∃b,Wk A S i (j,b):=by
 have both:∀x,Hi A (Tg i j S) x->¬ fm A S x->Rd A S i x->Rb A S i x\/∃b,Wk A S i (j,b):=λx hx n r=>by
  obtain⟨z,t,u⟩:=hx;rcases t with rfl|rfl|t
  ·rcases Pf u n with e|w
   ·exact .inl (.inl e)
   ·exact .inl (.inr ⟨false,w,.inr ⟨rfl,fm.no n⟩⟩)
  ·rcases M8 u r n with e|w
   ·exact absurd e.symm ij
   ·exact .inr w
  ·exact absurd ⟨z,t,u⟩ n
 have fin:∀x,Hi A (Tg i j S) x->¬ S x->Wk A S i (x,true)->Rb A S i x\/∃b,Wk A S i (j,b):=λx hx ns w=>
  (Hq (fm A S x)).elim (λb=>.inl (.inr ⟨true,w,.inl ⟨rfl,b⟩⟩)) λn=>both x hx n (.inr ⟨_,w⟩)
 have key:∀v,Met (mP A (Hi A (Tg i j S))) S i v->¬ S v/\(Rb A S i v\/∃b,Wk A S i (j,b)):=λv m=>by
  induction m with
  |base=>exact⟨ni,.inl (.inl rfl)⟩
  | @step u v _ a sv ih=>
   refine⟨sv,?_⟩;obtain⟨su,ih⟩:=ih;rcases ih with r|r
   ·obtain⟨n,hn,f1,f2⟩:=a;have rd:Rd A S i u:=by
     rcases r with e|⟨b,w,_⟩
     ·exact .inl e
     ·exact .inr ⟨b,w⟩
    rcases f1 with e|a1
    ·subst e;rcases f2 with e|a2
     ·subst e;exact .inl r
     ·exact .inl (.inr ⟨false,r.up a2,.inr ⟨rfl,sv⟩⟩)
    ·have w:=rd.down su a1;rcases f2 with e|a2
     ·subst e;exact fin _ hn sv w
     ·by_cases hb:fm A S n
      ·exact .inl (.inr ⟨false,.step w (.inr ⟨.inl ⟨rfl,hb⟩,a2,rfl⟩),.inr ⟨rfl,sv⟩⟩)
      ·rcases both n hn hb (.inr ⟨_,w⟩)with rb|q
       ·exact .inl (.inr ⟨false,rb.up a2,.inr ⟨rfl,sv⟩⟩)
       ·exact .inr q
   ·exact .inr r
 rcases(key j h).2 with r|r
 ·rcases r with e|⟨b,w,_⟩
  ·exact absurd e.symm ij
  ·exact⟨b,w⟩
 ·exact r
theorem Pg(ij:i≠j)(ni:¬ S i)(nj:¬ S j):(∃b,Wk A S i (j,b))↔ou A i j S:=⟨λ⟨_,w⟩=>Kc ni nj w,LP ij ni⟩
end
end Vp
namespace Mr
open PySem Mi
open Vp
abbrev Spot:=Str×Bool
def aP(s:Spot):D:=.tup [.str s.1,.bl s.2]
def nE(s:Spot):List Ky:=[.inr s.1,.inl s.2]
theorem MY{s t:Spot}(h:nE s=nE t):s=t:=by unfold nE at h;simp only[List.cons.injEq,Sum.inr.injEq,Sum.inl.injEq,and_true]at h;exact qe h.1 h.2
abbrev Bf:=Spot×Option Spot
def rh:Option Spot->D
 |none=>.non
 |some s=>aP s
def gU(b:Bf):List Ky×D:=(nE b.1,rh b.2)
abbrev iQ(bs:List Bf):W:=.dt (bs.map gU)
def cx(bs:List Bf):List Spot:=bs.map (·.1)
theorem Jo{bs:List Bf}{s:Spot}:s∈cx bs↔∃o,(s,o)∈bs:=by unfold cx;rw[db];exact⟨λ⟨⟨a,o⟩,h,e⟩=>⟨o,by cases e;exact h⟩,λ⟨o,h⟩=>⟨(s,o),h,rfl⟩⟩
theorem Gn(bs:List Bf)(s:Spot):((bs.map gU).any λkv=>decide (kv.1=nE s))=decide (s∈cx bs):=by
 rw[Ab,uh,vW,vU,Jo];constructor
 ·rintro⟨⟨t,o⟩,h,e⟩;have:=MY (jT e);exact⟨o,by rw[<- this];exact h⟩
 ·rintro⟨o,h⟩;exact⟨(s,o),h,bR rfl⟩
theorem uY{α:Type}(p:α->Bool):∀l:List α,(l.find? p).isSome=l.any p
 |[]=>rfl
 |x::r=>by
  rw[kR,jC];cases h:p x with
  |true=>rfl
  |false=>simp only[Ac];exact uY p r
theorem NR(bs:List Bf)(s:Spot):∃o,qt (iQ bs) (aP s)=.ok o/\o.isSome=decide (s∈cx bs):=by refine⟨jj (bs.map gU) (nE s),rfl,?_⟩;unfold jj;rw[wy,uY,Gn]
theorem CY{bs:List Bf}{s:Spot}{o:Option Spot}(hn:s∉cx bs)(hl:bs.length<=1000):sw (iQ bs) (aP s) (rh o)=.ok (iQ (bs++[(s,o)])):=by show br ((bs.map gU).length<16777216) (Rs.ok (W.dt (Mi.putK (nE s) (rh o) (bs.map gU))))=_;rw[aF (by rw[bd];omega)];unfold Mi.putK;rw[Gn,cp hn,be dW];unfold iQ;rw[fJ];rfl
inductive jJ(st:List Spot)(nx:Spot->List Spot):List Bf->Prop
 |nil:jJ st nx []
 |from{bs:List Bf} {s:Spot}:jJ st nx bs->s∈st->jJ st nx (bs++[(s,ac)])
 |on {bs:List Bf} {s h:Spot}:jJ st nx bs->h∈cx bs->s∈nx h->jJ st nx (bs++[(s,aa h)])
theorem yP(bs:List Bf)(b:Bf):cx (bs++[b])=cx bs++[b.1]:=by unfold cx;rw[fJ];rfl
theorem kys_len(bs:List Bf):(cx bs).length=bs.length:=by unfold cx;exact bd _
theorem jJ.rc{st:List Spot}{nx:Spot->List Spot}{bs:List Bf}(h:jJ st nx bs):∀s∈cx bs,Rc (·∈st) (λs t=>t∈nx s) s:=by
 induction h with
 |nil=>exactλs h=>nomatch h
 | «from» _ hs ih=>
  intro s h;rw[yP]at h;rcases da.mp h with h|h
  ·exact ih s h
  ·rw[cL.mp h];exact .base hs
 |on _ hh hs ih=>
  intro s h;rw[yP]at h;rcases da.mp h with h|h
  ·exact ih s h
  ·rw[cL.mp h];exact .step (ih _ hh) hs
abbrev xR(κ:Kp)(f:Fn):S:=(dL (dh (nB κ 1 f (mV 5))) (.n 4)
 (a7 (cB (gV 2 (mV 4)))
 (aD (dZ 2 (mV 4) (mV 5))
 (c7 3 (mV 4)))
 bu))
abbrev zc(κ:Kp)(f:Fn):S:=(aD (ii 5 3 (mC (.int 0))) (xR κ f))
abbrev CF(κ:Kp)(f:Fn):S:=
 (aD (lg 2 (λ_=>.ok (.dt [])))
 (aD (a4 3 (mN bg []))
 (aD (dL (dh (mV 0)) (.n 4)
 (aD (dZ 2 (mV 4) (mC .non))
 (c7 3 (mV 4))))
 (aD (lE 40 (eK (mV 3)) (zc κ f))
 (bL (wV 2))))))
abbrev b9(l:List Spot):D:=.lst (l.map aP)
section
variable{κ:Kp}{f:Fn}{aJ:List D}{X:D}{st U:List Spot}{nx:Spot->List Spot}
abbrev eJ(X:D)(κ:Kp)(aJ:List D)(bs:List Bf)(ws:List Spot)(o4 o5:Option W):Mi.Env:=[aa (.d X),aa (.fn κ aJ),aa (iQ bs),aa (.d (b9 ws)),o4,o5]
theorem Kw(nd:st.Nodup)(hl:st.length<=100):∃o4,fu (.n 4) (aD (dZ 2 (mV 4) (mC .non)) (c7 3 (mV 4))) (st.map aP) (eJ X κ aJ [] [] ac ac)=.ok (.nx (eJ X κ aJ (st.map λs=>(s,ac)) st o4 ac)):=by
 obtain⟨e',g,o4,he⟩:=i4 (tg:=.n 4) (body:=(aD (dZ 2 (mV 4) (mC .non)) (c7 3 (mV 4))))
  (λn e=>∃o4:Option W,e=eJ X κ aJ ((st.take n).map λs=>(s,ac)) (st.take n) o4 ac) (st.map aP) 0 (λn d e hi ⟨o4,he⟩=>by
   subst he;rw[fL];rw[d8]at hi;obtain⟨s,hs,rfl⟩:=lP.mp hi;have nl:=(dG.mp hs).1;have tl:(st.take n).length<=100:=by rw[g6];omega
   have hk:cx ((st.take n).map λs=>((s,ac):Bf))=st.take n:=by unfold cx;rw[ff];exact List.map_id _
   have p:=CY (bs:=(st.take n).map λs=>(s,ac)) (s:=s) (o:=ac) (by rw[hk];exact yp nd hs) (by rw[bd];omega);have s1:dZ 2 (mV 4) (mC .non) (eJ X κ aJ ((st.take n).map λs=>(s,ac)) (st.take n) (aa (.d (aP s))) ac)=.ok (.nx (eJ X κ aJ ((st.take n).map (λs=>((s,ac):Bf))++[(s,ac)]) (st.take n) (aa (.d (aP s))) ac)):=by show Rs.bind (sw (iQ ((st.take n).map λs=>((s,ac):Bf))) (aP s) .non) _=_;rw[show(D.non)=rh ac from rfl,p];rfl
   refine⟨_,eJ X κ aJ ((st.take (n+1)).map λs=>(s,ac)) (st.take (n+1)) (aa (.d (aP s))) ac,rfl,(aV s1).trans ?_,_,rfl⟩;rw[oI (d:=aP s) (ds:=(st.take n).map aP) rfl rfl (by rw[bd];omega)];rw[xF hs,fJ];show Rs.ok (Out.nx [_,_,_,aa (W.d (D.lst ((st.take n).map aP++[aP s]))),_,_])=_;unfold eJ b9;rw[fJ];rfl) (eJ X κ aJ [] [] ac ac) ⟨ac,rfl⟩
 subst he;rw[fL,bd,List.take_length]at g;exact⟨o4,g⟩
structure jZ(st U:List Spot)(nx:Spot->List Spot)(bs:List Bf)(ws:List Spot):Prop where
 tr:jJ st nx bs
 nd:(cx bs).Nodup
 u:∀s∈cx bs,s∈U
 st:∀s∈st,s∈cx bs
 w:∀s∈ws,s∈cx bs
 ex:∀s∈cx bs,s∉ws->∀t∈nx s,t∈cx bs
theorem jZ.len{bs:List Bf}{ws:List Spot}(w:jZ st U nx bs ws):bs.length<=U.length:=by rw[<- kys_len];exact jM w.nd w.u
theorem Ja(hU:U.length<=100)(hnU:∀s∈U,∀t∈nx s,t∈U)(hnl:∀s∈U,(nx s).length<=1000)(hf:∀s∈U,f (.d (aP s)::aJ.map W.d)=.ok (.d (b9 (nx s)))){bs:List Bf}{h:Spot}{r:List Spot}(rl:r.length<=1000)(w:jZ st U nx bs (h::r))(o4:Option W) :
 ∃bs' ws' o4',xR κ f (eJ X κ aJ bs r o4 (aa (.d (aP h))))=.ok (.nx (eJ X κ aJ bs' ws' o4' (aa (.d (aP h)))))/\jZ st U nx bs' ws'/\ws'.length+bs.length=r.length+bs'.length:=by
 have hk:=w.w h dS;have hu:=w.u h hk;obtain⟨e',g,bs',ws',o4',he,tr,nd,u,sub,wr,ww,kw,ln,al⟩:=i4 (tg:=.n 4) (body:=(a7 (cB (gV 2 (mV 4))) (aD (dZ 2 (mV 4) (mV 5)) (c7 3 (mV 4))) bu))
  (λn e=>∃(bs':List Bf) (ws':List Spot) (o4:Option W),e=eJ X κ aJ bs' ws' o4 (aa (.d (aP h)))/\jJ st nx bs'/\(cx bs').Nodup/\(∀s∈cx bs',s∈U)/\(∀s∈cx bs,s∈cx bs')/\(∀s∈r,s∈ws')/\(∀s∈ws',s∈cx bs')/\(∀s∈cx bs',s∈cx bs\/s∈ws')/\ws'.length+bs.length=r.length+bs'.length/\∀a t,a<n->(nx h)[a]? = aa t->t∈cx bs') ((nx h).map aP) 0 (λn d e hi ⟨bs',ws',o4,he,tr,nd,u,sub,wr,ww,kw,ln,al⟩=>by
   subst he;rw[fL]at al ⊢;rw[d8]at hi;obtain⟨t,ht,rfl⟩:=lP.mp hi;have tm:=sK ht;obtain⟨o,hg,ho⟩:=NR bs' t;have bl:bs'.length<=100:=by have:=jM nd u;rw[kys_len]at this;omega
   have ct:cB (gV 2 (mV 4)) (eJ X κ aJ bs' ws' (aa (.d (aP t))) (aa (.d (aP h))))=.ok (!decide (t∈cx bs')):=cu (by
    show Rs.bind (qt (iQ bs') (aP t)) (λo=>Rs.ok (D.bl (!o.isSome)))=_;rw[hg,aO,ho])
   by_cases hm:t∈cx bs'
   ·rw[bR hm]at ct;refine⟨_,_,rfl,(cU ct).trans rfl,bs',ws',_,rfl,tr,nd,u,sub,wr,ww,kw,ln,λa t' ha h'=>?_⟩;by_cases e:a=n
    ·subst e;rw[ht]at h';cases h';exact hm
    ·exact al a t' (by omega) h'
   ·rw[cp hm]at ct;have p:=CY (bs:=bs') (s:=t) (o:=aa h) hm (by omega);have s1:dZ 2 (mV 4) (mV 5) (eJ X κ aJ bs' ws' (aa (.d (aP t))) (aa (.d (aP h))))=.ok (.nx (eJ X κ aJ (bs'++[(t,aa h)]) ws' (aa (.d (aP t))) (aa (.d (aP h))))):=by
     show Rs.bind (sw (iQ bs') (aP t) (aP h)) _=_;rw[show aP h=rh (aa h)from rfl,p];rfl
    have ka:=yP bs' (t,aa h);refine⟨_,eJ X κ aJ (bs'++[(t,aa h)]) (ws'++[t]) (aa (.d (aP t))) (aa (.d (aP h))),rfl,(dP ct).trans ((aV s1).trans ?_),_,_,_,rfl,.on tr (sub h hk) tm,?_,?_,?_,?_,?_,?_,?_,?_⟩
    ·rw[oI (d:=aP t) (ds:=ws'.map aP) rfl rfl (by rw[bd];omega)];show Rs.ok (Out.nx [_,_,_,aa (W.d (D.lst (ws'.map aP++[aP t]))),_,_])=_;unfold eJ b9;rw[fJ];rfl
    ·rw[ka];exact kQ.mpr ⟨nd,by simp,λa ha b hb e=>by rw[cL.mp hb]at e;exact hm (by rw[e]at ha;exact ha)⟩
    ·rw[ka];intro s hs;rcases da.mp hs with z|z
     ·exact u s z
     ·rw[cL.mp z];exact hnU h hu t tm
    ·rw[ka];exactλs hs=>fe _ (sub s hs)
    ·exactλs hs=>fe _ (wr s hs)
    ·rw[ka];intro s hs;rcases da.mp hs with z|z
     ·exact fe _ (ww s z)
     ·exact dH _ z
    ·rw[ka];intro s hs;rcases da.mp hs with z|z
     ·exact(kw s z).imp id λq=>fe _ q
     ·exact .inr (dH _ z)
    ·rw[cC,cC,sI,sI];omega
    ·rw[ka];intro a t' ha h';by_cases e:a=n
     ·subst e;rw[ht]at h';cases h';exact dH _ (cL.mpr rfl)
     ·exact fe _ (al a t' (by omega) h')) (eJ X κ aJ bs r o4 (aa (.d (aP h)))) ⟨bs,r,o4,rfl,w.tr,w.nd,w.u,λs hs=>hs,λs hs=>hs,λs hs=>w.w s (eP _ hs),λs hs=>.inl hs,rfl,λa t ha=>absurd ha (wj _)⟩
 subst he;have hcl:∀t∈nx h,t∈cx bs':=λt ht=>by
  obtain⟨a,ha⟩:=vQ ht;exact al a t (by rw[fL,bd];exact(dG.mp ha).1) ha
 refine⟨bs',ws',o4',?_,⟨tr,nd,u,λs hs=>sub s (w.st s hs),ww,λs hs hn t ht=>?_⟩,ln⟩
 ·refine(gK (gg (x:=b9 (nx h)) ?_ rfl)).trans g;show(if κ = κ then Rs.bind (.ok (aP h)) λx=>(f (.d x::aJ.map W.d)).bind oX else .no)=_;rw[a8 rfl,aO,hf h hu];rfl
 ·rcases kw s hs with z|z
  ·by_cases e:s=h
   ·subst e;exact hcl t ht
   ·exact sub t (w.ex s z (λq=>by
     rcases cS.mp q with q|q
     ·exact e q
     ·exact hn (wr s q)) t ht)
  ·exact absurd z hn
theorem E2(hU:U.length<=100)(hnU:∀s∈U,∀t∈nx s,t∈U)(hnl:∀s∈U,(nx s).length<=1000)(hf:∀s∈U,f (.d (aP s)::aJ.map W.d)=.ok (.d (b9 (nx s)))):∀(n:Nat) (bs:List Bf) (ws:List Spot) (o4 o5:Option W),n<=100->jZ st U nx bs ws->(U.length-bs.length)+ws.length<n ->
 ∃bs' p4 p5,jO (eK (mV 3)) (zc κ f) n (eJ X κ aJ bs ws o4 o5)=.ok (.nx (eJ X κ aJ bs' [] p4 p5))/\jZ st U nx bs' []
 |0,_,_,_,_,_,_,h=>absurd h (wj _)
 |n+1,bs,[],o4,o5,_,w,h=>⟨bs,o4,o5,rfl,w⟩
 |n+1,bs,x::r,o4,o5,hn,w,h=>by
  have hc:eK (mV 3) (eJ X κ aJ bs (x::r) o4 o5)=.ok true:=rfl;rw[bU]at h;obtain⟨bs',ws',p4,g,w',ln⟩:=Ja (X:=X) (κ:=κ) hU hnU hnl hf (by omega) w o4;have l3:=w'.len;have l4:=w.len;obtain⟨b2,q4,q5,g2,w2⟩:=E2 hU hnU hnl hf n bs' ws' p4 (aa (.d (aP x))) (by omega) w' (by omega);refine⟨b2,q4,q5,?_,w2⟩;have pop:ii 5 3 (mC (.int 0)) (eJ X κ aJ bs (x::r) o4 o5)=.ok (.nx (eJ X κ aJ bs r o4 (aa (.d (aP x))))):=by
   show Rs.bind (jS (aP x::r.map aP) 0) _=_;unfold jS;rw[aF (by decide)];have:en (aP x::r.map aP).length 0=aa 0:=by unfold en;rw[a8 (by decide),a8 (by rw[bU];omega)];rfl
   rw[this];rfl
  rw[jO,hc,aO,a8 rfl];show Rs.bind (aD (ii 5 3 (mC (.int 0))) (xR κ f) _) _=_;rw[aV pop,g,aO];exact g2
theorem Oq(nd:st.Nodup)(hst:∀s∈st,s∈U)(hU:U.length<=30)(hnU:∀s∈U,∀t∈nx s,t∈U)(hnl:∀s∈U,(nx s).length<=1000)(hf:∀s∈U,f (.d (aP s)::aJ.map W.d)=.ok (.d (b9 (nx s)))) :
 ∃bs,fk 2 6 (CF κ f) [.d (b9 st),.fn κ aJ]=.ok (iQ bs)/\jZ st U nx bs []:=by
 have hk:cx (st.map λs=>((s,ac):Bf))=st:=by unfold cx;rw[ff];exact List.map_id _
 have tr:∀l:List Spot,(∀s∈l,s∈st)->jJ st nx (l.map λs=>(s,ac)):=λl=>by
  have:∀l:List Spot,(∀s∈l.reverse,s∈st)->jJ st nx (l.reverse.map λs=>(s,ac)):=λl=>by
   induction l with
   |nil=>exactλ_=>.nil
   |cons x r ih=>
    intro h;rw[sL]at h ⊢;rw[fJ];exact .from (ih λs hs=>h s (fe _ hs)) (h x (dH _ (cL.mpr rfl)))
  have:=this l.reverse;rw[List.reverse_reverse]at this;exact this
 have sl:st.length<=U.length:=jM nd hst;obtain⟨o4,g1⟩:=Kw (X:=b9 st) (κ:=κ) (aJ:=aJ) nd (by omega);obtain⟨bs,p4,p5,g2,w⟩:=E2 (X:=b9 st) (κ:=κ) (f:=f) (aJ:=aJ) (st:=st) (by omega) hnU hnl hf 40 (st.map λs=>(s,ac)) st o4 ac (by decide) ⟨tr st λs h=>h,by rw[hk];exact nd,by rw[hk];exact hst,by rw[hk];exactλs h=>h,by rw[hk];exactλs h=>h,by rw[hk];exactλs h h'=>absurd h h'⟩ (by rw[bd];omega);refine⟨bs,?_,w⟩;rw[kM];rw[show([aa (W.d (b9 st)),aa (W.fn κ aJ)]++cG (6-2) ac)=[aa (W.d (b9 st)),aa (W.fn κ aJ),ac,ac,ac,ac]from rfl];unfold CF;rw[aV (e':=[aa (W.d (b9 st)),aa (W.fn κ aJ),aa (iQ []),ac,ac,ac]) rfl];rw[aV (e':=eJ (b9 st) κ aJ [] [] ac ac) (bF (lC _))];rw[aV ((gK (gg (x:=b9 st) rfl rfl)).trans g1)];rw[aV (show lE 40 (eK (mV 3)) (zc κ f) _=_ from g2)];rfl
end
theorem jZ.iff{st U:List Spot}{nx:Spot->List Spot}{bs:List Bf}(w:jZ st U nx bs [])(s:Spot):s∈cx bs↔Rc (·∈st) (λs t=>t∈nx s) s:=
 ⟨w.tr.rc s,λr=>by
  induction r with
  |base h=>exact w.st _ h
  |step _ h ih=>exact w.ex _ ih (λq=>nomatch q) _ h⟩
end Mr
namespace Mr
open PySem Mi
open Vp
theorem Np{A:List Ar}{x y:Str}(h:i0 A x y):Up (ar A) x y:=by
 induction h with
 |refl=>exact .refl _
 |step _ a ih=>exact ih.trans (.step a (.refl _))
theorem Ko{A:List Ar}{x y:Str}(h:Up (ar A) x y):i0 A x y:=by
 have key:∀{a b:Str},Up (ar A) a b->∀{z:Str},i0 A z a->i0 A z b:=λ{a b} h=>by
  induction h with
  |refl=>exactλk=>k
  |step a _ ih=>exactλk=>ih (.step k a)
 exact key h .refl
theorem Lk.bf{ae:List Str}{A:List Ar}(G:Lk ae A)(pos:1<=ae.length):lX ae A:=by obtain⟨r,h⟩:=G.rk;exact⟨G.nd,pos,G.le,G.al,λp hp=>(G.inn p hp).1,r,h⟩
theorem DC{ae:List Str}{A:List Ar}(L:Lk ae A){aj:List Str}{x:Str}(hx:x∈ae):hb ae A aj x=true↔fm (ar A) (·∈aj) x:=by
 unfold hb fm mH;rw[vU];constructor
 ·rintro⟨y,h1,h2⟩;exact⟨y,jT h2,Np (yq.mp (eV.mp h1).2)⟩
 ·rintro⟨y,h1,h2⟩;refine⟨y,eV.mpr ⟨?_,yq.mpr (Ko h2)⟩,bR h1⟩;have:∀{a b:Str},Up (ar A) a b->a∈ae->b∈ae:=λ{a b} h=>by
   induction h with
   |refl=>exact id
   |step a _ ih=>exactλ_=>ih (L.inn _ a).2
  exact this h2 hx
def jc(A:List Ar)(x:Str):List Spot:=(jP A x).map λy=>(y,true)
def eD(A:List Ar)(x:Str):List Spot:=(hW A x).map λy=>(y,false)
noncomputable def nxS (ae:List Str) (A:List Ar) (aj:List Str) (s:Spot):List Spot:=
 (if s.1∈aj then[]else jc A s.1)++(if(if s.2=true then hb ae A aj s.1 else !decide (s.1∈aj))=true then eD A s.1 else[])
def iY(A:List Ar)(x:Str):List Spot:=jc A x++eD A x
theorem Dm{A:List Ar}{x:Str}(hl:A.length<=64):(jP A x).length<=64:=by unfold jP;rw[bd];exact eW (sJ _ _) hl
theorem Lk.O4{ae:List Str}{aA:List Ar}(G:Lk ae aA)(x:Str):(jP aA x).Nodup:=by unfold jP;refine nI.mpr ((G.nda.filter _).imp_of_mem λ{p q} hp hq h z=>h ?_);have h1:=jT (eV.mp hp).2;have h2:=jT (eV.mp hq).2;exact qe (h1.trans h2.symm) z
theorem Gp{ae:List Str}{A:List Ar}{x:Str}(hx:x∈ae)(hl:A.length<=64):lF [.d (aK ae A),.d (.str x)]=.ok (.d (b9 (jc A x))):=by
 unfold lF BK;rw[kM];have hc:dC (.n 0) ej (mN dTup [(mV 0),(mC (.bl true))]) [ac] ((jP A x).map D.str)=.ok (((jP A x).filter λ_=>true).map λy=>aP (y,true)):=
  iL D.str (λy=>aP (y,true)) _ _ λy _=>⟨[aa (.d (.str y))],rfl,rfl,λ_=>py rfl rfl⟩
 rw[pT.mpr (λ_ _=>rfl)]at hc;rw[el (bj (gh (gg (call2 rfl rfl (NY hx hl)) rfl) (by rw[bd];have:=Dm (x:=x) hl;omega) hc))];unfold b9 jc;rw[ff];rfl
theorem Bo{ae:List Str}{A:List Ar}{x:Str}(hx:x∈ae)(hl:A.length<=64):lM [.d (aK ae A),.d (.str x)]=.ok (.d (b9 (eD A x))):=by
 unfold lM D9;rw[kM];have hc:dC (.n 0) ej (mN dTup [(mV 0),(mC (.bl false))]) [ac] ((hW A x).map D.str)=.ok (((hW A x).filter λ_=>true).map λy=>aP (y,false)):=
  iL D.str (λy=>aP (y,false)) _ _ λy _=>⟨[aa (.d (.str y))],rfl,rfl,λ_=>py rfl rfl⟩
 rw[pT.mpr (λ_ _=>rfl)]at hc;rw[el (bj (gh (gg (call2 rfl rfl (Oy hx hl)) rfl) (by rw[bd];have:=Fu (x:=x) hl;omega) hc))];unfold b9 eD;rw[ff];rfl
theorem ze{A:List Ar}{x:Str}(hl:A.length<=64):(jc A x).length<=64:=by unfold jc;rw[bd];exact Dm hl
theorem xi{A:List Ar}{x:Str}(hl:A.length<=64):(eD A x).length<=64:=by unfold eD;rw[bd];exact Fu hl
theorem xk{c:C}{a b:E}{e:Mi.Env}{k:Bool}{x y:D}(hc:c e=.ok k)(ha:k=true->a e=.ok x)(hb:k=false->b e=.ok y):lA c a b e=.ok (if k=true then x else y):=by
 unfold lA;rw[hc,aO];cases k with
 |true=>exact ha rfl
 |false=>exact hb rfl
theorem L5{ae:List Str}{A:List Ar}(N:lX ae A)(hd:∀p∈A,p.2∈ae)(aj:List Str){s:Spot}(hs:s.1∈ae):oG [.d (aK ae A),.d (aP s),.d (ai aj)]=.ok (.d (b9 (nxS ae A aj s))):=by
 obtain⟨x,b⟩:=s;have hs:x∈ae:=hs;have hl:=N.al;unfold oG DF;rw[mU];obtain⟨g,hg⟩ : ∃g,g=(if b=true then hb ae A aj x else !decide (x∈aj)):=⟨_,rfl⟩;rw[show([aa (W.d (aK ae A)),aa (W.d (aP (x,b))),aa (W.d (ai aj))]++cG (9-3) ac)=[aa (W.d (aK ae A)),aa (W.d (aP (x,b))),aa (W.d (ai aj)),ac,ac,ac,ac,ac,ac]from rfl];rw[aV (e':=[aa (W.d (aK ae A)),aa (W.d (aP (x,b))),aa (W.d (ai aj)),aa (W.d (.str x)),aa (W.d (.bl b)),ac,ac,ac,ac]) rfl];rw[aV (e':=[aa (W.d (aK ae A)),aa (W.d (aP (x,b))),aa (W.d (ai aj)),aa (W.d (.str x)),aa (W.d (.bl b)),aa (W.d (.bl (!decide (x∈aj)))),ac,ac,ac]) (bF (au rfl rfl (D0 _ _)))];have e6:lA (eK (mV 4)) (ba oP [(wD (mV 0)),(wD (mV 3)),(wD (mV 2))]) (mV 5) [aa (W.d (aK ae A)),aa (W.d (aP (x,b))),aa (W.d (ai aj)),aa (W.d (.str x)),aa (W.d (.bl b)),aa (W.d (.bl (!decide (x∈aj)))),ac,ac,ac]=.ok (.bl g):=by rw[xk (k:=b) (x:=.bl (hb ae A aj x)) (y:=.bl (!decide (x∈aj))) rfl (λ_=>mY rfl rfl rfl (Lu N hd hs aj)) (λ_=>rfl),hg];cases b<;>rfl
 rw[aV (e':=[aa (W.d (aK ae A)),aa (W.d (aP (x,b))),aa (W.d (ai aj)),aa (W.d (.str x)),aa (W.d (.bl b)),aa (W.d (.bl (!decide (x∈aj)))),aa (W.d (.bl g)),ac,ac]) (bF e6)];obtain⟨dn,hdn⟩ : ∃dn,dn=(if x∈aj then[]else jc A x):=⟨_,rfl⟩;obtain⟨up,hup⟩ : ∃up,up=(if g=true then eD A x else[]):=⟨_,rfl⟩;have ld:dn.length<=64:=by
  rw[hdn];split
  ·exact iC _
  ·exact ze hl
 have lu:up.length<=64:=by
  rw[hup];split
  ·exact xi hl
  ·exact iC _
 have e7:lA (eK (mV 5)) (ba lF [(wD (mV 0)),(wD (mV 3))]) (mN bg []) [aa (W.d (aK ae A)),aa (W.d (aP (x,b))),aa (W.d (ai aj)),aa (W.d (.str x)),aa (W.d (.bl b)),aa (W.d (.bl (!decide (x∈aj)))),aa (W.d (.bl g)),ac,ac]=.ok (b9 dn):=by
  rw[xk (k:=!decide (x∈aj)) (x:=b9 (jc A x)) (y:=.lst []) rfl (λ_=>call2 rfl rfl (Gp hs hl)) (λ_=>lC _),hdn];by_cases h:x∈aj
  ·rw[bR h,a8 h];rfl
  ·rw[cp h,be h];rfl
 rw[aV (e':=[aa (W.d (aK ae A)),aa (W.d (aP (x,b))),aa (W.d (ai aj)),aa (W.d (.str x)),aa (W.d (.bl b)),aa (W.d (.bl (!decide (x∈aj)))),aa (W.d (.bl g)),aa (W.d (b9 dn)),ac]) (bF e7)];have e8:lA (eK (mV 6)) (ba lM [(wD (mV 0)),(wD (mV 3))]) (mN bg []) [aa (W.d (aK ae A)),aa (W.d (aP (x,b))),aa (W.d (ai aj)),aa (W.d (.str x)),aa (W.d (.bl b)),aa (W.d (.bl (!decide (x∈aj)))),aa (W.d (.bl g)),aa (W.d (b9 dn)),ac]=.ok (b9 up):=by rw[xk (k:=g) (x:=b9 (eD A x)) (y:=.lst []) rfl (λ_=>call2 rfl rfl (Bo hs hl)) (λ_=>lC _),hup];cases g<;>rfl
 rw[aV (e':=[aa (W.d (aK ae A)),aa (W.d (aP (x,b))),aa (W.d (ai aj)),aa (W.d (.str x)),aa (W.d (.bl b)),aa (W.d (.bl (!decide (x∈aj)))),aa (W.d (.bl g)),aa (W.d (b9 dn)),aa (W.d (b9 up))]) (bF e8)];have e9:m2 aZ (mV 7) (mV 8) [aa (W.d (aK ae A)),aa (W.d (aP (x,b))),aa (W.d (ai aj)),aa (W.d (.str x)),aa (W.d (.bl b)),aa (W.d (.bl (!decide (x∈aj)))),aa (W.d (.bl g)),aa (W.d (b9 dn)),aa (W.d (b9 up))]=.ok (b9 (dn++up)):=by refine(au (x:=b9 dn) (y:=b9 up) rfl rfl (pH _ _)).trans ?_;rw[aF (by rw[bd,bd];omega)];unfold b9;rw[fJ]
 rw[el (bj e9)];rw[hdn,hup,hg];rfl
def nF(ae:List Str):List Spot:=ae.map (λx=>(x,true))++ae.map λx=>(x,false)
theorem yu{ae:List Str}{s:Spot}:s∈nF ae↔s.1∈ae:=by
 unfold nF;rw[da,db,db];obtain⟨x,b⟩:=s;constructor
 ·rintro(⟨y,h,e⟩|⟨y,h,e⟩)<;>cases e<;>exact h
 ·intro h;cases b
  ·exact .inr ⟨x,h,rfl⟩
  ·exact .inl ⟨x,h,rfl⟩
theorem wX{A:List Ar}{x:Str}{t:Spot}:t∈jc A x↔(x,t.1)∈A/\t.2=true:=by
 unfold jc;rw[db];constructor
 ·rintro⟨y,h,rfl⟩;exact⟨Gr.mp h,rfl⟩
 ·rintro⟨h,e⟩;exact⟨t.1,Gr.mpr h,qe rfl e.symm⟩
theorem u6{A:List Ar}{x:Str}{t:Spot}:t∈eD A x↔(t.1,x)∈A/\t.2=false:=by
 unfold eD;rw[db];constructor
 ·rintro⟨y,h,rfl⟩;exact⟨C1.mp h,rfl⟩
 ·rintro⟨h,e⟩;exact⟨t.1,C1.mpr h,qe rfl e.symm⟩
theorem tQ{ae:List Str}{A:List Ar}(L:Lk ae A){aj:List Str}{s t:Spot}(hs:s.1∈ae):t∈nxS ae A aj s↔uL (ar A) (·∈aj) s t:=by
 unfold nxS uL EJ D2 Goes;rw[da];refine or_congr ?_ ?_
 ·by_cases h:s.1∈aj
  ·rw[a8 h];exact⟨λz=>(by cases z),λz=>absurd h z.1⟩
  ·rw[be h,wX];exact⟨λz=>⟨h,z.1,z.2⟩,λz=>z.2⟩
 ·cases hb2:s.2 with
  |true=>
   rw[a8 rfl];by_cases h:hb ae A aj s.1=true
   ·rw[a8 h,u6];exact⟨λz=>⟨.inl ⟨rfl,(DC L hs).mp h⟩,z.1,z.2⟩,λz=>z.2⟩
   ·rw[be h];refine⟨λz=>(by cases z),λz=>?_⟩;rcases z.1 with q|q
    ·exact absurd ((DC L hs).mpr q.2) h
    ·cases q.1
  |false=>
   rw[be dW];by_cases h:s.1∈aj
   ·rw[bR h,be (by decide)];refine⟨λz=>(by cases z),λz=>?_⟩;rcases z.1 with q|q
    ·cases q.1
    ·exact absurd h q.2
   ·rw[cp h,a8 (by decide),u6];exact⟨λz=>⟨.inr ⟨rfl,h⟩,z.1,z.2⟩,λz=>z.2⟩
theorem vx{A:List Ar}{x:Str}{t:Spot}:t∈iY A x↔uw (ar A) x t:=by unfold iY uw;rw[da,wX,u6];rfl
theorem IP{ae:List Str}{A:List Ar}(L:Lk ae A)(x:Str):(iY A x).Nodup:=by
 unfold iY;refine kQ.mpr ⟨?_,?_,λa ha b hb e=>?_⟩
 ·exact nI.mpr ((L.O4 x).imp λh e=>h (congrArg wG e))
 ·exact nI.mpr ((L.PX x).imp λh e=>h (congrArg wG e))
 ·have h1:=(wX.mp ha).2;have h2:=(u6.mp hb).2;rw[e,h2]at h1;cases h1
theorem Gk:∀bs:List Bf,jy ((bs.map gU).map (·.2))=true
 |[]=>rfl
 |(s,o)::r=>by
  rw[dg,dg,jy,Gk r];cases o<;>rfl
theorem Oz{ae:List Str}{A:List Ar}(L:Lk ae A){i:Str}(hi:i∈ae)(aj:List Str) :
 ∃bs,kO [.d (aK ae A),.d (.str i),.d (ai aj)]=.ok (iQ bs)/\jZ (iY A i) (nF ae) (nxS ae A aj) bs []:=by
 have N:=L.bf (zM hi);have hd:∀p∈A,p.2∈ae:=λp hp=>(L.inn p hp).2;have hl:=L.al;have n8:=L.le;obtain⟨bs,hw,w⟩:=Oq (κ:=⟨0,0, "", []⟩) (f:=uz) (aJ:=[aK ae A,ai aj]) (st:=iY A i) (U:=nF ae) (nx:=nxS ae A aj) (IP L i) (λs hs=>by
  rw[yu];rcases vx.mp hs with h|h
  ·exact(L.inn _ h.1).2
  ·exact(L.inn _ h.1).1) (by unfold nF;rw[cC,bd,bd];omega) (λs hs t ht=>by
  rw[yu]at hs ⊢;rcases(tQ L hs).mp ht with h|h
  ·exact(L.inn _ h.2.1).2
  ·exact(L.inn _ h.2.1).1) (λs hs=>by
  unfold nxS;rw[cC];have h1:(if s.1∈aj then[]else jc A s.1).length<=64:=by
   split
   ·exact iC _
   ·exact ze hl
  have h2:(if(if s.2=true then hb ae A aj s.1 else !decide (s.1∈aj))=true then eD A s.1 else[]).length<=64:=by
   generalize (if s.2=true then hb ae A aj s.1 else !decide (s.1∈aj))=g;cases g
   ·exact iC _
   ·exact xi hl
  omega) (λs hs=>by
  rw[yu]at hs;show Rs.bind (ba oG [(wD (mV 1)),(wD (mV 0)),(wD (mV 2))] [aa (.d (aP s)),aa (.d (aK ae A)),aa (.d (ai aj))]) _=_;rw[mY rfl rfl rfl (L5 N hd aj hs)];rfl)
 refine⟨bs,?_,w⟩;unfold kO C3;rw[yF];rw[show([aa (W.d (aK ae A)),aa (W.d (.str i)),aa (W.d (ai aj))]++cG (4-3) ac)=[aa (W.d (aK ae A)),aa (W.d (.str i)),aa (W.d (ai aj)),ac]from rfl];have e3:m2 aZ (ba lF [(wD (mV 0)),(wD (mV 1))]) (ba lM [(wD (mV 0)),(wD (mV 1))]) [aa (W.d (aK ae A)),aa (W.d (.str i)),aa (W.d (ai aj)),ac]=.ok (b9 (iY A i)):=by refine(au (x:=b9 (jc A i)) (y:=b9 (eD A i)) (call2 rfl rfl (Gp hi hl)) (call2 rfl rfl (Bo hi hl)) (pH _ _)).trans ?_;have:=ze (x:=i) hl;have:=xi (x:=i) hl;rw[aF (by rw[bd,bd];omega)];unfold b9 iY;rw[fJ]
 rw[aV (e':=[aa (W.d (aK ae A)),aa (W.d (.str i)),aa (W.d (ai aj)),aa (W.d (b9 (iY A i)))]) (bF e3)];have e4:yj qA [0,2] (mV 3) [aa (W.d (aK ae A)),aa (W.d (.str i)),aa (W.d (ai aj)),aa (W.d (b9 (iY A i)))]=.ok (iQ bs):=by show Rs.bind (qA (b9 (iY A i)) [aK ae A,ai aj]) Ep=_;rw[show qA (b9 (iY A i)) [aK ae A,ai aj]=.ok (iQ bs)from hw];show(if jy ((bs.map gU).map (·.2))=true then Rs.ok (W.dt (bs.map gU))else .no)=_;rw[a8 (Gk bs)]
 rw[el e4];rfl
theorem _root_.Vp.Rc.congr{α:Type}{st st':α×Bool->Prop}{nx nx':α×Bool->α×Bool->Prop}{P:α×Bool->Prop}(hs:∀t,st t->st' t)(hp:∀t,st t->P t)(hn:∀s t,P s->nx s t->nx' s t/\P t){s:α×Bool}(r:Rc st nx s):Rc st' nx' s/\P s:=by
 induction r with
 |base h=>exact⟨.base (hs _ h),hp _ h⟩
 |step _ h ih=>exact⟨.step ih.1 (hn _ _ ih.2 h).1,(hn _ _ ih.2 h).2⟩
theorem D1{ae:List Str}{A:List Ar}(L:Lk ae A){i:Str}(hi:i∈ae){aj:List Str}{bs:List Bf}(w:jZ (iY A i) (nF ae) (nxS ae A aj) bs [])(s:Spot):s∈cx bs↔Vp.Wk (ar A) (·∈aj) i s:=by
 rw[w.iff];have i1:∀t,uw (ar A) i t->t.1∈ae:=λt h=>by
  rcases h with h|h
  ·exact(L.inn _ h.1).2
  ·exact(L.inn _ h.1).1
 have i2:∀s t,uL (ar A) (·∈aj) s t->t.1∈ae:=λs t h=>by
  rcases h with h|h
  ·exact(L.inn _ h.2.1).2
  ·exact(L.inn _ h.2.1).1
 constructor
 ·intro r;exact(r.congr (P:=λt=>t.1∈ae) (λt h=>vx.mp h) (λt h=>i1 t (vx.mp h)) λs t hs h=>⟨(tQ L hs).mp h,i2 s t ((tQ L hs).mp h)⟩).1
 ·intro r;exact(r.congr (P:=λt=>t.1∈ae) (λt h=>vx.mpr h) i1 λs t hs h=>⟨(tQ L hs).mpr h,i2 s t h⟩).1
def lB(bs:List Bf)(j:Str):List Spot:=(cx bs).filter λs=>decide (s.1=j)
theorem OB(bs:List Bf)(hl:bs.length<=1000)(j:Str):lG [.d (.str j),.df (bs.map gU)]=.ok (.d (b9 (lB bs j))):=by
 unfold lG FO;rw[kM];have hc:dC (.n 1) (cB (m2 bQ (m2 av (mV 1) (mC (.int 0))) (mV 0))) (mV 1) [aa (.d (.str j)),ac] ((cx bs).map aP)=.ok (((cx bs).filter λs=>decide (s.1=j)).map aP):=
  iL aP aP _ _ λs _=>⟨[aa (.d (.str j)),aa (.d (aP s))],rfl,cu (au (x:=.str s.1) (au (x:=aP s) rfl rfl (by show dE (dM [D.str s.1,D.bl s.2] 0)=_;rw[at0];rfl)) rfl (uO _ _)),λ_=>rfl⟩
 have it:ph 1 [aa (W.d (.str j)),aa (W.df (bs.map gU))]=.ok ((cx bs).map aP):=by show Rs.ok ((bs.map gU).map λkv=>D.tup (kv.1.map tL))=_;unfold cx;rw[ff,ff];rfl
 rw[show([aa (W.d (.str j)),aa (W.df (bs.map gU))]++cG (2-2) ac)=[aa (W.d (.str j)),aa (W.df (bs.map gU))]from rfl];rw[el (bj (gh (e:=[aa (W.d (.str j)),aa (W.df (bs.map gU))]) it (by rw[bd,kys_len];omega) hc))];rfl
theorem Kn{ae asked:List Str}(h:∀x∈asked,x∈ae)(nd:asked.Nodup)(hl:asked.length<=1000):qZ [.d (bK ae),.d (ai asked)]=.ok (.d .non):=by unfold qZ Fl;rw[jp];rw[aV (e':=[aa (.d (bK ae)),aa (.d (ai asked))]) (by unfold gO;rw[call2 rfl rfl (t0 h)];rfl)];show Rs.bind (gO _ _) _=_;unfold gO;rw[Ez rfl (NJ nd hl)];rfl
theorem Om{ae:List Str}{A:List Ar}(L:Lk ae A){i j:Str}(hi:i∈ae)(hj:j∈ae)(ij:i≠j){aj:List Str}(hs:∀x∈aj,x∈ae)(nd:aj.Nodup)(ni:i∉aj)(nj:j∉aj) :
 pc [.d (aK ae A),.d (.str i),.d (.str j),.d (ai aj)]=.ok (.d (.bl (!mI A i j aj))):=by
 have ndS:([i,j]++aj).Nodup:=by
  refine kQ.mpr ⟨by simp[ij],nd,λa ha b hb e=>?_⟩;subst e;rcases cS.mp ha with rfl|z
  ·exact ni hb
  ·rw[cL.mp z]at hb;exact nj hb
 have n8:=L.le;have hl8:aj.length<=8:=eW (jM nd hs) n8;obtain⟨bs,hbf,w⟩:=Oz L hi aj;have bl:bs.length<=16:=by have:=w.len;unfold nF at this;rw[cC,bd,bd]at this;omega
 unfold pc FZ;rw[xL];rw[show([aa (W.d (aK ae A)),aa (W.d (.str i)),aa (W.d (.str j)),aa (W.d (ai aj))]++cG (4-4) ac)=[aa (W.d (aK ae A)),aa (W.d (.str i)),aa (W.d (.str j)),aa (W.d (ai aj))]from rfl];have l2:m2 aZ (mN bg [(mV 1),(mV 2)]) (mN gB [(mV 3)]) [aa (W.d (aK ae A)),aa (W.d (.str i)),aa (W.d (.str j)),aa (W.d (ai aj))]=.ok (ai ([i,j]++aj)):=by refine(au (x:=ai [i,j]) (y:=ai aj) (kG rfl rfl) ((eA (x:=ai aj) rfl).trans rfl) (pH _ _)).trans ?_;rw[aF (by rw[bd,bd];simp only[bU,d9];omega)];rfl
 have asks:=Kn (ae:=ae) (asked:=[i,j]++aj) (λx hx=>by
  rcases da.mp hx with z|z
  ·rcases cS.mp z with rfl|z
   ·exact hi
   ·rw[cL.mp z];exact hj
  ·exact hs x z) ndS (by simp only[cC,bU,d9];omega)
 rw[aV (e':=[aa (W.d (aK ae A)),aa (W.d (.str i)),aa (W.d (.str j)),aa (W.d (ai aj))]) (by unfold gO;rw[call2 (bj (au rfl rfl (fQ ae A))) (bj l2) asks];rfl)];have fz:qS (jz kO [(wD (mV 0)),(wD (mV 1)),(wD (mV 3))]) [aa (W.d (aK ae A)),aa (W.d (.str i)),aa (W.d (.str j)),aa (W.d (ai aj))]=.ok (.df (bs.map gU)):=by show Rs.bind (kO [.d (aK ae A),.d (.str i),.d (ai aj)]) BH=_;rw[hbf];rfl
 have sp:=call2 (f:=lG) (a:=wD (mV 2)) (e:=[aa (W.d (aK ae A)),aa (W.d (.str i)),aa (W.d (.str j)),aa (W.d (ai aj))]) (x:=.d (.str j)) rfl fz (OB bs (by omega) j);have fin:(!(lB bs j).isEmpty)=mI A i j aj:=by
  rw[Ab,Mt,<- Pg (A:=ar A) (S:=(·∈aj)) ij ni nj];constructor
  ·intro h;cases ho:lB bs j with
   |nil=>rw[ho]at h;cases h
   |cons s r=>
    have hm:s∈lB bs j:=by rw[ho];exact dS
    obtain⟨h1,h2⟩:=eV.mp hm;have h2:s.1=j:=jT h2;refine⟨s.2,?_⟩;rw[<- h2];exact(D1 L hi w s).mp h1
  ·rintro⟨b,h⟩;have hm:(j,b)∈lB bs j:=eV.mpr ⟨(D1 L hi w _).mpr h,bR rfl⟩;cases ho:lB bs j with
   |nil=>rw[ho]at hm;cases hm
   |cons s r=>rfl
 have nt:sr (ba lG [(wD (mV 2)),(qS (jz kO [(wD (mV 0)),(wD (mV 1)),(wD (mV 3))]))]) [aa (W.d (aK ae A)),aa (W.d (.str i)),aa (W.d (.str j)),aa (W.d (ai aj))]=.ok (.bl (!mI A i j aj)):=by unfold sr eK;rw[sp,aO,show CW (b9 (lB bs j))=.ok (!((lB bs j).map aP).isEmpty)from rfl,aO];rw[<- fin];cases lB bs j<;>rfl
 rw[el (bj nt)];rfl
end Mr
namespace Vp
end Vp
namespace Mr
open PySem Mi
open Vp
end Mr
namespace Mr
open PySem Mi
open Vp
theorem N3{a:E}{e:Mi.Env}{b:Bool}(h:a e=.ok (.bl b)):eK a e=.ok b:=by unfold eK;rw[h];rfl
end Mr
namespace Mr
open PySem Mi
open Vp
open My (words eU eT)
end Mr
namespace Mr
open PySem Mi
open Vp
open My (words eU eT)
theorem N2(ns:List Int)(hl:ns.length<=63):∃ae A r,sE [.d (.lst (ns.map D.int)),.d (.int 8)]=.ok (.d (aK ae (A.map (arrOf ae))))/\oo ae A r/\(∃(c:Int) (m:Nat),m<=8/\ae=(words c m).map S')/\2<=ae.length:=by
 obtain⟨c0,hc0⟩:=mL ns 0 (by decide);rw[show((0:Nat):Int)=0 from rfl]at hc0;obtain⟨f,hf⟩ : ∃f:Int,f=1+c0%(8-1)+8*(c0/(8-1)%10 ^ (9:Int).toNat):=⟨_,rfl⟩;obtain⟨ae,A,r,h,N,wds,d0,hd0,hnl⟩:=K6 (f::ns.drop 1) 8 (by decide) (by decide);rw[show((8:Nat):Int)=8 from rfl]at h hnl;have cf:fi [.d (.lst ((f::ns.drop 1).map D.int)),.d (.int 0)]=.ok (.d (.int f)):=by
  unfold fi xr;rw[jp];have ct:cB (m2 eo (mV 1) (mN bV [(mV 0)])) [aa (W.d (.lst ((f::ns.drop 1).map D.int))),aa (W.d (.int 0)),ac]=.ok true:=by refine cu ((au rfl ((eA (x:=.lst ((f::ns.drop 1).map D.int)) rfl).trans (m9 _)) (se _ _)).trans ?_);rw[bd,bU,bR (by omega)]
  rw[show([aa (W.d (.lst ((f::ns.drop 1).map D.int))),aa (W.d (.int 0))]++cG (3-2) ac)=[aa (W.d (.lst ((f::ns.drop 1).map D.int))),aa (W.d (.int 0)),ac]from rfl];rw[nr ((dP ct).trans (el (bj (au (x:=.lst ((f::ns.drop 1).map D.int)) rfl rfl (by show dE (dM (.int f::(ns.drop 1).map D.int) 0)=_;rw[at0];rfl)))))];rfl
 rw[cf]at hd0;have e0:f=d0:=by injection hd0 with e;injection e with e;injection e
 refine⟨ae,A,r,?_,N,wds,?_⟩
 ·unfold sE CH;rw[jp];have hp:m2 yH (mC (.int 10)) (mC (.int 9)) [aa (.d (.lst (ns.map D.int))),aa (.d (.int 8)),aa (.d (.int c0)),ac,ac]=.ok (.int (10 ^ (9:Int).toNat)):=au rfl rfl (aF (by decide));rw[aV (e':=[aa (.d (.lst (ns.map D.int))),aa (.d (.int 8)),aa (.d (.int c0)),ac,ac]) (bF (call2 rfl rfl hc0))];rw[aV (e':=[aa (.d (.lst (ns.map D.int))),aa (.d (.int 8)),aa (.d (.int c0)),aa (.d (.int (c0/(8-1)%10 ^ (9:Int).toNat))),ac]) (bF (au (au rfl (au rfl rfl rfl) (aF (eY (by decide) (by decide)))) hp (aF (by decide))))];rw[aV (e':=[aa (.d (.lst (ns.map D.int))),aa (.d (.int 8)),aa (.d (.int c0)),aa (.d (.int (c0/(8-1)%10 ^ (9:Int).toNat))),aa (.d (.int f))]) (bF ((au (au rfl (au rfl (au rfl rfl rfl) (aF (by decide))) rfl) (au rfl rfl (aF (jq (by decide) (by decide)))) rfl).trans (by rw[kE,hf])))];have hs:m2 aZ (mN bg [(mV 4)]) (cR dj (mV 0) (aa (mC (.int 1))) ac) [aa (.d (.lst (ns.map D.int))),aa (.d (.int 8)),aa (.d (.int c0)),aa (.d (.int (c0/(8-1)%10 ^ (9:Int).toNat))),aa (.d (.int f))]=.ok (.lst ((f::ns.drop 1).map D.int)):=by
   have QV:eI (ns.map D.int) (aa (1:Int)) ac=(ns.drop 1).map D.int:=by rw[show(1:Int)=((1:Nat):Int)from rfl,DB,zQ]
   refine(au (x:=.lst [.int f]) (y:=.lst (eI (ns.map D.int) (aa (1:Int)) ac)) (j7 rfl) rfl rfl).trans ?_;rw[QV,pH,aF (by simp only[bU,d9,bd,jB];omega)];rfl
  rw[el (bj (call2 (bj hs) rfl h))];rfl
 ·rw[<- e0]at hnl;have q0:=eu c0 (b:=7) (by decide);have q1:=eG c0 (b:=7) (by decide);have e8:(8:Int)-1=7:=by decide
  rw[e8]at hf;have:f%8=1+c0%7:=by generalize c0/7%10 ^ (9:Int).toNat=z at hf;omega
  omega
theorem EU{ls:List Str}{z:Int}(h0:0<=z)(h1:z<ls.length)(hl:ls.length<=100):∃(h:z.toNat<ls.length),jS (ls.map D.str) z=.ok (.str ls[z.toNat],(ls.eraseIdx z.toNat).map D.str):=by
 have hz:z.toNat<ls.length:=by omega
 refine⟨hz,?_⟩;unfold jS;rw[aF (by omega)];have:en (ls.map D.str).length z=aa z.toNat:=by unfold en;rw[a8 h0,a8 (by rw[bd];exact h1)]
 rw[this,kJ,aO];rw[d8,fI hz,Hm,kJ,aO];have er:∀(l:List Str) (k:Nat),(l.map D.str).eraseIdx k=(l.eraseIdx k).map D.str:=by
  intro l
  induction l with
  |nil=>intro k;rfl
  |cons a r ih=>
   intro k;cases k with
   |zero=>rfl
   |succ k=>rw[dg,zL,ih k];rfl
 rw[er]
structure Ask(ae:List Str)(i j:Str)(aj:List Str):Prop where
 im:i∈ae
 jm:j∈ae
 ij:i≠j
 hs:∀x∈aj,x∈ae
 nd:aj.Nodup
 ni:i∉aj
 nj:j∉aj
theorem Ju{ae:List Str}{A:List Ar}(nd:ae.Nodup)(h2:2<=ae.length)(h8:ae.length<=8)(d:Int):∃i j aj,oV [.d (aK ae A),.d (.int d)]=.ok (.d (.lst [.str i,.str j,ai aj]))/\Ask ae i j aj:=by
 have l1:(0:Int)<((ae.length:Nat):Int):=by omega
 obtain⟨a,ha⟩ : ∃a,a=d%((ae.length:Nat):Int):=⟨_,rfl⟩;have a0:0<=a:=by rw[ha];exact eu _ (by omega)
 have a1:a<((ae.length:Nat):Int):=by rw[ha];exact eG _ l1
 obtain⟨az,pa⟩:=EU a0 a1 (by omega);obtain⟨i,hi⟩ : ∃i,i=ae[a.toNat]:=⟨_,rfl⟩;obtain⟨n1,hn1⟩ : ∃n1,n1=ae.eraseIdx a.toNat:=⟨_,rfl⟩;rw[<- hi,<- hn1]at pa;have ln1:n1.length=ae.length-1:=by rw[hn1,G0,a8 az]
 have l2:(0:Int)<((n1.length:Nat):Int):=by omega
 obtain⟨b,hb⟩ : ∃b,b=d/8%((n1.length:Nat):Int):=⟨_,rfl⟩;have b0:0<=b:=by rw[hb];exact eu _ (by omega)
 have b1:b<((n1.length:Nat):Int):=by rw[hb];exact eG _ l2
 obtain⟨bz,pb⟩:=EU b0 b1 (by omega);obtain⟨j,hj⟩ : ∃j,j=n1[b.toNat]:=⟨_,rfl⟩;obtain⟨n2,hn2⟩ : ∃n2,n2=n1.eraseIdx b.toNat:=⟨_,rfl⟩;rw[<- hj,<- hn2]at pb;have l5:n1.Nodup:=by rw[hn1];exact nd.sublist (GZ _ _)
 have lv:n2.Nodup:=by rw[hn2];exact l5.sublist (GZ _ _)
 have s1:∀x∈n1,x∈ae:=λx h=>by rw[hn1]at h;exact GV h
 have s2:∀x∈n2,x∈n1:=λx h=>by rw[hn2]at h;exact GV h
 have out:∀{l:List Str} {k:Nat} (h:k<l.length),l.Nodup->l[k]∉l.eraseIdx k:=λ{l k} h nd z=>by
  obtain⟨q,hq,ne,e⟩:=List.mem_eraseIdx_iff_getElem.mp z;exact ne ((pV (h₀:=hq) (h₁:=h) nd).mp e)
 have i1:i∉n1:=by rw[hi,hn1];exact out az nd
 have jm:j∈n1:=by rw[hj];exact nJ bz
 have j2:j∉n2:=by rw[hj,hn2];exact out bz l5
 have l8:n2.length<=8:=by rw[hn2,G0,a8 bz];omega
 obtain⟨w,hw⟩ : ∃w,w=2+d/64%2:=⟨_,rfl⟩;have w0:0<w:=by have:=eu (d/64) (b:=2) (by decide);omega
 obtain⟨e',f,aj,o6,he,hs,hnd⟩:=i4 (tg:=.n 6) (body:=(a7 (cB (m2 bQ (m2 aQ (m2 bn (m2 aQ (m2 bT (mV 1) (m2 aZ (mC (.int 48271)) (m2 bT (m2 bT (mC (.int 614)) (mV 6)) (mV 6)))) (mC (.int 2147483647))) (mC (.int 16))) (m2 aZ (mC (.int 2)) (m2 aQ (m2 bn (mV 1) (mC (.int 64))) (mC (.int 2))))) (mC (.int 0))))
 (c7 5 (m2 av (mV 2) (mV 6)))
 bu))
  (λn e=>∃(aj:List Str) (o6:Option W),e=[aa (W.d (aK ae A)),aa (W.d (.int d)),aa (W.d (ai n2)),aa (W.d (.str i)),aa (W.d (.str j)),aa (W.d (ai aj)),o6]/\(∀x∈aj,x∈n2.take n)/\aj.Nodup) (dB 0 ((n2.length:Nat):Int)) 0 (λn x e hx ⟨aj,o6,he,hs,hnd⟩=>by
   subst he;obtain⟨hn,rfl⟩:=qG hx;rw[fL]at hs ⊢;have gx:n2[n]? = aa n2[n]:=fI hn;have ts:=xF gx;have new:=yp lv gx;have hl8:aj.length<=8:=eW (jM hnd λx h=>pR (hs x h)) l8;have mono:∀y,y∈n2.take n->y∈n2.take (n+1):=λy hy=>by rw[ts];exact fe _ hy
   have k1:614*(n:Int)*(n:Int)<614*64:=by have:(n:Int)*(n:Int)<=7*7:=Int.mul_le_mul (by omega) (by omega) (by omega) (by omega);rw[Int.mul_assoc];omega
   have k2:0<=614*(n:Int)*(n:Int):=Int.mul_nonneg (by omega) (by omega);obtain⟨v,ct⟩ : ∃v:Bool,cB (m2 bQ (m2 aQ (m2 bn (m2 aQ (m2 bT (mV 1) (m2 aZ (mC (.int 48271)) (m2 bT (m2 bT (mC (.int 614)) (mV 6)) (mV 6)))) (mC (.int 2147483647))) (mC (.int 16))) (m2 aZ (mC (.int 2)) (m2 aQ (m2 bn (mV 1) (mC (.int 64))) (mC (.int 2))))) (mC (.int 0))) [aa (W.d (aK ae A)),aa (W.d (.int d)),aa (W.d (ai n2)),aa (W.d (.str i)),aa (W.d (.str j)),aa (W.d (ai aj)),aa (W.d (.int (n:Int)))]=.ok v:=⟨_,cu (au (au (au (au (au rfl (au rfl (au (au rfl rfl ((sd _ _).trans (aF (jq (by decide) (by decide))))) rfl ((sd _ _).trans (aF (pK (by omega) (by omega))))) (kE _ _)) ((sd _ _).trans (aF (pK (by omega) (by omega))))) rfl ((fr _ _).trans (aF (by decide)))) rfl ((div_ii _ _).trans (aF (eY (by decide) (by decide))))) (au rfl (au (au rfl rfl ((div_ii _ _).trans (aF (eY (by decide) (by decide))))) rfl ((fr _ _).trans (aF (by decide)))) (kE _ _)) ((fr _ _).trans (aF (by rw[<- hw];exact w0)))) rfl (kL _ _))⟩
   have ix:m2 av (mV 2) (mV 6) [aa (W.d (aK ae A)),aa (W.d (.int d)),aa (W.d (ai n2)),aa (W.d (.str i)),aa (W.d (.str j)),aa (W.d (ai aj)),aa (W.d (.int (n:Int)))]=.ok (.str n2[n]):=by refine au rfl rfl ?_;have:=oU (cs:=n2) (i:=(n:Int)) (by omega) (by omega);rw[kU]at this;rw[show av (ai n2) (.int (n:Int))=_ from this];simp[hn]
   cases v with
   |true=>
    refine⟨_,[aa (W.d (aK ae A)),aa (W.d (.int d)),aa (W.d (ai n2)),aa (W.d (.str i)),aa (W.d (.str j)),aa (W.d (ai (aj++[n2[n]]))),aa (W.d (.int (n:Int)))],rfl,(dP ct).trans ?_,aj++[n2[n]],_,rfl,λy hy=>?_,?_⟩
    ·rw[oI (d:=.str n2[n]) (ds:=aj.map D.str) ix rfl (by rw[bd];omega),<- K7];rfl
    ·rcases da.mp hy with z|z
     ·exact mono y (hs y z)
     ·rw[cL.mp z,ts];exact dH _ (cL.mpr rfl)
    ·exact kQ.mpr ⟨hnd,by simp,λa ha b hb e=>by rw[cL.mp hb]at e;exact new (e ▸ hs a ha)⟩
   |false=>exact⟨_,_,rfl,(cU ct).trans rfl,aj,_,rfl,λy hy=>mono y (hs y hy),hnd⟩) [aa (W.d (aK ae A)),aa (W.d (.int d)),aa (W.d (ai n2)),aa (W.d (.str i)),aa (W.d (.str j)),aa (W.d (ai [])),ac] ⟨[],ac,rfl,(by intro x h;cases h),(by simp)⟩
 subst he;have hs:∀x∈aj,x∈n2:=λx h=>pR (hs x h);obtain⟨hd,hif,hpe⟩ : ∃hd:List Str,(a7 (cB (m2 bQ (m2 aQ (m2 bn (mV 1) (mC (.int 128))) (mC (.int 2))) (mC (.int 1)))) (w9 5) bu) [aa (W.d (aK ae A)),aa (W.d (.int d)),aa (W.d (ai n2)),aa (W.d (.str i)),aa (W.d (.str j)),aa (W.d (ai aj)),o6]=.ok (.nx [aa (W.d (aK ae A)),aa (W.d (.int d)),aa (W.d (ai n2)),aa (W.d (.str i)),aa (W.d (.str j)),aa (W.d (ai hd)),o6])/\hd.Perm aj:=by
  have ct:cB (m2 bQ (m2 aQ (m2 bn (mV 1) (mC (.int 128))) (mC (.int 2))) (mC (.int 1))) [aa (W.d (aK ae A)),aa (W.d (.int d)),aa (W.d (ai n2)),aa (W.d (.str i)),aa (W.d (.str j)),aa (W.d (ai aj)),o6]=.ok (decide (d/128%2=1)):=cu (au (au (au rfl rfl ((div_ii _ _).trans (aF (eY (by decide) (by decide))))) rfl ((fr _ _).trans (aF (by decide)))) rfl (kL _ _))
  by_cases h:d/128%2=1
  ·rw[bR h]at ct;refine⟨aj.reverse,(dP ct).trans ?_,List.reverse_perm _⟩;show Rs.ok (Out.nx [_,_,_,_,_,aa (W.d (.lst (aj.map D.str).reverse)),_])=_;unfold ai;rw[List.map_reverse]
  ·rw[cp h]at ct;exact⟨aj,(cU ct).trans rfl,List.Perm.refl _⟩
 refine⟨i,j,hd,?_,⟨by rw[hi];exact nJ az,s1 j jm,λe=>i1 (e ▸ jm),λx h=>s1 x (s2 x (hs x (hpe.mem_iff.mp h))),hpe.nodup_iff.mpr hnd,λh=>i1 (s2 i (hs i (hpe.mem_iff.mp h))),λh=>j2 (hs j (hpe.mem_iff.mp h))⟩⟩;unfold oV Bn;rw[kM];rw[show([aa (W.d (aK ae A)),aa (W.d (.int d))]++cG (7-2) ac)=[aa (W.d (aK ae A)),aa (W.d (.int d)),ac,ac,ac,ac,ac]from rfl];rw[aV (e':=[aa (W.d (aK ae A)),aa (W.d (.int d)),aa (W.d (ai ae)),ac,ac,ac,ac]) (bF ((eA (au rfl rfl (fQ ae A))).trans rfl))];have AQ:∀(l:List Str) (e:Mi.Env),e[2]? = aa (aa (W.d (ai l)))->mN bV [(mV 2)] e=.ok (.int ((l.length:Nat):Int)):=λl e h=>(eA (x:=ai l) (by unfold mV;rw[h])).trans (by unfold ai;rw[m9,bd]);have p1:ii 3 2 (m2 aQ (mV 1) (mN bV [(mV 2)])) [aa (W.d (aK ae A)),aa (W.d (.int d)),aa (W.d (ai ae)),ac,ac,ac,ac]=.ok (.nx [aa (W.d (aK ae A)),aa (W.d (.int d)),aa (W.d (ai n1)),aa (W.d (.str i)),ac,ac,ac]):=by unfold ii;rw[au (x:=.int d) (y:=.int ((ae.length:Nat):Int)) rfl (AQ ae _ rfl) ((fr _ _).trans (aF l1)),aO,lW,aO,<- ha];show Rs.bind (jS (ae.map D.str) a) _=_;rw[pa];rfl
 rw[aV p1];have p2:ii 4 2 (m2 aQ (m2 bn (mV 1) (mC (.int 8))) (mN bV [(mV 2)])) [aa (W.d (aK ae A)),aa (W.d (.int d)),aa (W.d (ai n1)),aa (W.d (.str i)),ac,ac,ac]=.ok (.nx [aa (W.d (aK ae A)),aa (W.d (.int d)),aa (W.d (ai n2)),aa (W.d (.str i)),aa (W.d (.str j)),ac,ac]):=by unfold ii;rw[au (x:=.int (d/8)) (y:=.int ((n1.length:Nat):Int)) (au rfl rfl ((div_ii _ _).trans (aF (eY (by decide) (by decide))))) (AQ n1 _ rfl) ((fr _ _).trans (aF l2)),aO,lW,aO,<- hb];show Rs.bind (jS (n1.map D.str) b) _=_;rw[pb];rfl
 rw[aV p2];rw[aV (e':=[aa (W.d (aK ae A)),aa (W.d (.int d)),aa (W.d (ai n2)),aa (W.d (.str i)),aa (W.d (.str j)),aa (W.d (ai [])),ac]) (bF (lC _))];rw[aV ((gK (iG (AQ n2 _ rfl) (rH n2.length l8))).trans f),aV hif];have rt:bL (wD (mN bg [(mV 3),(mV 4),(mV 5)])) [aa (W.d (aK ae A)),aa (W.d (.int d)),aa (W.d (ai n2)),aa (W.d (.str i)),aa (W.d (.str j)),aa (W.d (ai hd)),o6]=.ok (.rt (.d (.lst [.str i,.str j,ai hd]))):=el (bj ((qr rfl rfl rfl).trans (aF (by show(3:Nat)<=_;decide))));unfold uI;rw[rt];rfl
end Mr
namespace Mr
open PySem Mi
open Vp
theorem k8{a b:E}{e:Mi.Env}{x y:List Str}(ha:a e=.ok (ai x))(hb:b e=.ok (ai y))(hl:x.length+y.length<=1000):m2 aZ a b e=.ok (ai (x++y)):=by refine(au ha hb (pH _ _)).trans ?_;rw[aF (by rw[bd,bd];omega)];unfold ai;rw[fJ]
structure Vl(ae:List Str)(A:List Ar)(ns aj:List Str):Prop where
 L:Lk ae A
 hs:∀x∈aj,x∈ae
 hn:aj.Nodup
 sb:∀x∈ns,x∈ae
 nn:ns.Nodup
 no:∀x∈ns,x∉aj
end Mr
namespace Mr
open PySem Mi
open Vp
open My (words eU eT)
abbrev oJ:dq:=⟨"Twice", []⟩
def iK(ae l:List Str):List Str:=if(l.any λx=>!decide (x∈ae))=true then["NoName"]else if l.Nodup then[]else["Twice"]
def Bad(ae l:List Str)(z:dq):Prop:=((∃x∈l,x∉ae)/\z=pf)\/((∀x∈l,x∈ae)/\¬ l.Nodup/\z=oJ)
theorem NN{ae l:List Str}(h:iK ae l≠[]):∃z,Bad ae l z/\iK ae l=[mF z.cls]/\(z=pf\/z=oJ):=by
 unfold iK at h ⊢;by_cases h1:(l.any λx=>!decide (x∈ae))=true
 ·rw[a8 h1];obtain⟨x,hx,hn⟩:=vU.mp h1;exact⟨pf,.inl ⟨⟨x,hx,by simpa using hn⟩,rfl⟩,rfl,.inl rfl⟩
 ·rw[be h1]at h ⊢;have all:∀x∈l,x∈ae:=λx hx=>s9 λz=>h1 (vU.mpr ⟨x,hx,by simp[z]⟩);by_cases h2:l.Nodup
  ·rw[a8 h2]at h;exact absurd rfl h
  ·rw[be h2];exact⟨oJ,.inr ⟨all,h2,rfl⟩,rfl,.inr rfl⟩
theorem Mb(l:List Str):(∃k,k<l.length/\nth l k∈l.take k)↔¬ l.Nodup:=by
 constructor
 ·rintro⟨k,hk,h⟩ nd;have g:l[k]? = aa (nth l k):=EK hk;exact yp nd g h
 ·intro h;refine s9 λq=>h ?_;have key:∀n,n<=l.length->(l.take n).Nodup:=λn=>by
   induction n with
   |zero=>intro _;simp
   |succ n ih=>
    intro hn;have g:l[n]? = aa (nth l n):=EK (by omega);rw[xF g];refine kQ.mpr ⟨ih (by omega),by simp,λa ha b hb e=>q ⟨n,by omega,?_⟩⟩;rw[cL.mp hb]at e;rw[<- e];exact ha
  have:=key l.length (bO _)
  rwa [List.take_length]at this
theorem zi{ae:List Str}{A:List Ar}{l:List Str}(hl:l.length<=100):iR [.d (aK ae A),.d (ai l)]=.ok (.d (ai (iK ae l))):=by
 unfold iR CB;rw[kM];rw[show([aa (W.d (aK ae A)),aa (W.d (ai l))]++cG (3-2) ac)=[aa (W.d (aK ae A)),aa (W.d (ai l)),ac]from rfl];obtain⟨st,hst⟩ : ∃st:Option Str->Mi.Env,st=λo=>[aa (W.d (aK ae A)),aa (W.d (ai l)),o.map λx=>W.d (.str x)]:=⟨_,rfl⟩;have fs:=Eb (tg:=.n 2) (e:=[]) (w:=.nx []) (body:=(a7 (cB (m2 gb (mV 2) (m2 av (mV 0) (mC (.int 0))))) (bL (wD (mN bg [(mC (.str "NoName"))]))) bu)) D.str st (λx=>!decide (x∈ae)) (λ_=>.rt (.d (ai ["NoName"]))) l ac (λx hx o=>by
  subst hst;refine⟨[aa (W.d (aK ae A)),aa (W.d (ai l)),aa (W.d (.str x))],rfl,?_⟩;have ct:cB (m2 gb (mV 2) (m2 av (mV 0) (mC (.int 0)))) [aa (W.d (aK ae A)),aa (W.d (ai l)),aa (W.d (.str x))]=.ok (!decide (x∈ae)):=cu (au rfl (au rfl rfl (fQ ae A)) (uA ae x));cases hk:(!decide (x∈ae))with
  |true=>rw[hk]at ct;exact(dP ct).trans (el (bj (j7 rfl)))
  |false=>rw[hk]at ct;exact(cU ct).trans rfl) (λ_ _ _=>⟨_,rfl⟩)
 have fo:=(gK (tg:=.n 2) (b:=(a7 (cB (m2 gb (mV 2) (m2 av (mV 0) (mC (.int 0))))) (bL (wD (mN bg [(mC (.str "NoName"))]))) bu)) (it:=dh (mV 1)) (e:=st ac) (gg (x:=ai l) (by subst hst;rfl) rfl)).trans fs;have e0:[aa (W.d (aK ae A)),aa (W.d (ai l)),ac]=st ac:=by subst hst;rfl
 rw[e0];unfold iK;cases hf:l.find? λx=>!decide (x∈ae)with
 |some x=>
  rw[hf]at fo;rw[nr fo];have:(l.any λx=>!decide (x∈ae))=true:=by rw[<- uY,hf];rfl
  rw[a8 this];rfl
 |none=>
  rw[hf]at fo;rw[aV fo];have:¬ (l.any λx=>!decide (x∈ae))=true:=by rw[<- uY,hf];exact dW
  rw[be this];obtain⟨o,ho⟩ : ∃o:Option W,st (l.getLast?.or ac)=[aa (W.d (aK ae A)),aa (W.d (ai l)),o]:=⟨_,by rw[hst]⟩;rw[ho];obtain⟨X,hX⟩ : ∃X,X=(cI l.length).filter λk=>decide (nth l k∈l.take k):=⟨_,rfl⟩;have rg:dB 0 ((l.length:Nat):Int)=(cI l.length).map λk=>D.int ((k:Nat):Int):=ue l.length;have cm:dC (.n 1) (cB (m2 f9 (m2 av (mV 0) (mV 1)) (cR dj (mV 0) ac (aa (mV 1))))) (mV 1) [aa (W.d (ai l)),ac] (dB 0 ((l.length:Nat):Int))=.ok (X.map λk=>D.int ((k:Nat):Int)):=by
   rw[rg,hX];exact iL (λk:Nat=>D.int (k:Int)) (λk:Nat=>D.int (k:Int)) _ _ λk hk=>by
    have hk:=gF.mp hk;refine⟨[aa (W.d (ai l)),aa (W.d (.int (k:Int)))],rfl,?_,λ_=>rfl⟩;have ix:=oU (cs:=l) (i:=(k:Int)) (by omega) (by omega);rw[kU]at ix;have sl:cR dj (mV 0) ac (aa (mV 1)) [aa (W.d (ai l)),aa (W.d (.int (k:Int)))]=.ok (.lst ((l.take k).map D.str)):=by show Rs.ok (D.lst (eI (l.map D.str) ac (aa (k:Int))))=_;rw[FN,zR]
    exact cu (au (au rfl rfl ix) sl (Fk _ _))
  have ct:cB (m2 ku (mN bV [(eL [aa 1,ac] (f8 (mN bV [(mV 1)])) (.n 1) (cB (m2 f9 (m2 av (mV 0) (mV 1)) (cR dj (mV 0) ac (aa (mV 1))))) (mV 1))]) (mC (.int 0))) [aa (W.d (aK ae A)),aa (W.d (ai l)),o]=.ok (decide (¬ l.Nodup)):=by
   have ll:mN bV [(mV 1)] [aa (W.d (aK ae A)),aa (W.d (ai l)),o]=.ok (.int ((l.length:Nat):Int)):=(eA (x:=ai l) rfl).trans (by unfold ai;rw[m9,bd]);refine cu ((au (x:=.int ((X.length:Nat):Int)) ((eA (gh (ρ:=[aa 1,ac]) (iG ll (oS (by omega) (by omega))) (by rw[lH];omega) cm)).trans (by rw[m9,bd])) rfl (F1 _ _)).trans ?_)
   congr 2
   rw[decide_eq_decide,<- Mb];constructor
   ·intro h;cases hX2:X with
    |nil=>rw[hX2]at h;simp at h
    |cons k r=>
     have hm:k∈X:=by rw[hX2];exact dS
     rw[hX]at hm;obtain⟨h1,h2⟩:=eV.mp hm;exact⟨k,gF.mp h1,jT h2⟩
   ·rintro⟨k,hk,h⟩;have hm:k∈X:=by rw[hX];exact eV.mpr ⟨gF.mpr hk,bR h⟩
    have:=zM hm;omega
  by_cases nd:l.Nodup
  ·rw[cp (λh=>h nd)]at ct;rw[a8 nd,aV ((cU ct).trans rfl),el (bj (lC _))];rfl
  ·rw[bR nd]at ct;rw[be nd,nr ((dP ct).trans (el (bj (j7 rfl))))];rfl
theorem FX{l:List Str}(hs:∀x∈l,Sh x)(hl:l.length<=1000)(nd:¬ l.Nodup):nh [.d (ai l)]=.ex oJ:=by
 unfold nh D6;rw[u9];rw[show([aa (W.d (ai l))]++cG (3-1) ac)=[aa (W.d (ai l)),ac,ac]from rfl];have key:∀(r pre:List Str) (o:Option W),pre++r=l->pre.Nodup->fu (.n 2) (aD (a7 (cP (cB (kI 1 (mV 2)))) (mh "Twice" [(gR 2),(λ_=>true)]) (sP bu)) (sP (dZ 1 (mV 2) (mC (.bl true))))) (r.map D.str) [aa (W.d (ai l)),aa (cH pre),o]=.ex oJ:=by
  intro r
  induction r with
  |nil=>intro pre o e np;rw[kg]at e;rw[e]at np;exact absurd np nd
  |cons a r ih=>
   intro pre o e np;rw[dg,fu];show(Rs.bind (aD _ _ [aa (W.d (ai l)),aa (cH pre),aa (.d (.str a))]) _)=_;have ct:cP (cB (kI 1 (mV 2))) [aa (W.d (ai l)),aa (cH pre),aa (.d (.str a))]=.ok (decide (a∈pre)):=uB (cu (ye (y:=a) (fs:=pre) rfl rfl));by_cases ha:a∈pre
   ·rw[bR ha]at ct;rw[lq ((dP ct).trans (Dl (by
     show(gR 2 [aa (W.d (ai l)),aa (cH pre),aa (.d (.str a))]&&(true&&true))=true;rw[B8 rfl (hs a (by rw[<- e];exact dH _ dS))];rfl)))]
    rfl
   ·rw[cp ha]at ct;have pl:pre.length<=1000:=by rw[<- e,cC]at hl;omega
    rw[aV (e':=[aa (W.d (ai l)),aa (cH pre),aa (.d (.str a))]) ((cU ct).trans rfl)];rw[Jm (yN (y:=a) (fs:=pre) rfl rfl ha pl)];exact ih (pre++[a]) _ (by rw[vS];exact e) (kQ.mpr ⟨np,by simp,λx hx y hy e=>by rw[cL.mp hy]at e;exact ha (e ▸ hx)⟩)
 rw[aV (e':=[aa (W.d (ai l)),aa (cH []),ac]) rfl];rw[gK (xN (gg (a:=mV 0) (x:=ai l) rfl rfl)),key l [] ac rfl .nil];rfl
theorem BD{f:Fn}{a:EW}{e:Mi.Env}{x:W}{z:dq}(h:a e=.ok x)(hf:f [x]=.ex z):du f [a] e=.ex z:=by unfold du;rw[b8,h,aO,b8,aO];show((f [x]).bind λ_=>_)=_;rw[hf];rfl
theorem BV{f:Fn}{a b c d:EW}{e:Mi.Env}{x y w u:W}{z:dq}(h:a e=.ok x)(h':b e=.ok y)(h2:c e=.ok w)(h3:d e=.ok u)(hf:f [x,y,w,u]=.ex z):du f [a,b,c,d] e=.ex z:=by unfold du;rw[b8,h,aO,b8,h',aO,b8,h2,aO,b8,h3,aO,b8,aO];show((f [x,y,w,u]).bind λ_=>_)=_;rw[hf];rfl
theorem tU{ae l:List Str}{z:dq}(hs:∀x∈l,Sh x)(hl:l.length<=1000)(h:Bad ae l z):jQ [.d (bK ae),.d (ai l)]=.ex z:=by
 unfold jQ Ge;rw[jp];rw[show([aa (W.d (bK ae)),aa (W.d (ai l))]++cG (2-2) ac)=[aa (W.d (bK ae)),aa (W.d (ai l))]from rfl];rcases h with ⟨h,rfl⟩|⟨h,nd,rfl⟩
 ·rw[lq (mQ rfl rfl (zr h hs))];rfl
 ·rw[aV (uk rfl rfl (tG h)),BD rfl (FX hs hl nd)];rfl
section
variable{ae:List Str}{A:List Ar}{x y:Str}{h:List Str}{z:dq}(sx:Sh x)(sy:Sh y)(sh:∀t∈h,Sh t)(hl:h.length<=50)
include sx sy sh in
theorem rK:∀t∈[x,y]++h,Sh t:=λt ht=>by
 rcases da.mp ht with q|q
 ·rcases cS.mp q with rfl|q
  ·exact sx
  ·rw[cL.mp q];exact sy
 ·exact sh t q
include sx sy in
theorem KY(b:Bad ae [x,y] z):oz [.d (aK ae A),.d (.str x),.d (.str y)]=.ex z:=by unfold oz GD;rw[mU];rw[lq (mQ (x:=.d (bK ae)) (y:=.d (ai [x,y])) (bj (au rfl rfl (fQ ae A))) (bj (kG rfl rfl)) (tU (rK (h:=[]) sx sy (by intro t h;cases h)) (by simp) b))];rfl
include sx sy sh hl in
theorem Mg(b:Bad ae ([x,y]++h) z):pD [.d (aK ae A),.d (.str x),.d (.str y),.d (ai h)]=.ex z:=by unfold pD Cc;rw[xL];rw[lq (mQ (x:=.d (bK ae)) (y:=.d (ai ([x,y]++h))) (bj (au rfl rfl (fQ ae A))) (bj (k8 (kG rfl rfl) ((eA (x:=ai h) rfl).trans rfl) (by simp only[bU,d9];omega))) (tU (rK sx sy sh) (by simp only[cC,bU,d9];omega) b))];rfl
include sx sy sh hl in
theorem Kj(b:Bad ae ([x,y]++h) z):oF [.d (aK ae A),.d (.str x),.d (.str y),.d (ai h)]=.ex z:=by unfold oF BY;rw[xL];rw[lq (mQ (x:=.d (bK ae)) (y:=.d (ai ([x,y]++h))) (bj (au rfl rfl (fQ ae A))) (bj (k8 (kG rfl rfl) ((eA (x:=ai h) rfl).trans rfl) (by simp only[bU,d9];omega))) (tU (rK sx sy sh) (by simp only[cC,bU,d9];omega) b))];rfl
include sx sh hl in
theorem L6(b:Bad ae ([x]++h) z):pM [.d (aK ae A),.d (.str x),.d (ai h)]=.ex z:=by
 unfold pM Ck;rw[mU];rw[lq (mQ (x:=.d (bK ae)) (y:=.d (ai ([x]++h))) (bj (au rfl rfl (fQ ae A))) (bj (k8 (j7 rfl) ((eA (x:=ai h) rfl).trans rfl) (by simp only[bU,d9];omega))) (tU (λt ht=>by
  rcases da.mp ht with q|q
  ·rw[cL.mp q];exact sx
  ·exact sh t q) (by simp only[cC,bU,d9];omega) b))]
 rfl
include sx sy sh hl in
theorem OH(b:Bad ae ([x,y]++h) z):oZ [.d (aK ae A),.d (ai [x,y]),.d (ai h)]=.ex z:=by
 unfold oZ FD;rw[mU];rw[show([aa (W.d (aK ae A)),aa (W.d (ai [x,y])),aa (W.d (ai h))]++cG (5-3) ac)=[aa (W.d (aK ae A)),aa (W.d (ai [x,y])),aa (W.d (ai h)),ac,ac]from rfl];have s2:=rK sx sy (h:=[]) (by intro t h;cases h);rcases b with ⟨⟨t,ht,tn⟩,rfl⟩|⟨al,nd,rfl⟩
 ·by_cases h1:∃t∈[x,y],t∉ae
  ·rw[lq (mQ (x:=.d (bK ae)) (y:=.d (ai [x,y])) (bj (au rfl rfl (fQ ae A))) rfl (zr h1 s2))];rfl
  ·have h1:∀t∈[x,y],t∈ae:=λt ht=>s9 λq=>h1 ⟨t,ht,q⟩;have h2:∃t∈h,t∉ae:=by
    rcases da.mp ht with q|q
    ·exact absurd (h1 t q) tn
    ·exact⟨t,q,tn⟩
   rw[aV (uk (x:=.d (bK ae)) (y:=.d (ai [x,y])) (bj (au rfl rfl (fQ ae A))) rfl (tG h1))];rw[lq (mQ (x:=.d (bK ae)) (y:=.d (ai h)) (bj (au rfl rfl (fQ ae A))) rfl (zr h2 sh))];rfl
 ·rw[aV (uk (x:=.d (bK ae)) (y:=.d (ai [x,y])) (bj (au rfl rfl (fQ ae A))) rfl (tG λt ht=>al t (fe _ ht)))];rw[aV (uk (x:=.d (bK ae)) (y:=.d (ai h)) (bj (au rfl rfl (fQ ae A))) rfl (tG λt ht=>al t (dH _ ht)))];have l2:m2 aZ (mN bg [(m2 av (mV 1) (mC (.int 0))),(m2 av (mV 1) (m1 qC (mC (.int 1))))]) (mN gB [(mV 2)]) [aa (W.d (aK ae A)),aa (W.d (ai [x,y])),aa (W.d (ai h)),ac,ac]=.ok (ai ([x,y]++h)):=
   k8 (kG (au (x:=ai [x,y]) rfl rfl rfl) (au (x:=ai [x,y]) (y:=.int (-1)) rfl rfl rfl)) ((eA (x:=ai h) rfl).trans rfl) (by simp only[bU,d9];omega)
  rw[lq (BD (bj l2) (FX (rK sx sy sh) (by simp only[cC,bU,d9];omega) nd))];rfl
def rL(x y:Str)(h:List Str)(w:Int):List Str:=if w=0 then[x,y]else if w=3 then[x]++h else[x,y]++h
abbrev sm3(x y:Str)(h:List Str):D:=.lst [.str x,.str y,ai h]
include sx sy sh hl in
theorem Kk{w:Int}(hw:0<=w/\w<5)(b:Bad ae (rL x y h w) z)(hz:z=pf\/z=oJ):mK [.d (aK ae A),.d (sm3 x y h),.d (.int w)]=.ok (.d (ai [mF z.cls])):=by
 unfold mK Cj;rw[mU];rw[show([aa (W.d (aK ae A)),aa (W.d (sm3 x y h)),aa (W.d (.int w))]++cG (5-3) ac)=[aa (W.d (aK ae A)),aa (W.d (sm3 x y h)),aa (W.d (.int w)),ac,ac]from rfl];rw[aV (e':=[aa (W.d (aK ae A)),aa (W.d (sm3 x y h)),aa (W.d (.int w)),aa (W.d (.lst [])),ac]) (bF (lC _))];have x0:m2 av (mV 1) (mC (.int 0)) [aa (W.d (aK ae A)),aa (W.d (sm3 x y h)),aa (W.d (.int w)),aa (W.d (.lst [])),ac]=.ok (.str x):=au (x:=sm3 x y h) rfl rfl rfl;have x1:m2 av (mV 1) (mC (.int 1)) [aa (W.d (aK ae A)),aa (W.d (sm3 x y h)),aa (W.d (.int w)),aa (W.d (.lst [])),ac]=.ok (.str y):=au (x:=sm3 x y h) rfl rfl rfl;have x2:m2 av (mV 1) (mC (.int 2)) [aa (W.d (aK ae A)),aa (W.d (sm3 x y h)),aa (W.d (.int w)),aa (W.d (.lst [])),ac]=.ok (ai h):=au (x:=sm3 x y h) rfl rfl rfl;have ct:∀k:Int,cP (cB (m2 bQ (mV 2) (mC (.int k)))) [aa (W.d (aK ae A)),aa (W.d (sm3 x y h)),aa (W.d (.int w)),aa (W.d (.lst [])),ac]=.ok (decide (w=k)):=λk=>uB (cu (au rfl rfl (kL w k)));have c0:=ct 0;have c1:=ct 1;have c2:=ct 2;have c3:=ct 3;have tr:(a7 (cP (cB (m2 bQ (mV 2) (mC (.int 0)))))
 (du oz [(wD (mV 0)),(wD (m2 av (mV 1) (mC (.int 0)))),(wD (m2 av (mV 1) (mC (.int 1))))])
 (a7 (cP (cB (m2 bQ (mV 2) (mC (.int 1)))))
 (du pD [(wD (mV 0)),(wD (m2 av (mV 1) (mC (.int 0)))),(wD (m2 av (mV 1) (mC (.int 1)))),(wD (m2 av (mV 1) (mC (.int 2))))])
 (a7 (cP (cB (m2 bQ (mV 2) (mC (.int 2)))))
 (du oF [(wD (mV 0)),(wD (m2 av (mV 1) (mC (.int 0)))),(wD (m2 av (mV 1) (mC (.int 1)))),(wD (m2 av (mV 1) (mC (.int 2))))])
 (a7 (cP (cB (m2 bQ (mV 2) (mC (.int 3)))))
 (du pM [(wD (mV 0)),(wD (m2 av (mV 1) (mC (.int 0)))),(wD (m2 av (mV 1) (mC (.int 2))))])
 (du oZ [(wD (mV 0)),(wD (mN bg [(m2 av (mV 1) (mC (.int 0))),(m2 av (mV 1) (mC (.int 1)))])),(wD (m2 av (mV 1) (mC (.int 2))))]))))) [aa (W.d (aK ae A)),aa (W.d (sm3 x y h)),aa (W.d (.int w)),aa (W.d (.lst [])),ac]=.ex z:=by
  unfold rL at b;by_cases w0:w=0
  ·rw[bR w0]at c0;rw[a8 w0]at b;exact(dP c0).trans (zB rfl (bj x0) (bj x1) (KY sx sy b))
  ·rw[cp w0]at c0;rw[be w0]at b;refine(cU c0).trans ?_;by_cases w3:w=3
   ·rw[a8 w3]at b;rw[cp (by omega)]at c1 c2;rw[bR w3]at c3;exact(cU c1).trans ((cU c2).trans ((dP c3).trans (zB rfl (bj x0) (bj x2) (L6 sx sh hl b))))
   ·rw[be w3]at b;by_cases w1:w=1
    ·rw[bR w1]at c1;exact(dP c1).trans (BV rfl (bj x0) (bj x1) (bj x2) (Mg sx sy sh hl b))
    ·rw[cp w1]at c1;refine(cU c1).trans ?_;by_cases w2:w=2
     ·rw[bR w2]at c2;exact(dP c2).trans (BV rfl (bj x0) (bj x1) (bj x2) (Kj sx sy sh hl b))
     ·rw[cp w2]at c2;rw[cp w3]at c3;exact(cU c2).trans ((cU c3).trans (zB (y:=.d (ai [x,y])) rfl (bj (kG x0 x1)) (bj x2) (OH sx sy sh hl b)))
 have hk:rp [.ex z.cls]=.ok (.d (ai [mF z.cls])):=by rcases hz with rfl|rfl<;>rfl
 have hh:=bF (i:=3) (Ez (f:=rp) (a:=wV 4) (e:=[aa (W.d (aK ae A)),aa (W.d (sm3 x y h)),aa (W.d (.int w)),aa (W.d (.lst [])),aa (.ex z.cls)]) rfl hk);rw[aV (e':=[aa (W.d (aK ae A)),aa (W.d (sm3 x y h)),aa (W.d (.int w)),aa (W.d (ai [mF z.cls])),ac]) (LL (o:=.nx [aa (W.d (aK ae A)),aa (W.d (sm3 x y h)),aa (W.d (.int w)),aa (W.d (ai [mF z.cls])),aa (.ex z.cls)]) tr (by rcases hz with rfl|rfl<;>simp) hh)];rw[el (bj rfl)];rfl
end
end Mr
namespace Mr
open PySem Mi
open Vp
open My (words eU eT)
abbrev Pu:S:=(a7 (fq (cB (m2 fh (mV 7) (mN bg []))) (ju (cB (m2 eo (mV 6) (mC (.int 4)))) (eK (mV 8))))
 (a7 (ju (cB (m2 fh (ba mK [(wD (mV 0)),(wD (mV 3)),(wD (mV 6))]) (mV 7))) (cB (m2 fh (m2 av (mV 3) (mC (.int 2))) (m2 av (mV 1) (mC (.int 2))))))
 (bL (wD (mC (.bl false))))
 bu)
 bu)
abbrev FF:S:=(aD (a4 6 (m2 aQ (m2 aZ (mV 5) (mV 2)) (mC (.int 5))))
 (aD (a4 7 (ba iR [(wD (mV 0)),(wD (mV 4))]))
 (aD (a7 (cB (m2 bQ (mV 6) (mC (.int 0))))
 (a4 7 (ba iR [(wD (mV 0)),(wD (cR dj (mV 1) ac (aa (mC (.int 2)))))]))
 bu)
 (aD (a7 (cB (m2 bQ (mV 6) (mC (.int 3))))
 (a4 7 (ba iR [(wD (mV 0)),(wD (m2 aZ (mN bg [(m2 av (mV 1) (mC (.int 0)))]) (m2 av (mV 1) (mC (.int 2)))))]))
 bu)
 (aD (a4 8 (oj (m2 f9 (mN dTup [(m2 av (mV 1) (mC (.int 0))),(m2 av (mV 1) (mC (.int 1)))]) (m2 av (mV 0) (mC (.int 1)))) (m2 f9 (mN dTup [(m2 av (mV 1) (mC (.int 1))),(m2 av (mV 1) (mC (.int 0)))]) (m2 av (mV 0) (mC (.int 1))))))
 Pu)))))
section
variable{ae:List Str}{A:List Ar}{x y:Str}{h:List Str}(sx:Sh x)(sy:Sh y)(sh:∀t∈h,Sh t)(hl:h.length<=50)
abbrev eX(ae:List Str)(A:List Ar)(x y:Str)(h:List Str)(c:Int)(o5 o6 o7 o8:Option W):Mi.Env:=[aa (W.d (aK ae A)),aa (W.d (sm3 x y h)),aa (W.d (.int c)),aa (W.d (sm3 x y h)),aa (W.d (ai ([x,y]++h))),o5,o6,o7,o8]
include sx sy sh hl in
theorem Lo(c:Int)(k:Nat)(o6 o7 o8:Option W):∃p6 p7 p8,FF (eX ae A x y h c (aa (W.d (.int (k:Int)))) o6 o7 o8)=.ok (.nx (eX ae A x y h c (aa (W.d (.int (k:Int)))) p6 p7 p8)):=by
 obtain⟨w,hw⟩ : ∃w,w=((k:Int)+c)%5:=⟨_,rfl⟩;have w0:0<=w:=by rw[hw];exact eu _ (by decide)
 have w5:w<5:=by rw[hw];exact eG _ (by decide)
 obtain⟨tb,htb⟩ : ∃tb:Bool,tb=(decide ((x,y)∈A)||decide ((y,x)∈A)):=⟨_,rfl⟩;have s6:a4 6 (m2 aQ (m2 aZ (mV 5) (mV 2)) (mC (.int 5))) (eX ae A x y h c (aa (W.d (.int (k:Int)))) o6 o7 o8)=.ok (.nx (eX ae A x y h c (aa (W.d (.int (k:Int)))) (aa (W.d (.int w))) o7 o8)):=by rw[hw];exact bF (au (au rfl rfl (kE _ _)) rfl ((fr _ _).trans (aF (by decide))))
 have s7:a4 7 (ba iR [(wD (mV 0)),(wD (mV 4))]) (eX ae A x y h c (aa (W.d (.int (k:Int)))) (aa (W.d (.int w))) o7 o8)=.ok (.nx (eX ae A x y h c (aa (W.d (.int (k:Int)))) (aa (W.d (.int w))) (aa (W.d (ai (iK ae ([x,y]++h))))) o8)):=bF (call2 rfl rfl (zi (by simp only[cC,bU,d9];omega)))
 obtain⟨d1,hd1⟩ : ∃d1,d1=(if w=0 then iK ae [x,y]else iK ae ([x,y]++h)):=⟨_,rfl⟩;have i1:(a7 (cB (m2 bQ (mV 6) (mC (.int 0)))) (a4 7 (ba iR [(wD (mV 0)),(wD (cR dj (mV 1) ac (aa (mC (.int 2)))))])) bu) (eX ae A x y h c (aa (W.d (.int (k:Int)))) (aa (W.d (.int w))) (aa (W.d (ai (iK ae ([x,y]++h))))) o8)=.ok (.nx (eX ae A x y h c (aa (W.d (.int (k:Int)))) (aa (W.d (.int w))) (aa (W.d (ai d1))) o8)):=by
  have ct:cB (m2 bQ (mV 6) (mC (.int 0))) (eX ae A x y h c (aa (W.d (.int (k:Int)))) (aa (W.d (.int w))) (aa (W.d (ai (iK ae ([x,y]++h))))) o8)=.ok (decide (w=0)):=cu (au rfl rfl (kL _ _));by_cases hw0:w=0
  ·rw[bR hw0]at ct;rw[hd1,a8 hw0];exact(dP ct).trans (bF (call2 (x:=.d (aK ae A)) (y:=.d (ai [x,y])) rfl (bj rfl) (zi (by simp))))
  ·rw[cp hw0]at ct;rw[hd1,be hw0];exact(cU ct).trans rfl
 obtain⟨d2,hd2⟩ : ∃d2,d2=(if w=3 then iK ae ([x]++h)else d1):=⟨_,rfl⟩;have i2:(a7 (cB (m2 bQ (mV 6) (mC (.int 3)))) (a4 7 (ba iR [(wD (mV 0)),(wD (m2 aZ (mN bg [(m2 av (mV 1) (mC (.int 0)))]) (m2 av (mV 1) (mC (.int 2)))))])) bu) (eX ae A x y h c (aa (W.d (.int (k:Int)))) (aa (W.d (.int w))) (aa (W.d (ai d1))) o8)=.ok (.nx (eX ae A x y h c (aa (W.d (.int (k:Int)))) (aa (W.d (.int w))) (aa (W.d (ai d2))) o8)):=by
  have ct:cB (m2 bQ (mV 6) (mC (.int 3))) (eX ae A x y h c (aa (W.d (.int (k:Int)))) (aa (W.d (.int w))) (aa (W.d (ai d1))) o8)=.ok (decide (w=3)):=cu (au rfl rfl (kL _ _));by_cases hw3:w=3
  ·rw[bR hw3]at ct;rw[hd2,a8 hw3];exact(dP ct).trans (bF (call2 (x:=.d (aK ae A)) (y:=.d (ai ([x]++h))) rfl (bj (k8 (j7 (au (x:=sm3 x y h) rfl rfl rfl)) (au (x:=sm3 x y h) rfl rfl rfl) (by simp only[bU,d9];omega))) (zi (by simp only[cC,bU,d9];omega))))
  ·rw[cp hw3]at ct;rw[hd2,be hw3];exact(cU ct).trans rfl
 have ed:d2=iK ae (rL x y h w):=by
  rw[hd2,hd1];unfold rL;by_cases e0:w=0
  ·rw[be (by omega),a8 e0,a8 e0]
  ·rw[be e0,be e0];by_cases e3:w=3
   ·rw[a8 e3,a8 e3]
   ·rw[be e3,be e3]
 have p0:∀(e:Mi.Env),e[1]? = aa (aa (W.d (sm3 x y h)))->m2 av (mV 1) (mC (.int 0)) e=.ok (.str x)/\m2 av (mV 1) (mC (.int 1)) e=.ok (.str y):=λe he=>⟨au (x:=sm3 x y h) (by unfold mV;rw[he]) rfl rfl,au (x:=sm3 x y h) (by unfold mV;rw[he]) rfl rfl⟩;have s8:a4 8 (oj (m2 f9 (mN dTup [(m2 av (mV 1) (mC (.int 0))),(m2 av (mV 1) (mC (.int 1)))]) (m2 av (mV 0) (mC (.int 1)))) (m2 f9 (mN dTup [(m2 av (mV 1) (mC (.int 1))),(m2 av (mV 1) (mC (.int 0)))]) (m2 av (mV 0) (mC (.int 1))))) (eX ae A x y h c (aa (W.d (.int (k:Int)))) (aa (W.d (.int w))) (aa (W.d (ai d2))) o8)=.ok (.nx (eX ae A x y h c (aa (W.d (.int (k:Int)))) (aa (W.d (.int w))) (aa (W.d (ai d2))) (aa (W.d (.bl tb))))):=by rw[htb];obtain⟨q0,q1⟩:=p0 (eX ae A x y h c (aa (W.d (.int (k:Int)))) (aa (W.d (.int w))) (aa (W.d (ai d2))) o8) rfl;exact bF (Na (au (x:=pairD (x,y)) (py q0 q1) (au rfl rfl (mJ ae A)) (CJ A (x,y))) λ_=>au (x:=pairD (y,x)) (py q1 q0) (au rfl rfl (mJ ae A)) (CJ A (y,x)))
 refine⟨aa (W.d (.int w)),aa (W.d (ai d2)),aa (W.d (.bl tb)),(aV s6).trans ((aV s7).trans ((aV i1).trans ((aV i2).trans ((aV s8).trans ?_))))⟩;have n0:cB (m2 fh (mV 7) (mN bg [])) (eX ae A x y h c (aa (W.d (.int (k:Int)))) (aa (W.d (.int w))) (aa (W.d (ai d2))) (aa (W.d (.bl tb))))=.ok (!decide (d2=[])):=cu (au rfl (lC _) (zd d2 []));have cc:fq (cB (m2 fh (mV 7) (mN bg []))) (ju (cB (m2 eo (mV 6) (mC (.int 4)))) (eK (mV 8))) (eX ae A x y h c (aa (W.d (.int (k:Int)))) (aa (W.d (.int w))) (aa (W.d (ai d2))) (aa (W.d (.bl tb))))=.ok (!decide (d2=[])&&(decide (w<4)||tb)):=
  Fd n0 λ_=>yZ (cu (au rfl rfl (se _ _))) λ_=>N3 rfl
 cases hcc:(!decide (d2=[])&&(decide (w<4)||tb))with
 |false=>rw[hcc]at cc;exact(cU cc).trans rfl
 |true=>
  rw[hcc]at cc;refine(dP cc).trans ?_;have ne:iK ae (rL x y h w)≠[]:=by rw[<- ed];intro q;rw[q]at hcc;simp at hcc
  obtain⟨z,b,ez,hz⟩:=NN ne;have rf:=Kk (A:=A) sx sy sh hl ⟨w0,w5⟩ b hz;have cf:ju (cB (m2 fh (ba mK [(wD (mV 0)),(wD (mV 3)),(wD (mV 6))]) (mV 7))) (cB (m2 fh (m2 av (mV 3) (mC (.int 2))) (m2 av (mV 1) (mC (.int 2))))) (eX ae A x y h c (aa (W.d (.int (k:Int)))) (aa (W.d (.int w))) (aa (W.d (ai d2))) (aa (W.d (.bl tb))))=.ok false:=
   yZ (p:=false) (q:=false) (cu (au (x:=ai [mF z.cls]) (y:=ai d2) (mY rfl rfl rfl rf) rfl ((zd _ _).trans (by rw[ed,ez,bR rfl];rfl)))) λ_=>cu (au (x:=ai h) (y:=ai h) (au (x:=sm3 x y h) rfl rfl rfl) (au (x:=sm3 x y h) rfl rfl rfl) ((zd h h).trans (by rw[bR rfl];rfl)))
  exact(cU cf).trans rfl
include sx sy sh hl in
theorem BQ(c:Int):j5 [.d (aK ae A),.d (sm3 x y h),.d (.int c)]=.ok (.d (.bl true)):=by
 obtain⟨e',f,o5,o6,o7,o8,he⟩:=i4 (tg:=.n 5) (body:=FF) (λn e=>∃o5 o6 o7 o8:Option W,e=eX ae A x y h c o5 o6 o7 o8) (dB 0 ((5:Nat):Int)) 0 (λn d e hi ⟨o5,o6,o7,o8,he⟩=>by
  subst he;obtain⟨_,rfl⟩:=qG hi;obtain⟨p6,p7,p8,st⟩:=Lo (ae:=ae) (A:=A) sx sy sh hl c n o6 o7 o8;exact⟨_,_,rfl,st,_,_,_,_,rfl⟩) (eX ae A x y h c ac ac ac ac) ⟨ac,ac,ac,ac,rfl⟩
 subst he;unfold j5 EQ;rw[mU];rw[show([aa (W.d (aK ae A)),aa (W.d (sm3 x y h)),aa (W.d (.int c))]++cG (9-3) ac)=[aa (W.d (aK ae A)),aa (W.d (sm3 x y h)),aa (W.d (.int c)),ac,ac,ac,ac,ac,ac]from rfl];have e3:mN bg [(m2 av (mV 1) (mC (.int 0))),(m2 av (mV 1) (mC (.int 1))),(mN gB [(m2 av (mV 1) (mC (.int 2)))])] [aa (W.d (aK ae A)),aa (W.d (sm3 x y h)),aa (W.d (.int c)),ac,ac,ac,ac,ac,ac]=.ok (sm3 x y h):=
  (qr (au (x:=sm3 x y h) rfl rfl rfl) (au (x:=sm3 x y h) rfl rfl rfl) ((eA (x:=ai h) (au (x:=sm3 x y h) rfl rfl rfl)).trans rfl)).trans (aF (by show(3:Nat)<=_;decide))
 rw[aV (e':=[aa (W.d (aK ae A)),aa (W.d (sm3 x y h)),aa (W.d (.int c)),aa (W.d (sm3 x y h)),ac,ac,ac,ac,ac]) (bF e3)];rw[aV (e':=eX ae A x y h c ac ac ac ac) (bF (k8 (kG (au (x:=sm3 x y h) rfl rfl rfl) (au (x:=sm3 x y h) rfl rfl rfl)) (au (x:=sm3 x y h) rfl rfl rfl) (by simp only[bU,d9];omega)))];rw[show((5:Nat):Int)=5 from rfl]at f;rw[aV ((gK (iG rfl (oS (by decide) (by decide)))).trans f)];rfl
end
theorem C5{a b k:E}{e:Mi.Env}{x y:Str}{i:Int}(ha:a e=.ok (.str x))(hb:b e=.ok (.str y))(hk:k e=.ok (.int i))(h0:0<=i)(h1:i<2):∃z,(z=x\/z=y)/\m2 av (mN bg [a,b]) k e=.ok (.str z):=by
 have:i=0\/i=1:=by omega
 rcases this with rfl|rfl
 ·exact⟨x,.inl rfl,au (x:=.lst [.str x,.str y]) (kG ha hb) hk rfl⟩
 ·exact⟨y,.inr rfl,au (x:=.lst [.str x,.str y]) (kG ha hb) hk rfl⟩
theorem Lp{ae:List Str}{A:List Ar}(hp:1<=ae.length)(h8:ae.length<=8)(hs:∀x∈ae,x.length<=8/\∀c∈x.cps.toList,c<128)(ns:∀x∈ae,Sh x){i j:Str}{aj:List Str}(Q:Ask ae i j aj)(d:Int) :
 ∃x y h,oK [.d (aK ae A),.d (sm3 i j aj),.d (.int d)]=.ok (.d (sm3 x y h))/\Sh x/\Sh y/\(∀t∈h,Sh t)/\h.length<=50:=by
 have hl8:aj.length<=8:=eW (jM Q.nd Q.hs) h8;obtain⟨t,ht,_,st⟩:=BC hp h8 hs (d/16);have dm:∀(k:Int),0<k->∀v:Int,0<=v%k/\v%k<k:=λk hk v=>⟨eu _ (by omega),eG _ hk⟩;obtain⟨env,henv⟩ : ∃env:Str->Str->List Str->Option W->Option W->Mi.Env,env=λx y h o7 o8=>[aa (W.d (aK ae A)),aa (W.d (sm3 i j aj)),aa (W.d (.int d)),aa (W.d (.str t)),aa (W.d (.str x)),aa (W.d (.str y)),aa (W.d (ai h)),o7,o8]:=⟨_,rfl⟩;have v2:∀x y h o7 o8,mV 2 (env x y h o7 o8)=.ok (.int d):=λ_ _ _ _ _=>by rw[henv];rfl
 have md:∀(k:Int),0<k->∀x y h o7 o8,m2 aQ (mV 2) (mC (.int k)) (env x y h o7 o8)=.ok (.int (d%k)):=λk hk x y h o7 o8=>au (v2 _ _ _ _ _) rfl ((fr _ _).trans (aF hk));have dv:∀(k:Int),0<k->k<2 ^ 64->∀x y h o7 o8,m2 bn (mV 2) (mC (.int k)) (env x y h o7 o8)=.ok (.int (d/k)):=λk hk hk2 x y h o7 o8=>au (v2 _ _ _ _ _) rfl ((div_ii _ _).trans (aF (eY hk hk2)));obtain⟨y,sy,i1⟩ : ∃y,Sh y/\(a7 (cB (m2 bQ (m2 aQ (mV 2) (mC (.int 4))) (mC (.int 1)))) (a4 5 (m2 av (mN bg [(mV 4),(mV 3)]) (m2 aQ (m2 bn (mV 2) (mC (.int 4))) (mC (.int 2))))) bu) (env i j aj ac ac)=.ok (.nx (env i y aj ac ac)):=by
  have ct:cB (m2 bQ (m2 aQ (mV 2) (mC (.int 4))) (mC (.int 1))) (env i j aj ac ac)=.ok (decide (d%4=1)):=cu (au (md 4 (by decide) _ _ _ _ _) rfl (kL _ _));by_cases q:d%4=1
  ·rw[bR q]at ct;obtain⟨z,hz,pz⟩:=C5 (a:=mV 4) (b:=mV 3) (k:=m2 aQ (m2 bn (mV 2) (mC (.int 4))) (mC (.int 2))) (e:=env i j aj ac ac) (x:=i) (y:=t) (by rw[henv];rfl) (by rw[henv];rfl) (au (dv 4 (by decide) (by decide) _ _ _ _ _) rfl ((fr _ _).trans (aF (by decide)))) (dm 2 (by decide) (d/4)).1 (dm 2 (by decide) (d/4)).2;refine⟨z,?_,(dP ct).trans ((bF pz).trans (by rw[henv];rfl))⟩;rcases hz with rfl|rfl
   ·exact ns _ Q.im
   ·exact st
  ·rw[cp q]at ct;exact⟨j,ns _ Q.jm,(cU ct).trans rfl⟩
 obtain⟨x,sx,i2⟩ : ∃x,Sh x/\(a7 (cB (m2 bQ (m2 aQ (mV 2) (mC (.int 4))) (mC (.int 2)))) (a4 4 (mV 3)) bu) (env i y aj ac ac)=.ok (.nx (env x y aj ac ac)):=by
  have ct:cB (m2 bQ (m2 aQ (mV 2) (mC (.int 4))) (mC (.int 2))) (env i y aj ac ac)=.ok (decide (d%4=2)):=cu (au (md 4 (by decide) _ _ _ _ _) rfl (kL _ _));by_cases q:d%4=2
  ·rw[bR q]at ct;exact⟨t,st,(dP ct).trans ((bF (d:=.str t) (by rw[henv];rfl)).trans (by rw[henv];rfl))⟩
  ·rw[cp q]at ct;exact⟨i,ns _ Q.im,(cU ct).trans rfl⟩
 have hsh:∀u∈aj,Sh u:=λu hu=>ns u (Q.hs u hu);obtain⟨h,o7,o8,sh,lh,i3⟩ : ∃h o7 o8,(∀u∈h,Sh u)/\h.length<=50/\(a7 (ju (cB (m2 fh (m2 aQ (mV 2) (mC (.int 4))) (mC (.int 1)))) (cB (m2 bQ (m2 aQ (m2 bn (mV 2) (mC (.int 8))) (mC (.int 2))) (mC (.int 1)))))
 (aD (a4 7 (m2 aQ (m2 bn (mV 2) (mC (.int 64))) (m2 aZ (mN bV [(mV 6)]) (mC (.int 1)))))
 (aD (a4 8 (m2 av (m2 aZ (mN bg [(mV 4),(mV 5)]) (mV 6)) (m2 aQ (m2 bn (mV 2) (mC (.int 512))) (m2 aZ (mC (.int 2)) (mN bV [(mV 6)])))))
 (a4 6 (m2 aZ (m2 aZ (cR dj (mV 6) ac (aa (mV 7))) (mN bg [(m2 av (mN bg [(mV 8),(mV 3)]) (m2 bn (m2 aQ (m2 bn (mV 2) (mC (.int 8))) (mC (.int 3))) (mC (.int 2))))])) (cR dj (mV 6) (aa (mV 7)) ac)))))
 bu) (env x y aj ac ac)=.ok (.nx (env x y h o7 o8)):=by
  have ct:ju (cB (m2 fh (m2 aQ (mV 2) (mC (.int 4))) (mC (.int 1)))) (cB (m2 bQ (m2 aQ (m2 bn (mV 2) (mC (.int 8))) (mC (.int 2))) (mC (.int 1)))) (env x y aj ac ac)=.ok (!decide (d%4=1)||decide (d/8%2=1)):=yZ (cu (au (md 4 (by decide) _ _ _ _ _) rfl (JV _ _))) λ_=>cu (au (au (dv 8 (by decide) (by decide) _ _ _ _ _) rfl ((fr _ _).trans (aF (by decide)))) rfl (kL _ _))
  cases hq:(!decide (d%4=1)||decide (d/8%2=1))with
  |false=>rw[hq]at ct;exact⟨aj,ac,ac,hsh,by omega,(cU ct).trans rfl⟩
  |true=>
   rw[hq]at ct;have ll:∀o7 o8,mN bV [(mV 6)] (env x y aj o7 o8)=.ok (.int ((aj.length:Nat):Int)):=λo7 o8=>(eA (x:=ai aj) (by rw[henv];rfl)).trans (by unfold ai;rw[m9,bd]);obtain⟨n,hn⟩ : ∃n:Nat,d/64%(((aj.length:Nat):Int)+1)=(n:Int):=⟨(d/64%(((aj.length:Nat):Int)+1)).toNat,by have:=(dm (((aj.length:Nat):Int)+1) (by omega) (d/64)).1;omega⟩;have s7:a4 7 (m2 aQ (m2 bn (mV 2) (mC (.int 64))) (m2 aZ (mN bV [(mV 6)]) (mC (.int 1)))) (env x y aj ac ac)=.ok (.nx (env x y aj (aa (W.d (.int (n:Int)))) ac)):=by rw[<- hn];exact(bF (au (dv 64 (by decide) (by decide) _ _ _ _ _) (au (ll _ _) rfl (kE _ _)) ((fr _ _).trans (aF (by omega))))).trans (by rw[henv];rfl)
   obtain⟨m,hm⟩ : ∃m:Int,m=d/512%(2+((aj.length:Nat):Int)):=⟨_,rfl⟩;have m0:0<=m:=by rw[hm];exact(dm _ (by omega) _).1
   have m1:m<2+((aj.length:Nat):Int):=by rw[hm];exact(dm _ (by omega) _).2
   have big:m2 aZ (mN bg [(mV 4),(mV 5)]) (mV 6) (env x y aj (aa (W.d (.int (n:Int)))) ac)=.ok (ai ([x,y]++aj)):=k8 (kG (by rw[henv];rfl) (by rw[henv];rfl)) (by rw[henv];rfl) (by simp only[bU,d9];omega);obtain⟨g,hg,gx⟩ : ∃g,g∈[x,y]++aj/\av (ai ([x,y]++aj)) (.int m)=.ok (.str g):=by
    have lm:m.toNat<([x,y]++aj).length:=by simp only[cC,bU,d9];omega
    refine⟨([x,y]++aj)[m.toNat],nJ lm,?_⟩;have:=oU (cs:=[x,y]++aj) (i:=m) m0 (by simp only[cC,bU,d9];omega);rw[show av (ai ([x,y]++aj)) (.int m)=_ from this,fX,fI lm];rfl
   have s8:a4 8 (m2 av (m2 aZ (mN bg [(mV 4),(mV 5)]) (mV 6)) (m2 aQ (m2 bn (mV 2) (mC (.int 512))) (m2 aZ (mC (.int 2)) (mN bV [(mV 6)])))) (env x y aj (aa (W.d (.int (n:Int)))) ac)=.ok (.nx (env x y aj (aa (W.d (.int (n:Int)))) (aa (W.d (.str g))))):=(bF (au big ((au (dv 512 (by decide) (by decide) _ _ _ _ _) (au rfl (ll _ _) (kE _ _)) ((fr _ _).trans (aF (by omega)))).trans (by rw[hm])) gx)).trans (by rw[henv];rfl)
   have b3:m2 bn (m2 aQ (m2 bn (mV 2) (mC (.int 8))) (mC (.int 3))) (mC (.int 2)) (env x y aj (aa (W.d (.int (n:Int)))) (aa (W.d (.str g))))=.ok (.int (d/8%3/2)):=au (au (dv 8 (by decide) (by decide) _ _ _ _ _) rfl ((fr _ _).trans (aF (by decide)))) rfl ((div_ii _ _).trans (aF (eY (by decide) (by decide))));have r3:=dm 3 (by decide) (d/8);obtain⟨z,hz,pz⟩:=C5 (a:=mV 8) (b:=mV 3) (e:=env x y aj (aa (W.d (.int (n:Int)))) (aa (W.d (.str g)))) (x:=g) (y:=t) (by rw[henv];rfl) (by rw[henv];rfl) b3 (by omega) (by omega);have c1:cR dj (mV 6) ac (aa (mV 7)) (env x y aj (aa (W.d (.int (n:Int)))) (aa (W.d (.str g))))=.ok (ai (aj.take n)):=by rw[henv];show Rs.ok (D.lst (eI (aj.map D.str) ac (aa (n:Int))))=_;rw[FN];unfold ai;rw[zR]
   have c2:cR dj (mV 6) (aa (mV 7)) ac (env x y aj (aa (W.d (.int (n:Int)))) (aa (W.d (.str g))))=.ok (ai (aj.drop n)):=by rw[henv];show Rs.ok (D.lst (eI (aj.map D.str) (aa (n:Int)) ac))=_;rw[Nj];unfold ai;rw[zQ]
   have tl:(aj.take n).length<=8:=by rw[g6];omega
   have dl:(aj.drop n).length<=8:=by rw[jB];omega
   refine⟨(aj.take n++[z])++aj.drop n,aa (W.d (.int (n:Int))),aa (W.d (.str g)),λu hu=>?_,by simp only[cC,bU,d9];omega,(dP ct).trans ((aV s7).trans ((aV s8).trans ((bF (k8 (x:=aj.take n++[z]) (y:=aj.drop n) (k8 (x:=aj.take n) (y:=[z]) c1 (j7 pz) (by simp only[bU,d9];omega)) c2 (by simp only[cC,bU,d9];omega))).trans (by rw[henv];rfl))))⟩;rcases da.mp hu with hu|hu
   ·rcases da.mp hu with hu|hu
    ·exact hsh u (pR hu)
    ·rw[cL.mp hu];rcases hz with rfl|rfl
     ·rcases da.mp hg with q|q
      ·rcases cS.mp q with rfl|q
       ·exact sx
       ·rw[cL.mp q];exact sy
      ·exact hsh _ q
     ·exact st
   ·exact hsh u (vP hu)
 refine⟨x,y,h,?_,sx,sy,sh,lh⟩;unfold oK E3;rw[yF];rw[show([aa (W.d (aK ae A)),aa (W.d (sm3 i j aj)),aa (W.d (.int d))]++cG (9-3) ac)=[aa (W.d (aK ae A)),aa (W.d (sm3 i j aj)),aa (W.d (.int d)),ac,ac,ac,ac,ac,ac]from rfl];rw[aV (e':=[aa (W.d (aK ae A)),aa (W.d (sm3 i j aj)),aa (W.d (.int d)),aa (W.d (.str t)),ac,ac,ac,ac,ac]) (bF (call2 (bj ((eA (x:=bK ae) (au rfl rfl (fQ ae A))).trans rfl)) (bj (au rfl rfl ((div_ii _ _).trans (aF (eY (by decide) (by decide)))))) ht))];rw[aV (e':=env i j aj ac ac) (by rw[henv];rfl)];rw[aV i1,aV i2,aV i3];have rt:mN bg [(mV 4),(mV 5),(mV 6)] (env x y h o7 o8)=.ok (sm3 x y h):=by rw[henv];exact(qr rfl rfl rfl).trans (aF (by show(3:Nat)<=_;decide))
 rw[el (bj rt)];rfl
theorem CC(ns:List Int)(hl:ns.length<=63):xT [.d (.lst (ns.map D.int))]=.ok (.d (.bl true)):=by
 obtain⟨ae,A0,r,AR,IN,⟨cw,mw,hm8,hnm⟩,h2⟩:=N2 ns hl;have hw:∀x∈ae,qq [.d (.str x)]=.ok (.d (.bl true)):=λx hx=>by
  rw[hnm]at hx;obtain⟨l,hl,rfl⟩:=db.mp hx;exact Lb (eT cw mw hm8 l hl)
 have hs:∀x∈ae,x.length<=8/\∀c∈x.cps.toList,c<128:=λx hx=>by
  rw[hnm]at hx;obtain⟨l,hl,rfl⟩:=db.mp hx;obtain⟨h1,h2,h3⟩:=eT cw mw hm8 l hl;exact⟨by rw[jh];exact h2,λc hc=>by have:=h3 c hc;omega⟩
 have nsh:∀x∈ae,Sh x:=λx hx=>⟨by have:=(hs x hx).1;omega,(hs x hx).2⟩;have G:=IN.gd hw;generalize A0.map (arrOf ae)=A at AR G;have al:=G.al;obtain⟨qs,hqs⟩:=Kh ns 5 (by decide) (by decide);rw[show((5:Nat):Int)=5 from rfl]at hqs;obtain⟨Ls,hLs⟩ : ∃Ls,Ls=D.lst (ns.map D.int):=⟨_,rfl⟩;rw[<- hLs]at AR hqs ⊢;obtain⟨body,hbody⟩ : ∃body:S,body=(aD (a4 3 (ba oV [(wD (mV 1)),(wD (mV 2))]))
 (aD (a4 4 (ba oK [(wD (mV 1)),(wD (mV 3)),(wD (m2 bn (mV 2) (mC (.int 3))))]))
 (aD (a7 (iu (cB (ba j5 [(wD (mV 1)),(wD (mV 4)),(wD (mV 2))])))
 (bL (wD (mC (.bl false))))
 bu)
 (aD (a7 (cB (m2 ku (mN bV [(m2 av (mV 1) (mC (.int 1)))]) (mC (.int 0))))
 (aD (a4 5 (m2 av (m2 av (mV 1) (mC (.int 1))) (m2 aQ (m2 bn (mV 2) (mC (.int 5))) (mN bV [(m2 av (mV 1) (mC (.int 1)))]))))
 (aD (a4 6 (mN bg [(m2 av (mN bg [(m2 av (mV 5) (mC (.int 0))),(m2 av (mV 5) (mC (.int 1))),(ba kA [(wD (mN gB [(m2 av (mV 1) (mC (.int 0)))])),(wD (m2 bn (mV 2) (mC (.int 7))))])]) (m2 aQ (mV 2) (mC (.int 3))))]))
 (a7 (iu (cB (ba j5 [(wD (mV 1)),(wD (mN bg [(m2 av (mV 5) (mC (.int 0))),(m2 av (mV 5) (mC (.int 1))),(mV 6)])),(wD (mV 2))])))
 (bL (wD (mC (.bl false))))
 bu)))
 bu)
 (aD (a4 7 (ba pc [(wD (mV 1)),(wD (m2 av (mV 3) (mC (.int 0)))),(wD (m2 av (mV 3) (mC (.int 1)))),(wD (m2 av (mV 3) (mC (.int 2))))]))
 (a7 (iu (cB (m1 (ua ["bool"]) (mV 7))))
 (bL (wD (mC (.bl false))))
 bu)))))):=⟨_,rfl⟩
 obtain⟨e',f,o2,o3,o4,o5,o6,o7,he⟩:=i4 (tg:=.n 2) (body:=body)
  (λn e=>∃o2 o3 o4 o5 o6 o7:Option W,e=[aa (W.d Ls),aa (W.d (aK ae A)),o2,o3,o4,o5,o6,o7]) (qs.map D.int) 0 (λn q e hx ⟨o2,o3,o4,o5,o6,o7,he⟩=>by
   subst he;rw[d8]at hx;obtain⟨d,_,rfl⟩:=lP.mp hx;obtain⟨i,j,aj,has,Q⟩:=Ju (A:=A) G.nd h2 G.le d;obtain⟨x,y,h,hsp,sx,sy,sh,lh⟩:=Lp (A:=A) G.pos G.le hs nsh Q (d/3);have bw:=BQ (ae:=ae) (A:=A) sx sy sh lh d;have pt:=Om G.lk Q.im Q.jm Q.ij Q.hs Q.nd Q.ni Q.nj;have c1:iu (cB (ba j5 [(wD (mV 1)),(wD (mV 4)),(wD (mV 2))])) [aa (W.d Ls),aa (W.d (aK ae A)),aa (W.d (.int d)),aa (W.d (sm3 i j aj)),aa (W.d (sm3 x y h)),o5,o6,o7]=.ok false:=wW (p:=true) (cu (mY rfl rfl rfl bw));obtain⟨p5,p6,mid⟩ : ∃p5 p6:Option W,(a7 (cB (m2 ku (mN bV [(m2 av (mV 1) (mC (.int 1)))]) (mC (.int 0))))
 (aD (a4 5 (m2 av (m2 av (mV 1) (mC (.int 1))) (m2 aQ (m2 bn (mV 2) (mC (.int 5))) (mN bV [(m2 av (mV 1) (mC (.int 1)))]))))
 (aD (a4 6 (mN bg [(m2 av (mN bg [(m2 av (mV 5) (mC (.int 0))),(m2 av (mV 5) (mC (.int 1))),(ba kA [(wD (mN gB [(m2 av (mV 1) (mC (.int 0)))])),(wD (m2 bn (mV 2) (mC (.int 7))))])]) (m2 aQ (mV 2) (mC (.int 3))))]))
 (a7 (iu (cB (ba j5 [(wD (mV 1)),(wD (mN bg [(m2 av (mV 5) (mC (.int 0))),(m2 av (mV 5) (mC (.int 1))),(mV 6)])),(wD (mV 2))])))
 (bL (wD (mC (.bl false))))
 bu)))
 bu) [aa (W.d Ls), aa (W.d (aK ae A)), aa (W.d (.int d)), aa (W.d (sm3 i j aj)), aa (W.d (sm3 x y h)), o5, o6, o7] = .ok (.nx [aa (W.d Ls), aa (W.d (aK ae A)), aa (W.d (.int d)), aa (W.d (sm3 i j aj)), aa (W.d (sm3 x y h)), p5, p6, o7]):= by
    have la:mN bV [(m2 av (mV 1) (mC (.int 1)))] [aa (W.d Ls),aa (W.d (aK ae A)),aa (W.d (.int d)),aa (W.d (sm3 i j aj)),aa (W.d (sm3 x y h)),o5,o6,o7]=.ok (.int ((A.length:Nat):Int)):=(eA (x:=eg A) (au rfl rfl (mJ ae A))).trans (by show Rs.ok (D.int ((A.map pairD).length:Nat))=_;rw[bd]);have ct:cB (m2 ku (mN bV [(m2 av (mV 1) (mC (.int 1)))]) (mC (.int 0))) [aa (W.d Ls),aa (W.d (aK ae A)),aa (W.d (.int d)),aa (W.d (sm3 i j aj)),aa (W.d (sm3 x y h)),o5,o6,o7]=.ok (decide ((0:Int)<((A.length:Nat):Int))):=cu (au la rfl (F1 _ _));by_cases h0:(0:Int)<((A.length:Nat):Int)
    ·rw[bR h0]at ct;obtain⟨p,hp,px⟩:=LR (xs:=A) (eu (d/5) (b:=((A.length:Nat):Int)) (by omega)) (eG (d/5) h0);have px:av (eg A) (.int (d/5%((A.length:Nat):Int)))=.ok (pairD p):=px;obtain⟨pn1,pn2⟩:=G.inn p hp;obtain⟨t,ht,_,st⟩:=BC G.pos G.le hs (d/7);have r0:=eu d (b:=3) (by decide);have r1:=eG d (b:=3) (by decide);have s5:=bF (i:=5) (au (a:=m2 av (mV 1) (mC (.int 1))) (b:=m2 aQ (m2 bn (mV 2) (mC (.int 5))) (mN bV [(m2 av (mV 1) (mC (.int 1)))])) (e:=[aa (W.d Ls),aa (W.d (aK ae A)),aa (W.d (.int d)),aa (W.d (sm3 i j aj)),aa (W.d (sm3 x y h)),o5,o6,o7]) (au rfl rfl (mJ ae A)) (au (au rfl rfl ((div_ii _ _).trans (aF (eY (by decide) (by decide))))) la ((fr _ _).trans (aF h0))) px);have l3:mN bg [(m2 av (mV 5) (mC (.int 0))),(m2 av (mV 5) (mC (.int 1))),(ba kA [(wD (mN gB [(m2 av (mV 1) (mC (.int 0)))])),(wD (m2 bn (mV 2) (mC (.int 7))))])] [aa (W.d Ls),aa (W.d (aK ae A)),aa (W.d (.int d)),aa (W.d (sm3 i j aj)),aa (W.d (sm3 x y h)),aa (W.d (pairD p)),o6,o7]=.ok (.lst [.str p.1,.str p.2,.str t]):=
      (qr (au (x:=pairD p) rfl rfl rfl) (au (x:=pairD p) rfl rfl rfl) (call2 (bj ((eA (x:=bK ae) (au rfl rfl (fQ ae A))).trans rfl)) (bj (au rfl rfl ((div_ii _ _).trans (aF (eY (by decide) (by decide)))))) ht)).trans (aF (by show(3:Nat)<=_;decide))
     obtain⟨u,su,hu⟩ : ∃u,Sh u/\av (.lst [.str p.1,.str p.2,.str t]) (.int (d%3))=.ok (.str u):=by
      have:d%3=0\/d%3=1\/d%3=2:=by omega
      rcases this with q|q|q<;>rw[q]
      ·exact⟨p.1,nsh _ pn1,rfl⟩
      ·exact⟨p.2,nsh _ pn2,rfl⟩
      ·exact⟨t,st,rfl⟩
     have s6:=bF (i:=6) (j7 (au (b:=m2 aQ (mV 2) (mC (.int 3))) l3 (au rfl rfl ((fr _ _).trans (aF (by decide)))) hu));have bw2:=BQ (ae:=ae) (A:=A) (x:=p.1) (y:=p.2) (h:=[u]) (nsh _ pn1) (nsh _ pn2) (λt ht=>by rw[cL.mp ht];exact su) (by simp) d;have c2:iu (cB (ba j5 [(wD (mV 1)),(wD (mN bg [(m2 av (mV 5) (mC (.int 0))),(m2 av (mV 5) (mC (.int 1))),(mV 6)])),(wD (mV 2))])) [aa (W.d Ls),aa (W.d (aK ae A)),aa (W.d (.int d)),aa (W.d (sm3 i j aj)),aa (W.d (sm3 x y h)),aa (W.d (pairD p)),aa (W.d (ai [u])),o7]=.ok false:=
      wW (p:=true) (cu (mY (y:=.d (sm3 p.1 p.2 [u])) rfl (bj ((qr (au (x:=pairD p) rfl rfl rfl) (au (x:=pairD p) rfl rfl rfl) rfl).trans (aF (by show(3:Nat)<=_;decide)))) rfl bw2))
     exact⟨_,_,(dP ct).trans ((aV s5).trans ((aV s6).trans ((cU c2).trans rfl)))⟩
    ·rw[cp h0]at ct;exact⟨o5,o6,(cU ct).trans rfl⟩
   have c3:iu (cB (m1 (ua ["bool"]) (mV 7))) [aa (W.d Ls),aa (W.d (aK ae A)),aa (W.d (.int d)),aa (W.d (sm3 i j aj)),aa (W.d (sm3 x y h)),p5,p6,aa (W.d (.bl (!mI A i j aj)))]=.ok false:=wW (p:=true) rfl;refine⟨[aa (W.d Ls),aa (W.d (aK ae A)),aa (W.d (.int d)),o3,o4,o5,o6,o7],[aa (W.d Ls),aa (W.d (aK ae A)),aa (W.d (.int d)),aa (W.d (sm3 i j aj)),aa (W.d (sm3 x y h)),p5,p6,aa (W.d (.bl (!mI A i j aj)))],rfl,?_,_,_,_,_,_,_,rfl⟩;rw[hbody];rw[aV (e':=[aa (W.d Ls),aa (W.d (aK ae A)),aa (W.d (.int d)),aa (W.d (sm3 i j aj)),o4,o5,o6,o7]) (bF (call2 rfl rfl has))];rw[aV (e':=[aa (W.d Ls),aa (W.d (aK ae A)),aa (W.d (.int d)),aa (W.d (sm3 i j aj)),aa (W.d (sm3 x y h)),o5,o6,o7]) (bF (mY rfl rfl (bj (au rfl rfl ((div_ii _ _).trans (aF (eY (by decide) (by decide)))))) hsp))];rw[aV ((cU c1).trans rfl),aV mid];rw[aV (e':=[aa (W.d Ls),aa (W.d (aK ae A)),aa (W.d (.int d)),aa (W.d (sm3 i j aj)),aa (W.d (sm3 x y h)),p5,p6,aa (W.d (.bl (!mI A i j aj)))]) (bF (LJ rfl (bj (au (x:=sm3 i j aj) rfl rfl rfl)) (bj (au (x:=sm3 i j aj) rfl rfl rfl)) (bj (au (x:=sm3 i j aj) rfl rfl rfl)) pt))];exact(cU c3).trans rfl) [aa (W.d Ls),aa (W.d (aK ae A)),ac,ac,ac,ac,ac,ac] ⟨ac,ac,ac,ac,ac,ac,rfl⟩
 subst he;unfold xT C6;rw[u9];rw[show([aa (W.d Ls)]++cG (8-1) ac)=[aa (W.d Ls),ac,ac,ac,ac,ac,ac,ac]from rfl];rw[aV (e':=[aa (W.d Ls),aa (W.d (aK ae A)),ac,ac,ac,ac,ac,ac]) (bF (call2 rfl rfl AR))];rw[hbody]at f;rw[aV ((gK (gg (call2 rfl rfl hqs) rfl)).trans f)];rfl
end Mr
namespace mG
open PySem L2 PyProof.Rows
abbrev cN:ag:=325
abbrev tN:ag:=321
instance bv:A.bY:=⟨[(tN,um "spots_before")],λc=>if c = "ArrowError" then 29 else if c = "WrongSize" then 42 else if c = "NoWord" then 54 else if c = "Twice" then 66 else if c = "NoName" then 78 else if c = "Ring" then 97 else if c = "Unlike" then 109 else if c = "NoArrow" then 121 else if c = "Locked" then 133 else if c = "NoTie" then 145 else if c = "NoSuch" then 157 else if c = "NoNet" then 176 else if c = "NoText" then 188 else if c = "NoRow" then 200 else if c = "NoLabel" then 212 else 0⟩
theorem walk{l:zG}{q:bt}{loose:List Str}{XP:(Str->Option ah)->aL->Prop}{YP:a9->aL->Prop}{d:DefRec}{K:Params->aI}(hn:l.most=aa 63)(hdf:d.params.defaults=[])
 (hY:∀(w:a9) (h:aL),YP w h->(K w.params).In h) (hL:∀w:a9,EB (K w.params)=true) (hK:∀w:a9,(K w.params).lookup tN=ac) (hrec:∃d,(recsOf q).find? (λe=>e.name==("spots_before" : Str))=aa d) (htab:∀w:a9,PySem.W.tabIn (K w.params) "spots_before" = aa (cN,tN))
 (F:∀(w:a9) (mg:Str->Option ah) (fa:ag) (h:aL),(K w.params).In h->h.Ns mainGlobals mg->mg d.name=aa (.ref fa) ->
  ∃fd:bD,(∀(s:aw) (u:ah),kT s fd ⟨[u],[]⟩ [("_law_script",u)])/\∀base:aL,(K w.params).In base->base.Ns mainGlobals mg->BM mg base->i5 base cN tN->bJ l.prog w (K w.params) mg base aR 14 fa fd ["_law_script"] A.qU) :
 PySem.W.WalkO q loose XP YP l.row.toRowW d [] (λf vs=>z6 f vs):=
 L2.Pl (x := "_law_script") (dn := "spots_before") (qn:=um "spots_before") (k:=14) rfl hn hdf ⟨rfl,by decide,by decide⟩ hY (λw a o e c=>Jp (hL w) e c) hK hrec htab F
theorem LI{K:aI}{h:aL}{mg:Str->Option ah}(X:K.In h)(G:h.Ns mainGlobals mg)(AU:cK K mainGlobals "len" = aa ac)(AV:cK K mainGlobals "range" = aa ac)(AY:cK K mainGlobals "max" = aa ac)(AZ:cK K mainGlobals "min" = aa ac)(A1:cK K mainGlobals "tuple" = aa ac)(A2:cK K mainGlobals "list" = aa ac)(A3:cK K mainGlobals "isinstance" = aa ac)(A4:cK K mainGlobals "all" = aa ac)(A5:cK K mainGlobals "any" = aa ac)(A6:cK K mainGlobals "bool" = aa ac)(A7:cK K mainGlobals "str" = aa ac)(A8:cK K mainGlobals "int" = aa ac)(A9:cK K mainGlobals "zip" = aa ac)(Ba:cK K mainGlobals "enumerate" = aa ac)(Bb:cK K mainGlobals "sorted" = aa ac)(Bc:cK K mainGlobals "reversed" = aa ac)(Bd:cK K mainGlobals "set" = aa ac):Txt mg:=⟨fV X G AU,fV X G AV,fV X G AY,fV X G AZ,fV X G A1,fV X G A2,fV X G A3,fV X G A4,fV X G A5,fV X G A6,fV X G A7,fV X G A8,fV X G A9,fV X G Ba,fV X G Bb,fV X G Bc,fV X G Bd⟩
structure Cp(K:aI):Prop where
 HQ:cK K mainGlobals "ArrowError" = aa (aa (.ref (bv.cl "ArrowError")))
 HR:cK K mainGlobals "WrongSize" = aa (aa (.ref (bv.cl "WrongSize")))
 HS:cK K mainGlobals "NoWord" = aa (aa (.ref (bv.cl "NoWord")))
 Be:cK K mainGlobals "Twice" = aa (aa (.ref (bv.cl "Twice")))
 Bg:cK K mainGlobals "NoName" = aa (aa (.ref (bv.cl "NoName")))
 HU:cK K mainGlobals "Ring" = aa (aa (.ref (bv.cl "Ring")))
 HV:cK K mainGlobals "Unlike" = aa (aa (.ref (bv.cl "Unlike")))
 HW:cK K mainGlobals "NoArrow" = aa (aa (.ref (bv.cl "NoArrow")))
 HX:cK K mainGlobals "Locked" = aa (aa (.ref (bv.cl "Locked")))
 HY:cK K mainGlobals "NoTie" = aa (aa (.ref (bv.cl "NoTie")))
 HZ:cK K mainGlobals "NoSuch" = aa (aa (.ref (bv.cl "NoSuch")))
 H9:cK K mainGlobals "NoNet" = aa (aa (.ref (bv.cl "NoNet")))
 Ie:cK K mainGlobals "NoText" = aa (aa (.ref (bv.cl "NoText")))
 Ig:cK K mainGlobals "NoRow" = aa (aa (.ref (bv.cl "NoRow")))
 Ih:cK K mainGlobals "NoLabel" = aa (aa (.ref (bv.cl "NoLabel")))
 QW:vM K (bv.cl "Twice") [.type "ValueError",.type "Exception",.type "BaseException",.type "object"] "ValueError.__new__" = true
 QX:vM K (bv.cl "NoName") [.type "ValueError",.type "Exception",.type "BaseException",.type "object"] "ValueError.__new__" = true
 v_:cK K mainGlobals "ValueError" = aa ac
theorem Ny{K:aI}{h:aL}{mg:Str->Option ah}(X:K.In h)(G:h.Ns mainGlobals mg)(z:Cp K):Own mg h:=⟨Ec X G z.Be z.QW,Ec X G z.Bg z.QX,fW X G z.HQ,fW X G z.HR,fW X G z.HS,fW X G z.Be,fW X G z.Bg,fW X G z.HU,fW X G z.HV,fW X G z.HW,fW X G z.HX,fW X G z.HY,fW X G z.HZ,fW X G z.H9,fW X G z.Ie,fW X G z.Ig,fW X G z.Ih,fV X G z.v_⟩
structure OF(K:aI):Prop where
 h0:eO K (.ref (bv.cl "Twice")) (.type "ValueError")=aa true
 h1:eO K (.ref (bv.cl "NoName")) (.type "ValueError")=aa true
 h2:eO K (.ref (bv.cl "Twice")) (.ref (bv.cl "WrongSize"))=aa false
 h3:eO K (.ref (bv.cl "NoName")) (.ref (bv.cl "WrongSize"))=aa false
 h4:eO K (.ref (bv.cl "Twice")) (.ref (bv.cl "Twice"))=aa true
 h5:eO K (.ref (bv.cl "NoName")) (.ref (bv.cl "Twice"))=aa false
 h6:eO K (.ref (bv.cl "Twice")) (.ref (bv.cl "Ring"))=aa false
 h7:eO K (.ref (bv.cl "NoName")) (.ref (bv.cl "Ring"))=aa false
 h8:eO K (.ref (bv.cl "Twice")) (.ref (bv.cl "NoWord"))=aa false
 h9:eO K (.ref (bv.cl "NoName")) (.ref (bv.cl "NoWord"))=aa false
 h10:eO K (.ref (bv.cl "Twice")) (.ref (bv.cl "NoName"))=aa false
 h11:eO K (.ref (bv.cl "NoName")) (.ref (bv.cl "NoName"))=aa true
 h12:mq K (.ref (bv.cl "Twice")) (([bv.cl "NoRow",bv.cl "NoSuch",bv.cl "NoText",bv.cl "NoTie",bv.cl "Unlike"]:List ag).map .ref)=aa false
 h13:mq K (.ref (bv.cl "NoName")) (([bv.cl "NoRow",bv.cl "NoSuch",bv.cl "NoText",bv.cl "NoTie",bv.cl "Unlike"]:List ag).map .ref)=aa false
 h14:mq K (.ref (bv.cl "Twice")) (([bv.cl "Locked",bv.cl "NoArrow",bv.cl "NoLabel",bv.cl "NoNet"]:List ag).map .ref)=aa false
 h15:mq K (.ref (bv.cl "NoName")) (([bv.cl "Locked",bv.cl "NoArrow",bv.cl "NoLabel",bv.cl "NoNet"]:List ag).map .ref)=aa false
 h16:vK K (.ref (bv.cl "Twice")) (.ref (bv.cl "ArrowError"))=aa true
 h17:vK K (.ref (bv.cl "NoName")) (.ref (bv.cl "ArrowError"))=aa true
theorem KO{K:aI}(kY:iq K (bv.cl "Twice"))(kZ:iq K (bv.cl "NoName"))(z:OF K):vj K:=⟨(gm ⟨kZ,z.h1⟩ (gm ⟨kY,z.h0⟩ lV)),(gm ⟨kZ,z.h3⟩ (gm ⟨kY,z.h2⟩ lV)),(gm ⟨kZ,z.h5⟩ (gm ⟨kY,z.h4⟩ lV)),(gm ⟨kZ,z.h7⟩ (gm ⟨kY,z.h6⟩ lV)),(gm ⟨kZ,z.h9⟩ (gm ⟨kY,z.h8⟩ lV)),(gm ⟨kZ,z.h11⟩ (gm ⟨kY,z.h10⟩ lV)),(gm ⟨kZ,z.h13⟩ (gm ⟨kY,z.h12⟩ lV)),(gm ⟨kZ,z.h15⟩ (gm ⟨kY,z.h14⟩ lV)),(CM z.h17 (CM z.h16 Jn))⟩
theorem K5{l:zG}{w:a9}{K:aI}{mg:Str->Option ah}{fa:ag}(hfa:mg "law" = aa (.ref fa))(T:Txt mg)(OK:Cp K)(Kt:vj K)(Bh:cn K mg "refuse_strangers" t7 ["names","asked"])(Bi:cn K mg "refuse_repeats" u7 ["asked"])(Bj:cn K mg "refuse_wrong_asks" uc ["names","asked"])(Ii:cn K mg "names_along" yV ["names","steps","name"])(Ij:cn K mg "names_below" yl ["net","name"])(Ik:cn K mg "has_held_below" yh ["net","name","held"])(Il:cn K mg "heirs_of" x8 ["net","name"])(Im:cn K mg "heir_spots" yD ["net","name"])(Io:cn K mg "elders_of" zf ["net","name"])(Ip:cn K mg "elder_spots" xY ["net","name"])(Iq:cn K mg "spots_from" wU ["net","spot","held"])(Ir:cn K mg "spots_walked" zt ["starts","onward"])(Bk:uC K mg "spots_before" zp ["net","one","held"] cN)(Is:cn K mg "spots_of" zy ["name","before"])(Bl:cn K mg "are_parted" uZ ["net","one","other","held"])(Iu:cn K mg "_law_cell" za ["_law_script","_law_k"])(Iv:cn K mg "_law_words" yz ["_law_cell_here","_law_many"])(Iw:cn K mg "_law_ranks" x6 ["_law_cell_here","_law_many"])(Iy:cn K mg "_law_net" xA ["_law_script","_law_most"])(Iz:cn K mg "_law_two" yO ["_law_script","_law_most"])(IA:cn K mg "_law_questions" xu ["_law_script","_law_many"])(IB:cn K mg "_law_asked" ym ["_law_net_here","_law_draw"])(IC:cn K mg "_law_stranger" wL ["_law_names","_law_cell_here"])(ID:cn K mg "_law_spoiled" yn ["_law_net_here","_law_some","_law_cell_here"])(IE:cn K mg "all_roads" zj ["net","one","other"])(IF:cn K mg "is_open" wP ["net","road","held"])(IG:cn K mg "open_road" xE ["net","one","other","held"])(IH:cn K mg "reach_of" yB ["net","one","held"])(II:cn K mg "_law_kinds" yW ["_law_e"])(IJ:cn K mg "_law_refused" xP ["_law_net_here","_law_some","_law_way"])(IK:cn K mg "_law_due" zg ["_law_net_here","_law_some"])(IL:cn K mg "_law_by_ways" wS ["_law_net_here","_law_some","_law_cell_here"])(IM:cn K mg "law" yx ["_law_script"]) :
 ∃fd:bD,(∀(s:aw) (u:ah),kT s fd ⟨[u],[]⟩ [("_law_script",u)])/\∀base:aL,K.In base->base.Ns mainGlobals mg->BM mg base->i5 base cN tN->bJ l.prog w K mg base aR 14 fa fd ["_law_script"] A.qU:=
 cn.Jl IM hfa λbase kb nb hB hC f fd F=>by
  have O:Own mg base:=Ny kb nb OK;have jH:=Bh.cal (P:=l.prog) (w:=w) (base:=base) (CX:=aR) λf fd F=>Pq F T;have nX:=Bh.cal (P:=l.prog) (w:=w) (base:=base) (CX:=ce l.prog w) λf fd F=>PM F T O;have Al:=Bi.cal (P:=l.prog) (w:=w) (base:=base) (CX:=aR) λf fd F=>O0 F T;have qh:=Bi.cal (P:=l.prog) (w:=w) (base:=base) (CX:=ce l.prog w) λf fd F=>Lf F T O;have Av:=Bj.cal (P:=l.prog) (w:=w) (base:=base) (CX:=aR) λf fd F=>NF F T jH Al;have jI:=Bj.cal (P:=l.prog) (w:=w) (base:=base) (CX:=ce l.prog w) λf fd F=>NL F T O nX qh;have An:=Ii.cal (P:=l.prog) (w:=w) (base:=base) (CX:=aR) λf fd F=>Ni F T;have Ao:=Ij.cal (P:=l.prog) (w:=w) (base:=base) (CX:=aR) λf fd F=>LX F T jH An;have As:=Ik.cal (P:=l.prog) (w:=w) (base:=base) (CX:=aR) λf fd F=>NX F T Ao;have Ap:=Il.cal (P:=l.prog) (w:=w) (base:=base) (CX:=aR) λf fd F=>La F T jH;have qi:=Im.cal (P:=l.prog) (w:=w) (base:=base) (CX:=aR) λf fd F=>LO F T Ap;have Aq:=Io.cal (P:=l.prog) (w:=w) (base:=base) (CX:=aR) λf fd F=>NK F T jH;have qj:=Ip.cal (P:=l.prog) (w:=w) (base:=base) (CX:=aR) λf fd F=>JY F T Aq;have Au:=Iq.cal (P:=l.prog) (w:=w) (base:=base) (CX:=aR) λf fd F=>NP F T As qi qj;have At:=Ir.LD l.prog w base λf fd F=>J8 F T;have qk:=Bk.cal (P:=l.prog) (w:=w) (base:=base) (CX:=aR) λf fd F=>NB F T hB hC (cL.mpr rfl) At Au qi qj;have ql:=Is.cal (P:=l.prog) (w:=w) (base:=base) (CX:=aR) λf fd F=>NI F T;have AI:=Bl.cal (P:=l.prog) (w:=w) (base:=base) (CX:=aR) λf fd F=>NC F T Av qk ql;have AC:=Bl.cal (P:=l.prog) (w:=w) (base:=base) (CX:=ce l.prog w) λf fd F=>Li F T O qk ql jI;have ja:=Iu.cal (P:=l.prog) (w:=w) (base:=base) (CX:=aR) λf fd F=>Jy F T;have Aw:=Iv.cal (P:=l.prog) (w:=w) (base:=base) (CX:=aR) λf fd F=>LC F T;have Ax:=Iw.cal (P:=l.prog) (w:=w) (base:=base) (CX:=aR) λf fd F=>J3 F T;have Ay:=Iy.cal (P:=l.prog) (w:=w) (base:=base) (CX:=aR) λf fd F=>Kg F T ja Aw Ax;have AJ:=Iz.cal (P:=l.prog) (w:=w) (base:=base) (CX:=aR) λf fd F=>MV F T ja Ay;have AK:=IA.cal (P:=l.prog) (w:=w) (base:=base) (CX:=aR) λf fd F=>MX F T ja;have AL:=IB.cal (P:=l.prog) (w:=w) (base:=base) (CX:=aR) λf fd F=>Pw F T;have qm:=IC.cal (P:=l.prog) (w:=w) (base:=base) (CX:=aR) λf fd F=>Mm F T;have AM:=ID.cal (P:=l.prog) (w:=w) (base:=base) (CX:=aR) λf fd F=>M5 F T qm;have Az:=IE.cal (P:=l.prog) (w:=w) (base:=base) (CX:=ce l.prog w) λf fd F=>L3 F T O jI;have AB:=IF.cal (P:=l.prog) (w:=w) (base:=base) (CX:=ce l.prog w) λf fd F=>K2 F T O nX qh;have AD:=IG.cal (P:=l.prog) (w:=w) (base:=base) (CX:=ce l.prog w) λf fd F=>OO F T O jI;have AF:=IH.cal (P:=l.prog) (w:=w) (base:=base) (CX:=ce l.prog w) λf fd F=>ON F T O jI;have AG:=II.NO (P:=l.prog) (w:=w) (base:=base) λf fd F=>M2 F T O Kt;have AH:=IJ.cal (P:=l.prog) (w:=w) (base:=base) (CX:=aR) λf fd F=>ME F T O Kt Az AB AC AD AF AG;have tz:=IK.cal (P:=l.prog) (w:=w) (base:=base) (CX:=aR) λf fd F=>M7 F T;have wJ:=IL.cal (P:=l.prog) (w:=w) (base:=base) (CX:=aR) λf fd F=>JO F T AH tz;exact A.KN (NG F T AI AJ AK AL qm AM wJ) λns hl=>by first|exact Mr.CC ns|exact Mr.CC ns hl
end mG
namespace PySem.W.Fast
def tw4953098112945576992:=0
def tw4409817963819488320:=0
def tw18210519828206788672:=0
def tw1737079311545114720:=0
def tw4103857689920608448:=0
def tw4970020839868973312:=0
def tw17238817343232381216:=0
def tw12606018927438157152:=0
def tw1093436619485412832:=0
def tw1546974290214424096:=0
def tw11602011178929048192:=0
def tw11684595133209455264:=0
def tw14405001555256526528:=0
def tw17405756490795996896:=0
def tw17265436732541864832:=0
def tw17735477909431669664:=0
def tw524064160206180288:=0
def tw8303226673854471201:=0
def tw16077169746020857953:=0
def tw7764254930957504705:=0
def tw4219975797896662273:=0
def tw7010117871525728545:=0
def tw11142034867077046561:=0
def tw12899933724254682561:=0
def tw106340108247626241:=0
def tw627990157007072801:=0
def tw3423405079311690273:=0
def tw3660512619225721377:=0
def tw7677220289681858594:=0
def tw5382786394863061154:=0
def tw11460574112298469570:=0
def tw6592621018807074114:=0
def tw13121436000487562658:=0
def tw14776581922826409410:=0
def tw15694968046044561858:=0
def tw15630401309228802530:=0
def tw8050216062977585826:=0
def tw7007652141564698274:=0
def tw3957855007698662082:=0
def tw3329724285143827138:=0
def tw16645422041863585474:=0
def tw7983794401524159298:=0
def tw15346624028436407266:=0
def tw15012325550316757986:=0
def tw14116577581140932611:=0
def tw2355517252948207619:=0
def tw4561940958509189155:=0
def tw13917713746018716707:=0
def tw8074719560711109731:=0
def tw1406373142455485571:=0
def tw1547456407481283747:=0
def tw7402601784810396867:=0
def tw7089157180219949315:=0
def tw10653445769019358595:=0
def tw6687606102565383587:=0
def tw2315067299184951779:=0
def tw11653418202348602851:=0
def tw9470972966429490787:=0
def tw18267259186477770563:=0
def tw10986887246510327651:=0
def tw10247511247847202691:=0
def tw17664515844110634979:=0
def tw8061904602445623300:=0
def tw17614581065564600388:=0
def tw2932542215448093796:=0
def tw686734827947289700:=0
def tw4219203788666937508:=0
def tw10254719728195055812:=0
def tw4624215602218035556:=0
def tw8387813523639550404:=0
def tw13130515275489838564:=0
def tw16212877633585345028:=0
def tw6016053710315318980:=0
def tw1293258673120132932:=0
def tw12744599936357288868:=0
def tw16944264078369467397:=0
def tw4991831485037446149:=0
def tw4851146184344999045:=0
def tw6161211702832704805:=0
def tw6759862775887831365:=0
def tw5134594886897500581:=0
def tw4871028491427800773:=0
def tw550541862099883717:=0
def tw9003729350109786853:=0
def tw10891873376942516133:=0
def tw3381126648325019718:=0
def tw14996938652281255078:=0
def tw11563167337226897734:=0
def tw10894560835600401862:=0
def tw497189092242117094:=0
def tw7856059774946856550:=0
def tw4832622837181960838:=0
def tw10328823485286477510:=0
def tw17271492759797273318:=0
def tw3244087855279731815:=0
def tw16531953679927311495:=0
def tw15443366504943543463:=0
def tw6405766339446041799:=0
def tw5571271574457457927:=0
def tw14230653119971427623:=0
def tw11161856734152140103:=0
def tw10202369286128348519:=0
def tw18393268217956804007:=0
def tw3911226423934716327:=0
def tw7234731003488378343:=0
def tw18073348090460180039:=0
def tw16093510382994403975:=0
def tw13945341572766192327:=0
def tw708827728214161095:=0
def tw12346158526949275495:=0
def tw3048563877203838919:=0
def tw5478355981714065351:=0
def tw12652854788022111207:=0
def tw12917366004784855048:=0
def tw9143692253647633448:=0
def tw5880589289838283816:=0
def tw4821699842963399784:=0
def tw3868663688165304456:=0
def tw3162526722216349864:=0
def tw16956794256280541480:=0
def tw2664804258314379560:=0
def tw18265750925936867848:=0
def tw13474179540294273576:=0
def tw9005304274345880200:=0
def tw3719740884823293608:=0
def tw8713641493358135048:=0
def tw9742506206933078792:=0
def tw934261743546750760:=0
def tw12803618983170002792:=0
def tw889204101657677736:=0
def tw3818275376366555080:=0
def tw9604679440241199113:=0
def tw6617825127115372553:=0
def tw2079678008192263369:=0
def tw11114717951745425641:=0
def tw773695619274093801:=0
def tw10045500969995051305:=0
def tw11308442931399227753:=0
def tw15573489902367865225:=0
def tw15900274801515376137:=0
def tw17500773525911782953:=0
def tw10049418291833563721:=0
def tw7954906513754009193:=0
def tw9195206246751752873:=0
def tw14056929581389701961:=0
def tw3270460008829056841:=0
def tw15594478153268519817:=0
def tw2998591404567890921:=0
def tw5371081555463830538:=0
def tw9400924213200735434:=0
def tw1856591026906325386:=0
def tw14740607118392530442:=0
def tw5196851114930054698:=0
def tw16385387581656988330:=0
def tw4121639316555461322:=0
def tw11668168106021823178:=0
def tw6176616041999676138:=0
def tw3409346293109007178:=0
def tw8895305225507955562:=0
def tw6113448168210505674:=0
def tw14025790000263041099:=0
def tw5876910758684837131:=0
def tw5501497478114495947:=0
def tw5297952463559217803:=0
def tw6092431738606040875:=0
def tw6610739142811712395:=0
def tw220241770176308203:=0
def tw16630789403394323468:=0
def tw2958036044815622156:=0
def tw17859927278274642156:=0
def tw7293356811503461612:=0
def tw14654911773721213196:=0
def tw17149698345990670668:=0
def tw15124490680675167756:=0
def tw12648425590212135468:=0
def tw11191243385762949708:=0
def tw439115910087612044:=0
def tw10457319510747611820:=0
def tw2710826226573851436:=0
def tw12026977032598287244:=0
def tw4144770675222393772:=0
def tw5679409529454192556:=0
def tw5113878832606457804:=0
def tw13822682103678784492:=0
def tw329259143257221421:=0
def tw14624537128217607661:=0
def tw4245947162156557:=0
def tw1036135003991169741:=0
def tw14832834135189559149:=0
def tw1312095350566190126:=0
def tw12751317623614825742:=0
def tw11845383405362951502:=0
def tw4562274513800804750:=0
def tw8484103748291714574:=0
def tw17199308664821385806:=0
def tw14234869607153097326:=0
def tw782638502108439182:=0
def tw18362394938334292750:=0
def tw9433057023261495054:=0
def tw12965247552986820430:=0
def tw11816233398579196750:=0
def tw10512654039885017998:=0
def tw14767782471164734479:=0
def tw3906614240292614223:=0
def tw14371264424878196847:=0
def tw5058707306174021807:=0
def tw228856826057882095:=0
def tw8941981688791558703:=0
def tw5821052008230455919:=0
def tw6549554451803874959:=0
def tw5315063534976033455:=0
def tw6830694688955947727:=0
def tw14584389792401572655:=0
def tw6664123032856538063:=0
def tw6173589105346709487:=0
def tw6402399919840850960:=0
def tw4089781198471918704:=0
def tw17963154000169390224:=0
def tw12786243591955263760:=0
def tw4442386327342544144:=0
def tw2148662040434091376:=0
def tw14656664209679751600:=0
def tw14249593755663854032:=0
def tw10277613309412743888:=0
def tw3793397258183356144:=0
def tw16364191561005114096:=0
def tw7496677432919515920:=0
def tw3201217675217578768:=0
def tw15859017406863727408:=0
def tw18369011426363444080:=0
def tw9644902180446306192:=0
def tw18062551025554666577:=0
def tw13141041250910688401:=0
def tw4006075428621355217:=0
def tw217345264385282257:=0
def tw1638228143312912625:=0
def tw2184466311902362993:=0
def tw16949434952510018929:=0
def tw3309528687545902577:=0
def tw2326663592422358577:=0
def tw4604869055984973393:=0
def tw16775075077461107281:=0
def tw7982384170343043697:=0
def tw12993828951842380401:=0
def tw10141158239812118129:=0
def tw8552556081313770129:=0
def tw11541768640322145937:=0
def tw6901299023412826801:=0
def tw7483437229183246001:=0
def tw16578233935588196017:=0
def tw7616938626010822385:=0
def tw4954682365636397809:=0
def tw13818695666827339633:=0
def tw4876766566488018034:=0
def tw16040249724073706642:=0
def tw13889266502578566354:=0
def tw15862888960055129330:=0
def tw8375181863948003666:=0
def tw10901008510079742354:=0
def tw11648781859020507570:=0
def tw5547326218588175922:=0
def tw3593411813476130386:=0
def tw8243718448908871250:=0
def tw1015915341187292786:=0
def tw3227851294256841426:=0
def tw14928456601385972466:=0
def tw14223699362079468274:=0
def tw8809042089394884402:=0
def tw5581971020803270482:=0
def tw5760112589347107698:=0
def tw1879943654251002834:=0
def tw10964576802121018387:=0
def tw17623190447853309299:=0
def tw8468574931544824339:=0
def tw9593779909411936883:=0
def tw3210953554388349683:=0
def tw1250061204742288211:=0
def tw17366845240706415507:=0
def tw7515932414560145299:=0
def tw9112529263482145779:=0
def tw6224002479156337651:=0
def tw16216298763891131412:=0
def tw194625341831045236:=0
def tw6559534530945682548:=0
def tw5870820059926860052:=0
def tw13188533167035735348:=0
def tw16810406663782162772:=0
def tw1516063292097842548:=0
def tw6460284600236600692:=0
def tw3164161631930279316:=0
def tw8105290676164625812:=0
def tw17840540857030823380:=0
def tw4029692798060320244:=0
def tw15668400434968905620:=0
def tw6874248890931466132:=0
def tw256809060785432564:=0
def tw5847014981121898613:=0
def tw16979582103741664405:=0
def tw10069746345798284469:=0
def tw6305777881613716661:=0
def tw15474168208390048085:=0
def tw6059641400740392565:=0
def tw4775502467531897621:=0
def tw1411921872624532277:=0
def tw12607799114590158677:=0
def tw7834919567449695093:=0
def tw2015151524498950133:=0
def tw2279041770286883862:=0
def tw12015412297009630518:=0
def tw17509209942932771126:=0
def tw17711735359239931222:=0
def tw15177119121318171126:=0
def tw15470377478971736566:=0
def tw8210226501847286326:=0
def tw11381674901825974838:=0
def tw14363560581946985110:=0
def tw4253678295851096758:=0
def tw6362592373189145334:=0
def tw14806790498931516246:=0
def tw11487602221355912150:=0
def tw16171173668911362071:=0
def tw17209510497457168407:=0
def tw5811373420527440951:=0
def tw18349099291419167959:=0
def tw14310987961940805911:=0
def tw6877113245959022903:=0
def tw11324592631852089687:=0
def tw6500878741044873623:=0
def tw1772840485097381335:=0
def tw13298806113385410135:=0
def tw14756438163428256407:=0
def tw4607633401388650135:=0
def tw15358120932710847191:=0
def tw13749441539995643671:=0
def tw15291149193549968183:=0
def tw8658242351146841911:=0
def tw16747367743059085143:=0
def tw12962474903741740887:=0
def tw17866152375854372759:=0
def tw3202698178744880023:=0
def tw17399689590830986199:=0
def tw1227467992441546872:=0
def tw10824733574157865208:=0
def tw7915123048019976504:=0
def tw10079480538516496728:=0
def tw17087952376052390296:=0
def tw6373652300384363960:=0
def tw7356245776843513336:=0
def tw10815353096822137432:=0
def tw7231297863534892632:=0
def tw13163248174516167288:=0
def tw7598910649738678936:=0
def tw857118455609531160:=0
def tw11777702547865395992:=0
def tw9275743040826240856:=0
def tw453264374853709784:=0
def tw1760760408229424153:=0
def tw7706276936034378777:=0
def tw12157490466566896761:=0
def tw15761058449788572857:=0
def tw16927809554085041337:=0
def tw6631697528436452569:=0
def tw2927166286362504473:=0
def tw14070463417957897689:=0
def tw13741932592291030585:=0
def tw10702923201175862873:=0
def tw14637348501942285945:=0
def tw16269922840385445561:=0
def tw14378967446755971865:=0
def tw9863931648929536921:=0
def tw161135761121368985:=0
def tw18261756652156534777:=0
def tw3064302338672400410:=0
def tw486187961573653594:=0
def tw7095610437161920762:=0
def tw10871224566650754362:=0
def tw2652601518463471130:=0
def tw13676222178744839770:=0
def tw16934518040699915962:=0
def tw6476615123584456570:=0
def tw8720701361669846970:=0
def tw1637236469955042234:=0
def tw10822253314274544602:=0
def tw7678500660441858139:=0
def tw11457650154551687323:=0
def tw7158130676097192123:=0
def tw15279444770227553467:=0
def tw4810555877896420955:=0
def tw15945709060999126811:=0
def tw7012748815782565691:=0
def tw4525068919649828763:=0
def tw7761775396957048860:=0
def tw11809682163037903932:=0
def tw112792678026421340:=0
def tw14481583613579448444:=0
def tw1427241764240600220:=0
def tw11141356041147079900:=0
def tw15184700472567656668:=0
def tw1754514497352966396:=0
def tw14298632991922573564:=0
def tw15385012441189042460:=0
def tw8218880544682690908:=0
def tw11103323597833121116:=0
def tw17305203822879369596:=0
def tw15582940854330255932:=0
def tw3694943458867842652:=0
def tw3581979791365081788:=0
def tw14858898715095283420:=0
def tw10404977858505206492:=0
def tw4369226747245344508:=0
def tw11047585375986612988:=0
def tw5227711335985618748:=0
def tw17988144191499349852:=0
def tw10021454765848035228:=0
def tw9738317272816024701:=0
def tw1571809238707036317:=0
def tw1359354626110859485:=0
def tw8891248192299486653:=0
def tw12105473040385592797:=0
def tw1638488050494625245:=0
def tw7968771018628328925:=0
def tw8531943472940259901:=0
def tw7441963706925616733:=0
def tw8313838052934423133:=0
def tw13256536723596427869:=0
def tw12121637595454040701:=0
def tw8370350369935328893:=0
def tw3321389803144239773:=0
def tw14849740273686384317:=0
def tw1656492064365182749:=0
def tw147157671257913117:=0
def tw9871464816903614429:=0
def tw10480367125000086493:=0
def tw6927868771270765533:=0
def tw8566557215439863038:=0
def tw16696751259022674174:=0
def tw978745385372747038:=0
def tw16876706676696115486:=0
def tw4701716895564769630:=0
def tw6097509214237432190:=0
def tw14706314952644286846:=0
def tw18263455357714140606:=0
def tw5487038297601041022:=0
def tw10381284128198647422:=0
def tw18095856386885256926:=0
def tw11789310104089279230:=0
def tw2103308863517906686:=0
def tw4947920211596152606:=0
def tw11788122865768412990:=0
def tw1137978689637369726:=0
def tw1311627012141899999:=0
def tw4924985156664440127:=0
def tw4563433245679660383:=0
def tw7969137546376714591:=0
def tw7014151948272669055:=0
def tw2480938202061606335:=0
def tw7631797324613903935:=0
def tw7805320317397223007:=0
def tw1708900523445894783:=0
def tw15619070968429262495:=0
def tw9581131669431832351:=0
def tw7934003510461873023:=0
end PySem.W.Fast
open PySem PySem.W PyProof.Rows
set_option maxRecDepth 100000 in
set_option maxHeartbeats 0 in
theorem PySem.Challenge.cw_arrowfind_k14_roads_refused_holds : PySem.Challenge.rw_arrowfind_k14_roads_refused.Holds := by
 w_on;o_law;k_head;(case hw=>w_witness2)
 k_fill
 refine mG.walk (l:=PySem.Challenge.rw_arrowfind_k14_roads_refused) rfl rfl (λw h Y=>PySem.W.km_in_of Y) ?L ?K ⟨_,rfl⟩ ?H ?F
 case L=>
  intro w
  kernel_rfl
 case K=>
  intro w
  kernel_rfl
 case H=>
  intro w
  kernel_rfl
 case F=>
  intro w mg fa h KX G hmg
  refine' mG.K5 hmg ?T ?O ?Kt ?Bh ?Bi ?Bj ?Ii ?Ij ?Ik ?Il ?Im ?Io ?Ip ?Iq ?Ir ?Bk ?Is ?Bl ?Iu ?Iv ?Iw ?Iy ?Iz ?IA ?IB ?IC ?ID ?IE ?IF ?IG ?IH ?II ?IJ ?IK ?IL ?IM
  case T=>
   refine' mG.LI KX G ?AU ?AV ?AY ?AZ ?A1 ?A2 ?A3 ?A4 ?A5 ?A6 ?A7 ?A8 ?A9 ?Ba ?Bb ?Bc ?Bd
   (case AU=>k_is)
   (case AV=>k_is)
   (case AY=>k_is)
   (case AZ=>k_is)
   (case A1=>k_is)
   (case A2=>k_is)
   (case A3=>k_is)
   (case A4=>k_is)
   (case A5=>k_is)
   (case A6=>k_is)
   (case A7=>k_is)
   (case A8=>k_is)
   (case A9=>k_is)
   (case Ba=>k_is)
   (case Bb=>k_is)
   (case Bc=>k_is)
   (case Bd=>k_is)
  case O=>
   constructor
   (case HQ=>kernel_rfl)
   (case HR=>kernel_rfl)
   (case HS=>kernel_rfl)
   (case Be=>kernel_rfl)
   (case Bg=>kernel_rfl)
   (case HU=>kernel_rfl)
   (case HV=>kernel_rfl)
   (case HW=>kernel_rfl)
   (case HX=>kernel_rfl)
   (case HY=>kernel_rfl)
   (case HZ=>kernel_rfl)
   (case H9=>kernel_rfl)
   (case Ie=>kernel_rfl)
   (case Ig=>kernel_rfl)
   (case Ih=>kernel_rfl)
   all_goals kernel_rfl
  case Kt=>
   refine' mG.KO ?kY ?kZ ?z
   (case kY=>constructor<;>kernel_rfl)
   (case kZ=>constructor<;>kernel_rfl)
   (case z=>constructor<;>kernel_rfl)
  case Bk=>
   refine' L2.MK (c:=mG.cN) KX G (λ_ _ _ _ _ _ us hl=>match us,hl with|[_,_,_],_=>rfl) ?a ?l ?c ?k
   (case a=>k_is);(case l=>k_is);(case c=>k_is);(case k=>k_is)
  all_goals
   first
    |(refine' L2.vf KX G (λ_ _ _ _ _ _ us hl=>match us,hl with|[_],_=>rfl) ?a ?l ?c ?k;(case a=>k_is);(case l=>k_is);(case c=>k_is);(case k=>k_is))
    |(refine' L2.vf KX G (λ_ _ _ _ _ _ us hl=>match us,hl with|[_,_],_=>rfl) ?a ?l ?c ?k;(case a=>k_is);(case l=>k_is);(case c=>k_is);(case k=>k_is))
    |(refine' L2.vf KX G (λ_ _ _ _ _ _ us hl=>match us,hl with|[_,_,_],_=>rfl) ?a ?l ?c ?k;(case a=>k_is);(case l=>k_is);(case c=>k_is);(case k=>k_is))
    |(refine' L2.vf KX G (λ_ _ _ _ _ _ us hl=>match us,hl with|[_,_,_,_],_=>rfl) ?a ?l ?c ?k;(case a=>k_is);(case l=>k_is);(case c=>k_is);(case k=>k_is))
