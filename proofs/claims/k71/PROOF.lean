import PyProof.Rows.All
import Wide.All
import OpenK.AllK
import Wide.FinOn
import Lean
import PyProof.EqAt
import PyProof.EqKinds
import PyProof.TupleCall
import PySem.Str
import PyProof.NeKinds
import PyProof.Draws
import PyProof.EnumMake
import PyProof.ZipIter
import KE.KSortTup
import KE.KLam
import PyProof.Rows.SortStr
import PyProof.Rows.FactsT3
import PyProof.StrOps2
import KE.KDictList
import KE.KRevIter
import PyProof.CollectIter
import PyProof.TupleOfGen
import PyProof.Rows.StrNews2
import PyProof.Rows.StrFacts2
import PyProof.StrLawsRepr
import PyProof.Rows.StrCase
import PyProof.Rows.StrSplit
import PySem.Challenge.RW_arrowfind_k71_join_papers_walked
open List renaming length_map->aO,getElem?_eq_some_iff->cv,mem_singleton->bQ,length_append->bU,mem_cons->bB,mem_append->bT,mem_cons_self->cJ,length_cons->cx,mem_append_right->dE,getElem?_eq_getElem->en,getElem?_map->cS,mem_filter->cC,mem_cons_of_mem->dR,getD_eq_getElem?_getD->fN,replicate->cK,mem_append_left->eo,mem_map->ce,size_toArray->dH,mem_of_getElem?->eS,length_singleton->ft,map_cons->cP,nodup_append->et,getElem?_set_ne->fI,range->cu,map_map->dF,map_append->fv,getElem?_cons_succ->jq,getElem?_append_right->kG,length_nil->f7,getElem?_cons_zero->jU,mem_range->gz,getElem?_append_left->mf,length_take->iJ,getElem?_set_self->lg,length_filter_le->lh,getElem?_of_mem->li,nodup_cons->iU,append_assoc->jV,find?_cons->jW,filter_eq_self->mi,length_drop->kH,all_eq_true->kI,flatMap_cons->lj,length_set->kJ,take_of_length_le->qh,any_cons->kK,drop_eq_getElem_cons->sx,nil_append->mj,pairwise_map->oE,mem_map_of_mem->qi,length_pos_of_mem->sy,lookup_cons->oF,mem_of_mem_take->sA,getElem_inj->qj,cons_append->qk,mem_flatMap->qm,range_succ_eq_map->vk,drop_of_length_le->vm,append_nil->qo,reverse_cons->sB,drop_zero->qp,map_congr_left->vn,getElem?_drop->vo,pairwise_lt_range->xP,length_range->vp,eq_nil_of_length_eq_zero->B9,mem_filterMap->xQ,pairwise_cons->xR,any_eq_false->xS,getElem?_take_of_lt->Ca,take_length->xT,not_mem_nil->xU,of_mem_zip->xV,length_replicate->Cb,map_nil->vq,any_map->vt,getElem?_eq_none->Cc,mem_iff_getElem?->Cd,mem_of_mem_drop->Ce,take_succ->xW,filterMap_cons->Cf,length_reverse->Cg,getElem_range->Ch,filter_append->Ci,eraseIdxIfInBounds_toArray->JC,getElem?_set->Cj,all_map->xX,map_reverse->Ck,forIn_cons->Cm,getElem?_replicate->JD,eraseIdx_cons_succ->JE,all_cons->Co,append_cancel_left->JF,map_drop->Cp,eq_nil_or_concat->JG,concat_eq_append->JH,pairwise_flatMap->JI,reverse_reverse->JJ,length->Cq,lookup->Cr,replicate_zero->JK,map_id->Cs,set_cons_succ->JL,set_cons_zero->JM,filter_congr->JN
open PySem.W renaming Frag->aU,mg_none_of->ip,nsIn->f8,CodeHd->jX,kia_one->lm,keepIn->mq,fnOf->lp,kla_obj->sC,codeIn->sD,cellsFrom_some->Ct,tabObj->xY,kla_fn->xZ,mg_of->x5,methodObj->Cu,instObj->Cv,OpenLaw->Cw,lookIn->Cy,kitOne->Cz,callWith_K->JO,codeRec_of->JP,kitx_list->JQ,kitx_dict->JR,plainGet->JS,findIn->JT
open PySem renaming wpAny_bind->aR,Value->aj,Shared->aB,Addr->ai,wpAny_pure->bV,FuncData->bJ,Program->bG,sizeLine_eq->eK,World->bi,Around->b9,mem_of_lookup->nB,boot_len->mr,Heap->aZ,wpAny_callSpecial?_slot->sE,wpAny_truthy_bool->oG,Expr->a9,wpAny_call_entry->oH,wpAny_mono->jY,wpAny_typeNameOfWhole_keyiter->x6,wpAny_passesOwn->qq,Stmt->bC,wpAny_typeNameOf_keyiter->x9,wpAny_Call_Name_kw->vv,wpAny_pyIter_list->vx,wpAny_field->oI,wpAny_newObj_type->vy,wpAny_holding->sF,typeIs_bool->yb,Scope->fg,tupleKind_room_in1->yd,wpAny_setField_rec->ye,wpAny_seqItems->vz,wpAny_specialOf->yf,wpAny_execs_nil->yg,wpAny_loadPart'->yi,NameKind->oJ,call_meets->sG,Paired->oK,wpAny_setField->yk,BindsTo->nC,Arguments->sH,TriplesOk->sI,wpAny_attempt->yl,wpAny_dictEntries->CA,codeAny_mono->ym,wpAny_dictEpoch->CB,wpAny_newFunctionEnv_cells->JU,call->CC,wpAny_standAt->CD,wpAny_pyNext_list_item->JV
open PySem.Heap renaming get?_push_of_some->cM,get?_push_size->dS,lt_size->cG,size_push->qr,SameBut->oM,get?_update_self->CF,ExtBut->yo
open Bool renaming false_ne_true->cZ,and_eq_true->gZ,eq_iff_iff->jZ,not_eq_true'->mv,false_eq_true->sJ,or_eq_true->vA,and_false->yp,false_or->yq,not_true->CG
open Nat renaming le_refl->bK,le_trans->cU,zero_add->da,lt_of_lt_of_le->g7,ne_of_lt->gQ,zero_le->g9,lt_irrefl->kL,not_lt_zero->mx,sub_self->oN,le_of_ble_eq_true->yr,ne_of_gt->vB,le_of_lt->yt,lt_succ_self->CH,min_eq_right->CI,min_eq_left->CJ,le_total->CK
open Option renaming map_eq_some_iff->gR,isSome_map->yu,getD_none->JW
open PySem.F renaming plainAttrs_list->hG,slot_list_append->mz,type_list_append->mB,slot_dict_keyiterator_next->vC,slot_tuple_iterator_next->yv,slot_list_extend->CL,type_list_extend->CM,slot_list_pop->CN,type_list_pop->CO,slot_bool_hash->yw,args_tuple_iterator_next_1->JX,entry_tuple_iterator_next->JY,slot_zip_next->yx,args_dict_keyiterator_next_1->JZ,entry_dict_keyiterator_next->J0,plainAttrs_str->J1,slot_str_join->J2,type_str_join->J3
open PySem.PassesOwn renaming never->eV
open Option.some renaming inj->iq
open Classical renaming byContradiction->nD,propDecidable->sK,em->J4
open Int renaming emod_lt_of_pos->j0,toNat_natCast->kM,emod_nonneg->j1
open PySem.Value renaming ref->eA,bool->iV,none->kN,str->qt,type->CP
open PySem.Builtin.SmallTypes renaming nextOf->qu,ownedTupleHandOut->J5,ownedTupleIsFree->J6
open Or renaming inl->cV,inr->fO
open Sum renaming inr->eB,inl->qv
open PyProof.Rows renaming callWith_type1->vD,boot_list->j2,boot_tuple->qw,boot_isinstance->yy,AllBare->oO,subscriptTail_builtinR->J7
open False renaming elim->iW
open ForInStep renaming yield->oP
open Ne renaming symm->fJ
open PySem.NameKind renaming free->nE,cell->CQ
open PySem.Heap.SameBut renaming update->vE
open True renaming intro->lw
open PySem.Builtin.List renaming listTooLong->CS
open PySem.Str renaming join->lz,ofString->sL,empty->oQ,length->qx
open Array renaming toList_append->yz,getElem?_toList->CT,getElem?_eq_getElem->J8,length_toList->J9
open PySem.Calls renaming spliced_cons->yA,spliced_nil->CU,Name_function_global->Ka,callWith_builtin->Kb
open PySem.Obj renaming data_mapFields->yB,mapSeq->vF,isFreed_of_fields->Kc
open PySem.Paired renaming length->vG
open PySem.Builtin.Dict_items renaming ownsTuple->Ke
open Sum.inr renaming inj->vH
open PySem.Builtin.Str renaming strSliceIndices->Kf
open PySem.Shared renaming heap->yC
open PySem.Builtin.Dict renaming showsAll->Kg
open List.Pairwise renaming filter->Kh,nil->Ki
open Prod renaming ext->sM,fst->yD
open PySem.SeqAt.EqAt renaming bool_bool->Kj,bool_str->Kk,str_bool->Kl
open PySem.Around renaming frames_deeper->Km
open Function renaming comp->Kn
open Option renaming some->ab,none->ae
abbrev bP:=@decide_eq_true
abbrev cD:=@decide_eq_false
abbrev dZ:=@decide_eq_true_iff
abbrev a8:=@if_neg
abbrev bc:=@if_pos
abbrev l7:=@decide_eq_false_iff_not
abbrev jI:=@of_decide_eq_true
abbrev rT:=@decide_eq_true_eq
abbrev j8:=@if_false
abbrev u9:=@beq_self_eq_true
abbrev l8:=@if_true
abbrev yQ:=@beq_eq_false_iff_ne
set_option maxRecDepth 100000
set_option maxHeartbeats 4000000
set_option Elab.async false
set_option linter.all false
namespace L2
open PySem PySem.Spec PyProof.Rows
abbrev Key:=Sum Bool Str
def HD(k:Bool):aj->Bool
 |.bool b=>b==k
 |_=>false
def sX:Key->aj->Bool
 |.inl k,v=>HD k v
 |.inr x,v=>Value.isStrOf x v
def Ra(w:bi):Key->Int
 |.inl k=>hashInt (if k then 1 else 0)
 |.inr x=>hashStr w x
theorem LD{k:Bool}:∀{v:aj},HD k v=true->v=.bool k
 |.bool b,h=>by rw[show b=k from eq_of_beq h]
theorem mJ:∀{k:Key} {v:aj},sX k v=true->(∃i,k=qv i/\v=iV i)\/(∃x t,k=eB x/\v=qt x t)
 |.inl i,v,h=>.inl ⟨i,rfl,LD h⟩
 |.inr x,v,h=>by
  obtain⟨t,e⟩:=Value.isStrOf_shape (x:=x) (v:=v) h;exact .inr ⟨x,t,rfl,e⟩
theorem NQ(i:Bool):sX (.inl i) (.bool i)=true:=u9 i
theorem RC{prog:bG}{w:bi}{A:b9}{E:aj->aB->Prop}{s:aB}{b:Bool}{Q:Int->aB->Prop}(h:Q (hashInt (if b then 1 else 0)) { s with toks:=s.toks+1 }) :
 wpAny (model prog w) A (pyHash (.bool b)) Q E s:=by
 have hr:=rawHash_range (if b then 1 else 0);unfold pyHash;have hv:[iV b].any Value.onHeap=false:=rfl;refine aR ?_;rw[cRoomFor,a8 (by rw[hv];exact cZ)];refine bV ?_;refine aR (yf (yb s b) yw.lookup ?_);show wpAny _ _ (if(ab (Value.builtin "int.__hash__")==ab kN)=true then _ else _) Q E s;rw[a8 (by rw[beq_builtin_none];exact cZ)];refine aR (yf (yb s b) yw.lookup ?_);show wpAny _ _ (callSpecialIfBoundUnlessNone? (.bool b) "__hash__" _ >>= _) Q E s;refine aR (wpAny_callSpecialIfBoundUnlessNone?_slot (yb s b) yw
  (oH yw (yb s b) F.entry_int_hash
   (show wpAny _ _ (do ret (<- mkInt (rawHash (if b then 1 else 0)))) _ _ s from wpAny_ret_mkInt ?_) (F.args_int_hash_1 _)))
 show wpAny _ _ (if(decide (-(2:Int) ^ 63<=rawHash (if b then 1 else 0))&&decide (rawHash (if b then 1 else 0)<2 ^ 63))=true then _ else _) Q E _;rw[bc (by rw[bP hr.1,bP hr.2];rfl)];exact bV h
theorem Qu(x:Str)(t:Tok):sX (.inr x) (.str x t)=true:=by simp[sX,Value.isStrOf]
theorem M4(a b:Bool):decide ((qv a:Key)=qv b)=(a==b):=by
 by_cases e:a=b
 ·subst e;simp
 ·have h:¬ (qv a:Key)=qv b:=λq=>e (Sum.inl.inj q);rw[cD h];exact(yQ.mpr e).symm
theorem SY(a b:Str):decide ((eB a:Key)=eB b)=decide (a=b):=by
 by_cases e:a=b
 ·subst e;simp
 ·have h:¬ (eB a:Key)=eB b:=λq=>e (vH q);rw[cD h,cD e]
theorem Sh(a:Bool)(b:Str):decide ((qv a:Key)=eB b)=false:=cD (λq=>nomatch q)
theorem LU(a:Str)(b:Bool):decide ((eB a:Key)=qv b)=false:=cD (λq=>nomatch q)
def iD(prog:bG)(w:bi):PySem.KeyKind prog w Key where
 is:=sX
 hash:=Ra w
 inj:=λv a b ha hb=>by
  rcases mJ ha with ⟨i,rfl,rfl⟩|⟨x,t,rfl,rfl⟩
  ·rcases mJ hb with ⟨j,rfl,e⟩|⟨y,u,rfl,e⟩
   ·injection e with e1;rw[e1]
   ·exact nomatch e
  ·rcases mJ hb with ⟨j,rfl,e⟩|⟨y,u,rfl,e⟩
   ·exact nomatch e
   ·injection e with e1 _;rw[e1]
 byValue:=λk v h=>by
  rcases mJ h with ⟨i,rfl,rfl⟩|⟨x,t,rfl,rfl⟩<;>rfl
 pyHash:=λhv h=>by
  rcases mJ hv with ⟨i,rfl,rfl⟩|⟨x,t,rfl,rfl⟩
  ·exact RC h
  ·exact wpAny_pyHash_str h
 eqBool:=λhu hv h=>by
  rcases mJ hu with ⟨i,rfl,rfl⟩|⟨x,t,rfl,rfl⟩
  ·rcases mJ hv with ⟨j,rfl,rfl⟩|⟨y,u,rfl,rfl⟩
   ·rw[M4]at h;exact Kj i j _ _ _ _ h
   ·rw[Sh]at h;exact Kk i y u _ _ _ _ h
  ·rcases mJ hv with ⟨j,rfl,rfl⟩|⟨y,u,rfl,rfl⟩
   ·rw[LU]at h;exact Kl x t j _ _ _ _ h
   ·rw[SY]at h;exact wpAny_eqBool_str h
 «strs»:=λk x t v h=>by
  rcases mJ h with ⟨i,rfl,e⟩|⟨y,u,rfl,e⟩
  ·exact nomatch e
  ·injection e with e1 _;subst e1;cases v<;>rfl
theorem OY(prog:bG)(w:bi)(i:Bool):(iD prog w).is (.inl i) (.bool i)=true:=NQ i
theorem Nh(prog:bG)(w:bi)(x:Str)(t:Tok):(iD prog w).is (.inr x) (.str x t)=true:=Qu x t
inductive V where
 |non|bl (b:Bool)|int (i:Int)|str (x:Str)|byt (b:Array UInt8)|flt (b:UInt64)|ref (a:ai)|ty (n:String)
 deriving DecidableEq
def RelV:V->aj->Prop
 |.non,u=>u=kN
 |.bl b,u=>u=iV b
 |.int i,u=>∃t,u=Value.int i t
 |.str x,u=>∃t,u=qt x t
 |.byt b,u=>∃t,u=Value.bytes b t
 |.flt b,u=>∃t,u=Value.float b t
 |.ref a,u=>u=eA a
 |.ty n,u=>u=CP n
abbrev Vals:List V->List aj->Prop:=oK RelV
theorem Vals.length{xs:List V}{us:List aj}(r:Vals xs us):xs.length=us.length:=vG r
theorem Vals.get:∀{xs:List V} {us:List aj} {i:Nat} {x:V},Vals xs us->xs[i]? = ab x->∃u,us[i]? = ab u/\RelV x u
 |_,_,_,_,.nil,e=>by simp at e
 |_,_,0,_,.cons r _,e=>by simp at e;subst e;exact⟨_,rfl,r⟩
 |_,_,i+1,x,.cons _ t,e=>by
  obtain⟨u,h1,h2⟩:=Vals.get (i:=i) (x:=x) t (by simpa using e);exact⟨u,by simpa using h1,h2⟩
theorem Vals.append:∀{xs ys:List V} {us ws:List aj},Vals xs us->Vals ys ws->Vals (xs++ys) (us++ws)
 |_,_,_,_,.nil,s=>s
 |_,_,_,_,.cons r t,s=>.cons r (Vals.append t s)
theorem Vals.take:∀{xs:List V} {us:List aj} (n:Nat),Vals xs us->Vals (xs.take n) (us.take n)
 |_,_,0,_=>.nil
 |_,_,_+1,.nil=>.nil
 |_,_,n+1,.cons r t=>.cons r (Vals.take n t)
theorem Vals.drop:∀{xs:List V} {us:List aj} (n:Nat),Vals xs us->Vals (xs.drop n) (us.drop n)
 |_,_,0,r=>r
 |_,_,_+1,.nil=>.nil
 |_,_,n+1,.cons _ t=>Vals.drop n t
def k9:Option V->Option aj->Prop
 |some v,ab u=>RelV v u
 |none,ae=>True
 |_,_=>False
def KV{κ:Type}:List (κ×V)->List (κ×aj)->Prop:=oK λ(p:κ×V) (q:κ×aj)=>p.1=q.1/\RelV p.2 q.2
def kV:Key->V
 |.inl i=>.bl i
 |.inr x=>.str x
def qM(h:aZ)(a:ai)(av:Array aj):Prop:=∃o,h.get? a=ab o/\o.cls=.type "tuple" /\ o.dict=ae/\∃n,o.data=.seq av n
theorem qM.tup{h:aZ}{a:ai}{av:Array aj}(x:qM h a av):IsTup h a av:=let ⟨o,e,c,_,d⟩:=x;⟨o,e,c,d⟩
theorem qM.new(h:aZ)(av:Array aj):qM (h.push { cls:=.type "tuple", data:=.seq av }) h.objs.size av:=⟨_,dS _ rfl,rfl,rfl,_,rfl⟩
inductive HO where
 /-- a list -/
 |lst (xs:List V)
 /-- a tuple (never changes) -/
 |tup (xs:List V)
 /-- a dict whose keys are ints and texts;one whose keys are tuples of ints and texts (the empty one is both) -/
 |dK (ao:List (Key×V))|dT (ao:List (List Key×V))
 /-- a set of ints: av members,av size -/
 |set (S:Int->Bool) (n:Nat)
 /-- an instance of the class at C,av dict at dx,av attributes -/
 |ins (C dx:ai) (fs:List (Str×V))
 /-- the dict of the instance at x -/
 |own (x:ai)
 /-- the dict of an exception -/
 |xd (fs:List (Str×V))
 /-- a bound method,f of x -/
 |met (f x:ai)
 /-- a range object lo,lo+1,.. below hi -/
 |rng (lo hi:Int)
 /-- a thing that is known to the object (the script;a dict while a loop walks it): read,never written while it is so -/
 |frz (o:Obj) (u:HO)
 /-- a code object's table -/
 |tbl (w:Str) (ps:Array aj)
 /-- any other thing,by what is true of av one object (a def of one's own: Ud a S n:=HO.ext λh=>..) -/
 |ext (φ : aZ->Prop)
abbrev Hp:=ai->Option HO
def upd(H:Hp)(a:ai)(o:HO):Hp:=λb=>if b=a then ab o else H b
theorem bN{H:Hp}{a:ai}{o:HO}:upd H a o a=ab o:=by unfold upd;rw[bc rfl]
theorem aS{H:Hp}{a b:ai}{o:HO}(h:b≠a):upd H a o b=H b:=by unfold upd;rw[a8 h]
theorem Nc{H:Hp}{a b:ai}{o u:HO}(h:H a=ab o)(h':H b=ab u)(d:o≠u):a≠b:=by intro e;subst e;rw[h]at h';exact d (iq h')
theorem dX{H:Hp}{a b:ai}{o:HO}(h:H a=ab o)(h':H b=ae):a≠b:=by intro e;subst e;rw[h]at h';cases h'
section
variable(P:bG)(w:bi)
def dD(H:Hp)(h:aZ)(a:ai):HO->Prop
 |.lst xs=>xs.length<=sizeLine/\∃(av:List aj) (n:Nat),Vals xs av/\h.get? a=ab { cls:=.type "list", data:=.seq av.toArray n }
 |.tup xs=>xs.length<=sizeLine/\∃av:List aj,Vals xs av/\qM h a av.toArray
 |.dK ao=>ao.length<=sizeLine/\(a==sysModules)=false/\∃vs,KV ao vs/\h.DictOf (iD P w) a vs
 | .dT ao=>ao.length<=sizeLine/\(a==sysModules)=false/\∃xs:List (List Key×ai×aj),
  oK (λ(p:List Key×V) (q:List Key×ai×aj)=>p.1=q.1/\H q.2.1=ab (.tup (p.1.map kV))/\RelV p.2 q.2.2) ao xs /\
  ∃o es ep,h.get? a=ab o/\o.ExactDict/\o.data=.dict es ep/\es.toList=xs.map (entryOfKey (tupleKind (iD P w)))/\(xs.map (·.1)).Nodup
 |.set S n=>h.SetOf (intKind P w) a S n
 | .ins C dx fs=>H dx=ab (.own a)/\fs.length<=1000/\dx≠a/\h.get? a=ab (Cv C dx) /\
  ∃mA,h.Ns1 dx mA/\(∀f,k9 (fs.lookup f) (mA f))/\PySem.Within mA (fs.map (·.1))
 |.own _=>∃o,h.get? a=ab o
 |.xd fs=>∃mA,h.Ns1 a mA/\∀f,k9 (fs.lookup f) (mA f)
 |.rng lo hi=>∃t u v,h.get? a=ab { cls:=.type "range", data:=.fields #[.int lo t,.int hi u,.int 1 v] }
 |.frz o u=>h.get? a=ab o/\dD H h a u
 |.tbl _ ps=>h.get? a=ab { cls:=.none,data:=.fields ps }
 |.met f x=>h.get? a=ab (Cu (.ref f) (.ref x))
 |.ext φ=>φ h/\(∃o,h.get? a=ab o)/\∀h1 h2:aZ,φ h1->(∀o,h1.get? a=ab o->h2.get? a=ab o)->φ h2
def dy(H:Hp)(h:aZ):Prop:=∀a o,H a=ab o->dD P w H h a o
end
section
variable{P:bG}{w:bi}{H H':Hp}{h h':aZ}{a:ai}{o:HO}
theorem dD.lt(x:dD P w H h a o):a<h.objs.size:=by
 cases o with
 |lst xs=>obtain⟨_,_,_,_,e⟩:=x;exact cG e
 |tup xs=>obtain⟨_,_,_,p⟩:=x;exact p.tup.lt
 |dK ao=>obtain⟨_,_,_,_,o,_,_,e,_⟩:=x;exact cG e
 |dT ao=>obtain⟨_,_,_,_,o,_,_,e,_⟩:=x;exact cG e
 |set S n=>obtain⟨o,_,_,_,e,_⟩:=x;exact cG e
 |ins C dx fs=>obtain⟨_,_,_,e,_⟩:=x;exact cG e
 |own y=>obtain⟨_,e⟩:=x;exact cG e
 |xd fs=>obtain⟨_,⟨_,_,_,e,_⟩,_⟩:=x;exact cG e
 |rng lo hi=>obtain⟨_,_,_,e⟩:=x;exact cG e
 |frz ob u=>obtain⟨e,_⟩:=x;exact cG e
 |tbl w ps=>exact cG (show h.get? a=ab _ from x)
 |met f y=>exact cG (show h.get? a=ab _ from x)
 |ext φ=>obtain⟨_,⟨_,e⟩,_⟩:=x;exact cG e
theorem Paired.zV{α β:Type}{F G:α->β->Prop}:∀{l₁:List α} {l₂:List β},oK F l₁ l₂->(∀a b,F a b->G a b)->oK G l₁ l₂
 |_,_,.nil,_=>.nil
 |_,_,.cons r t,f=>.cons (f _ _ r) (Paired.zV t f)
theorem dD.stay(x:dD P w H h a o)(k:∀b u,(b=a\/H b=ab (.own a))->h.get? b=ab u->h'.get? b=ab u)
 (ho:∀b,H b=ab (.own a)->H' b=ab (.own a)) (ht:∀b xs,H b=ab (.tup xs)->H' b=ab (.tup xs)):dD P w H' h' a o:=by
 induction o with
 |lst xs=>obtain⟨z,av,n,r,e⟩:=x;exact⟨z,av,n,r,k _ _ (.inl rfl) e⟩
 |tup xs=>obtain⟨z,av,r,ob,e,c⟩:=x;exact⟨z,av,r,ob,k _ _ (.inl rfl) e,c⟩
 |dK ao=>obtain⟨z,y,vs,r,ob,es,ep,e,c⟩:=x;exact⟨z,y,vs,r,ob,es,ep,k _ _ (.inl rfl) e,c⟩
 |dT ao=>
  obtain⟨z,y,xs,r,ob,es,ep,e,c⟩:=x;exact⟨z,y,xs,Paired.zV r λp q z=>⟨z.1,ht _ _ z.2.1,z.2.2⟩,ob,es,ep,k _ _ (.inl rfl) e,c⟩
 |set S n=>obtain⟨ob,es,ep,t,e,c⟩:=x;exact⟨ob,es,ep,t,k _ _ (.inl rfl) e,c⟩
 |ins C dx fs=>
  obtain⟨d,z,ne,e,mA,⟨od,es,ep,e2,c⟩,r⟩:=x;exact⟨ho _ d,z,ne,k _ _ (.inl rfl) e,mA,⟨od,es,ep,k _ _ (.inr d) e2,c⟩,r⟩
 |own y=>obtain⟨ob,e⟩:=x;exact⟨ob,k _ _ (.inl rfl) e⟩
 |xd fs=>obtain⟨mA,⟨od,es,ep,e,c⟩,r⟩:=x;exact⟨mA,⟨od,es,ep,k _ _ (.inl rfl) e,c⟩,r⟩
 |rng lo hi=>obtain⟨t,u,v,e⟩:=x;exact⟨t,u,v,k _ _ (.inl rfl) e⟩
 |frz ob u ih=>obtain⟨e,q⟩:=x;exact⟨k _ _ (.inl rfl) e,ih q⟩
 |tbl w ps=>
  have e:h.get? a=ab { cls:=.none,data:=.fields ps }:=x;show h'.get? a=ab { cls:=.none,data:=.fields ps };exact k a _ (.inl rfl) e
 |met f y=>
  have e:h.get? a=ab (Cu (.ref f) (.ref y)):=x;show h'.get? a=ab (Cu (.ref f) (.ref y));exact k a _ (.inl rfl) e
 |ext φ=>obtain⟨p,⟨o,e⟩,st⟩:=x;exact⟨st _ _ p λo q=>k _ _ (.inl rfl) q,⟨o,k _ _ (.inl rfl) e⟩,st⟩
theorem dy.lt(x:dy P w H h)(e:H a=ab o):a<h.objs.size:=(x a o e).lt
theorem dy.fresh(x:dy P w H h)(e:h.objs.size<=a):H a=ae:=by
 cases q:H a with
 |none=>rfl
 |some u=>exact absurd (g7 (x.lt q) e) (kL _)
theorem dy.kept(x:dy P w H h)(k:∀b u,h.get? b=ab u->h'.get? b=ab u):dy P w H h':=λa o e=>
 (x a o e).stay (λb u _ q=>k b u q) (λ_ q=>q) λ_ _ q=>q
theorem dy.laid(x:dy P w H h)(k:∀b u,h.get? b=ab u->h'.get? b=ab u)(hp:h.objs.size<=a)(new:dD P w (upd H a o) h' a o):dy P w (upd H a o) h':=λb u e=>by
 have hn:=x.fresh hp;by_cases hb:b=a
 ·subst hb;rw[bN]at e;cases e;exact new
 ·rw[aS hb]at e;exact(x b u e).stay (λc v _ q=>k c v q) (λc q=>by rw[aS (dX q hn)];exact q) λc xs q=>by rw[aS (dX q hn)];exact q
end
def Rd(H:Hp)(a:ai)(u:HO):Prop:=H a=ab u\/∃o,H a=ab (.frz o u)
theorem Rd.ok{P:bG}{w:bi}{H:Hp}{h:aZ}{a:ai}{u:HO}(r:Rd H a u)(x:dy P w H h):dD P w H h a u:=by
 rcases r with r|⟨o,r⟩
 ·exact x a u r
 ·obtain⟨_,q⟩:=x a _ r;exact q
def ur:Option HO->Prop
 |some (.lst _)=>True
 |some (.dK _)=>True
 |some (.dT _)=>True
 |some (.set _ _)=>True
 |some (.ins _ _ _)=>True
 |some (.ext _)=>True
 |_=>False
section
variable{P:bG}{w:bi}{H:Hp}{h h':aZ}{x e:ai}{o':HO}
theorem dy.write(ok:dy P w H h)(mu:ur (H x))(he:e=x\/H e=ab (.own x))(k:∀b u,b≠e->h.get? b=ab u->h'.get? b=ab u)(heo:∃u,h'.get? e=ab u)
 (new:dD P w (upd H x o') h' x o'):dy P w (upd H x o') h':=λb u q=>by
 have Ko:∀c y,H c=ab (.own y)->c≠x:=λc y r z=>by subst z;rw[r]at mu;exact mu
 have TD:∀c xs,H c=ab (.tup xs)->c≠x:=λc xs r z=>by subst z;rw[r]at mu;exact mu
 by_cases hb:b=x
 ·subst hb;rw[bN]at q;cases q;exact new
 ·rw[aS hb]at q;by_cases hbe:b=e
  ·have q':H b=ab (.own x):=by
    rcases he with z|z
    ·exact absurd (hbe.trans z) hb
    ·rw[hbe];exact z
   rw[q]at q';cases q';obtain⟨v,hv⟩:=heo;exact⟨v,by rw[hbe];exact hv⟩
  ·refine(ok b u q).stay (λc v hc r=>k c v ?_ r) (λc r=>by rw[aS (Ko c b r)];exact r) λc xs r=>by rw[aS (TD c xs r)];exact r
   rcases hc with rfl|hc
   ·exact hbe
   ·rintro rfl;rcases he with z|z
    ·exact Ko c b hc z
    ·rw[hc]at z;cases z;exact hb rfl
end
structure Un(fs ex:List ai)(H H':Hp)(h h':aZ):Prop where
 keep:∀b o,h.get? b=ab o->H b=ae->b∉fs->b∉ex->h'.get? b=ab o
 slot:∀b o,h.get? b=ab o->H b=ae->b∈fs->b∉ex->∃sl,h'.get? b=ab { o with slots:=sl }
 free:∀b o,h.get? b=ab o->H b=ae->b∉ex->H' b=ae
 there:∀b o,h.get? b=ab o->b∉ex->∃o',h'.get? b=ab o'
 tups:∀b xs,H b=ab (.tup xs)->H' b=ab (.tup xs)
 mD:∀b o u,H b=ab (.frz o u)->H' b=ab (.frz o u)
 mE:∀b w ps,H b=ab (.tbl w ps)->∃more,H' b=ab (.tbl w (ps++more))
section
variable{fs fs' ex ex':List ai}{H H1 H2:Hp}{h h1 h2 h':aZ}{a x e:ai}{o:HO}
theorem Un.any(u:Un fs ex H H1 h h1){b:ai}{ob:Obj}(q:h.get? b=ab ob)(n:H b=ae)(hx:b∉ex):∃sl,h1.get? b=ab { ob with slots:=sl }:=by
 by_cases hb:b∈fs
 ·exact u.slot b ob q n hb hx
 ·exact⟨ob.slots,u.keep b ob q n hb hx⟩
theorem Un.kept(k:∀b u,h.get? b=ab u->h'.get? b=ab u):Un fs ex H H h h':=⟨λb ob q _ _ _=>k b ob q,λb ob q _ _ _=>⟨ob.slots,k b ob q⟩,λ_ _ _ n _=>n,λb ob q _=>⟨ob,k b ob q⟩,λ_ _ q=>q,λ_ _ _ q=>q,λ_ w ps q=>⟨#[],by rw[q];simp⟩⟩
theorem Un.refl:Un fs ex H H h h:=Un.kept λ_ _ q=>q
theorem Un.laid(k:∀b u,h.get? b=ab u->h'.get? b=ab u)(hp:h.objs.size<=a)(hn:H a=ae):Un fs ex H (upd H a o) h h' where
 keep:=λb u q _ _ _=>k b u q
 slot:=λb u q _ _ _=>⟨u.slots,k b u q⟩
 free:=λb u q n _=>by rw[aS (gQ (g7 (cG q) hp))];exact n
 there:=λb u q _=>⟨u,k b u q⟩
 tups:=λb xs q=>by rw[aS (dX q hn)];exact q
 mD:=λb u xs q=>by rw[aS (dX q hn)];exact q
 mE:=λb w ps q=>⟨#[],by rw[aS (dX q hn),q];simp⟩
theorem Un.write(mu:ur (H x))(he:e=x\/H e=ab (.own x))(k:∀b u,b≠e->h.get? b=ab u->h'.get? b=ab u)(heo:∃u,h'.get? e=ab u):Un fs ex H (upd H x o) h h':=by
 have hx:∀b,H b=ae->b≠x:=λb n z=>by subst z;rw[n]at mu;exact mu
 have hb:∀b,H b=ae->b≠e:=λb n z=>by
  subst z;rcases he with r|r
  ·exact hx b n r
  ·rw[n]at r;cases r
 have hm:∀b u,H b=ab u->¬ ur (ab u)->b≠x:=λb u q nm z=>by subst z;rw[q]at mu;exact nm mu
 refine⟨λb u q n _ _=>k b u (hb b n) q,λb u q n _ _=>⟨u.slots,k b u (hb b n) q⟩,λb u q n _=>by rw[aS (hx b n)];exact n,λb u q _=>?_,
  λb xs q=>by rw[aS (hm b _ q λz=>z)];exact q,λb u xs q=>by rw[aS (hm b _ q λz=>z)];exact q,λb w ps q=>⟨#[],by rw[aS (hm b _ q λz=>z),q];simp⟩⟩
 by_cases hbe:b=e
 ·subst hbe;exact heo
 ·exact⟨u,k b u hbe q⟩
end
def xA(h:aZ)(H:Hp):List ai:=(cu h.objs.size).filter λa=>(H a).isSome
def kS(h:aZ)(H:Hp):aZ:=PySem.W.hideAll h (xA h H)
theorem S7(h:aZ)(H:Hp):(kS h H).objs.size=h.objs.size:=PySem.W.hideAll_size _ _
theorem O8{h:aZ}{H:Hp}{b:ai}{o:Obj}(e:h.get? b=ab o)(n:H b=ae):(kS h H).get? b=ab o:=
 PySem.W.hideAll_get _ e λhm=>by
  have q:(H b).isSome=true:=(cC.mp hm).2;rw[n]at q;simp at q
theorem Mb{h:aZ}{H:Hp}{b:ai}{o:Obj}(e:(kS h H).get? b=ab o):h.get? b=ab o/\H b=ae:=by
 have e':h.get? b=ab o:=PySem.W.of_hideAll (xA h H) e;refine⟨e',?_⟩;cases q:H b with
 |none=>rfl
 |some x=>
  have hm:b∈xA h H:=cC.mpr ⟨gz.mpr (cG e'),by simp[q]⟩;have z:(kS h H).get? b=ae:=PySem.W.hideAll_none (xA h H) hm;rw[z]at e;cases e
structure Mod(K:aU)(mg:Str->Option aj)(base:aZ):Prop where
 kin:K.In base
 glob:base.Ns mainGlobals mg
 blt:∃mb,base.Ns builtinsNs mb/\∀x:Str,x ≠ "__name__" -> mb x=bootBuiltins x
 nolimit:base.NoLimit
structure Cx where
 prog:bG
 w:bi
 K:aU
 mg:Str->Option aj
 base:aZ
 A:b9
 N:List Str
 s₀:aB
 H₀:Hp
 env:Env
 outer:List Env
 stack:List Env
 ex:List ai
 fn:Str->Bool
 calm:Bool
 pn:List (ai×Obj)
 xe:aj->aB->Prop
def frs(l:List Env):List ai:=l.filterMap (·.frame)
abbrev Cx.fs(X:Cx):List ai:=frs X.outer
def uc(sc:fg)(x:Str):Prop:=sc.names.lookup x=ab .local\/sc.names.lookup x=ab .cell\/sc.names.lookup x=ab .free
def Loc(sc:fg)(x:Str):Prop:=sc.names.lookup x=ab .local\/sc.names.lookup x=ab .cell
def Look(env:Env)(h:aZ)(m:Str->Option aj)(x:Str)(u:aj):Prop:=(env.kindOf x=ab .local/\m x=ab u)\/((env.kindOf x=ab .cell\/env.kindOf x=ab .free)/\∃c,env.cells.lookup x=ab c/\h.IsCell c (ab u))
structure Cx.Ok(X:Cx):Prop where
 mod:Mod X.K X.mg X.base
 kind:X.env.scope.kind=.function
 glob:X.env.globals=mainGlobals
 blt:X.env.builtins=builtinsNs
 above:X.s₀.heap.objs.size<=X.env.locals
 inj:∀x y c,X.env.cells.lookup x=ab c->X.env.cells.lookup y=ab c->x=y
 has:∀x,(X.env.kindOf x=ab .cell\/X.env.kindOf x=ab .free)->∃c,X.env.cells.lookup x=ab c
 cab:∀x c,X.fn x=true->X.env.cells.lookup x=ab c->X.s₀.heap.objs.size<=c
 hd:X.calm=true->X.A.handled=ae
 frames:X.A.frames=ab X.stack
 stk:X.stack=X.outer\/(X.stack=X.env::X.outer/\X.env.frame=ab X.env.locals)
 exf:∀b∈X.ex,b≠X.env.locals/\∀x c,X.env.cells.lookup x=ab c->c≠b
 bs:∀b o,X.base.get? b=ab o->X.s₀.heap.get? b=ab o/\X.H₀ b=ae
 bsz:X.base.objs.size<=X.s₀.heap.objs.size
 vI:∀b o,X.base.get? b=ab o->b∉X.ex
 yE:∀b∈X.ex,b∉X.fs
 jG:X.s₀.heap.FunFrames X.base X.outer
 frf:∀b∈X.fs,X.H₀ b=ae
structure Inv(X:Cx)(ah:List (ai×Obj))(σ:List (Option V))(H:Hp)(s:aB):Prop where
 ok:X.Ok
 os:s.os=X.s₀.os
 bare:oO s.gens
 base:Un X.fs X.ex X.H₀ H X.s₀.heap s.heap
 loc:∃m,s.heap.Ns X.env.locals m/\∀(i:Nat) (x:Str) (v:V),X.N[i]? = ab x->σ[i]? = ab (ab v)->uc X.env.scope x->∃u,RelV v u/\Look X.env s.heap m x u
 cell:∀x c,X.env.cells.lookup x=ab c->∃v,s.heap.IsCell c v
 free:H X.env.locals=ae
 kO:∀x c,X.env.cells.lookup x=ab c->H c=ae
 pin:∀p∈X.pn++ah,s.heap.get? p.1=ab p.2/\H p.1=ae/\p.1≠X.env.locals/\p.1∉X.fs/\∀v,p.2.data≠.cell v
 hok:dy X.prog X.w H s.heap
 len:σ.length=X.N.length
section
variable{X:Cx}{ah:List (ai×Obj)}{σ:List (Option V)}{H H':Hp}{s:aB}{h':aZ}
theorem Cx.Ok.Lx(ok:X.Ok){b:ai}{o:Obj}(e:X.base.get? b=ab o):b∉X.fs:=λhb=>by
 have:=(ok.jG.mem hb).1;rw[e]at this;cases this
theorem Inv.bs(I:Inv X ah σ H s):∀b o,X.base.get? b=ab o->s.heap.get? b=ab o/\H b=ae:=λb o e=>
 ⟨I.base.keep b o (I.ok.bs b o e).1 (I.ok.bs b o e).2 (I.ok.Lx e) (I.ok.vI b o e),I.base.free b o (I.ok.bs b o e).1 (I.ok.bs b o e).2 (I.ok.vI b o e)⟩
theorem Inv.bk(I:Inv X ah σ H s):∀b o,X.base.get? b=ab o->s.heap.get? b=ab o:=λb o e=>(I.bs b o e).1
theorem Inv.mod(I:Inv X ah σ H s):Mod X.K X.mg X.base:=I.ok.mod
theorem Inv.gC(I:Inv X ah σ H s):X.K.In s.heap:=I.ok.mod.kin.keeps I.bk
theorem Inv.lt(I:Inv X ah σ H s):X.env.locals<s.heap.objs.size:=let ⟨_,hn,_⟩:=I.loc;hn.lt
theorem Inv.sz(I:Inv X ah σ H s):X.s₀.heap.objs.size<=s.heap.objs.size:=cU I.ok.above (yt I.lt)
theorem Inv.SI(I:Inv X ah σ H s){a:ai}(h:s.heap.objs.size<=a):a∉X.fs:=λhb=>by
 obtain⟨_,o,ho,_⟩:=I.ok.jG.mem hb;exact absurd (g7 (cG ho) (cU I.sz h)) (kL _)
theorem Inv.oa(I:Inv X ah σ H s):∀x c,X.env.cells.lookup x=ab c->c≠X.env.locals:=λx c e z=>by
 obtain⟨v,o,ho,hd⟩:=I.cell x c e;obtain⟨m,⟨o',es,ep,ho',hd',_⟩,_⟩:=I.loc;rw[z,ho']at ho;cases ho;rw[hd']at hd;cases hd
theorem Inv.jG(I:Inv X ah σ H s):s.heap.FunFrames X.base X.outer:=by
 have all:∀(l:List Env),(∀b∈frs l,b∈X.fs)->X.s₀.heap.FunFrames X.base l->s.heap.FunFrames X.base l:=by
  intro l
  induction l with
  |nil=>intro _ _;trivial
  |cons env r ih=>
   intro hs hl;obtain⟨hk,⟨L,o,hf,hn,ho,hd⟩,hr⟩:=hl;have hL:L∈X.fs:=hs L (by unfold frs;rw[Cf,hf];exact cJ);obtain⟨sl,e⟩:=I.base.slot L o ho (I.ok.frf L hL) hL λz=>I.ok.yE L z hL;exact⟨hk,⟨L,_,hf,hn,e,hd⟩,ih (λb hb=>hs b (by unfold frs;rw[Cf,hf];exact dR _ hb)) hr⟩
 exact all X.outer (λ_ hb=>hb) I.ok.jG
theorem Inv.stack(I:Inv X ah σ H s):s.heap.FunFrames X.base X.stack:=by
 rcases I.ok.stk with e|⟨e,hf⟩
 ·rw[e];exact I.jG
 ·rw[e];obtain⟨m,hn,_⟩:=I.loc;refine .cons (by rw[I.ok.kind];decide) hf hn ?_ I.jG;exact Heap.get?_none_of_le (cU I.ok.bsz I.ok.above)
theorem Inv.tw(I:Inv X ah σ H s):∀b∈frs X.stack,b∈X.env.locals::X.fs:=λb hb=>by
 rcases I.ok.stk with e|⟨e,hf⟩
 ·rw[e]at hb;exact dR _ hb
 ·rw[e]at hb;unfold frs at hb;rw[Cf,hf]at hb;exact hb
theorem Inv.DP(I:Inv X ah σ H s):∀b∈frs X.stack,H b=ae:=λb hb=>by
 rcases bB.mp (I.tw b hb)with e|hb
 ·rw[e];exact I.free
 ·obtain⟨_,o,ho,_⟩:=I.ok.jG.mem hb;exact I.base.free b o ho (I.ok.frf b hb) λz=>I.ok.yE b z hb
theorem Inv.step{g':Array GenState}{t':Nat}{d':Drawn}{ch:List ai}(I:Inv X ah σ H s)
 (hch:∀b∈ch,(b∈X.ex\/X.s₀.heap.objs.size<=b)/\b≠X.env.locals/\(∀x c,X.env.cells.lookup x=ab c->c≠b)/\∀p∈X.pn++ah,p.1≠b)
 (keep:∀b o,b≠X.env.locals->b∉X.fs->b∉ch->s.heap.get? b=ab o->H b=ae->h'.get? b=ab o)
 (slot:∀b o,b≠X.env.locals->b∈X.fs->b∉ch->s.heap.get? b=ab o->H b=ae->∃sl,h'.get? b=ab { o with slots:=sl }) (free:∀b o,b∉ch->s.heap.get? b=ab o->H b=ae->H' b=ae)
 (there:∀b o,b∉ch->s.heap.get? b=ab o->∃o',h'.get? b=ab o')
 (tups:∀b xs,H b=ab (.tup xs)->H' b=ab (.tup xs)) (mD:∀b o u,H b=ab (.frz o u)->H' b=ab (.frz o u)) (mE:∀b w ps,H b=ab (.tbl w ps)->∃more,H' b=ab (.tbl w (ps++more)))
 (ns:∀m,s.heap.Ns X.env.locals m->h'.Ns X.env.locals m) (hok:dy X.prog X.w H' h') (hg:oO g') :
 Inv X ah σ H' { s with heap:=h',gens:=g',drawn:=d',toks:=t' }:=by
 have neL:∀b o,X.s₀.heap.get? b=ab o->b≠X.env.locals:=λb o e=>gQ (g7 (cG e) I.ok.above);have neC:∀b o,X.s₀.heap.get? b=ab o->b∉X.ex->b∉ch:=λb o e hx hb=>by
  rcases(hch b hb).1 with z|z
  ·exact hx z
  ·exact absurd (g7 (cG e) z) (kL _)
 have cellK:∀x c,X.env.cells.lookup x=ab c->∀v,s.heap.IsCell c v->h'.IsCell c v:=λx c e v ⟨o,ho,hd⟩=>by
  have nch:c∉ch:=λz=>(hch c z).2.2.1 x c e rfl;by_cases hc:c∈X.fs
  ·obtain⟨sl,q⟩:=slot c o (I.oa x c e) hc nch ho (I.kO x c e);exact⟨_,q,hd⟩
  ·exact⟨o,keep c o (I.oa x c e) hc nch ho (I.kO x c e),hd⟩
 refine⟨I.ok,I.os,hg,⟨λb o e n hb hx=>?_,λb o e n hb hx=>?_,λb o e n hx=>?_,λb o e hx=>?_,λb xs e=>tups b xs (I.base.tups b xs e),λb o xs e=>mD b o xs (I.base.mD b o xs e),λb w ps e=>?_⟩,?_,λx c e=>?_,?_,λx c e=>?_,λp hp=>?_,hok,I.len⟩
 ·exact keep b o (neL b o e) hb (neC b o e hx) (I.base.keep b o e n hb hx) (I.base.free b o e n hx)
 ·obtain⟨sl,e1⟩:=I.base.slot b o e n hb hx;obtain⟨sl',e2⟩:=slot b _ (neL b o e) hb (neC b o e hx) e1 (I.base.free b o e n hx);exact⟨sl',e2⟩
 ·obtain⟨o',e1⟩:=I.base.there b o e hx;exact free b o' (neC b o e hx) e1 (I.base.free b o e n hx)
 ·obtain⟨o',e1⟩:=I.base.there b o e hx;exact there b o' (neC b o e hx) e1
 ·obtain⟨m1,e1⟩:=I.base.mE b w ps e;obtain⟨m2,e2⟩:=mE b w _ e1;exact⟨m1++m2,by rw[e2,Array.append_assoc]⟩
 ·obtain⟨m,hn,hl⟩:=I.loc;refine⟨m,ns m hn,λi x v e1 e2 e3=>?_⟩;obtain⟨u,r,l⟩:=hl i x v e1 e2 e3;refine⟨u,r,?_⟩;rcases l with l|⟨k,c,e,z⟩
  ·exact .inl l
  ·exact .inr ⟨k,c,e,cellK x c e _ z⟩
 ·obtain⟨v,z⟩:=I.cell x c e;exact⟨v,cellK x c e v z⟩
 ·obtain⟨m,⟨o,_,_,ho,_⟩,_⟩:=I.loc;exact free _ o (λz=>(hch _ z).2.1 rfl) ho I.free
 ·obtain⟨v,o,ho,hd⟩:=I.cell x c e;exact free c o (λz=>(hch c z).2.2.1 x c e rfl) ho (I.kO x c e)
 ·obtain⟨e,n,ne,nf,d⟩:=I.pin p hp;have nch:p.1∉ch:=λz=>(hch p.1 z).2.2.2 p hp rfl;exact⟨keep p.1 p.2 ne nf nch e n,free p.1 p.2 nch e n,ne,nf,d⟩
theorem Inv.un{t':Nat}(I:Inv X ah σ H s)(u:Un X.fs [] H H' s.heap h')(hok:dy X.prog X.w H' h'):Inv X ah σ H' { s with heap:=h',toks:=t' }:=by
 obtain⟨m,⟨o,es,ep,ho,r⟩,_⟩:=id I.loc;obtain⟨sl,hL⟩:=u.any ho I.free (by simp);exact I.step (g':=s.gens) (d':=s.drawn) (ch:=[]) (λ_ z=>nomatch z) (λb o _ hb _ e n=>u.keep b o e n hb (by simp)) (λb o _ hb _ e n=>u.slot b o e n hb (by simp)) (λb o _ e n=>u.free b o e n (by simp)) (λb o _ e=>u.there b o e (by simp)) u.tups u.mD u.mE (λm' hm=>by
  obtain⟨o',es',ep',ho',r'⟩:=hm;rw[ho]at ho';cases ho';exact⟨_,es',ep',hL,r'⟩) hok I.bare
theorem Inv.call{g':Array GenState}{t':Nat}{d':Drawn}{ch:List ai}(I:Inv X ah σ H s)(u:Un (frs X.stack) ch H H' s.heap h')(hok:dy X.prog X.w H' h')(hg:oO g')
 (hch:∀b∈ch,(b∈X.ex\/X.s₀.heap.objs.size<=b)/\b≠X.env.locals/\(∀x c,X.env.cells.lookup x=ab c->c≠b)/\∀p∈X.pn++ah,p.1≠b) :
 Inv X ah σ H' { s with heap:=h',gens:=g',drawn:=d',toks:=t' }:=by
 obtain⟨m,⟨o,es,ep,ho,r⟩,_⟩:=id I.loc;obtain⟨sl,hL⟩:=u.any ho I.free λz=>(hch _ z).2.1 rfl;exact I.step (ch:=ch) hch (λb o hL hb hc e n=>u.keep b o e n (λz=>(bB.mp (I.tw b z)).elim hL hb) hc) (λb o _ _ hc e n=>u.any e n hc) (λb o hc e n=>u.free b o e n hc) (λb o hc e=>u.there b o e hc) u.tups u.mD u.mE (λm' hm=>by
  obtain⟨o',es',ep',ho',r'⟩:=hm;rw[ho]at ho';cases ho';exact⟨_,es',ep',hL,r'⟩) hok hg
theorem Inv.turned{t':Nat}{it:ai}(I:Inv X ah σ H s)(k:∀b o,b≠it->s.heap.get? b=ab o->h'.get? b=ab o)(hn:H it=ae)(hL:it≠X.env.locals)
 (h1:it∈X.ex\/X.s₀.heap.objs.size<=it) (h2:∀x c,X.env.cells.lookup x=ab c->c≠it) (h3:∀p∈X.pn++ah,p.1≠it):Inv X ah σ H { s with heap:=h',toks:=t' }:=by
 have nit:∀b u,H b=ab u->b≠it:=λb u e z=>by rw[z,hn]at e;cases e
 refine I.step (g':=s.gens) (d':=s.drawn) (ch:=[it]) (λb hb=>?_) (λb o _ _ hc e _=>k b o (λz=>hc (by simp[z])) e) (λb o _ _ hc e _=>⟨o.slots,k b o (λz=>hc (by simp[z])) e⟩) (λ_ _ _ _ n=>n)
  (λb o hc e=>⟨o,k b o (λz=>hc (by simp[z])) e⟩) (λ_ _ e=>e) (λ_ _ _ e=>e) (λb w ps e=>⟨#[],by rw[e];simp⟩) (λm hm=>?_) (λb u e=>?_) I.bare
 ·have e:b=it:=by simpa using hb
  subst e;exact⟨h1,hL,h2,h3⟩
 ·obtain⟨o,es,ep,ho,r⟩:=hm;exact⟨o,es,ep,k _ o (fJ hL) ho,r⟩
 ·refine(I.hok b u e).stay (λc v hc q=>k c v ?_ q) (λ_ q=>q) λ_ _ q=>q;rcases hc with z|z
  ·rw[z];exact nit b u e
  ·exact nit c _ z
theorem Inv.tok(I:Inv X ah σ H s)(t:Nat):Inv X ah σ H { s with toks:=t }:=I.un (h':=s.heap) (t':=t) Un.refl I.hok
theorem Inv.kept{t':Nat}(I:Inv X ah σ H s)(k:∀b u,s.heap.get? b=ab u->h'.get? b=ab u):Inv X ah σ H { s with heap:=h',toks:=t' }:=I.un (Un.kept k) (I.hok.kept k)
theorem Inv.laid{a:ai}{o:HO}{t':Nat}(I:Inv X ah σ H s)(k:∀b u,s.heap.get? b=ab u->h'.get? b=ab u)(hp:s.heap.objs.size<=a)(new:dD X.prog X.w (upd H a o) h' a o) :
 Inv X ah σ (upd H a o) { s with heap:=h',toks:=t' }:=I.un (Un.laid k hp (I.hok.fresh hp)) (I.hok.laid k hp new)
theorem Inv.write{x e:ai}{o:HO}{t':Nat}(I:Inv X ah σ H s)(mu:ur (H x))(he:e=x\/H e=ab (.own x))(k:∀b u,b≠e->s.heap.get? b=ab u->h'.get? b=ab u)(heo:∃u,h'.get? e=ab u)
 (new:dD X.prog X.w (upd H x o) h' x o):Inv X ah σ (upd H x o) { s with heap:=h',toks:=t' }:=I.un (Un.write mu he k heo) (I.hok.write mu he k heo new)
theorem Inv.weak{σ':List (Option V)}(I:Inv X ah σ H s)(hl:σ'.length = σ.length)(w:∀(i:Nat) v,σ'[i]? = ab (ab v)->σ[i]? = ab (ab v)):Inv X ah σ' H s:=⟨I.ok,I.os,I.bare,I.base,let ⟨m,hn,hl'⟩:=I.loc;⟨m,hn,λi x v e1 e2 e3=>hl' i x v e1 (w i v e2) e3⟩,I.cell,I.free,I.kO,I.pin,I.hok,hl.trans I.len⟩
theorem Inv.Ak{sN:List (ai×Obj)}(I:Inv X ah σ H s)(h:∀p∈sN,s.heap.get? p.1=ab p.2/\H p.1=ae/\p.1≠X.env.locals/\p.1∉X.fs/\∀v,p.2.data≠.cell v):Inv X sN σ H s:=⟨I.ok,I.os,I.bare,I.base,I.loc,I.cell,I.free,I.kO,λp hp=>(bT.mp hp).elim (λz=>I.pin p (eo _ z)) (h p),I.hok,I.len⟩
theorem Gm{N:List Str}(hN:N.Nodup){i j:Nat}{x:Str}(a:N[i]? = ab x)(b:N[j]? = ab x):i=j:=by obtain⟨h1,e1⟩:=cv.mp a;obtain⟨h2,e2⟩:=cv.mp b;exact(qj hN).mp (e1.trans e2.symm)
theorem Gc{M:Model}{A:b9}{E:aj->aB->Prop}{i:Nat}{x:Str}{v:V}{u:aj}{Q:Unit->aB->Prop}(I:Inv X ah σ H s)(hN:X.N.Nodup)(hi:X.N[i]? = ab x)(hx:Loc X.env.scope x)(r:RelV v u)
 (h:∀s',Inv X ah (σ.set i (ab v)) H s'->(∃a,oM a s.heap s'.heap/\(a=X.env.locals\/X.env.cells.lookup x=ab a))->Q () s') (hf:X.fn x=true\/X.env.scope.names.lookup x=ab .local:=by first|exact .inl rfl|exact .inr rfl|assumption):wpAny M A (storeName X.env x u) Q E s:=by
 obtain⟨m,hn,hl⟩:=id I.loc;have hcls:(X.env.scope.kind==.class||(X.env.scope.kind==.module&&X.env.locals != X.env.globals))=false:=by rw[I.ok.kind];rfl
 have hiσ:i < σ.length:=by rw[I.len];exact(cv.mp hi).1
 have oa:=I.oa;have tracked:∀{a:ai} {h':aZ},(∃o,s.heap.get? a=ab o/\H a=ae)->oM a s.heap h'->dy X.prog X.w H h':=λ{a h'} ha hs b ob e=>by
  obtain⟨_,_,hfree⟩:=ha;refine(I.hok b ob e).stay (λc w' hc q=>(hs.2 c ?_).trans q) (λ_ q=>q) λ_ _ q=>q;rintro rfl;rcases hc with rfl|hc
  ·rw[hfree]at e;cases e
  ·rw[hfree]at hc;cases hc
 rcases hx with hk|hk
 ·refine wpAny_storeName_local hk hn (λh' hn' hs=>?_) hcls;obtain⟨oL,_,_,hoL,_⟩:=id hn;refine h _ ⟨I.ok,I.os,I.bare,⟨λb o e n hb hx=>?_,λb o e n hb hx=>?_,I.base.free,λb o e hx=>?_,I.base.tups,I.base.mD,I.base.mE⟩,⟨_,hn',λj y v' e1 e2 e3=>?_⟩,λy c e=>?_,I.free,I.kO,λp hp=>?_,tracked ⟨oL,hoL,I.free⟩ hs,by simpa using I.len⟩ ⟨_,hs,.inl rfl⟩
  ·exact(hs.2 b (gQ (g7 (cG e) I.ok.above))).trans (I.base.keep b o e n hb hx)
  ·obtain⟨sl,e1⟩:=I.base.slot b o e n hb hx;exact⟨sl,(hs.2 b (gQ (g7 (cG e) I.ok.above))).trans e1⟩
  ·obtain⟨o',e1⟩:=I.base.there b o e hx;exact⟨o',(hs.2 b (gQ (g7 (cG e) I.ok.above))).trans e1⟩
  ·by_cases hj:j=i
   ·subst hj;rw[hi]at e1;cases e1;rw[lg hiσ]at e2;cases e2;exact⟨u,r,.inl ⟨hk,by simp⟩⟩
   ·rw[fI (fJ hj)]at e2;obtain⟨u',r',q⟩:=hl j y v' e1 e2 e3;refine⟨u',r',?_⟩;rcases q with ⟨k,e⟩|⟨k,c,e,z⟩
    ·refine .inl ⟨k,?_⟩;have:y≠x:=λe=>hj (Gm hN e1 (e ▸ hi));simp[this,e]
    ·exact .inr ⟨k,c,e,z.sameBut hs (oa y c e)⟩
  ·obtain⟨w',z⟩:=I.cell y c e;exact⟨w',z.sameBut hs (oa y c e)⟩
  ·obtain⟨e,n,ne,nf,d⟩:=I.pin p hp;exact⟨(hs.2 p.1 ne).trans e,n,ne,nf,d⟩
 ·have hfn:X.fn x=true:=by
   rcases hf with z|z
   ·exact z
   ·rw[z]at hk;cases hk
  obtain⟨c,hc⟩:=I.ok.has x (.inl hk);obtain⟨w',z⟩:=I.cell x c hc;refine wpAny_storeName_cell I.ok.kind hk hc z (λh' hc' hs=>?_);obtain⟨oc,hoc,TF⟩:=id z;refine h { s with heap:=h' } ⟨I.ok,I.os,I.bare,⟨λb o e n hb hx=>?_,λb o e n hb hx=>?_,I.base.free,λb o e hx=>?_,I.base.tups,I.base.mD,I.base.mE⟩,⟨m,hn.sameBut hs (fJ (oa x c hc)),λj y v' e1 e2 e3=>?_⟩,λy c' e=>?_,I.free,I.kO,λp hp=>?_,tracked ⟨oc,hoc,I.kO x c hc⟩ hs,by simpa using I.len⟩ ⟨c,hs,.inr hc⟩
  ·exact(hs.2 b (gQ (g7 (cG e) (I.ok.cab x c hfn hc)))).trans (I.base.keep b o e n hb hx)
  ·obtain⟨sl,e1⟩:=I.base.slot b o e n hb hx;exact⟨sl,(hs.2 b (gQ (g7 (cG e) (I.ok.cab x c hfn hc)))).trans e1⟩
  ·obtain⟨o',e1⟩:=I.base.there b o e hx;exact⟨o',(hs.2 b (gQ (g7 (cG e) (I.ok.cab x c hfn hc)))).trans e1⟩
  ·by_cases hj:j=i
   ·subst hj;rw[hi]at e1;cases e1;rw[lg hiσ]at e2;cases e2;exact⟨u,r,.inr ⟨.inl hk,c,hc,hc'⟩⟩
   ·rw[fI (fJ hj)]at e2;obtain⟨u',r',q⟩:=hl j y v' e1 e2 e3;refine⟨u',r',?_⟩;rcases q with q|⟨k,c',e,z'⟩
    ·exact .inl q
    ·refine .inr ⟨k,c',e,z'.sameBut hs ?_⟩;rintro rfl;exact hj (Gm hN e1 (I.ok.inj _ _ _ e hc ▸ hi))
  ·by_cases hcc:c'=c
   ·subst hcc;exact⟨_,hc'⟩
   ·obtain⟨w2,z2⟩:=I.cell y c' e;exact⟨w2,z2.sameBut hs hcc⟩
  ·obtain⟨e,n,ne,nf,d⟩:=I.pin p hp;refine⟨(hs.2 p.1 ?_).trans e,n,ne,nf,d⟩;intro q;rw[q,hoc]at e;have q':oc=p.2:=iq e;exact d w' (by rw[<- q'];exact TF)
theorem EZ{M:Model}{A:b9}{E:aj->aB->Prop}{i:Nat}{x:Str}{v:V}{u:aj}{Q:Unit->aB->Prop}(I:Inv X ah σ H s)(hN:X.N.Nodup)(hi:X.N[i]? = ab x)(hx:Loc X.env.scope x)(r:RelV v u)
 (h:∀s',Inv X ah (σ.set i (ab v)) H s'->Q () s') (hf:X.fn x=true\/X.env.scope.names.lookup x=ab .local:=by first|exact .inl rfl|exact .inr rfl|assumption):wpAny M A (storeName X.env x u) Q E s:=
 Gc I hN hi hx r (λs' I' _=>h s' I') hf
theorem Inv.call'{s':aB}{ch:List ai}(I:Inv X ah σ H s)(ho:s'.os=s.os)(u:Un (frs X.stack) ch H H' s.heap s'.heap)(hok:dy X.prog X.w H' s'.heap)(hg:oO s'.gens)
 (hch:∀b∈ch,(b∈X.ex\/X.s₀.heap.objs.size<=b)/\b≠X.env.locals/\(∀x c,X.env.cells.lookup x=ab c->c≠b)/\∀p∈X.pn++ah,p.1≠b):Inv X ah σ H' s':=by
 obtain⟨h',g',d',t',o'⟩:=s';have e:o'=s.os:=ho;subst e;exact I.call (g':=g') (t':=t') (d':=d') u hok hg hch
end
abbrev XK:=aj->Option ai->Hp->Prop
abbrev St:=List (Option V)
abbrev VK:=V->Hp->Prop
abbrev TE:=St->Hp->VK->Prop
abbrev TT:=St->Hp->(Bool->Hp->Prop)->Prop
abbrev TA:=St->Hp->(List V->Hp->Prop)->Prop
structure Ends where
 nx:St->Hp->Prop
 rt:VK
 bk:St->Hp->Prop:=λ_ _=>False
 ct:St->Hp->Prop:=λ_ _=>False
abbrev TS:=Ends->St->Hp->Prop
def EP(X:Cx)(ah:List (ai×Obj))(σ:St)(Q:VK)(u:aj)(s':aB):Prop:=∃v H',Inv X ah σ H' s'/\RelV v u/\Q v H'
def TP(X:Cx)(ah:List (ai×Obj))(σ:St)(Q:Bool->Hp->Prop)(b:Bool)(s':aB):Prop:=∃H',Inv X ah σ H' s'/\Q b H'
def AP(X:Cx)(ah:List (ai×Obj))(σ:St)(Q:List V->Hp->Prop)(us:List aj)(s':aB):Prop:=∃vs H',Inv X ah σ H' s'/\Vals vs us/\Q vs H'
def SP(X:Cx)(ah:List (ai×Obj))(D:Ends)(f:Flow)(s':aB):Prop:=
 match f with
 |.next=>∃σ' H',Inv X ah σ' H' s'/\D.nx σ' H'
 |.brk=>∃σ' H',Inv X ah σ' H' s'/\D.bk σ' H'
 |.cont=>∃σ' H',Inv X ah σ' H' s'/\D.ct σ' H'
 |.ret u=>∃v σ' H',Inv X ah σ' H' s'/\RelV v u/\D.rt v H'
def PE(X:Cx)(e:a9)(t:TE):Prop:=∀(ah:List (ai×Obj)) (s:aB) (σ:St) (H:Hp) (Q:VK),Inv X ah σ H s->t σ H Q->wpAny (model X.prog X.w) X.A (eval e X.env) (EP X ah σ Q) X.xe s
def PT(X:Cx)(e:a9)(t:TT):Prop:=∀(ah:List (ai×Obj)) (s:aB) (σ:St) (H:Hp) (Q:Bool->Hp->Prop),Inv X ah σ H s->t σ H Q->wpAny (model X.prog X.w) X.A (isTrue e X.env (eval e X.env)) (TP X ah σ Q) X.xe s
def PW(X:Cx)(e:a9)(t:TT):Prop:=∀(whole:Sem aj) (ah:List (ai×Obj)) (s:aB) (σ:St) (H:Hp) (Q:Bool->Hp->Prop),Inv X ah σ H s->t σ H Q->wpAny (model X.prog X.w) X.A (isTrue e X.env whole) (TP X ah σ Q) X.xe s
theorem PW.pt{X:Cx}{e:a9}{t:TT}(h:PW X e t):PT X e t:=h _
def PA(X:Cx)(es:List a9)(t:TA):Prop:=∀(pos:Pos) (ah:List (ai×Obj)) (s:aB) (σ:St) (H:Hp) (Q:List V->Hp->Prop),Inv X ah σ H s->t σ H Q->wpAny (model X.prog X.w) X.A (spliced (backTo pos (starEach es X.env))) (AP X ah σ Q) X.xe s
def PS(X:Cx)(st:bC)(t:TS):Prop:=∀(ah:List (ai×Obj)) (s:aB) (σ:St) (H:Hp) (D:Ends),Inv X ah σ H s->t D σ H->wpAny (model X.prog X.w) X.A (exec st X.env) (SP X ah D) X.xe s
def io(X:Cx)(st:List bC)(t:TS):Prop:=∀(ah:List (ai×Obj)) (s:aB) (σ:St) (H:Hp) (D:Ends),Inv X ah σ H s->t D σ H->wpAny (model X.prog X.w) X.A (execs st X.env) (SP X ah D) X.xe s
theorem bb{α:Type}{t:Sem α}{Q Q':α->aB->Prop}{M:Model}{A:b9}{E:aj->aB->Prop}{s:aB}(h:wpAny M A t Q E s)(hQ:∀a s,Q a s->Q' a s):wpAny M A t Q' E s:=jY h hQ λ_ _ x=>x
section
variable{X:Cx}
def fk(i:Nat):TE:=λσ H Q=>∃v,σ[i]? = ab (ab v)/\Q v H
def tC(v:V):TE:=λ_ H Q=>Q v H
theorem P0{i:Nat}{x:Str}{pos:Pos}(hN:X.N[i]? = ab x)(hv:uc X.env.scope x)(hd:(x==("__debug__" : Str))=false:=by decide)(hcd:(x==("__classdict__" : Str))=false:=by decide):PE X (.Name x pos) (fk i):=by
 intro ah s σ H Q I h;obtain⟨v,e,h⟩:=h;obtain⟨m,hn,hl⟩:=I.loc;obtain⟨u,r,l⟩:=hl i x v hN e hv;have fin:EP X ah σ Q u s:=⟨v,H,I,r,h⟩;rcases l with ⟨hk,hm⟩|⟨hk,c,hc,hcell⟩
 ·exact wpAny_Name (wpAny_loadName_local I.ok.kind hk hn hm fin) hd
 ·rcases hk with hk|hk
  ·exact wpAny_Name (wpAny_loadName_cell I.ok.kind hk hc hcell fin) hd
  ·exact wpAny_Name (wpAny_loadName_free I.ok.kind hk hc hcell fin hcd) hd
theorem aI{i j pos}:PE X (.Constant (.int i) j pos) (tC (.int i)):=λ_ _ _ H _ I h=>wpAny_Constant_int ⟨.int i,H,I.tok _,⟨_,rfl⟩,h⟩
theorem je{b j pos}:PE X (.Constant (.bool b) j pos) (tC (.bl b)):=λ_ _ _ H _ I h=>Constant_bool ⟨.bl b,H,I,rfl,h⟩
theorem Mc{j pos}:PE X (.Constant .none j pos) (tC .non):=λ_ _ _ H _ I h=>Constant_none ⟨.non,H,I,rfl,h⟩
theorem qc{x j pos}:PE X (.Constant (.str x) j pos) (tC (.str x)):=λ_ _ _ H _ I h=>Calls.Constant_str ⟨.str x,H,I.tok _,⟨_,rfl⟩,h⟩
def Gl(X:Cx)(x:Str):Prop:=X.env.kindOf x=ab .globalImplicit
theorem A2{E:aj->aB->Prop}{ah:List (ai×Obj)}{s:aB}{σ:St}{H:Hp}{x:Str}{u:aj}{pos:Pos}{Q:aj->aB->Prop}(I:Inv X ah σ H s)(hg:Gl X x)(hm:X.mg x=ab u)(h:Q u s)
 (hd:(x==("__debug__" : Str))=false:=by decide):wpAny (model X.prog X.w) X.A (eval (.Name x pos) X.env) Q E s:=
 Ka I.ok.kind hg (Calls.loadGlobal_global (by rw[I.ok.glob];exact I.mod.glob.keeps I.bk) hm h) hd
theorem o1{E:aj->aB->Prop}{ah:List (ai×Obj)}{s:aB}{σ:St}{H:Hp}{x:Str}{u:aj}{pos:Pos}{Q:aj->aB->Prop}(I:Inv X ah σ H s)(hg:Gl X x)(hm:X.mg x=ae)(hv:bootBuiltins x=ab u)(h:Q u s)
 (hn:x ≠ "__name__" := by decide) (hd:(x==("__debug__" : Str))=false:=by decide):wpAny (model X.prog X.w) X.A (eval (.Name x pos) X.env) Q E s:=by
 obtain⟨mb,h1,h2⟩:=I.mod.blt;exact Ka I.ok.kind hg (Calls.loadGlobal_builtin (by rw[I.ok.glob];exact I.mod.glob.keeps I.bk) hm (by rw[I.ok.blt];exact h1.keeps I.bk) ((h2 x hn).trans hv) h) hd
theorem E3{x:Str}{v:V}{u:aj}{pos:Pos}(hg:Gl X x)(hm:X.mg x=ab u)(r:RelV v u)(hd:(x==("__debug__" : Str))=false:=by decide):PE X (.Name x pos) (tC v):=λ_ _ _ H _ I h=>A2 I hg hm ⟨v,H,I,r,h⟩ hd
theorem RH{x:Str}{v:V}{u:aj}{pos:Pos}(hg:Gl X x)(hm:X.mg x=ae)(hv:bootBuiltins x=ab u)(r:RelV v u)(hn:x ≠ "__name__" := by decide)(hd:(x==("__debug__" : Str))=false:=by decide):PE X (.Name x pos) (tC v):=λ_ _ _ H _ I h=>o1 I hg hm hv ⟨v,H,I,r,h⟩ hn hd
variable{a b:a9}{ta tb:TE}{pos:Pos}
def PC(X:Cx)(op:CmpOp)(a b:a9)(t:TE):Prop:=
 ∀(ah:List (ai×Obj)) (s:aB) (σ:St) (H:Hp) (Q:VK),Inv X ah σ H s->t σ H Q ->
  wpAny (model X.prog X.w) X.A (eval a X.env) (λv s₁=>wpAny (model X.prog X.w) X.A (eval b X.env) (λu s₂=>wpAny (model X.prog X.w) X.A (compareOp op v u) (EP X ah σ Q) X.xe s₂) X.xe s₁) X.xe s
def tB(t:TE):TT:=λσ H Q=>t σ H λx H1=>∃c,x=.bl c/\Q c H1
theorem xM{op:CmpOp}{t:TE}(h:PC X op a b t)(h1:behindInMarks op b=false:=by first|exact Ue _ (by decide) (by decide)|rfl):PT X (.Compare a [op] [b] pos) (tB t):=by intro ah s σ H Q I hw;refine wpAny_isTrue_Compare1 (bb (h ah s σ H _ I hw) λv s1 h1=>bb h1 λu s2 h2=>bb h2 λc s3 ⟨x,H1,I1,r1,q1⟩=>?_) h1;obtain⟨d,rfl,q⟩:=q1;cases r1;exact oG ⟨H1,I1,q⟩
theorem mT{e:a9}{t:TE}(h:PE X e t)(he:∀whole,isTrue e X.env whole=(do let v <- whole;standAt e.pos;holding [v] (truthy v)):=by intro _;rfl):PT X e (tB t):=by intro ah s σ H Q I hw;refine isTrue_plain (bb (h ah s σ H _ I hw) λv s1 ⟨x,H1,I1,r1,q1⟩=>?_) (he _);obtain⟨d,rfl,q⟩:=q1;cases r1;exact oG ⟨H1,I1,q⟩
variable{tA tB':TT}{rest:List a9}
def Hq(t u:TT):TT:=λσ H Q=>t σ H λc H1=>if c=true then u σ H1 Q else Q false H1
def Ji(t u:TT):TT:=λσ H Q=>t σ H λc H1=>if c=true then Q true H1 else u σ H1 Q
def F9(t:TT):TT:=λσ H Q=>t σ H λc H1=>Q (!c) H1
theorem pw_and1(ha:PT X a tA):PW X (.BoolOp .And [a] pos) tA:=by
 intro wh ah s σ H Q I h;refine isTrue_and (bb (ha ah s σ H Q I h) λc s1 e=>?_);cases c with
 |true=>exact isTrue_and_nil e
 |false=>exact e
theorem pw_or1(ha:PT X a tA):PW X (.BoolOp .Or [a] pos) tA:=by
 intro wh ah s σ H Q I h;refine isTrue_or (bb (ha ah s σ H Q I h) λc s1 e=>?_);cases c with
 |false=>exact isTrue_or_nil e
 |true=>exact e
theorem pw_and(ha:PT X a tA)(hb:PW X (.BoolOp .And (b::rest) pos) tB'):PW X (.BoolOp .And (a::b::rest) pos) (Hq tA tB'):=by
 intro wh ah s σ H Q I h;refine isTrue_and (bb (ha ah s σ H _ I h) λc s1 ⟨H1,I1,q1⟩=>?_);cases c with
 |true=>exact hb wh ah s1 σ H1 Q I1 q1
 |false=>exact⟨H1,I1,q1⟩
theorem pw_or(ha:PT X a tA)(hb:PW X (.BoolOp .Or (b::rest) pos) tB'):PW X (.BoolOp .Or (a::b::rest) pos) (Ji tA tB'):=by
 intro wh ah s σ H Q I h;refine isTrue_or (bb (ha ah s σ H _ I h) λc s1 ⟨H1,I1,q1⟩=>?_);cases c with
 |true=>exact⟨H1,I1,q1⟩
 |false=>exact hb wh ah s1 σ H1 Q I1 q1
theorem uA(ha:PT X a tA):PT X (.UnaryOp .Not a pos) (F9 tA):=by intro ah s σ H Q I h;exact isTrue_not (ha ah s σ H (λc H1=>Q (!c) H1) I h)
def HA(ta tb:TE):TE:=λσ H Q=>ta σ H λx H1=>∃c,x=.bl c/\if c=true then tb σ H1 Q else Q (.bl false) H1
def E8(ta tb:TE):TE:=λσ H Q=>ta σ H λx H1=>∃c,x=.bl c/\if c=true then Q (.bl true) H1 else tb σ H1 Q
def Jo(ta:TE):TE:=λσ H Q=>ta σ H λx H1=>∃c,x=.bl c/\Q (.bl (!c)) H1
theorem rZ{op}{t:TE}(h:PE X a t):PE X (.BoolOp op [a] pos) t:=λah s σ H Q I hw=>BoolOp_one (h ah s σ H Q I hw)
theorem wr(ha:PE X a ta)(hb:PE X (.BoolOp .And (b::rest) pos) tb):PE X (.BoolOp .And (a::b::rest) pos) (HA ta tb):=by
 intro ah s σ H Q I h;refine BoolOp_and (bb (ha ah s σ H _ I h) λv s1 ⟨x,H1,I1,r1,q1⟩=>?_);obtain⟨c,rfl,q1⟩:=q1;cases r1;refine oG ?_;cases c with
 |true=>exact hb ah s1 σ H1 Q I1 q1
 |false=>exact⟨.bl false,H1,I1,rfl,q1⟩
theorem zZ(ha:PE X a ta)(hb:PE X (.BoolOp .Or (b::rest) pos) tb):PE X (.BoolOp .Or (a::b::rest) pos) (E8 ta tb):=by
 intro ah s σ H Q I h;refine BoolOp_or (bb (ha ah s σ H _ I h) λv s1 ⟨x,H1,I1,r1,q1⟩=>?_);obtain⟨c,rfl,q1⟩:=q1;cases r1;refine oG ?_;cases c with
 |false=>exact hb ah s1 σ H1 Q I1 q1
 |true=>exact⟨.bl true,H1,I1,rfl,q1⟩
theorem Sx(ha:PE X a ta):PE X (.UnaryOp .Not a pos) (Jo ta):=by intro ah s σ H Q I h;refine UnaryOp_ (bb (ha ah s σ H _ I h) λv s1 ⟨x,H1,I1,r1,q1⟩=>?_);obtain⟨c,rfl,q1⟩:=q1;cases r1;exact not_of (oG ⟨.bl (!c),H1,I1,rfl,q1⟩)
def D2(t:TT)(ta tb:TE):TE:=λσ H Q=>t σ H λc H1=>if c=true then ta σ H1 Q else tb σ H1 Q
theorem vj{c:a9}(hc:PT X c tA)(ha:PE X a ta)(hb:PE X b tb):PE X (.IfExp c a b pos) (D2 tA ta tb):=by
 intro ah s σ H Q I h;refine wpAny_IfExp (bb (hc ah s σ H _ I h) λd s1 ⟨H1,I1,q1⟩=>?_);cases d with
 |true=>exact ha ah s1 σ H1 Q I1 q1
 |false=>exact hb ah s1 σ H1 Q I1 q1
end
def eY(K:aU)(H:Hp)(a:ai)(xs:List V):Prop:=
 Rd H a (.lst xs) \/
  ∃(o:Obj) (av:Array aj) (n:Nat),K.lookup a=ab o/\o.cls=.type "list" /\ o.dict=ae/\o.data=.seq av n/\av.size<=sizeLine/\Vals xs av.toList
def fK(K:aU)(H:Hp)(a:ai)(xs:List V):Prop:=
 Rd H a (.tup xs) \/
  ∃(o:Obj) (av:Array aj) (n:Nat),K.lookup a=ab o/\o.cls=.type "tuple" /\ o.data=.seq av n/\av.size<=sizeLine/\Vals xs av.toList
def Q6:aj->Option V
 |.none=>ab .non
 |.bool b=>ab (.bl b)
 |.int i _=>ab (.int i)
 |.str x _=>ab (.str x)
 |.bytes b _=>ab (.byt b)
 |.float b _=>ab (.flt b)
 |.ref a=>ab (.ref a)
 |.type n=>ab (.ty n)
 |_=>ae
theorem RelV.abs{x:V}{u:aj}(r:RelV x u):Q6 u=ab x:=by
 cases x with
 |non=>cases r;rfl
 |bl _=>cases r;rfl
 |int _=>obtain⟨t,rfl⟩:=r;rfl
 |str _=>obtain⟨t,rfl⟩:=r;rfl
 |byt _=>obtain⟨t,rfl⟩:=r;rfl
 |flt _=>obtain⟨t,rfl⟩:=r;rfl
 |ref _=>cases r;rfl
 |ty _=>cases r;rfl
theorem RelV.inj{x y:V}{u:aj}(r:RelV x u)(q:RelV y u):x=y:=iq (r.abs.symm.trans q.abs)
theorem Vals.inj:∀{xs ys:List V} {us:List aj},Vals xs us->Vals ys us->xs=ys
 |_,_,_,.nil,.nil=>rfl
 |_,_,_,.cons r t,.cons r' t'=>by rw[r.inj r',Vals.inj t t']
section
variable{X:Cx}{ah:List (ai×Obj)}{σ:St}{H:Hp}{s:aB}{a:ai}{xs ys:List V}
theorem Inv.list(I:Inv X ah σ H s)(h:eY X.K H a xs):∃av:List aj,Vals xs av/\PlainL s.heap a av.toArray/\xs.length<=sizeLine:=by
 rcases h with h|⟨o,av,n,hk,hc,hd,hs,hz,r⟩
 ·obtain⟨z,av,n,r,e⟩:=h.ok I.hok;exact⟨av,r,⟨_,n,e,rfl,rfl,rfl⟩,z⟩
 ·refine⟨av.toList,r,⟨o,n,I.gC a o hk,hc,hd,by simpa using hs⟩,?_⟩;have e:=r.length;simp only[J9]at e;omega
theorem Inv.tuple(I:Inv X ah σ H s)(h:fK X.K H a xs):∃av:List aj,Vals xs av/\IsTup s.heap a av.toArray/\xs.length<=sizeLine:=by
 rcases h with h|⟨o,av,n,hk,hc,hs,hz,r⟩
 ·obtain⟨z,av,r,p⟩:=h.ok I.hok;exact⟨av,r,p.tup,z⟩
 ·refine⟨av.toList,r,⟨o,I.gC a o hk,hc,n,by simpa using hs⟩,?_⟩;have e:=r.length;simp only[J9]at e;omega
theorem Inv.BY(I:Inv X ah σ H s)(h:eY X.K H a xs)(h':eY X.K H a ys):xs=ys:=by
 obtain⟨av,r,⟨o,n,e,_,_,d⟩,_⟩:=I.list h;obtain⟨its',r',⟨o',n',e',_,_,d'⟩,_⟩:=I.list h';rw[e]at e';cases e';rw[d]at d';injection d' with d1 _;have:av=its':=by simpa using congrArg Array.toList d1
 subst this;exact r.inj r'
theorem Inv.zk(I:Inv X ah σ H s)(h:fK X.K H a xs)(h':fK X.K H a ys):xs=ys:=by
 obtain⟨av,r,⟨o,e,_,n,d⟩,_⟩:=I.tuple h;obtain⟨its',r',⟨o',e',_,n',d'⟩,_⟩:=I.tuple h';rw[e]at e';cases e';rw[d]at d';injection d' with d1 _;have:av=its':=by simpa using congrArg Array.toList d1
 subst this;exact r.inj r'
end
abbrev Cx.wish(X:Cx)(E:aj->aB->Prop):Cx:={ X with xe:=E }
abbrev Cx.lV(X:Cx):Cx:=X.wish λ_ _=>False
theorem Cx.Ok.wish{X:Cx}(ok:X.Ok)(E:aj->aB->Prop):(X.wish E).Ok:=⟨ok.mod,ok.kind,ok.glob,ok.blt,ok.above,ok.inj,ok.has,ok.cab,ok.hd,ok.frames,ok.stk,ok.exf,ok.bs,ok.bsz,ok.vI,ok.yE,ok.jG,ok.frf⟩
theorem Cx.Ok.nL{X:Cx}{E:aj->aB->Prop}(ok:(X.wish E).Ok):X.Ok:=⟨ok.mod,ok.kind,ok.glob,ok.blt,ok.above,ok.inj,ok.has,ok.cab,ok.hd,ok.frames,ok.stk,ok.exf,ok.bs,ok.bsz,ok.vI,ok.yE,ok.jG,ok.frf⟩
section
variable{X:Cx}{ah:List (ai×Obj)}{σ:St}{H:Hp}{s:aB}{E:aj->aB->Prop}
theorem Inv.wish(I:Inv X ah σ H s)(E:aj->aB->Prop):Inv (X.wish E) ah σ H s:=⟨I.ok.wish E,I.os,I.bare,I.base,I.loc,I.cell,I.free,I.kO,I.pin,I.hok,I.len⟩
theorem Inv.nL(I:Inv (X.wish E) ah σ H s):Inv X ah σ H s:=⟨I.ok.nL,I.os,I.bare,I.base,I.loc,I.cell,I.free,I.kO,I.pin,I.hok,I.len⟩
theorem SP.nL{D:Ends}{f:Flow}{s':aB}(h:SP (X.wish E) ah D f s'):SP X ah D f s':=by
 cases f with
 |next=>obtain⟨σ',H',I,q⟩:=h;exact⟨σ',H',I.nL,q⟩
 |brk=>obtain⟨σ',H',I,q⟩:=h;exact⟨σ',H',I.nL,q⟩
 |cont=>obtain⟨σ',H',I,q⟩:=h;exact⟨σ',H',I.nL,q⟩
 |ret u=>obtain⟨v,σ',H',I,r,q⟩:=h;exact⟨v,σ',H',I.nL,r,q⟩
theorem io.lV{st:List bC}{t:TS}(h:io X.lV st t):io X st t:=λah s σ H D I hw=>
 jY (h ah s σ H D (I.wish _) hw) (λ_ _ q=>q.nL) λ_ _ z=>iW z
end
section
variable{X:Cx}{st:bC}{rest:List bC}{t u:TS}{e:a9}{te:TE}{pos:Pos}
def wP:TS:=λD σ H=>D.nx σ H
def nR(t u:TS):TS:=λD σ H=>t { D with nx:=u D } σ H
theorem d9:io X [] wP:=λ_ _ σ H _ I h=>yg ⟨σ,H,I,h⟩
theorem aY(h1:PS X st t)(h2:io X rest u):io X (st::rest) (nR t u):=by
 intro ah s σ H D I h;refine wpAny_execs_cons (bb (h1 ah s σ H { D with nx:=u D } I h) λf s1 q=>?_);cases f with
 |next=>
  obtain⟨σ',H',I',q⟩:=q;exact h2 ah s1 σ' H' D I' q
 |ret v=>exact q
 |brk=>exact q
 |cont=>exact q
theorem a5(h1:PS X st t):io X [st] t:=by
 intro ah s σ H D I h;refine wpAny_execs_cons (bb (h1 ah s σ H D I h) λf s1 q=>?_);cases f with
 |next=>exact yg q
 |ret v=>exact q
 |brk=>exact q
 |cont=>exact q
theorem Inv.quiet{ah:List (ai×Obj)}{σ:St}{H:Hp}{s:aB}(I:Inv X ah σ H s):interactive X.env=false:=by simp[interactive,I.ok.kind]
def oU(te:TE):TS:=λD σ H=>te σ H λ_ H1=>D.nx σ H1
theorem eG(he:PE X e te)(hs:swapsWith e ae pos.line X.env=pure false:=by rfl):PS X (.Expr e pos) (oU te):=by intro ah s σ H D I h;exact wpAny_Expr_any (bb (he ah s σ H _ I h) λv s1 ⟨x,H1,I1,r1,q1⟩=>⟨σ,H1,I1,q1⟩) I.quiet hs
def pB(te:TE):TS:=λD σ H=>te σ H D.rt
theorem cg(he:PE X e te):PS X (.Return (ab e) pos) (pB te):=by intro ah s σ H D I h;exact wpAny_Return_some (bb (he ah s σ H _ I h) λv s1 ⟨x,H1,I1,r1,q1⟩=>⟨x,σ,H1,I1,r1,q1⟩)
def uJ(c:TT)(t u:TS):TS:=λD σ H=>c σ H λb H1=>if b=true then t D σ H1 else u D σ H1
theorem dY{c:a9}{a b:List bC}{tc:TT}(hc:PT X c tc)(ha:io X a t)(hb:io X b u):PS X (.If c a b pos) (uJ tc t u):=by
 intro ah s σ H D I h;refine wpAny_If (bb (hc ah s σ H _ I h) λd s1 ⟨H1,I1,q1⟩=>?_);cases d with
 |true=>exact ha ah s1 σ H1 D I1 q1
 |false=>exact hb ah s1 σ H1 D I1 q1
def Gh:TS:=λ_ _ _=>False
theorem EH:PS X st Gh:=λ_ _ _ _ _ _ h=>h.elim
end
abbrev TG:=V->St->Hp->(St->Hp->Prop)->Prop
abbrev ji:=List V->St->Hp->(St->Hp->Prop)->Prop
def PG(X:Cx)(target:a9)(t:TG):Prop:=
 ∀(ah:List (ai×Obj)) (s:aB) (σ:St) (H:Hp) (v:V) (u:aj) (Q:St->Hp->Prop),Inv X ah σ H s->RelV v u->t v σ H Q ->
  wpAny (model X.prog X.w) X.A (assign target X.env u) (λ_ s'=>∃σ' H',Inv X ah σ' H' s'/\Q σ' H') X.xe s
def uw(X:Cx)(ts:List a9)(t:ji):Prop:=
 ∀(ah:List (ai×Obj)) (s:aB) (σ:St) (H:Hp) (vs:List V) (us:List aj) (Q:St->Hp->Prop),Inv X ah σ H s->Vals vs us->t vs σ H Q ->
  wpAny (model X.prog X.w) X.A (assignInOrder ((assignEach ts X.env).map (·.2)) us) (λ_ s'=>∃σ' H',Inv X ah σ' H' s'/\Q σ' H') X.xe s
section
variable{X:Cx}{pos:Pos}
def gK(i:Nat):TG:=λv σ H Q=>Q (σ.set i (ab v)) H
theorem dC{i:Nat}{x:Str}(hN:X.N.Nodup)(hi:X.N[i]? = ab x)(hx:Loc X.env.scope x)(hf:X.fn x=true\/X.env.scope.names.lookup x=ab .local:=by first|exact .inl rfl|exact .inr rfl|assumption):PG X (.Name x pos) (gK i):=by intro ah s σ H v u Q I r h;exact wpAny_assign_Name (EZ I hN hi hx r (λs' I'=>⟨_,H,I',h⟩) hf)
def sY:ji:=λvs σ H Q=>vs=[]/\Q σ H
def tI(t:TG)(u:ji):ji:=λvs σ H Q=>∃v r,vs=v::r/\t v σ H λσ' H'=>u r σ' H' Q
theorem jB:uw X [] sY:=by intro ah s σ H vs us Q I r h;obtain⟨e,h⟩:=h;subst e;cases r;exact assignInOrder_nil ⟨σ,H,I,h⟩
theorem eE{e:a9}{es:List a9}{t:TG}{u:ji}(h1:PG X e t)(h2:uw X es u)
 (hs:(assignEach (e::es) X.env).map (·.2)=assign e X.env::(assignEach es X.env).map (·.2):=by rfl):uw X (e::es) (tI t u):=by
 intro ah s σ H vs us Q I r h;obtain⟨v,vr,e1,h⟩:=h;subst e1;cases r with
 |cons r rr=>
  rw[hs];refine assignInOrder_cons (bb (h1 ah s σ H _ _ _ I r h) λ_ s1 ⟨σ1,H1,I1,q1⟩=>?_);exact h2 ah s1 σ1 H1 _ _ Q I1 rr q1
def Bv(K:aU)(n:Nat)(t:ji):TG:=λv σ H Q=>∃a xs,v=.ref a/\fK K H a xs/\xs.length=n/\t xs σ H Q
theorem kr{es:List a9}{k:Nat}{t:ji}{n:Nat}(hc:X.calm=true)(h:uw X es t)
 (hn:(assignEach es X.env).length=n:=by rfl) (hst:(assignEach es X.env).findIdx? (·.1)=ae:=by rfl):PG X (.Tuple es k pos) (Bv X.K n t):=by
 intro ah s σ H v u Q I r hw;obtain⟨a,xs,e1,hq,hl,hw⟩:=hw;subst e1;cases r;obtain⟨av,rv,ht,hz⟩:=I.tuple hq;refine assign_Tuple_tuple (I.ok.hd hc) ht (by simp[hn,<- hl,rv.length]) hst λh' hx=>?_;have I1:Inv X ah σ H { s with heap:=h' }:=I.kept (t':=s.toks) λb o e=>hx b o (gQ (cG e)) e;exact h ah _ σ H xs _ Q I1 (by simpa using rv) hw
def jg(te:TE)(g:TG):TS:=λD σ H=>te σ H λx H1=>g x σ H1 D.nx
theorem Bc{tg e:a9}{te:TE}{g:TG}(he:PE X e te)(hg:PG X tg g)(hs:swapsWithSole [tg] e pos.line X.env=pure false:=by rfl)(hw:swappedStores [tg] e X.env=pure ae:=by rfl)
 (h1:(assignEach [tg] X.env).map (·.2)=[assign tg X.env]:=by rfl):PS X (.Assign [tg] e pos) (jg te g):=by
 intro ah s σ H D I h;refine wpAny_Assign_stores (bb (he ah s σ H _ I h) λv s1 ⟨x,H1,I1,r1,q1⟩=>?_) hs hw;rw[h1];exact bb (hg ah s1 σ H1 x v _ I1 r1 q1) λ_ s2 q=>q
theorem jF{i:Nat}{x:Str}{e:a9}{te:TE}{pos':Pos}(hN:X.N.Nodup)(hi:X.N[i]? = ab x)(hx:Loc X.env.scope x)(he:PE X e te)(hs:swapsWith e (ab (.Name x pos')) pos.line X.env=pure false:=by rfl)(hf:X.fn x=true\/X.env.scope.names.lookup x=ab .local:=by first|exact .inl rfl|exact .inr rfl|assumption) :
 PS X (.Assign [.Name x pos'] e pos) (jg te (gK i)):=by
 intro ah s σ H D I h;refine wpAny_Assign_Name (bb (he ah s σ H _ I h) λv s1 ⟨y,H1,I1,r1,q1⟩=>?_) hs;exact EZ I1 hN hi hx r1 (λs2 I2=>⟨_,H1,I2,q1⟩) hf
end
section
variable{X:Cx}{pos:Pos}
def DQ(c:TT)(tb:TS):TS:=λD σ H=>∃W:Nat->St->Hp->Prop,(∃m,W m σ H)/\∀m σ H,W m σ H ->
 c σ H λb H1=>if b=true then∃N:St->Hp->Prop,(∀σ' H',N σ' H'->∃m',m'<m/\W m' σ' H')/\tb { D with nx:=N,ct:=N,bk:=D.nx } σ H1 else D.nx σ H1
theorem F5{c:a9}{body:List bC}{tc:TT}{tb:TS}(hp:PassesOwn (model X.prog X.w) X.A X.env X.xe)(hc:PT X c tc)(hb:io X body tb):PS X (.While c body [] pos) (DQ tc tb):=by
 intro ah s σ H D I h;obtain⟨W,⟨m0,w0⟩,turn⟩:=h;refine wpAny_While (codeAny_whileLoop (λn s'=>∃σ' H',Inv X ah σ' H' s'/\W n σ' H') ?_ m0 ⟨σ,H,I,w0⟩);rintro n s1 ⟨σ1,H1,I1,w1⟩;refine qq hp (bb (hc ah s1 σ1 H1 _ I1 (turn n σ1 H1 w1)) λb s2 ⟨H2,I2,q2⟩=>?_);cases b with
 |true=>
  obtain⟨N,hN,q2⟩:=q2;rw[bc rfl];refine qq hp (bb (hb ah s2 σ1 H2 _ I2 q2) λf s3 q3=>?_);cases f with
  |next=>
   obtain⟨σ3,H3,I3,n3⟩:=q3;obtain⟨m',hm,w3⟩:=hN σ3 H3 n3;exact⟨m',hm,σ3,H3,I3,w3⟩
  |cont=>
   obtain⟨σ3,H3,I3,n3⟩:=q3;obtain⟨m',hm,w3⟩:=hN σ3 H3 n3;exact⟨m',hm,σ3,H3,I3,w3⟩
  |brk=>exact q3
  |ret v=>exact q3
 |false=>
  rw[a8 cZ];exact yg ⟨σ1,H2,I2,q2⟩
end
structure It where
 go:Nat->Hp->Prop
 yld:Nat->Hp->V->Hp->Prop
 stop:Nat->Hp->Prop
def iQ(X:Cx)(ah:List (ai×Obj))(H:Hp)(b:ai):Prop:=H b=ae/\b≠X.env.locals/\b∉X.fs/\(b∈X.ex\/X.s₀.heap.objs.size<=b)/\(∀x c,X.env.cells.lookup x=ab c->c≠b)/\∀p∈X.pn++ah,p.1≠b
theorem Inv.jd{X:Cx}{ah:List (ai×Obj)}{σ:St}{H H':Hp}{s:aB}{b:ai}(I:Inv X ah σ H s)(hb:s.heap.objs.size<=b)(hn:H' b=ae):iQ X ah H' b:=by
 refine⟨hn,vB (g7 I.lt hb),I.SI hb,.inr (cU I.sz hb),λx c e z=>?_,λp hp z=>?_⟩
 ·obtain⟨v,q⟩:=I.cell x c e;exact absurd (g7 q.lt (by rw[z];exact hb)) (kL _)
 ·exact absurd (g7 (cG (I.pin p hp).1) (by rw[z];exact hb)) (kL _)
structure Turn(P:bG)(w:bi)(K:aU)(tg:a9)(J:It)(fp:List ai)(it:ai)(tn:Nat->aZ->Prop):Prop where
 mem:it∈fp
 obj:∀i h,tn i h->∀b∈fp,∃o,h.get? b=ab o/\∀v,o.data≠.cell v
 keep:∀i h h',tn i h->(∀b∈fp,∀o,h.get? b=ab o->h'.get? b=ab o)->tn i h'
 item:∀(X:Cx),X.prog=P->X.w=w->X.K=K->X.calm=true->∀(i:Nat) (ah:List (ai×Obj)) (s:aB) (σ:St) (H:Hp) (E:aj->aB->Prop),Inv X ah σ H s->(∀b∈fp,iQ X ah H b)->tn i s.heap->J.go i H ->
  wpAny (model P w) X.A (pyNext (.ref it)) (λr s1=>∃u,r=ab u /\
   wpAny (model P w) X.A (letOwnedTupleGo tg (.ref it) u) (λ_ s2=>∃x H',Inv X ah σ H' s2/\RelV x u/\J.yld i H x H'/\tn (i+1) s2.heap/\∀b∈fp,H' b=ae) E s1) E s
 done:∀(X:Cx),X.prog=P->X.w=w->X.K=K->X.calm=true->∀(i:Nat) (ah:List (ai×Obj)) (s:aB) (σ:St) (H:Hp) (E:aj->aB->Prop),Inv X ah σ H s->(∀b∈fp,iQ X ah H b)->tn i s.heap->J.stop i H ->
  wpAny (model P w) X.A (pyNext (.ref it)) (λr s1=>r=ae/\Inv X ah σ H s1) E s
 self:∀(A:b9) (i:Nat) (s:aB) (Q:aj->aB->Prop) (E:aj->aB->Prop),tn i s.heap->Q (.ref it) s->wpAny (model P w) A (pyIter (.ref it)) Q E s
abbrev TI:=St->Hp->(It->Hp->Prop)->Prop
def PIE(X:Cx)(ah:List (ai×Obj))(σ:St)(tg:a9)(R:It->Hp->Prop)(itv:aj)(s2:aB):Prop:=∃(it:ai) (fp:List ai) (tn:Nat->aZ->Prop) (J:It) (H':Hp),itv=.ref it/\Inv X ah σ H' s2/\Turn X.prog X.w X.K tg J fp it tn/\tn 0 s2.heap/\(∀b∈fp,iQ X ah H' b)/\R J H'
def PI(X:Cx)(tg iter:a9)(wi:TI):Prop:=
 ∀(ah:List (ai×Obj)) (s:aB) (σ:St) (H:Hp) (R:It->Hp->Prop),Inv X ah σ H s->wi σ H R ->
  wpAny (model X.prog X.w) X.A (eval iter X.env) (λv s1=>wpAny (model X.prog X.w) X.A (pyIter v) (PIE X ah σ tg R) X.xe s1) X.xe s
theorem ui{M:Model}{A:b9}{E:aj->aB->Prop}{s:aB}{tg:a9}{it:ai}{u:aj}{o:Obj}{n:String}{vs:Array aj}{Q:Unit->aB->Prop}(ho:s.heap.get? it=ab o)(hc:o.cls=.type n)(hd:o.data=.fields vs)
 (hn:["enumerate","zip","dict_itemiterator","dict_reverseitemiterator","odict_iterator","itertools.zip_longest","itertools.pairwise"].contains n=false) (hQ:Q () s):wpAny M A (letOwnedTupleGo tg (.ref it) u) Q E s:=by
 unfold letOwnedTupleGo;cases tg<;>first
  |exact bV hQ
  | (cases u<;>first
   |exact bV hQ
   | (refine aR (wpAny_load ho ?_)
      rw[hc,hd];show wpAny M A (if(["enumerate","zip","dict_itemiterator","dict_reverseitemiterator","odict_iterator","itertools.zip_longest","itertools.pairwise"].contains n&&vs[0]? == ab (rawInt _))=true then _ else _) Q E s;rw[a8 (by intro h;rw[hn,Bool.false_and]at h;cases h)];exact bV hQ))
def tM(K:aU)(a:ai):It:=⟨λi H=>∃xs x,eY K H a xs/\xs[i]? = ab x,λi H x H'=>H'=H/\∀xs,eY K H a xs->xs[i]? = ab x,λi H=>∃xs,eY K H a xs/\xs.length<=i⟩
def t6(K:aU)(a:ai):It:=⟨λi H=>∃xs x,fK K H a xs/\xs[i]? = ab x,λi H x H'=>H'=H/\∀xs,fK K H a xs->xs[i]? = ab x,λi H=>∃xs,fK K H a xs/\xs.length<=i⟩
def nO(lo:Int)(n:Nat):It:=⟨λi _=>i<n,λi H x H'=>H'=H/\x=.int (lo+i),λi _=>n<=i⟩
theorem Ou{P:bG}{w:bi}{K:aU}{tg:a9}(a it:ai):Turn P w K tg (tM K a) [it] it (λi h=>h.IsListIter it a i) where
 mem:=by simp
 obj:=λi h st b hb=>by
  have e:b=it:=by simpa using hb
  subst e;obtain⟨o,e,c,d⟩:=st;exact⟨o,e,λv z=>by rw[d]at z;cases z⟩
 keep:=λi h h' st k=>st.at λo e=>k it (by simp) o e
 item:=by intro X hP hw hK hc i ah s σ H E I hf st hg;subst hP hw hK;obtain⟨xs,x,hq,hx⟩:=hg;obtain⟨av,rv,p,hz⟩:=I.list hq;obtain⟨u,hu,ru⟩:=rv.get hx;obtain⟨f0,f1,f2,f3,f4,f5⟩:=hf it (by simp);refine JV st p.isList (x:=u) (by simpa using hu) λh' st' sb=>?_;have I1:Inv X ah σ H { s with heap:=h' }:=I.turned (t':=s.toks) (λb o hb e=>(sb.2 b hb).trans e) f0 f1 f3 f4 f5;obtain⟨o,e,c,d⟩:=id st';exact⟨u,rfl,ui (s:={ s with heap:=h' }) e c d (by decide) ⟨x,H,I1,ru,⟨rfl,λys hy=>by rw[I.BY hy hq];exact hx⟩,st',λb hb=>(hf b hb).1⟩⟩
 done:=by intro X hP hw hK hc i ah s σ H E I hf st hg;subst hP hw hK;obtain⟨xs,hq,hx⟩:=hg;obtain⟨av,rv,p,hz⟩:=I.list hq;obtain⟨f0,f1,f2,f3,f4,f5⟩:=hf it (by simp);have hl:=rv.length;exact wpAny_pyNext_list_end (I.ok.hd hc) st p.isList (by simp;omega) λh' eb=>⟨rfl,I.turned (t':=s.toks) (λb o hb e=>eb b o hb e) f0 f1 f3 f4 f5⟩
 self:=λ_ _ _ _ _ st h=>wpAny_pyIter_listiter st h
theorem MR{P:bG}{w:bi}{K:aU}{tg:a9}(a it:ai):Turn P w K tg (t6 K a) [it] it (λi h=>h.IsTupleIter it a i) where
 mem:=by simp
 obj:=λi h st b hb=>by
  have e:b=it:=by simpa using hb
  subst e;obtain⟨o,e,c,d⟩:=st;exact⟨o,e,λv z=>by rw[d]at z;cases z⟩
 keep:=λi h h' st k=>st.at λo e=>k it (by simp) o e
 item:=by intro X hP hw hK hc i ah s σ H E I hf st hg;subst hP hw hK;obtain⟨xs,x,hq,hx⟩:=hg;obtain⟨av,rv,p,hz⟩:=I.tuple hq;obtain⟨u,hu,ru⟩:=rv.get hx;obtain⟨f0,f1,f2,f3,f4,f5⟩:=hf it (by simp);refine wpAny_pyNext_tuple_item st (show s.heap.IsTuple a av.toArray from p) (x:=u) (by simpa using hu) λh' st' sb=>?_;have I1:Inv X ah σ H { s with heap:=h' }:=I.turned (t':=s.toks) (λb o hb e=>(sb.2 b hb).trans e) f0 f1 f3 f4 f5;obtain⟨o,e,c,d⟩:=id st';exact⟨u,rfl,ui (s:={ s with heap:=h' }) e c d (by decide) ⟨x,H,I1,ru,⟨rfl,λys hy=>by rw[I.zk hy hq];exact hx⟩,st',λb hb=>(hf b hb).1⟩⟩
 done:=by intro X hP hw hK hc i ah s σ H E I hf st hg;subst hP hw hK;obtain⟨xs,hq,hx⟩:=hg;obtain⟨av,rv,p,hz⟩:=I.tuple hq;obtain⟨f0,f1,f2,f3,f4,f5⟩:=hf it (by simp);have hl:=rv.length;exact wpAny_pyNext_tuple_end (I.ok.hd hc) st (show s.heap.IsTuple a av.toArray from p) (by simp;omega) λh' eb=>⟨rfl,I.turned (t':=s.toks) (λb o hb e=>eb b o hb e) f0 f1 f3 f4 f5⟩
 self:=λ_ _ _ _ _ st h=>wpAny_pyIter_tupleiter st h
theorem P7{P:bG}{w:bi}{K:aU}{tg:a9}(it:ai)(lo:Int)(n:Nat):Turn P w K tg (nO lo n) [it] it (λi h=>IsRangeIter h it (lo+(i:Nat)*1) ((n:Int)-(i:Nat)) 1) where
 mem:=by simp
 obj:=λi h st b hb=>by
  have e:b=it:=by simpa using hb
  subst e;exact⟨_,st,λv z=>by
   have z':Data.fields _=Data.cell v:=z;cases z'⟩
 keep:=λi h h' st k=>k it (by simp) _ st
 item:=by intro X hP hw hK hc i ah s σ H E I hf st hg;subst hP hw hK;obtain⟨f0,f1,f2,f3,f4,f5⟩:=hf it (by simp);have W:=Walks.range (prog:=X.prog) (w:=X.w) (I.ok.hd hc) it lo 1 n;refine W.item i s _ _ hg st λv h' tk hv st' kk=>?_;obtain⟨t,rfl⟩:=hv;have I1:Inv X ah σ H { s with heap:=h',toks:=tk }:=I.turned (λb o hb e=>kk b o (by simpa using hb) e) f0 f1 f3 f4 f5;refine⟨_,rfl,ui (s:={ s with heap:=h',toks:=tk }) (n := "range_iterator") st' rfl rfl (by decide) ⟨.int (lo+i),H,I1,⟨t,?_⟩,⟨rfl,rfl⟩,st',λb hb=>(hf b hb).1⟩⟩;rw[Int.mul_one]
 done:=by intro X hP hw hK hc i ah s σ H E I hf st hg;subst hP hw hK;obtain⟨f0,f1,f2,f3,f4,f5⟩:=hf it (by simp);exact wpAny_pyNext_range_end (I.ok.hd hc) st (by have:n<=i:=hg;omega) λh' eb=>⟨rfl,I.turned (t':=s.toks) (λb o hb e=>eb b o hb e) f0 f1 f3 f4 f5⟩
 self:=λ_ _ _ _ _ st h=>wpAny_pyIter_rangeiter st h
section
variable{X:Cx}{tg:a9}
def Gf(K:aU)(tl:TE):TI:=λσ H R=>tl σ H λx H1=>∃a,x=.ref a/\(∃xs,eY K H1 a xs)/\R (tM K a) H1
def HE(K:aU)(tl:TE):TI:=λσ H R=>tl σ H λx H1=>∃a,x=.ref a/\(∃xs,fK K H1 a xs)/\R (t6 K a) H1
theorem QZ{l:a9}{tl:TE}(hl:PE X l tl):PI X tg l (Gf X.K tl):=by
 intro ah s σ H R I h;refine bb (hl ah s σ H _ I h) λv s1 ⟨x,H1,I1,r1,q1⟩=>?_;obtain⟨a,e,⟨xs,hq⟩,q⟩:=q1;subst e;cases r1;obtain⟨av,rv,p,hz⟩:=I1.list hq;refine vx p.isList ?_;refine⟨s1.heap.objs.size,[s1.heap.objs.size],_,_,H1,rfl,I1.kept (t':=s1.toks) λb o e=>cM _ e,Ou a _,⟨_,dS _ rfl,rfl,rfl⟩,λb hb=>?_,q⟩;have e:b=s1.heap.objs.size:=by simpa using hb
 subst e;exact I1.jd (bK _) (I1.hok.fresh (bK _))
theorem PL{l:a9}{tl:TE}(hl:PE X l tl):PI X tg l (HE X.K tl):=by
 intro ah s σ H R I h;refine bb (hl ah s σ H _ I h) λv s1 ⟨x,H1,I1,r1,q1⟩=>?_;obtain⟨a,e,⟨xs,hq⟩,q⟩:=q1;subst e;cases r1;obtain⟨av,rv,p,hz⟩:=I1.tuple hq;refine wpAny_pyIter_tuple (show s1.heap.IsTuple a av.toArray from p) ?_;refine⟨s1.heap.objs.size,[s1.heap.objs.size],_,_,H1,rfl,I1.kept (t':=s1.toks) λb o e=>cM _ e,MR a _,⟨_,dS _ rfl,rfl,rfl⟩,λb hb=>?_,q⟩;have e:b=s1.heap.objs.size:=by simpa using hb
 subst e;exact I1.jd (bK _) (I1.hok.fresh (bK _))
theorem G1{ah:List (ai×Obj)}{σ:St}{H:Hp}{s:aB}{R:It->Hp->Prop}{E:aj->aB->Prop}{lo hi:Int}{t u v:Tok}{tk:Nat}(I:Inv X ah σ H s)(h1:-(2 ^ 62)<=lo)(h2:lo<2 ^ 62)(h3:-(2 ^ 62)<=hi)(h4:hi<2 ^ 62)
 (q:R (nO lo (hi-lo).toNat) H):wpAny (model X.prog X.w) X.A (pyIter (.ref s.heap.objs.size)) (PIE X ah σ tg R) E { s with heap:=s.heap.push { cls:=.type "range", data:=.fields #[.int lo t,.int hi u,.int 1 v] },toks:=tk }:=by
 refine wpAny_pyIter_range (IsRange.new ..) (small_one h1 h2 h3 h4) ?_;have I1:Inv X ah σ H { s with heap:=s.heap.push { cls:=.type "range",data:=.fields #[.int lo t,.int hi u,.int 1 v] },toks:=tk }:=I.kept λb o e=>cM _ e;refine⟨(s.heap.push { cls:=.type "range",data:=.fields #[.int lo t,.int hi u,.int 1 v] }).objs.size,[(s.heap.push { cls:=.type "range", data:=.fields #[.int lo t,.int hi u,.int 1 v] }).objs.size],_,_,H,rfl,
  I1.kept (t':=tk) λb o e=>cM _ e,P7 _ lo (hi-lo).toNat,?_,λb hb=>?_,q⟩
 ·have e1:lo+((0:Nat):Int)*1=lo:=by simp
  have e2:(((hi-lo).toNat:Nat):Int)-((0:Nat):Int)=Builtin.Range.rangeSize lo hi 1:=by rw[rangeSize_one];split<;>omega
  show IsRangeIter _ _ (lo+((0:Nat):Int)*1) ((((hi-lo).toNat:Nat):Int)-((0:Nat):Int)) 1;rw[e1,e2];exact dS _ rfl
 ·have e:b=(s.heap.push { cls:=.type "range", data:=.fields #[.int lo t,.int hi u,.int 1 v] }).objs.size:=by simpa using hb
  subst e;exact I1.jd (bK _) (I1.hok.fresh (bK _))
def F1(ta:TA):TI:=λσ H R=>ta σ H λvs H1=>∃j:Int,vs=[.int j]/\-(2 ^ 62)<=j/\j<2 ^ 62/\R (nO 0 j.toNat) H1
def Hy(ta:TA):TI:=λσ H R=>ta σ H λvs H1=>∃i j:Int,vs=[.int i,.int j]/\(-(2 ^ 62)<=i/\i<2 ^ 62/\-(2 ^ 62)<=j/\j<2 ^ 62)/\R (nO i (j-i).toNat) H1
theorem ke{a:a9}{ta:TA}{p pos:Pos}(hg:Gl X "range")(hm:X.mg "range" = ae)(ha:PA X [a] ta)(hs:starEach [a] X.env=[(false,eval a X.env)]:=by rfl):PI X tg (.Call (.Name "range" p) [a] [] pos) (F1 ta):=by
 intro ah s σ H R I h;refine Call_ (o1 I hg hm boot_range (vD (bb (ha pos ah s σ H _ I h) λus s1 ⟨vs,H1,I1,r1,q1⟩=>?_) hs rfl));obtain⟨j,e,q1,q2,q⟩:=q1;subst e;cases r1 with
 |cons r rr=>
  cases rr;obtain⟨t,rfl⟩:=r;exact call_range_1 (G1 I1 (by omega) (by omega) q1 q2 (by simpa using q))
theorem Md{a b:a9}{ta:TA}{p pos:Pos}(hg:Gl X "range")(hm:X.mg "range" = ae)(ha:PA X [a,b] ta)(hs:starEach [a,b] X.env=[(false,eval a X.env),(false,eval b X.env)]:=by rfl)(hs2:starEach [b] X.env=[(false,eval b X.env)]:=by rfl) :
 PI X tg (.Call (.Name "range" p) [a,b] [] pos) (Hy ta):=by
 intro ah s σ H R I h;refine Call_ (o1 I hg hm boot_range (vD (bb (ha pos ah s σ H _ I h) λus s1 ⟨vs,H1,I1,r1,q1⟩=>?_) (by rw[hs,hs2]) (by rw[hs2];rfl)));obtain⟨i,j,e,⟨q1,q2,q3,q4⟩,q⟩:=q1;subst e;cases r1 with
 |cons r rr=>
  cases rr with
  |cons r' rr=>
   cases rr;obtain⟨t,rfl⟩:=r;obtain⟨t',rfl⟩:=r';exact call_range_2 (G1 I1 q1 q2 q3 q4 q)
def Fu(wi:TI)(g:TG)(tb:TS):TS:=λD σ H=>wi σ H λJ H1=>∃W:Nat->Nat->St->Hp->Prop,(∃m,W 0 m σ H1)/\∀i m σ H,W i m σ H ->
 (J.stop i H/\D.nx σ H)\/(J.go i H/\∃N:St->Hp->Prop,(∀σ' H',N σ' H'->∃m',m'<m/\W (i+1) m' σ' H')/\∀x H',J.yld i H x H'->g x σ H' λσ2 H2=>tb { D with nx:=N,ct:=N,bk:=D.nx } σ2 H2)
def wY(fp:List ai)(h:aZ):List (ai×Obj):=fp.filterMap λb=>(h.get? b).map λo=>(b,o)
theorem rj{fp:List ai}{h:aZ}{b:ai}{o:Obj}(hb:b∈fp)(e:h.get? b=ab o):(b,o)∈wY fp h:=xQ.mpr ⟨b,hb,by rw[e];rfl⟩
theorem Ov{fp:List ai}{h:aZ}{p:ai×Obj}(hp:p∈wY fp h):p.1∈fp/\h.get? p.1=ab p.2:=by
 obtain⟨b,hb,e⟩:=xQ.mp hp;cases q:h.get? b with
 |none=>rw[q]at e;cases e
 |some o=>
  rw[q]at e;have e':(b,o)=p:=iq e;subst e';exact⟨hb,q⟩
theorem Inv.pinned{ah:List (ai×Obj)}{σ:St}{H:Hp}{s:aB}{fp:List ai}(I:Inv X ah σ H s)(hf:∀b∈fp,iQ X ah H b)(ho:∀b∈fp,∃o,s.heap.get? b=ab o/\∀v,o.data≠.cell v):Inv X (ah++wY fp s.heap) σ H s:=
 I.Ak λp hp=>(bT.mp hp).elim (λz=>I.pin p (dE _ z)) λz=>by
  obtain⟨hb,e⟩:=Ov z;obtain⟨f0,f1,f2,_⟩:=hf p.1 hb;obtain⟨o,e',d⟩:=ho p.1 hb;rw[e]at e';cases e';exact⟨e,f0,f1,f2,d⟩
theorem Inv.r9{ah pl:List (ai×Obj)}{σ:St}{H:Hp}{s:aB}(I:Inv X (ah++pl) σ H s):Inv X ah σ H s:=I.Ak λp hp=>I.pin p (dE _ (eo _ hp))
theorem fj{iter:a9}{body:List bC}{wi:TI}{g:TG}{tb:TS}{pos:Pos}(hp:PassesOwn (model X.prog X.w) X.A X.env X.xe)(hc:X.calm=true)(hi:PI X tg iter wi)(hg:PG X tg g)(hb:io X body tb)
 (hs:∀x,foldedSetIterable iter X.env x=pure x:=by intro _;rfl):PS X (.For tg iter body [] pos) (Fu wi g tb):=by
 intro ah s σ H D I h;refine wpAny_For (bb (hi ah s σ H _ I h) λv s1 h1=>bb h1 λitv s2 h2=>?_) hs;obtain⟨it,fp,tn,J,H2,e,I2,T,st2,f2,W,⟨m0,w0⟩,turn⟩:=h2;subst e;have stat:∀{H':Hp},(∀b∈fp,H' b=ae)->∀b∈fp,iQ X ah H' b:=λhn b hb=>⟨hn b hb,(f2 b hb).2⟩;refine codeAny_forLoop_any (λn s'=>∃i σ' H',Inv X ah σ' H' s'/\tn i s'.heap/\(∀b∈fp,H' b=ae)/\W i n σ' H') ?_ m0 ⟨0,σ,H2,I2,st2,λb hb=>(f2 b hb).1,w0⟩;rintro n s3 ⟨i,σ3,H3,I3,st3,fr3,w3⟩;rcases turn i n σ3 H3 w3 with ⟨stop,qn⟩|⟨go,N,hN,step⟩
 ·refine qq hp (bb (T.done X rfl rfl rfl hc i ah s3 σ3 H3 X.xe I3 (stat fr3) st3 stop) λr s4 ⟨hr,I4⟩=>?_);subst hr;exact yg ⟨σ3,H3,I4,qn⟩
 ·refine qq hp (bb (T.item X rfl rfl rfl hc i ah s3 σ3 H3 X.xe I3 (stat fr3) st3 go) λr s4 ⟨u,hr,h4⟩=>?_);subst hr;refine qq hp (bb h4 λ_ s5 ⟨x,H5,I5,r5,y5,st5,fr5⟩=>?_);have I5':=I5.pinned (stat fr5) (T.obj _ _ st5);refine qq hp (bb (hg _ s5 σ3 H5 x u _ I5' r5 (step x H5 y5)) λ_ s6 ⟨σ6,H6,I6,q6⟩=>?_);refine qq hp (bb (hb _ s6 σ6 H6 _ I6 q6) λf s7 q7=>?_);have again:∀{σ7:St} {H7:Hp},Inv X (ah++wY fp s5.heap) σ7 H7 s7->N σ7 H7->∃m,m<n/\∃i σ' H',Inv X ah σ' H' s7/\tn i s7.heap/\(∀b∈fp,H' b=ae)/\W i m σ' H':=λ{σ7 H7} I7 n7=>by
   obtain⟨m',hm,w7⟩:=hN σ7 H7 n7;refine⟨m',hm,i+1,σ7,H7,I7.r9,T.keep _ _ _ st5 λb hb o e=>(I7.pin (b,o) (dE _ (dE _ (rj hb e)))).1,λb hb=>?_,w7⟩;obtain⟨o,e,d⟩:=T.obj _ _ st5 b hb;exact(I7.pin (b,o) (dE _ (dE _ (rj hb e)))).2.1
  cases f with
  |next=>obtain⟨σ7,H7,I7,n7⟩:=q7;exact again I7 n7
  |cont=>obtain⟨σ7,H7,I7,n7⟩:=q7;exact again I7 n7
  |brk=>obtain⟨σ7,H7,I7,q7⟩:=q7;exact⟨σ7,H7,I7.r9,q7⟩
  |ret v=>obtain⟨x7,σ7,H7,I7,r7,q7⟩:=q7;exact⟨x7,σ7,H7,I7.r9,r7,q7⟩
end
abbrev R2:=V->V->Hp->VK->Prop
def cY(X:Cx)(f:aj->aj->Sem aj)(r:R2):Prop:=
 ∀(ah:List (ai×Obj)) (s:aB) (σ:St) (H:Hp) (x y:V) (v u:aj) (Q:VK),Inv X ah σ H s->RelV x v->RelV y u->r x y H Q ->
  wpAny (model X.prog X.w) X.A (f v u) (EP X ah σ Q) X.xe s
def zL(X:Cx)(f:aj->Sem aj)(r:V->Hp->VK->Prop):Prop:=
 ∀(ah:List (ai×Obj)) (s:aB) (σ:St) (H:Hp) (x:V) (v:aj) (Q:VK),Inv X ah σ H s->RelV x v->r x H Q ->
  wpAny (model X.prog X.w) X.A (f v) (EP X ah σ Q) X.xe s
def ia(X:Cx)(f:aj)(r:List V->Hp->VK->Prop):Prop:=
 ∀(ah:List (ai×Obj)) (s:aB) (σ:St) (H:Hp) (xs:List V) (us:List aj) (Q:VK),Inv X ah σ H s->Vals xs us->r xs H Q ->
  wpAny (model X.prog X.w) X.A (call f us) (EP X ah σ Q) X.xe s
def Tt(X:Cx)(r:V->Hp->(Bool->Hp->Prop)->Prop):Prop:=
 ∀(ah:List (ai×Obj)) (s:aB) (σ:St) (H:Hp) (x:V) (v:aj) (Q:Bool->Hp->Prop),Inv X ah σ H s->RelV x v->r x H Q ->
  wpAny (model X.prog X.w) X.A (truthy v) (TP X ah σ Q) X.xe s
def pZ(r:R2)(ta tb:TE):TE:=λσ H Q=>ta σ H λx H1=>tb σ H1 λy H2=>r x y H2 Q
def DS(r:V->Hp->VK->Prop)(ta:TE):TE:=λσ H Q=>ta σ H λx H1=>r x H1 Q
def rI(C:Int->Int->Prop)(g:Int->Int->V):R2:=λx y H Q=>∃i j,x=.int i/\y=.int j/\C i j/\Q (g i j) H
def lH(g:Int->Int->V):R2:=λx y H Q=>∃i j,x=.int i/\y=.int j/\Q (g i j) H
def rU(g:Int->V):V->Hp->VK->Prop:=λx H Q=>∃i,x=.int i/\Q (g i) H
section
variable{X:Cx}{a b c:a9}{ta tb tc:TE}{pos:Pos}
theorem Bd(ha:PE X a ta)(hb:PE X b tb){ah:List (ai×Obj)}{s:aB}{σ:St}{H:Hp}{R:V->V->Hp->Prop}(I:Inv X ah σ H s)
 (h:ta σ H λx H1=>tb σ H1 λy H2=>R x y H2) {Q:aj->aB->Prop} {f:aj->aj->Sem aj}
 (hf:∀v u s2 x y H2,Inv X ah σ H2 s2->RelV x v->RelV y u->R x y H2->wpAny (model X.prog X.w) X.A (f v u) Q X.xe s2) :
 wpAny (model X.prog X.w) X.A (eval a X.env) (λv s₁=>wpAny (model X.prog X.w) X.A (eval b X.env) (λu s₂=>wpAny (model X.prog X.w) X.A (f v u) Q X.xe s₂) X.xe s₁) X.xe s:=by
 refine bb (ha ah s σ H _ I h) λv s1 ⟨x,H1,I1,r1,q1⟩=>?_;refine bb (hb ah s1 σ H1 _ I1 q1) λu s2 ⟨y,H2,I2,r2,q2⟩=>?_;exact hf v u s2 x y H2 I2 r1 r2 q2
theorem bg{op:Operator}{r:R2}(ho:cY X (binaryOp op) r)(ha:PE X a ta)(hb:PE X b tb):PE X (.BinOp a op b pos) (pZ r ta tb):=by intro ah s σ H Q I h;exact wpAny_BinOp (Bd ha hb I h λv u s2 x y H2 I2 rx ry q=>ho ah s2 σ H2 x y v u Q I2 rx ry q)
theorem vX{op:UnaryOp}{r:V->Hp->VK->Prop}(ho:zL X (unaryOp op) r)(ha:PE X a ta):PE X (.UnaryOp op a pos) (DS r ta):=by intro ah s σ H Q I h;exact UnaryOp_ (bb (ha ah s σ H _ I h) λv s1 ⟨x,H1,I1,r1,q1⟩=>ho ah s1 σ H1 x v Q I1 r1 q1)
theorem Bk{f:aj->aj->Sem aj}{C:Int->Int->Prop}{g:Int->Int->Int}
 (rule:∀(i j:Int) (t u:Tok) (s:aB) (Q:aj->aB->Prop) (E:aj->aB->Prop),C i j->Q (.int (g i j) s.toks) { s with toks:=s.toks+1 }->wpAny (model X.prog X.w) X.A (f (.int i t) (.int j u)) Q E s) :
 cY X f (rI C λi j=>.int (g i j)):=by
 intro ah s σ H x y v u Q I rx ry h;obtain⟨i,j,rfl,rfl,hc,q⟩:=h;obtain⟨t,rfl⟩:=rx;obtain⟨t',rfl⟩:=ry;exact rule i j t t' s _ _ hc ⟨.int (g i j),H,I.tok _,⟨_,rfl⟩,q⟩
theorem GQ{f:aj->aj->Sem aj}{g:Int->Int->Int}
 (rule:∀(i j:Int) (t u:Tok) (s:aB) (Q:aj->aB->Prop) (E:aj->aB->Prop),Q (.int (g i j) s.toks) { s with toks:=s.toks+1 }->wpAny (model X.prog X.w) X.A (f (.int i t) (.int j u)) Q E s) :
 cY X f (lH λi j=>.int (g i j)):=by
 intro ah s σ H x y v u Q I rx ry h;obtain⟨i,j,rfl,rfl,q⟩:=h;obtain⟨t,rfl⟩:=rx;obtain⟨t',rfl⟩:=ry;exact rule i j t t' s _ _ ⟨.int (g i j),H,I.tok _,⟨_,rfl⟩,q⟩
theorem E2{f:aj->aj->Sem aj}{g:Int->Int->Bool}
 (rule:∀(i j:Int) (t u:Tok) (s:aB) (Q:aj->aB->Prop) (E:aj->aB->Prop),Q (.bool (g i j)) s->wpAny (model X.prog X.w) X.A (f (.int i t) (.int j u)) Q E s) :
 cY X f (lH λi j=>.bl (g i j)):=by
 intro ah s σ H x y v u Q I rx ry h;obtain⟨i,j,rfl,rfl,q⟩:=h;obtain⟨t,rfl⟩:=rx;obtain⟨t',rfl⟩:=ry;exact rule i j t t' s _ _ ⟨.bl (g i j),H,I,rfl,q⟩
def wt(i j:Int):Prop:=(-(2 ^ 64)<i/\i<2 ^ 64)\/(-(2 ^ 64)<j/\j<2 ^ 64)
theorem wt.ok{i j:Int}(h:wt i j):IntMulOk i j:=by
 rcases h with ⟨h1,h2⟩|⟨h1,h2⟩
 ·exact .of_left (intBits_le_64 h1 h2)
 ·exact .of_right (intBits_le_64 h1 h2)
theorem Qy:cY X (binaryOp .Add) (lH λi j=>.int (i+j)):=GQ λ_ _ _ _ _ _ _ q=>add_int q
theorem tJ:cY X (binaryOp .Sub) (lH λi j=>.int (i-j)):=GQ λ_ _ _ _ _ _ _ q=>sub_int q
theorem iB:cY X (binaryOp .Mult) (rI wt λi j=>.int (i*j)):=Bk λ_ _ _ _ _ _ _ hc q=>mul_int q hc.ok
theorem gL:cY X (binaryOp .Mod) (rI (λ_ j=>0<j) λi j=>.int (i%j)):=Bk λi j _ _ _ _ _ hc q=>by
 have h1:(0:Int)<j:=hc;exact mod_int' (by omega) (by rw[Int.fmod_eq_emod_of_nonneg i (by omega)];exact q)
theorem OG{f:aj->Sem aj}{g:Int->Int}
 (rule:∀(i:Int) (t:Tok) (s:aB) (Q:aj->aB->Prop) (E:aj->aB->Prop),Q (.int (g i) s.toks) { s with toks:=s.toks+1 }->wpAny (model X.prog X.w) X.A (f (.int i t)) Q E s) :
 zL X f (rU λi=>.int (g i)):=by
 intro ah s σ H x v Q I rx h;obtain⟨i,rfl,q⟩:=h;obtain⟨t,rfl⟩:=rx;exact rule i t s _ _ ⟨.int (g i),H,I.tok _,⟨_,rfl⟩,q⟩
theorem xL:zL X (unaryOp .USub) (rU λi=>.int (-i)):=OG λ_ _ _ _ _ q=>neg_int q
end
section
variable{X:Cx}{a b c:a9}{ta tb tc:TE}{pos:Pos}
theorem zN{ah:List (ai×Obj)}{σ:St}{H:Hp}{s:aB}{Q:VK}{k k':Bool}(I:Inv X ah σ H s)(q:Q (.bl k) H)(e:k=k'):EP X ah σ Q (.bool k') s:=by subst e;exact⟨.bl k,H,I,rfl,q⟩
theorem Pw:cY X (compareOp .Lt) (lH λi j=>.bl (decide (i<j))):=E2 λ_ _ _ _ _ _ _ q=>lt_int q
theorem Pc:cY X (compareOp .Gt) (lH λi j=>.bl (decide (j<i))):=E2 λ_ _ _ _ _ _ _ q=>gt_int q
theorem O9:cY X (compareOp .Lt) (λx y H Q=>∃i j,x=.str i/\y=.str j/\Q (.bl (decide (i.cps.toList<j.cps.toList))) H):=by intro ah s σ H x y v u Q I rx ry h;obtain⟨i,j,rfl,rfl,q⟩:=h;obtain⟨t,rfl⟩:=rx;obtain⟨t',rfl⟩:=ry;exact lt_str (zN I q rfl)
theorem QJ:cY X (compareOp .In) (λx y H Q=>∃i j,x=.str i/\y=.str j/\Q (.bl (!(Builtin.Str.occurrences j i 0 j.length 1).isEmpty)) H):=by intro ah s σ H x y v u Q I rx ry h;obtain⟨i,j,rfl,rfl,q⟩:=h;obtain⟨t,rfl⟩:=rx;obtain⟨t',rfl⟩:=ry;exact in_str (zN I q rfl)
theorem cY.or{f:aj->aj->Sem aj}{r r':R2}(h:cY X f r)(h':cY X f r'):cY X f (λx y H Q=>r x y H Q\/r' x y H Q):=by
 intro ah s σ H x y v u Q I rx ry q;rcases q with q|q
 ·exact h ah s σ H x y v u Q I rx ry q
 ·exact h' ah s σ H x y v u Q I rx ry q
theorem eQ(b:a9){op:CmpOp}(h:op≠.In:=by decide)(h2:op≠.NotIn:=by decide):behindInMarks op b=false:=by
 have e1:(op==CmpOp.In)=false:=by cases op<;>first|rfl|exact absurd rfl h
 have e2:(op==CmpOp.NotIn)=false:=by cases op<;>first|rfl|exact absurd rfl h2
 cases b<;>simp[behindInMarks,e1,e2]
theorem jb{op:CmpOp}{r:R2}(ho:cY X (compareOp op) r)(ha:PE X a ta)(hb:PE X b tb)(hm:behindInMarks op b=false):PE X (.Compare a [op] [b] pos) (pZ r ta tb):=by intro ah s σ H Q I h;exact wpAny_Compare1 (Bd ha hb I h λv u s2 x y H2 I2 rx ry q=>ho ah s2 σ H2 x y v u Q I2 rx ry q) hm
def DX(t:TE):TT:=λσ H Q=>t σ H λx H'=>∃k,x=.bl k/\Q k H'
theorem cA{op:CmpOp}{r:R2}(ho:cY X (compareOp op) r)(ha:PE X a ta)(hb:PE X b tb)(hm:behindInMarks op b=false):PT X (.Compare a [op] [b] pos) (DX (pZ r ta tb)):=by
 intro ah s σ H Q I h;refine wpAny_isTrue_Compare1 (bb (ha ah s σ H _ I h) λv s1 ⟨x,H1,I1,r1,q1⟩=>bb (hb ah s1 σ H1 _ I1 q1) λu s2 ⟨y,H2,I2,r2,q2⟩=>
  bb (ho ah s2 σ H2 x y v u _ I2 r1 r2 q2) λc s3 ⟨z,H3,I3,r3,k,e,q3⟩=>?_) hm
 subst e;cases r3;exact oG ⟨H3,I3,q3⟩
def vd(K:aU)(x:V)(H:Hp)(k:Bool):Prop:=
 match x with
 |.non=>k=false
 |.bl b=>k=b
 |.int i=>k=(i != 0)
 |.str y=>y.length<=sizeLine/\k=((y.length:Int) != 0)
 |.byt y=>y.size<=sizeLine/\k=((y.size:Int) != 0)
 |.ref p=>(∃xs,eY K H p xs/\k = !xs.isEmpty)\/(∃xs,fK K H p xs/\k = !xs.isEmpty)\/∃ao,H p=ab (.dK ao)/\k = !ao.isEmpty
 |_=>False
theorem PV{κ:Type}{ao:List (κ×V)}{vs:List (κ×aj)}(r:KV ao vs):(!vs.isEmpty) = !ao.isEmpty:=by cases r<;>rfl
theorem Fc{xs:List V}{av:List aj}(r:Vals xs av):(!av.toArray.isEmpty) = !xs.isEmpty:=by cases r<;>simp
theorem uQ:(sizeLine:Nat)<2 ^ 63:=by rw[eK];decide
theorem H9:Tt X (λx H Q=>∃k,vd X.K x H k/\Q k H):=by
 intro ah s σ H x v Q I rx h;obtain⟨k,e,q⟩:=h;have hl:=uQ;have hs:sizeLine=16777216:=eK;cases x with
 |non=>
  cases rx;have e':k=false:=e;subst e';exact truthy_none ⟨H,I,q⟩
 |bl b=>
  cases rx;have e':k=b:=e;subst e';exact oG ⟨H,I,q⟩
 |int i=>
  obtain⟨t,rfl⟩:=rx;have e':k=(i != 0):=e;subst e';exact PySem.P.truthy_int ⟨H,I,q⟩
 |str y=>
  obtain⟨t,rfl⟩:=rx;obtain⟨hy,e'⟩ : y.length<=sizeLine/\k=((y.length:Int) != 0):=e;subst e';exact PySem.P.truthy_str (by omega) ⟨H,I.tok _,q⟩
 |byt y=>
  obtain⟨t,rfl⟩:=rx;obtain⟨hy,e'⟩ : y.size<=sizeLine/\k=((y.size:Int) != 0):=e;subst e';exact PySem.W.truthy_bytes (by omega) ⟨H,I.tok _,q⟩
 |ref p=>
  cases rx;have e':(∃xs,eY X.K H p xs/\k = !xs.isEmpty)\/(∃xs,fK X.K H p xs/\k = !xs.isEmpty)\/∃ao,H p=ab (.dK ao)/\k = !ao.isEmpty:=e;rcases e' with ⟨xs,hx,e'⟩|⟨xs,hx,e'⟩|⟨ao,hx,e'⟩
  ·subst e';obtain⟨av,r,pl,hz⟩:=I.list hx;have hlen:=r.length;exact wpAny_truthy_list pl.isList (by simp only[dH];omega) ⟨H,I.tok _,by rw[Fc r];exact q⟩
  ·subst e';obtain⟨av,r,pl,hz⟩:=I.tuple hx;have hlen:=r.length;exact truthy_tuple pl (by simp only[dH];omega) ⟨H,I.tok _,by rw[Fc r];exact q⟩
  ·subst e';obtain⟨hz,hS,vs,r,m⟩ : ao.length<=sizeLine/\(p==sysModules)=false/\∃vs,KV ao vs/\s.heap.DictOf (iD X.prog X.w) p vs:=I.hok p _ hx;have hlen:ao.length=vs.length:=vG r;exact wpAny_truthy_dict hS m (by omega) ⟨H,I.tok _,by rw[PV r];exact q⟩
 |_=>exact(show False from e).elim
theorem pN(ha:PE X a ta)(he:∀whole,isTrue a X.env whole=(do let v <- whole;standAt a.pos;holding [v] (truthy v))) :
 PT X a (λσ H Q=>ta σ H λx H'=>∃k,vd X.K x H' k/\Q k H'):=by
 intro ah s σ H Q I h;exact isTrue_plain (bb (ha ah s σ H _ I h) λv s1 ⟨x,H1,I1,r1,q1⟩=>H9 ah s1 σ H1 x v Q I1 r1 q1) (he _)
theorem Pq:cY X (binaryOp .Add) (λx y H Q=>∃i j,x=.str i/\y=.str j/\i.length+j.length<=sizeLine/\Q (.str (i++j)) H):=by intro ah s σ H x y v u Q I rx ry h;obtain⟨i,j,rfl,rfl,hz,q⟩:=h;obtain⟨t,rfl⟩:=rx;obtain⟨t',rfl⟩:=ry;exact add_str (λt' tk=>⟨.str (i++j),H,I.tok _,⟨_,rfl⟩,q⟩) hz
theorem vals1{x:V}{us:List aj}(r:Vals [x] us):∃u,us=[u]/\RelV x u:=by
 cases r with
 |cons r1 r2=>cases r2;exact⟨_,rfl,r1⟩
theorem vals2{x y:V}{us:List aj}(r:Vals [x,y] us):∃u w',us=[u,w']/\RelV x u/\RelV y w':=by
 cases r with
 |cons r1 r2=>
  cases r2 with
  |cons r3 r4=>cases r4;exact⟨_,_,rfl,r1,r3⟩
theorem Pu(hc:X.calm=true):ia X (.builtin "max") (λxs H Q=>∃i j,xs=[.int i,.int j]/\Q (.int (if j>i then j else i)) H):=by
 intro ah s σ H xs us Q I r h;obtain⟨i,j,rfl,q⟩:=h;obtain⟨u,w',rfl,⟨t,rfl⟩,⟨t',rfl⟩⟩:=vals2 r;refine max_two_ints (I.ok.hd hc) λh' tk k=>⟨_,H,I.kept k,?_,q⟩;by_cases hj:j>i
 ·rw[bc hj,bc hj];exact⟨_,rfl⟩
 ·rw[a8 hj,a8 hj];exact⟨_,rfl⟩
theorem O3(hc:X.calm=true):ia X (.builtin "min") (λxs H Q=>∃i j,xs=[.int i,.int j]/\Q (.int (if j<i then j else i)) H):=by
 intro ah s σ H xs us Q I r h;obtain⟨i,j,rfl,q⟩:=h;obtain⟨u,w',rfl,⟨t,rfl⟩,⟨t',rfl⟩⟩:=vals2 r;refine min_two_ints (I.ok.hd hc) λh' tk k=>⟨_,H,I.kept k,?_,q⟩;by_cases hj:j<i
 ·rw[bc hj,bc hj];exact⟨_,rfl⟩
 ·rw[a8 hj,a8 hj];exact⟨_,rfl⟩
def GA(K:aU)(x:V)(H:Hp)(n:Nat):Prop:=
 match x with
 |.str y=>y.length<=sizeLine/\n=y.length
 |.byt y=>y.size<=sizeLine/\n=y.size
 |.ref p=>(∃xs,eY K H p xs/\n=xs.length)\/∃xs,fK K H p xs/\n=xs.length
 |_=>False
theorem QA:ia X (.builtin "len") (λxs H Q=>∃x n,xs=[x]/\GA X.K x H n/\Q (.int n) H):=by
 intro ah s σ H xs us Q I r h;obtain⟨x,n,rfl,e,q⟩:=h;obtain⟨u,rfl,rx⟩:=vals1 r;have hl:=uQ;have hs:sizeLine=16777216:=eK;cases x with
 |str y=>
  obtain⟨t,rfl⟩:=rx;obtain⟨hy,e'⟩ : y.length<=sizeLine/\n=y.length:=e;subst e';exact len_str (by omega) ⟨.int _,H,I.tok _,⟨_,rfl⟩,q⟩
 |byt y=>
  obtain⟨t,rfl⟩:=rx;obtain⟨hy,e'⟩ : y.size<=sizeLine/\n=y.size:=e;subst e';exact PySem.W.len_bytes (by omega) ⟨.int _,H,I.tok _,⟨_,rfl⟩,q⟩
 |ref p=>
  cases rx;have e':(∃xs,eY X.K H p xs/\n=xs.length)\/∃xs,fK X.K H p xs/\n=xs.length:=e;rcases e' with ⟨xs,hx,e'⟩|⟨xs,hx,e'⟩
  ·subst e';obtain⟨av,r',pl,hz⟩:=I.list hx;have hlen:=r'.length;exact Calls.call_len_list pl.isList (by simp only[dH];omega) ⟨.int xs.length,H,I.tok _,⟨_,by simp only[dH];rw[hlen]⟩,q⟩
  ·subst e';obtain⟨av,r',pl,hz⟩:=I.tuple hx;have hlen:=r'.length;exact len_tuple pl (by simp only[dH];omega) ⟨.int xs.length,H,I.tok _,⟨_,by simp only[dH];rw[hlen]⟩,q⟩
 |_=>exact(show False from e).elim
end
structure BA(h:aZ)(x dx C:ai)(mA:Str->Option aj):Prop where
 obj:h.get? x=ab (Cv C dx)
 ns:h.Ns1 dx mA
 ne:dx≠x
theorem NE{h:aZ}{dx:ai}{mA:Str->Option aj}(n:h.Ns1 dx mA):∃od,h.get? dx=ab od/\∀name,Cy name od=ab (mA name):=by
 obtain⟨o,es,ep,ho,hd,hk,_,hm⟩:=n;refine⟨o,ho,λname=>?_⟩;have e:=hm name;unfold nsFind findBy at e;rw[<- Array.find?_toList]at e;unfold Cy;rw[hd];dsimp only;split
 ·rename_i y q;rw[q]at e;exact congrArg ab e
 ·rename_i q;rw[q]at e;have a:es.toList.any (·.refKey)=false:=by
   rw[xS];intro y hy;obtain⟨z,t,hkey⟩:=hk y (Array.mem_toList_iff.mp hy);simp[DictEntry.refKey,hkey]
  have a':¬ es.toList.any (·.refKey)=true:=by rw[a];exact cZ
  rw[a8 a'];exact congrArg ab e
theorem BA.look{h:aZ}{x dx C:ai}{mA:Str->Option aj}(I:BA h x dx C mA):∃od,PySem.W.InstAt h x (Cv C dx) C (ab od)/\∀name,Cy name od=ab (mA name):=
 let ⟨od,ho,hl⟩:=NE I.ns
 ⟨od,⟨I.obj,rfl,rfl,ho⟩,hl⟩
theorem k9.some_of{v:V}{o:Option aj}(r:k9 (ab v) o):∃u,o=ab u/\RelV v u:=by
 cases o with
 |none=>exact(show False from r).elim
 |some u=>exact⟨u,rfl,r⟩
section
variable{P:bG}{w:bi}{H H':Hp}{h h':aZ}{a C dx:ai}{fs fs':List (Str×V)}
theorem O2(hok:dy P w H h)(e:H a=ab (.ins C dx fs)):∃mA,BA h a dx C mA/\(∀f,k9 (fs.lookup f) (mA f))/\PySem.Within mA (fs.map (·.1))/\fs.length<=1000/\H dx=ab (.own a):=by obtain⟨d,z,ne,ob,mA,n,r,q⟩:=(show dD P w H h a (.ins C dx fs)from hok a _ e);exact⟨mA,⟨ob,n,ne⟩,r,q,z,d⟩
end
structure BI(K:aU)(C:ai):Prop where
 pg:JS K C oQ=true
 hd:PySem.W.hasDictIn K C=true
 po:PySem.W.plainOver K C=true
 sa:JT K (.ref C) "__setattr__" = ab (ab (.builtin "object.__setattr__"))
theorem BI.get{K:aU}{C:ai}(c:BI K C)(f:Str):JS K C f=true:=c.pg
section
variable{X:Cx}{ah:List (ai×Obj)}{σ:St}{H:Hp}{s:aB}{A:b9}{E:aj->aB->Prop}{Q:aj->aB->Prop}{c:aj}{b:Bool}
inductive jh(K:aU)(H:Hp):V->aj->Prop where
 |non:jh K H .non (.type "NoneType")
 |bl (x:Bool):jh K H (.bl x) (.type "bool")
 |int (i:Int):jh K H (.int i) (.type "int")
 |str (x:Str):jh K H (.str x) (.type "str")
 |flt (x:UInt64):jh K H (.flt x) (.type "float")
 |lst {a:ai} {xs:List V} (e:H a=ab (.lst xs)):jh K H (.ref a) (.type "list")
 |frz {a:ai} {o:Obj} {xs:List V} (e:H a=ab (.frz o (.lst xs))):jh K H (.ref a) (.type "list")
 |tup {a:ai} {xs:List V} (e:H a=ab (.tup xs)):jh K H (.ref a) (.type "tuple")
 |dK {a:ai} {ao:List (Key×V)} (e:H a=ab (.dK ao)):jh K H (.ref a) (.type "dict")
 |dT {a:ai} {ao:List (List Key×V)} (e:H a=ab (.dT ao)):jh K H (.ref a) (.type "dict")
 | ins {a C dx:ai} {fs:List (Str×V)} (e:H a=ab (.ins C dx fs)) (cl:BI K C) (ha:JT K (.ref C) "__class__" = ab (ab (.builtin "object.__class__")))
  (hn:PySem.W.specialIn K (.builtin "object.__class__") "__get__" = ab (ab (.builtin "getset_descriptor.__get__"))) (htk:PySem.W.takesIn K (.builtin "object.__class__")=ab true)
  (hm:PySem.W.mroIn K C (.type "object")=ab true):jh K H (.ref a) (.ref C)
theorem OD{x:V}{u t:aj}(I:Inv X ah σ H s)(rx:RelV x u)(ty:jh X.K H x t)(e:Cz X.K t c=ab b)(h:∀tk,Q (.bool b) { s with toks:=tk }) :
 wpAny (model X.prog X.w) A (call (.builtin "isinstance") [u,c]) Q E s:=by
 cases ty with
 |non=>cases(show u=kN from rx);exact lm PySem.W.kitx_none I.gC lw e (λz=>nomatch z) h
 |bl y=>cases(show u=iV y from rx);exact lm PySem.W.kitx_bool I.gC lw e (λz=>nomatch z) h
 |int i=>obtain⟨t,q⟩:=(show∃t,u=Value.int i t from rx);cases q;exact lm PySem.W.kitx_int I.gC lw e (λz=>nomatch z) h
 |str y=>obtain⟨t,q⟩:=(show∃t,u=qt y t from rx);cases q;exact lm PySem.W.kitx_str I.gC lw e (λz=>nomatch z) h
 |flt y=>obtain⟨t,q⟩:=(show∃t,u=Value.float y t from rx);cases q;exact lm PySem.W.kitx_float I.gC lw e (λz=>nomatch z) h
 | @lst a xs ea=>
  cases(show u=eA a from rx);obtain⟨_,_,n,_,h1⟩:=(show dD X.prog X.w H s.heap a (.lst xs)from I.hok a _ ea);exact lm JQ I.gC ⟨_,h1,rfl⟩ e (λz=>nomatch z) h
 | @frz a ob xs ea=>
  cases(show u=eA a from rx);obtain⟨_,_,_,n,_,h1⟩:=(show dD X.prog X.w H s.heap a (.frz ob (.lst xs))from I.hok a _ ea);exact lm JQ I.gC ⟨_,h1,rfl⟩ e (λz=>nomatch z) h
 | @tup a xs ea=>
  cases(show u=eA a from rx);obtain⟨_,_,_,p⟩:=(show dD X.prog X.w H s.heap a (.tup xs)from I.hok a _ ea);obtain⟨o,h1,h2,_⟩:=p;exact lm PySem.W.kitx_tuple I.gC ⟨o,h1,h2⟩ e (λz=>nomatch z) h
 | @dK a ao ea=>
  cases(show u=eA a from rx);obtain⟨_,_,vs,_,p⟩:=(show dD X.prog X.w H s.heap a (.dK ao)from I.hok a _ ea);obtain⟨o,es,ep,h1,h2,_⟩:=p;exact lm JR I.gC ⟨o,h1,h2.1⟩ e (λz=>nomatch z) h
 | @dT a ao ea=>
  cases(show u=eA a from rx);obtain⟨_,_,xs,_,o,es,ep,h1,h2,_⟩:=(show dD X.prog X.w H s.heap a (.dT ao)from I.hok a _ ea);exact lm JR I.gC ⟨o,h1,h2.1⟩ e (λz=>nomatch z) h
 | @ins a C dx fs ea cl ha hn htk hm=>
  cases(show u=eA a from rx);obtain⟨mA,O,_⟩:=O2 I.hok ea;obtain⟨od,J,_⟩:=O.look;exact lm (PySem.W.kitx_own (cl.get _) cl.hd ha hn htk hm) I.gC J e (λz=>nomatch z) h
end
structure dw(k:Nat)(A:b9):Prop where
 hd:A.handled=ae
 dp:A.depth+3*k+5<recursionLimit
 un:A.units+16*k+200<cLine
theorem dw.mono{j k:Nat}{A:b9}(r:dw k A)(h:j<=k):dw j A:=⟨r.hd,by have:=r.dp;omega,by have:=r.un;omega⟩
theorem dw.deeper{k:Nat}{A:b9}(r:dw (k+1) A)(env:Env):dw k (A.deeper env):=⟨r.hd,by have:=r.dp;show A.depth+1+3*k+5<_;omega,by have:=r.un;show A.units+3+16*k+200<_;omega⟩
theorem dw.depth{k:Nat}{A:b9}(r:dw k A):A.depth<recursionLimit:=by have:=r.dp;omega
theorem dw.units{k:Nat}{A:b9}(r:dw k A):A.units+64<cLine:=by have:=r.un;omega
def iE:TA:=λ_ H Q=>Q [] H
def fU(ta:TE)(tr:TA):TA:=λσ H Q=>ta σ H λx H1=>tr σ H1 λxs H2=>Q (x::xs) H2
section
variable{X:Cx}{e:a9}{es:List a9}{te:TE}{t:TA}{pos:Pos}
theorem bj:PA X [] iE:=λ_ _ _ _ H Q I h=>CU ⟨[],H,I,.nil,h⟩
theorem au(ha:PE X e te)(hr:PA X es t)(hs:starEach (e::es) X.env=(false,eval e X.env)::starEach es X.env:=by rfl):PA X (e::es) (fU te t):=by intro pos ah s σ H Q I h;rw[hs];show wpAny _ _ (spliced ((false,eval e X.env)::backTo pos (starEach es X.env))) _ _ s;refine yA (bb (ha ah s σ H _ I h) λu s1 ⟨x,H1,I1,r1,q1⟩=>?_);exact bb (hr pos ah s1 σ H1 _ I1 q1) λus s2 ⟨xs,H2,I2,r2,q2⟩=>⟨x::xs,H2,I2,.cons r1 r2,q2⟩
def wJ(t:TA):TE:=λσ H Q=>t σ H λxs H1=>xs.length<=sizeLine/\∀p,H1 p=ae->Q (.ref p) (upd H1 p (.tup xs))
def zM(t:TA):TE:=λσ H Q=>t σ H λxs H1=>xs.length<=sizeLine/\∀p,H1 p=ae->Q (.ref p) (upd H1 p (.lst xs))
theorem fF{x1}(h:PA X es t):PE X (.Tuple es x1 pos) (wJ t):=by intro ah s σ H Q I hq;refine wpAny_Tuple_spliced (bb (h pos ah s σ H _ I hq) λus s1 ⟨xs,H1,I1,r,z,q⟩=>⟨by rw[<- r.length];exact z,?_⟩);have hf:H1 s1.heap.objs.size=ae:=I1.hok.fresh (bK _);refine⟨.ref s1.heap.objs.size,upd H1 s1.heap.objs.size (.tup xs),I1.laid (t':=s1.toks) (λb u e=>cM _ e) (bK _) ?_,rfl,q _ hf⟩;exact⟨z,us,r,⟨_,dS _ rfl,rfl,rfl,_,rfl⟩⟩
theorem c7(h:PA X es t):PE X (.List es pos) (zM t):=by intro ah s σ H Q I hq;refine wpAny_List_spliced (bb (h pos ah s σ H _ I hq) λus s1 ⟨xs,H1,I1,r,z,q⟩=>⟨by rw[<- r.length];exact z,?_⟩);have hf:H1 s1.heap.objs.size=ae:=I1.hok.fresh (bK _);refine⟨.ref s1.heap.objs.size,upd H1 s1.heap.objs.size (.lst xs),I1.laid (t':=s1.toks) (λb u e=>cM _ e) (bK _) ?_,rfl,q _ hf⟩;exact⟨z,us,0,r,dS _ rfl⟩
end
abbrev Sp:=List V->Hp->VK->XK->Prop
abbrev ic:=List Env->Hp->aB->XK->aj->aB->Prop
structure ot(P:bG)(w:bi)(K:aU)(mg:Str->Option aj)(base:aZ)(A:b9)(outer:List Env)(s:aB)(H:Hp):Prop where
 frames:A.frames=ab outer
 mod:Mod K mg base
 bs:∀b o,base.get? b=ab o->s.heap.get? b=ab o/\H b=ae
 bsz:base.objs.size<=s.heap.objs.size
 jG:s.heap.FunFrames base outer
 frf:∀b∈frs outer,H b=ae
 hok:dy P w H s.heap
 bare:oO s.gens
def CE(outer:List Env)(P:bG)(w:bi)(H:Hp)(s:aB)(Q:VK)(u:aj)(s':aB):Prop:=∃v H',s'.os=s.os/\oO s'.gens/\Un (frs outer) [] H H' s.heap s'.heap/\dy P w H' s'.heap/\RelV v u/\Q v H'
def CR(CX:ic)(outer:List Env)(P:bG)(w:bi)(H:Hp)(s:aB)(Q:VK)(E:XK)(r:Result)(s':aB):Prop:=
 match r with
 |.ok (.ret u)=>CE outer P w H s Q u s'
 |.ok _=>False
 |.error e=>CX outer H s E e s'
structure bH(P:bG)(w:bi)(K:aU)(mg:Str->Option aj)(base:aZ)(CX:ic)(k:Nat)(f:ai)(fd:bJ)(ps:List Str)(sp:Sp):Prop where
 len:∀vs H Q E,sp vs H Q E->vs.length=ps.length
 run:∀(A:b9) (outer:List Env) (s:aB) (H:Hp) (args:Args) (us:List aj) (vs:List V) (Q:VK) (E:XK),dw k A->ot P w K mg base A outer s H->nC s fd args (ps.zip us)->Vals vs us->sp vs H Q E ->
  codeAny (model P w) A (.call (.ref f) args) (CR CX outer P w H s Q E) s
theorem bH.imp{P:bG}{w:bi}{K:aU}{mg:Str->Option aj}{base:aZ}{CX:ic}{k:Nat}{f:ai}{fd:bJ}{ps:List Str}{sp sp':Sp}(F:bH P w K mg base CX k f fd ps sp)
 (h:∀vs H Q E,sp' vs H Q E->sp vs H Q E):bH P w K mg base CX k f fd ps sp':=
 ⟨λvs H Q E q=>F.len vs H Q E (h _ _ _ _ q),λA outer s H args us vs Q E hr he hb hv hs=>F.run A outer s H args us vs Q E hr he hb hv (h _ _ _ _ hs)⟩
section
variable{X:Cx}{ah:List (ai×Obj)}{σ:St}{H:Hp}{s s':aB}
theorem Inv.env0(I:Inv X ah σ H s):ot X.prog X.w X.K X.mg X.base X.A X.stack s H:=⟨I.ok.frames,I.ok.mod,I.bs,cU I.ok.bsz I.sz,I.stack,I.DP,I.hok,I.bare⟩
theorem Inv.after{Q:VK}{u:aj}(I:Inv X ah σ H s)(h:CE X.stack X.prog X.w H s Q u s'):EP X ah σ Q u s':=by obtain⟨v,H',os,bare,un,hok,r,q⟩:=h;obtain⟨hh,g,d,t,os'⟩:=s';obtain rfl:os'=s.os:=os;exact⟨v,H',I.call (h':=hh) (g':=g) (d':=d) (t':=t) (ch:=[]) un hok bare (λb z=>absurd z (by simp)),r,q⟩
end
def oh(sp:Sp)(dvs:List V)(E:XK)(t:TA):TE:=λσ H Q=>t σ H λvs H1=>sp (vs++dvs) H1 Q E
def Binds(K:aU)(fd:bJ)(ps:List Str)(ds:List aj):Prop:=∀(s:aB) (us:List aj),K.In s.heap->(us++ds).length=ps.length->nC s fd ⟨us,[]⟩ (ps.zip (us++ds))
theorem Binds.all{K:aU}{fd:bJ}{ps:List Str}(h:∀us:List aj,us.length=ps.length->bindArgs fd ⟨us,[]⟩=pure (ps.zip us)):Binds K fd ps []:=λs us _ hl=>by
 rw[qo]at hl ⊢;exact .of_eq (h us hl)
def vN(CX:ic)(X:Cx)(E:XK):Prop:=∀(ah:List (ai×Obj)) (σ:St) (H:Hp) (s:aB) (e:aj) (s':aB),Inv X ah σ H s->CX X.stack H s E e s'->X.xe e s'
section
variable{X:Cx}{CX:ic}{k:Nat}{f C:ai}{fd:bJ}{ps:List Str}{sp:Sp}{dvs:List V}{ds:List aj}{E:XK}{x m:Str}{p pos apos:Pos}{e o:a9}{es:List a9}{ta:TE}{t:TA}
theorem Qc{ah:List (ai×Obj)}{σ:St}{H:Hp}{s:aB}{Q:VK}{us:List aj}{vs:List V}(F:bH X.prog X.w X.K X.mg X.base CX k f fd ps sp)(hr:dw k X.A)(hb:Binds X.K fd ps ds)(hd:Vals dvs ds)(hx:vN CX X E)
 (I:Inv X ah σ H s) (r:Vals vs us) (h:sp (vs++dvs) H Q E):wpAny (model X.prog X.w) X.A (call (.ref f) us) (EP X ah σ Q) X.xe s:=by
 have r2:Vals (vs++dvs) (us++ds):=r.append hd;have hl:(us++ds).length=ps.length:=by rw[<- r2.length];exact F.len _ _ _ _ h
 refine wpAny_call (ym (F.run X.A X.stack s H ⟨us,[]⟩ (us++ds) (vs++dvs) Q E hr I.env0 (hb s us I.gC hl) r2 h) λr s' hq=>?_);cases r with
 |error e=>exact hx ah σ H s e s' I hq
 |ok fl=>
  cases fl with
  |ret u=>exact I.after hq
  |next=>exact iW hq
  |brk=>exact iW hq
  |cont=>exact iW hq
theorem Sq(F:bH X.prog X.w X.K X.mg X.base CX k f fd ps sp)(hr:dw k X.A)(hg:Gl X x)(hm:X.mg x=ab (.ref f))(hk:mq X.K (.ref f)=true)(hb:Binds X.K fd ps ds)(hd:Vals dvs ds)(hx:vN CX X E)
 (ha:PA X (e::es) t) (hdb:(x==("__debug__" : Str))=false:=by decide) (he:starEach (e::es) X.env=(false,eval e X.env)::starEach es X.env:=by rfl) (hpl:(backTo pos (starEach es X.env)).any (·.1)=false:=by rfl) :
 PE X (.Call (.Name x p) (e::es) [] pos) (oh sp dvs E t):=by
 intro ah s σ H Q I h;refine vv (A2 I hg hm ?_ hdb);refine JO (h₀:=X.base) I.ok.mod.kin hk (bb (ha pos ah s σ H _ I h) λus s1 ⟨vs,H1,I1,r,q⟩=>⟨I1.gC,?_⟩) he hpl;exact Qc F hr hb hd hx I1 r q
end
structure cn(N P:List Str)(sc:fg):Prop where
 kind:sc.kind=.function
 co:sc.isCoroutine=false
 gen:sc.isGenerator=false
 nd:N.Nodup
 pre:N.take P.length=P
 par:∀x∈P,sc.names.lookup x=ab .local\/sc.names.lookup x=ab .cell
 TH:∀y∈sc.names,y.2≠.free
theorem Jl{kindOf:Str->Option oJ}{x:Str}:∀{binds:List (Str×aj)} {m:Str->Option aj},(∀v,(x,v)∉binds)->bindL kindOf binds m x=m x
 |[],_,_=>rfl
 |(n,v)::r,m,h=>by
  unfold bindL;rw[Jl λw hw=>h w (dR _ hw)];split
  ·have:x≠n:=by rintro rfl;exact h v cJ
   simp[this]
  ·rfl
theorem EV{kindOf:Str->Option oJ}{x:Str}:∀{binds:List (Str×aj)} {m:Str->Option aj},(∀v,(x,v)∉binds)->bindC kindOf binds m x=m x
 |[],_,_=>rfl
 |(n,v)::r,m,h=>by
  unfold bindC;rw[EV λw hw=>h w (dR _ hw)];split
  ·rfl
  ·have:x≠n:=by rintro rfl;exact h v cJ
   simp[this]
theorem Es{kindOf:Str->Option oJ}{x:Str}{v:aj}:∀{P:List Str} {vs:List aj} {i:Nat} {m:Str->Option aj},P.Nodup->P[i]? = ab x->vs[i]? = ab v->kindOf x=ab .local ->
 bindL kindOf (P.zip vs) m x=ab v
 |[],_,_,_,_,h,_,_=>by simp at h
 |_::_,[],_,_,_,_,h,_=>by simp at h
 |p::P,w::vs,0,m,nd,h1,h2,hk=>by
  simp at h1 h2;subst h1;subst h2;show bindL kindOf ((p,w)::P.zip vs) m p=_;unfold bindL;rw[Jl λv hv=>(iU.mp nd).1 (xV hv).1,bc hk];simp
 |p::P,w::vs,i+1,m,nd,h1,h2,hk=>by
  show bindL kindOf ((p,w)::P.zip vs) m x=_;unfold bindL;exact Es (i:=i) (iU.mp nd).2 (by simpa using h1) (by simpa using h2) hk
theorem Ja{kindOf:Str->Option oJ}{x:Str}{v:aj}:∀{P:List Str} {vs:List aj} {i:Nat} {m:Str->Option aj},P.Nodup->P[i]? = ab x->vs[i]? = ab v->kindOf x≠ab .local ->
 bindC kindOf (P.zip vs) m x=ab v
 |[],_,_,_,_,h,_,_=>by simp at h
 |_::_,[],_,_,_,_,h,_=>by simp at h
 |p::P,w::vs,0,m,nd,h1,h2,hk=>by
  simp at h1 h2;subst h1;subst h2;show bindC kindOf ((p,w)::P.zip vs) m p=_;unfold bindC;rw[EV λv hv=>(iU.mp nd).1 (xV hv).1,a8 hk];simp
 |p::P,w::vs,i+1,m,nd,h1,h2,hk=>by
  show bindC kindOf ((p,w)::P.zip vs) m x=_;unfold bindC;exact Ja (i:=i) (iU.mp nd).2 (by simpa using h1) (by simpa using h2) hk
def start(N:List Str)(vs:List V):St:=vs.map ab++cK (N.length-vs.length) ae
def lN(CX:ic)(P:bG)(w:bi)(K:aU)(mg:Str->Option aj)(base:aZ)(N:List Str)(qual:Str)(scope:fg)(f:ai)(cd:aj)(A:b9)(outer:List Env)(s:aB)(H:Hp)(E:XK):Cx where
 prog:=P
 w:=w
 K:=K
 mg:=mg
 base:=base
 A:=A.deeper (envOfC qual scope s.heap.objs.size f cd)
 N:=N
 s₀:=s
 H₀:=H
 env:=envOfC qual scope s.heap.objs.size f cd
 outer:=outer
 stack:=envOfC qual scope s.heap.objs.size f cd::outer
 ex:=[]
 calm:=true
 fn:=λ_=>true
 pn:=[]
 xe:=λe s'=>wpAny (model P w) (A.deeper (envOfC qual scope s.heap.objs.size f cd)) (leaving (envOfC qual scope s.heap.objs.size f cd) e) (λ_ s''=>CX outer H s E e s'') (λe' s''=>CX outer H s E e' s'') s'
theorem Hb{sc:fg}{n:Nat}{x:Str}(h:sc.names.lookup x=ab .cell):∃c,(cellsFrom n sc.names []).lookup x=ab c:=by have q:=Ct sc.names n [] (.inl h);exact Option.isSome_iff_exists.mp q
theorem FW{CX:ic}{P:bG}{w:bi}{K:aU}{mg:Str->Option aj}{base:aZ}{N ps:List Str}{qual:Str}{scope:fg}{f:ai}{cd:aj}{A:b9}{outer:List Env}{s s1:aB}{H:Hp}{E:XK}{us:List aj}{vs:List V}
 (S:cn N ps scope) (hd:A.handled=ae) (e0:ot P w K mg base A outer s H) (hl:vs.length=ps.length) (r:Vals vs us)
 (x:InCallC s s.heap.objs.size (bindL (envOfC qual scope s.heap.objs.size f cd).kindOf (ps.zip us) λ_=>ae) (cellsFrom (s.heap.objs.size+1) scope.names []) (bindC (envOfC qual scope s.heap.objs.size f cd).kindOf (ps.zip us) λ_=>ae) s1) :
 Inv (lN CX P w K mg base N qual scope f cd A outer s H E) [] (start N vs) H s1:=by
 have hpl:ps.length<=N.length:=by have:=congrArg Cq S.pre;rw[iJ]at this;omega
 obtain⟨h1,tk,rfl,hk⟩:=x.done;have noA:∀b:ai,b∉(lN CX P w K mg base N qual scope f cd A outer s H E).ex:=λb z=>absurd (show b∈([]:List ai)from z) (by simp);refine⟨⟨e0.mod,S.kind,rfl,rfl,bK _,λy z c h1 h2=>?_,λy hy=>?_,λy c _ h=>?_,λ_=>hd,Km e0.frames,.inr ⟨rfl,rfl⟩,λb z=>absurd z (noA b),e0.bs,e0.bsz,λb _ _=>noA b,λb z=>absurd z (noA b),e0.jG,e0.frf⟩,
  rfl,e0.bare,Un.kept hk,⟨_,x.toInCall.ns,λi y v h1 h2 h3=>?_⟩,λy c h=>⟨_,x.cell y c h⟩,e0.hok.fresh (bK _),λy c h=>?_,λp hp=>absurd (show p∈([]:List (ai×Obj))from hp) (by simp),e0.hok.kept hk,?_⟩
 ·exact name_of_addr x.apart (nB h1) (nB h2)
 ·have hy:scope.names.lookup y=ab .cell\/scope.names.lookup y=ab .free:=hy;rcases hy with hy|hy
  ·exact Hb hy
  ·exact absurd rfl (S.TH _ (nB hy))
 ·exact yt (x.above y c (nB h))
 ·have hi:i<vs.length:=by
   unfold start at h2;by_cases hi:i<vs.length
   ·exact hi
   ·rw[kG (by simpa using hi)]at h2;rw[JD]at h2;split at h2<;>cases h2
  have ha:vs[i]? = ab v:=by
   unfold start at h2;rw[mf (by simpa using hi),cS]at h2;cases e:vs[i]? with
   |none=>rw[e]at h2;cases h2
   |some a=>rw[e]at h2;cases h2;rfl
  obtain⟨u,hu,rv⟩:=r.get ha;have hp:ps[i]? = ab y:=by rw[<- S.pre,Ca (by omega)];exact h1
  have ndP:ps.Nodup:=by rw[<- S.pre];exact S.nd.sublist (List.take_sublist _ _)
  refine⟨u,rv,?_⟩;rcases S.par y (eS hp)with k|k
  ·exact .inl ⟨k,Es ndP hp hu k⟩
  ·obtain⟨c,e⟩:=Hb (n:=s.heap.objs.size+1) k;refine .inr ⟨.inl k,c,e,?_⟩;have q:=x.cell y c e;rw[Ja ndP hp hu (by show scope.names.lookup y≠_;rw[k];decide)]at q;exact q
 ·exact e0.hok.fresh (yt (x.above y c (nB h)))
 ·unfold start;show _=N.length;rw[bU,aO,Cb];omega
theorem Fg{CX:ic}{P:bG}{w:bi}{K:aU}{mg:Str->Option aj}{base:aZ}{k:Nat}{f:ai}{name qual:Str}{params:sH}{body:List bC}{scope:fg}{dV kV doc pm cdv ct oc:aj}{an od:Option ai}
 {osl:Array (Option aj)} {N ps:List Str} {sp:Sp} (lk:K.lookup f=ab ⟨oc,od,.func (lp name qual params body scope dV kV doc pm an cdv ct),osl⟩) (hcd:sD K cdv qual=true) (S:cn N ps scope)
 (len:∀vs H Q E,sp vs H Q E->vs.length=ps.length)
 (hbody:∀(A:b9) (outer:List Env) (s:aB) (H:Hp) (vs:List V) (Q:VK) (E:XK),dw k (A.deeper (envOfC qual scope s.heap.objs.size f cdv))->sp vs H Q E ->
  ∃t,io (lN CX P w K mg base N qual scope f cdv A outer s H E) body t/\t { nx:=λ_ H'=>Q .non H',rt:=Q } (start N vs) H) :
 bH P w K mg base CX (k+1) f (lp name qual params body scope dV kV doc pm an cdv ct) ps sp:=by
 refine⟨len,λA outer s H args us vs Q E hr e0 hb r hsp=>?_⟩;have hl:=len _ _ _ _ hsp;have KX:K.In s.heap:=e0.mod.kin.keeps λb o e=>(e0.bs b o e).1;have lim:s.heap.NoLimit:=e0.mod.nolimit.keeps λb o e=>(e0.bs b o e).1;have hkind:∀y∈ps.zip us,scope.names.lookup y.1=ab .local\/(scope.names.lookup y.1=ab .cell/\((cellsFrom (s.heap.objs.size+1) scope.names []).lookup y.1).isSome=true):=λ⟨n,v⟩ hy=>by
  rcases S.par n (xV hy).1 with q|q
  ·exact .inl q
  ·exact .inr ⟨q,Ct _ _ _ (.inl q)⟩
 refine codeAny_call_function hr.depth (KX _ _ lk) rfl S.co S.gen rfl (JP KX hcd) (hb _ _ _ _ ?_);refine JU S.kind hkind λenv he s1 x=>?_;subst he;refine⟨lim.keeps x.toInCall.keep,codeAny_func ?_⟩;obtain⟨t,ht,hq⟩:=hbody A outer s H vs Q E (hr.deeper _) hsp;have I:Inv (lN CX P w K mg base N qual scope f cdv A outer s H E) [] (start N vs) H s1:=FW S hr.hd e0 hl r x;refine jY (ht [] s1 (start N vs) H _ I hq) (λfl s' hs=>?_) λe s' hs=>hs;have fin:∀{σ':St} {H':Hp} {v:V} {u:aj},Inv (lN CX P w K mg base N qual scope f cdv A outer s H E) [] σ' H' s'->RelV v u->Q v H'->CE outer P w H s Q u s':=
  λ{σ' H' v u} J rv q=>⟨v,H',J.os,J.bare,J.base,J.hok,rv,q⟩
 cases fl with
 |ret u=>
  obtain⟨v,σ',H',J,rv,q⟩:=hs;exact fin J rv q
 |next=>
  obtain⟨σ',H',J,q⟩:=hs;exact fin (v:=V.non) (u:=kN) J rfl q
 |brk=>
  obtain⟨_,_,_,q⟩:=hs;exact iW q
 |cont=>
  obtain⟨_,_,_,q⟩:=hs;exact iW q
section
variable{X:Cx}{x:Str}{p pos:Pos}{e:a9}{es:List a9}{t:TA}{id T:String}{r:List V->Hp->VK->Prop}
def v8(r:List V->Hp->VK->Prop)(t:TA):TE:=λσ H Q=>t σ H λvs H1=>r vs H1 Q
theorem gH(hc:ia X (.builtin id) r)(hg:Gl X x)(hm:X.mg x=ae)(hv:bootBuiltins x=ab (.builtin id))(ha:PA X (e::es) t)(hn:x ≠ "__name__" := by decide)(hdb:(x==("__debug__" : Str))=false:=by decide)
 (he:starEach (e::es) X.env=(false,eval e X.env)::starEach es X.env:=by rfl) (hpl:(backTo pos (starEach es X.env)).any (·.1)=false:=by rfl):PE X (.Call (.Name x p) (e::es) [] pos) (v8 r t):=by
 intro ah s σ H Q I h;refine vv (o1 I hg hm hv ?_ hn hdb);exact PyProof.Rows.callWith_builtin1 (bb (ha pos ah s σ H _ I h) λus s1 ⟨vs,H1,I1,r1,q1⟩=>hc ah s1 σ H1 vs us Q I1 r1 q1) he hpl
theorem hX(hc:ia X (.type T) r)(hg:Gl X x)(hm:X.mg x=ae)(hv:bootBuiltins x=ab (.type T))(ha:PA X (e::es) t)(hn:x ≠ "__name__" := by decide)(hdb:(x==("__debug__" : Str))=false:=by decide)
 (he:starEach (e::es) X.env=(false,eval e X.env)::starEach es X.env:=by rfl) (hpl:(backTo pos (starEach es X.env)).any (·.1)=false:=by rfl):PE X (.Call (.Name x p) (e::es) [] pos) (v8 r t):=by
 intro ah s σ H Q I h;refine vv (o1 I hg hm hv ?_ hn hdb);exact vD (bb (ha pos ah s σ H _ I h) λus s1 ⟨vs,H1,I1,r1,q1⟩=>hc ah s1 σ H1 vs us Q I1 r1 q1) he hpl
end
end L2
namespace HT
open PySem PyProof.Rows
section
variable{prog:bG}{w:bi}{A:b9}{E:aj->aB->Prop}{s:aB}
def dq(n d:Nat):Option Int->Nat
 |none=>d
 |some v=>if v<0 then(v+(n:Int)).toNat else min v.toNat n
theorem GG(n d:Nat)(hd:d<=n)(o:Option Int):dq n d o<=n:=by
 cases o with
 |none=>exact hd
 |some v=>
  show(if v<0 then(v+(n:Int)).toNat else min v.toNat n)<=n;by_cases hv:v<0
  ·rw[bc hv];omega
  ·rw[a8 hv];exact Nat.min_le_right _ _
end
end HT
namespace L2
open PySem PySem.Spec PyProof.Rows
abbrev TO:=St->Hp->(Option Int->Hp->Prop)->Prop
def PO(X:Cx)(e:Option a9)(t:TO):Prop:=
 ∀(ah:List (ai×Obj)) (s:aB) (σ:St) (H:Hp) (Q:Option Int->Hp->Prop),Inv X ah σ H s->t σ H Q ->
  wpAny (model X.prog X.w) X.A (evalPart e X.env) (λu s'=>∃o H',Inv X ah σ H' s'/\IsPart u o/\Q o H') X.xe s
def G5:TO:=λ_ H Q=>Q ae H
def GZ(t:TE):TO:=λσ H Q=>t σ H λx H1=>∃i,x=.int i/\Q (ab i) H1
section
variable{X:Cx}{e:a9}{te:TE}{lo hi:Option a9}{tl th:TO}{pos p2:Pos}
theorem nJ:PO X ae G5:=by intro ah s σ H Q I h;rw[evalPart_none];exact bV ⟨ae,H,I,.none,h⟩
theorem md(h:PE X e te):PO X (ab e) (GZ te):=by intro ah s σ H Q I hw;rw[evalPart_some];refine bb (h ah s σ H _ I hw) λu s1 ⟨x,H1,I1,r1,q1⟩=>?_;obtain⟨i,rfl,q⟩:=q1;obtain⟨t,rfl⟩:=r1;exact⟨ab i,H1,I1,.int i t,q⟩
def l9(X:Cx)(r:V->Option Int->Option Int->Hp->VK->Prop):Prop:=
 ∀(ah:List (ai×Obj)) (s:aB) (σ:St) (H:Hp) (x:V) (v vl vu:aj) (lo hi:Option Int) (sl:ai) (Q:VK),Inv X ah σ H s->RelV x v->s.heap.IsSliceOf sl vl vu .none->IsPart vl lo->IsPart vu hi->r x lo hi H Q ->
  ∃T id,typeLookup (.type T) "__getitem__" = pure (ab (.builtin id))/\s.TypeIs v T/\wpAny (model X.prog X.w) X.A (getItem v (.ref sl)) (EP X ah σ Q) X.xe s
theorem l9.or{r r':V->Option Int->Option Int->Hp->VK->Prop}(h:l9 X r)(h':l9 X r'):l9 X (λx lo hi H Q=>r x lo hi H Q\/r' x lo hi H Q):=by
 intro ah s σ H x v vl vu lo hi sl Q I rx hs pl pu q;rcases q with q|q
 ·exact h ah s σ H x v vl vu lo hi sl Q I rx hs pl pu q
 ·exact h' ah s σ H x v vl vu lo hi sl Q I rx hs pl pu q
def Ep(r:V->Option Int->Option Int->Hp->VK->Prop)(te:TE)(tl th:TO):TE:=λσ H Q=>te σ H λx H1=>tl σ H1 λl H2=>th σ H2 λu H3=>r x l u H3 Q
theorem mP{r:V->Option Int->Option Int->Hp->VK->Prop}(hr:l9 X r)(he:PE X e te)(hl:PO X lo tl)(hu:PO X hi th):PE X (.Subscript e (.Slice lo hi ae p2) pos) (Ep r te tl th):=by intro ah s σ H Q I h;refine Subscript_ (bb (he ah s σ H _ I h) λv s1 ⟨x,H1,I1,r1,q1⟩=>?_);refine wpAny_Slice (bb (hl ah s1 σ H1 _ I1 q1) λvl s2 ⟨l,H2,I2,pl,q2⟩=>bb (hu ah s2 σ H2 _ I2 q2) λvu s3 ⟨u,H3,I3,pu,q3⟩=>?_);rw[evalPart_none];refine bV ?_;have I4:Inv X ah σ H3 { s3 with heap:=s3.heap.push { cls:=.type "slice",data:=.fields #[vl,vu,.none] } }:=I3.kept (t':=s3.toks) λb ob q=>cM _ q;obtain⟨T,id,hT,ht,hg⟩:=hr ah { s3 with heap:=s3.heap.push { cls:=.type "slice",data:=.fields #[vl,vu,.none] } } σ H3 x v vl vu l u s3.heap.objs.size Q I4 r1 (Heap.IsSliceOf.new ..) pl pu q3;show wpAny (model X.prog X.w) X.A (subscriptTail e (.Slice lo hi ae p2) v (.ref s3.heap.objs.size)) (EP X ah σ Q) X.xe { s3 with heap:=s3.heap.push { cls:=.type "slice", data:=.fields #[vl,vu,.none] } };exact tail_any (ops:=[.ref s3.heap.objs.size,v]) ht hT hg (by with_unfolding_all rfl)
def qD(xs:List V)(lo hi:Option Int):List V:=(xs.drop (HT.dq xs.length 0 lo)).take (HT.dq xs.length xs.length hi-HT.dq xs.length 0 lo)
theorem M2(xs:List V)(lo hi:Option Int):(qD xs lo hi).length<=xs.length:=by unfold qD;rw[iJ,kH];omega
end
def gP(n:Nat)(i:Int):Option Nat:=if 0<=i then(if i<n then ab i.toNat else ae)else if -(n:Int)<=i then ab (i+n).toNat else ae
def dM{α:Type}(xs:List α)(i:Int):Option α:=(gP xs.length i).bind λj=>xs[j]?
theorem Ox{n:Nat}{i:Int}{j:Nat}(h:gP n i=ab j):seqIndex? i n=ab j/\j<n/\-(n:Int)<=i/\i<n:=by
 unfold gP at h;by_cases h0:0<=i
 ·rw[bc h0]at h;by_cases h1:i<n
  ·rw[bc h1]at h;have e:i.toNat=j:=iq h;exact⟨by rw[seqIndex_of h0 h1,e],by omega,by omega,h1⟩
  ·rw[a8 h1]at h;cases h
 ·rw[a8 h0]at h;by_cases h1:-(n:Int)<=i
  ·rw[bc h1]at h;have e:(i+n).toNat=j:=iq h;exact⟨by rw[seqIndex_neg (by omega) h1,e],by omega,h1,by omega⟩
  ·rw[a8 h1]at h;cases h
theorem Ah{α:Type}{xs:List α}{i:Int}{v:α}(h:dM xs i=ab v):∃j,seqIndex? i xs.length=ab j/\xs[j]? = ab v/\j<xs.length/\-(xs.length:Int)<=i/\i<xs.length:=by
 unfold dM at h;cases e:gP xs.length i with
 |none=>rw[e]at h;cases h
 |some j=>
  rw[e]at h;obtain⟨h1,h2,h3,h4⟩:=Ox e;exact⟨j,h1,h,h2,h3,h4⟩
def EL(b:a9):Prop:=∀o i,subscripted b false o i=operate [o,i] (getItem o i)
def mI(X:Cx)(r:R2):Prop:=
 ∀(value slice:a9) (ah:List (ai×Obj)) (s:aB) (σ:St) (H:Hp) (x y:V) (v u:aj) (Q:VK),Inv X ah σ H s->RelV x v->RelV y u->r x y H Q ->
  subscripted slice false v u=operate [v,u] (getItem v u)->wpAny (model X.prog X.w) X.A (subscriptTail value slice v u) (EP X ah σ Q) X.xe s
def BW(X:Cx)(id:String)(r:V->List V->Hp->VK->Prop):Prop:=
 ∀(ah:List (ai×Obj)) (s:aB) (σ:St) (H:Hp) (x:V) (xs:List V) (v:aj) (us:List aj) (Q:VK),Inv X ah σ H s->RelV x v->Vals xs us->r x xs H Q ->
  wpAny (model X.prog X.w) X.A (call (.builtin id) (v::us)) (EP X ah σ Q) X.xe s
section
variable{X:Cx}{a b:a9}{ta tb:TE}{pos:Pos}
theorem mI.or{r r':R2}(h:mI X r)(h':mI X r'):mI X (λx y H Q=>r x y H Q\/r' x y H Q):=by
 intro value slice ah s σ H x y v u Q I rx ry q hs;rcases q with q|q
 ·exact h value slice ah s σ H x y v u Q I rx ry q hs
 ·exact h' value slice ah s σ H x y v u Q I rx ry q hs
theorem G0{r:R2}(hr:mI X r)(ha:PE X a ta)(hb:PE X b tb)(hs:EL b):PE X (.Subscript a b pos) (pZ r ta tb):=by intro ah s σ H Q I h;exact Subscript_ (Bd ha hb I h λv u s2 x y H2 I2 rx ry q=>hr a b ah s2 σ H2 x y v u Q I2 rx ry q (hs _ _))
def Eu(K:aU):R2:=λx y H Q=>∃p xs i v,x=.ref p/\y=.int i/\eY K H p xs/\dM xs i=ab v/\Q v H
def Gg(K:aU):R2:=λx y H Q=>∃p xs i v,x=.ref p/\y=.int i/\fK K H p xs/\dM xs i=ab v/\Q v H
def ID:R2:=λx y H Q=>∃z i c,x=.str z/\y=.int i/\z.length<=sizeLine/\dM z.cps.toList i=ab c/\Q (.str ⟨#[c]⟩) H
theorem M9:mI X (Eu X.K):=by
 intro value slice ah s σ H x y v u Q I rx ry h hs;obtain⟨p,xs,i,z,rfl,rfl,hq,he,q⟩:=h;cases rx;obtain⟨t,rfl⟩:=ry;obtain⟨av,r,pl,hz⟩:=I.list hq;obtain⟨j,h1,h2,h3,h4,h5⟩:=Ah he;obtain⟨w,ew,rw'⟩:=r.get h2;have hl:=r.length;have hn:=uQ;have fin:EP X ah σ Q w s:=⟨z,H,I,rw',q⟩;by_cases h0:0<=i
 ·have hj:i.toNat=j:=by
   rw[seqIndex_of h0 h5]at h1;exact iq h1
  exact item_listR pl.isList h0 (by omega) (by rw[hj];simpa using ew) fin hs
 ·have hj:(i+(av.toArray.size:Int)).toNat=j:=by
   rw[seqIndex_neg (by omega) h4]at h1;rw[dH,<- hl];exact iq h1
  exact J7 (x:=w) pl.isList.typeIs slot_list_getitem.lookup
   (wpAny_getItem_list_neg (Q:=λr s'=>r=w/\EP X ah σ Q r s') pl.isList (by omega) (by rw[dH]<;>omega) (by omega) (by rw[hj];simpa using ew) ⟨rfl,fin⟩) hs
theorem Oh:mI X (Gg X.K):=by
 intro value slice ah s σ H x y v u Q I rx ry h hs;obtain⟨p,xs,i,z,rfl,rfl,hq,he,q⟩:=h;cases rx;obtain⟨t,rfl⟩:=ry;obtain⟨av,r,pl,hz⟩:=I.tuple hq;obtain⟨j,h1,h2,h3,h4,h5⟩:=Ah he;obtain⟨w,ew,rw'⟩:=r.get h2;have hl:=r.length;have hn:=uQ;have fin:EP X ah σ Q w s:=⟨z,H,I,rw',q⟩;exact J7 (x:=w) pl.typeIs slot_tuple_getitem.lookup
  (getItem_tuple (j:=j) (Q:=λr s'=>r=w/\EP X ah σ Q r s') pl (by omega) (by omega) (by rw[dH,<- hl];exact h1) (by simpa using ew) ⟨rfl,fin⟩) hs
theorem QF:mI X ID:=by
 intro value slice ah s σ H x y v u Q I rx ry h hs;obtain⟨z,i,c,rfl,rfl,hz,he,q⟩:=h;obtain⟨t,rfl⟩:=rx;obtain⟨t',rfl⟩:=ry;obtain⟨j,h1,h2,h3,h4,h5⟩:=Ah he;have hl:z.cps.toList.length=z.length:=by simp[qx]
 rw[hl]at h1 h4 h5;have hn:=uQ;exact tail_any (typeIs_str s z t) slot_str_getitem.lookup (getItem_str (c:=c) (by
  have e1:decide (i < -(2 ^ 63:Int))=false:=cD (by omega);have e2:decide (i >= 2 ^ 63)=false:=cD (by omega);rw[e1,e2,Bool.or_false]) (by rw[h1];simpa using h2) ⟨.str ⟨#[c]⟩,H,I.tok _,⟨_,rfl⟩,q⟩) hs
def wq(K:aU):R2:=λx y H Q=>Eu K x y H Q\/Gg K x y H Q\/ID x y H Q
theorem GF:mI X (wq X.K):=M9.or (Oh.or QF)
theorem Qm(lo hi:Option Int)(n:Nat):(sliceBounds lo hi ae n).1=((HT.dq n 0 lo:Nat):Int)/\(sliceBounds lo hi ae n).2.1=((HT.dq n n hi:Nat):Int)/\(sliceBounds lo hi ae n).2.2=1:=by
 refine⟨?_,?_,rfl⟩
 ·cases lo with
  |none=>simp[sliceBounds,HT.dq]
  |some i=>
   simp only[sliceBounds,HT.dq,JW,show(1:Int)>0 by decide,l8];by_cases h:i<0
   ·simp only[h,l8]<;>omega
   ·simp only[h,j8]<;>omega
 ·cases hi with
  |none=>simp[sliceBounds,HT.dq]
  |some i=>
   simp only[sliceBounds,HT.dq,JW,show(1:Int)>0 by decide,l8];by_cases h:i<0
   ·simp only[h,l8]<;>omega
   ·simp only[h,j8]<;>omega
theorem PX(av:List aj)(lo hi:Option Int):slicePick av.toArray lo hi ae=((av.drop (HT.dq av.length 0 lo)).take (HT.dq av.length av.length hi-HT.dq av.length 0 lo)).toArray:=by obtain⟨h1,h2,h3⟩:=Qm lo hi av.toArray.size;unfold slicePick;rw[h1,h2,h3];simp only[sliceRange_one,pick_run,dH]<;>rfl
def AU(K:aU):V->Option Int->Option Int->Hp->VK->Prop:=λx lo hi H Q=>∃a xs,x=.ref a/\eY K H a xs/\∀p,H p=ae->Q (.ref p) (upd H p (.lst (qD xs lo hi)))
theorem HR:l9 X (AU X.K):=by intro ah s σ H x v vl vu lo hi sl Q I rx hs pl pu h;obtain⟨a,xs,rfl,hx,q⟩:=h;cases rx;obtain⟨av,r,ht,hz⟩:=I.list hx;have hlen:=r.length;refine⟨"list", _,slot_list_getitem.lookup,ht.isList.typeIs,?_⟩;refine wpAny_getItem_list_slice ht.isList hs pl pu .none (by simp) ?_ (by rw[dH]<;>omega);rw[PX,<- hlen];refine⟨.ref s.heap.objs.size,_,I.laid (t':=s.toks) (o:=.lst (qD xs lo hi)) (λb ob q=>cM _ q) (bK _) ?_,rfl,q _ (I.hok.fresh (bK _))⟩;exact⟨cU (M2 xs lo hi) hz,_,0,(r.drop (HT.dq xs.length 0 lo)).take (HT.dq xs.length xs.length hi-HT.dq xs.length 0 lo),dS _ rfl⟩
def Af:V->Bool
 |.non=>true
 |.bl _=>true
 |.int _=>true
 |.str _=>true
 |_=>false
def En:V->V->Bool
 |.non,.non=>true
 |.bl a,.bl b=>a==b
 |.bl a,.int b=>(if a then 1 else 0)==b
 |.int a,.bl b=>a==(if b then 1 else 0)
 |.int a,.int b=>a==b
 |.str a,.str b=>a==b
 |_,_=>false
theorem NU{A:b9}{s:aB}{y x:V}{u v:aj}(ry:RelV y u)(rx:RelV x v)(fy:Af y=true)(fx:Af x=true):SeqAt.EqAt A s u v (En y x):=by
 cases y with
 |non=>
  cases ry;cases x with
  |non=>cases rx;exact SeqAt.EqAt.same _
  |bl b=>cases rx;exact SeqAt.EqAt.none_bool b
  |int b=>obtain⟨t,rfl⟩:=rx;exact SeqAt.EqAt.none_int b t
  |str b=>obtain⟨t,rfl⟩:=rx;exact SeqAt.EqAt.none_str b t
  |_=>exact absurd (show false=true from fx) cZ
 |bl a=>
  cases ry;cases x with
  |non=>cases rx;exact SeqAt.EqAt.bool_none a
  |bl b=>cases rx;exact Kj a b
  |int b=>obtain⟨t,rfl⟩:=rx;exact SeqAt.EqAt.bool_int a b t
  |str b=>obtain⟨t,rfl⟩:=rx;exact Kk a b t
  |_=>exact absurd (show false=true from fx) cZ
 |int a=>
  obtain⟨t',rfl⟩:=ry;cases x with
  |non=>cases rx;exact SeqAt.EqAt.int_none a t'
  |bl b=>cases rx;exact SeqAt.EqAt.int_bool a t' b
  |int b=>obtain⟨t,rfl⟩:=rx;exact SeqAt.EqAt.int_int a t' b t
  |str b=>obtain⟨t,rfl⟩:=rx;exact SeqAt.EqAt.int_str a t' b t
  |_=>exact absurd (show false=true from fx) cZ
 |str a=>
  obtain⟨t',rfl⟩:=ry;cases x with
  |non=>cases rx;exact SeqAt.EqAt.str_none a t'
  |bl b=>cases rx;exact Kl a t' b
  |int b=>obtain⟨t,rfl⟩:=rx;exact SeqAt.EqAt.str_int a t' b t
  |str b=>obtain⟨t,rfl⟩:=rx;exact SeqAt.EqAt.str_str a t' b t
  |_=>exact absurd (show false=true from fx) cZ
 |_=>exact absurd (show false=true from fy) cZ
theorem Qk:ia X (.type "list") (λxs H Q=>∃p ys,xs=[.ref p]/\(eY X.K H p ys\/fK X.K H p ys)/\∀l,H l=ae->Q (.ref l) (upd H l (.lst ys))):=by
 intro ah s σ H xs us Q I r h;obtain⟨p,ys,rfl,hq,q⟩:=h;obtain⟨u,rfl,rx⟩:=vals1 r;cases rx;have fin:∀(av:List aj),Vals ys av->ys.length<=sizeLine->∀(h':aZ) (c':Nat),(∀b o',s.heap.get? b=ab o'->h'.get? b=ab o') ->
  h'.get? s.heap.objs.size=ab { cls:=.type "list", dict:=ae,data:=.seq av.toArray c',slots:=#[] }->EP X ah σ Q (.ref s.heap.objs.size) { s with heap:=h' }:=λav r' hz h' c' kp e=>
  ⟨.ref s.heap.objs.size,_,I.laid (t':=s.toks) kp (bK _) (show dD X.prog X.w _ h' _ (.lst ys)from⟨hz,av,c',r',e⟩),rfl,q _ (I.hok.fresh (bK _))⟩
 rcases hq with hq|hq
 ·obtain⟨av,r',pl,hz⟩:=I.list hq;have hlen:=r'.length;obtain⟨o,ho,hc,n,hd⟩:=pl.isList;exact call_list_seq p (.inl rfl) ho hc hd (λh' c' kp e=>fin av r' hz h' c' kp e) (by simp only[dH]<;>omega)
 ·obtain⟨av,r',pl,hz⟩:=I.tuple hq;have hlen:=r'.length;obtain⟨o,ho,hc,n,hd⟩:=pl;exact call_list_seq p (.inr rfl) ho hc hd (λh' c' kp e=>fin av r' hz h' c' kp e) (by simp only[dH]<;>omega)
theorem Lz:ia X (.type "tuple") (λxs H Q=>∃p ys,xs=[.ref p]/\((eY X.K H p ys/\∀l,H l=ae->Q (.ref l) (upd H l (.tup ys)))\/(fK X.K H p ys/\Q (.ref p) H))):=by
 intro ah s σ H xs us Q I r h;obtain⟨p,ys,rfl,h⟩:=h;obtain⟨u,rfl,rx⟩:=vals1 r;cases rx;rcases h with ⟨hq,q⟩|⟨hq,q⟩
 ·obtain⟨av,r',pl,hz⟩:=I.list hq;have hlen:=r'.length;refine call_tuple_list pl.isList (λh' kp=>?_) (by simp only[dH]<;>omega);have I1:Inv X ah σ H { s with heap:=h' }:=I.kept (t':=s.toks) kp;have I2:Inv X ah σ (upd H h'.objs.size (.tup ys)) { s with heap:=h'.push { cls:=.type "tuple", data:=.seq av.toArray } }:=
   I1.laid (t':=s.toks) (λb o e=>cM _ e) (bK _) (show dD X.prog X.w _ _ _ (.tup ys)from⟨hz,av,r',qM.new _ _⟩)
  exact⟨.ref h'.objs.size,_,I2,rfl,q _ (I1.hok.fresh (bK _))⟩
 ·obtain⟨av,r',pl,hz⟩:=I.tuple hq;exact call_tuple_same pl ⟨.ref p,H,I,rfl,q⟩
def BK(K:aU)(T:String)(x:V)(H:Hp):Prop:=match x with
 |.str _=>T = "str"
 |.int _=>T = "int"
 | .ref p=>(T = "list" /\ ∃xs,eY K H p xs)\/(T = "tuple" /\ ∃o,K.lookup p=ab o/\o.cls=.type "tuple" /\ o.dict=ae) \/
  (T = "dict" /\ ((∃ao,H p=ab (.dK ao))\/∃ao,H p=ab (.dT ao)))\/(T = "set" /\ ∃S n,H p=ab (.set S n))
 |_=>False
theorem FS{ah:List (ai×Obj)}{σ:St}{H:Hp}{s:aB}{T:String}{x:V}{v:aj}(I:Inv X ah σ H s)(r:RelV x v)(ty:BK X.K T x H) :
 s.TypeIs v T/\∀a,v=.ref a->∃ob,s.heap.get? a=ab ob/\ob.dict=ae:=by
 cases x with
 |str z=>
  obtain⟨t,rfl⟩:=r;cases(show T = "str" from ty);exact⟨typeIs_str s z t,λ_ e=>nomatch e⟩
 |int i=>
  obtain⟨t,rfl⟩:=r;cases(show T = "int" from ty);exact⟨typeIs_int s i t,λ_ e=>nomatch e⟩
 |ref p=>
  cases r;rcases ty with ⟨rfl,xs,hq⟩|⟨rfl,o,hk,hc,hd⟩|⟨rfl,hk⟩|⟨rfl,S,n,hk⟩
  ·obtain⟨av,_,pl,_⟩:=I.list hq;refine⟨pl.isList.typeIs,λa e=>?_⟩;cases e;obtain⟨o,n,e,c,hd,_⟩:=pl;exact⟨o,e,hd⟩
  ·refine⟨⟨o,I.gC p o hk,hc⟩,λa e=>?_⟩;cases e;exact⟨o,I.gC _ o hk,hd⟩
  ·have z:∃o,s.heap.get? p=ab o/\o.ExactDict:=by
    rcases hk with ⟨ao,hk⟩|⟨ao,hk⟩
    ·obtain⟨_,_,_,_,o,_,_,e,ex,_⟩:=I.hok p _ hk;exact⟨o,e,ex⟩
    ·obtain⟨_,_,_,_,o,_,_,e,ex,_⟩:=I.hok p _ hk;exact⟨o,e,ex⟩
   obtain⟨o,e,ex⟩:=z;refine⟨⟨o,e,ex.1⟩,λa e2=>?_⟩;cases e2;exact⟨o,e,ex.2.1⟩
  ·obtain⟨o,_,_,_,e,ex,_⟩:=I.hok p _ hk;refine⟨⟨o,e,ex.1⟩,λa e2=>?_⟩;cases e2;exact⟨o,e,ex.2.1⟩
 |_=>exact iW ty
def xr(K:aU)(T:String)(r:V->List V->Hp->VK->Prop)(to:TE):TE:=λσ H Q=>to σ H λx H1=>BK K T x H1/\r x [] H1 Q
def pK(K:aU)(T:String)(r:V->List V->Hp->VK->Prop)(to:TE)(t:TA):TE:=λσ H Q=>to σ H λx H1=>BK K T x H1/\t σ H1 λxs H2=>r x xs H2 Q
variable{o e:a9}{es:List a9}{to:TE}{t:TA}{name:Str}{apos cpos:Pos}{T id:String}{r:V->List V->Hp->VK->Prop}
theorem Bu(pa:PlainAttrs T)(slot:Slot T name id)(hty:typeOf (.builtin id)=pure (.type "method_descriptor"))(hm:BW X id r)(ho:PE X o to)
 (hbase:attributeBase o name X.env (eval o X.env)=eval o X.env:=by rfl) (hline:(apos.endLine==cpos.line)=true:=by rfl):PE X (.Call (.Attribute o name apos) [] [] cpos) (xr X.K T r to):=by
 intro ah s σ H Q I h;refine wpAny_Call_method0_late hbase hline (bb (ho ah s σ H _ I h) λv s1 ⟨x,H1,I1,r1,ty,q1⟩=>?_);obtain⟨h1,h2⟩:=FS I1 r1 ty;exact⟨T,id,pa,slot,hty,h1,h2,Kb rfl (PySem.evalArgs_none (hm ah s1 σ H1 x [] v [] Q I1 r1 .nil q1))⟩
theorem h6(pa:PlainAttrs T)(slot:Slot T name id)(hty:typeOf (.builtin id)=pure (.type "method_descriptor"))(hm:BW X id r)(ho:PE X o to)(ha:PA X (e::es) t)
 (hbase:attributeBase o name X.env (eval o X.env)=eval o X.env:=by rfl)
 (hfew:((backTo cpos (starEach (e::es) X.env)).all (λx=>!x.1)&&(backToKw cpos (keywordEach [] X.env)).all (λx=>x.1.isSome)
  && decide ((e::es).length+([]:List Keyword).length+(if([]:List Keyword).isEmpty then 0 else 1)<30))=true:=by rfl)
 (hline:(apos.endLine==cpos.line)=true:=by rfl) (hs:starEach (e::es) X.env=(false,eval e X.env)::starEach es X.env:=by rfl) (hplain:(backTo cpos (starEach es X.env)).any (·.1)=false:=by rfl) :
 PE X (.Call (.Attribute o name apos) (e::es) [] cpos) (pK X.K T r to t):=by
 intro ah s σ H Q I h;refine wpAny_Call_method_late hbase hfew hline rfl (bb (ho ah s σ H _ I h) λv s1 ⟨x,H1,I1,r1,ty,q1⟩=>?_);obtain⟨h1,h2⟩:=FS I1 r1 ty;refine⟨T,id,pa,slot,hty,h1,h2,?_⟩;have hA:=ha cpos ah s1 σ H1 _ I1 q1;rw[hs]at hA ⊢;refine Kb (by show(false||(backTo cpos (starEach es X.env)).any (·.1))=false;rw[hplain]<;>rfl) (Calls.evalArgs_plain ?_);exact bb hA λus s2 ⟨vs,H2,I2,r2,q2⟩=>hm ah s2 σ H2 x vs v us Q I2 r1 r2 q2
end
def qB(X:Cx)(id:String)(r:V->List V->Hp->VK->Prop):Prop:=
 ∀(ah:List (ai×Obj)) (s:aB) (σ:St) (H:Hp) (x:V) (xs:List V) (v:aj) (us:List aj) (Q:VK),Inv X ah σ H s->RelV x v->Vals xs us->r x xs H Q ->
  wpAny (model X.prog X.w) X.A (call (.builtin id) (v::us)) (EP X ah σ Q) X.xe s
theorem Vals.one:∀{x:V} {us:List aj},Vals [x] us->∃u,us=[u]/\RelV x u
 |_,_,.cons r .nil=>⟨_,rfl,r⟩
theorem Vals.zero:∀{us:List aj},Vals [] us->us=[]
 |_,.nil=>rfl
theorem Vals.dropLast{xs:List V}{us:List aj}(h:Vals xs us):Vals xs.dropLast us.dropLast:=by
 induction h with
 |nil=>exact .nil
 |cons r t ih=>
  cases t with
  |nil=>exact .nil
  |cons q t'=>exact .cons r ih
theorem Vals.eraseIdx:∀{xs:List V} {us:List aj} (i:Nat),Vals xs us->Vals (xs.eraseIdx i) (us.eraseIdx i)
 |_,_,_,.nil=>.nil
 |_,_,0,.cons _ t=>t
 |_,_,i+1,.cons r t=>.cons r (Vals.eraseIdx i t)
theorem Vals.reverse{xs:List V}{us:List aj}(h:Vals xs us):Vals xs.reverse us.reverse:=by
 induction h with
 |nil=>exact .nil
 |cons r t ih=>rw[sB,sB];exact Vals.append ih (.cons r .nil)
theorem Lr{α:Type}(l:List α):l.eraseIdx (l.length-1)=l.dropLast:=by
 induction l with
 |nil=>rfl
 |cons a r ih=>
  cases r with
  |nil=>rfl
  |cons b r=>
   have e:(a::b::r).length-1=((b::r).length-1)+1:=by have h1:(a::b::r).length=r.length+2:=rfl;have h2:(b::r).length=r.length+1:=rfl;omega
   rw[e,JE,ih]
   all_goals rfl
theorem HN{α:Type}:∀(l:List α) (i:Nat),(l.eraseIdx i).length<=l.length
 |[],_=>bK _
 |_::_,0=>Nat.le_succ _
 |_::r,i+1=>Nat.succ_le_succ (HN r i)
section
variable{X:Cx}{ah:List (ai×Obj)}{σ:St}{H:Hp}{s:aB}{l b:ai}{xs ys zs:List V}
theorem Inv.qK{av its':List aj}{n:Nat}{f:Array aj->Array aj}{t':Nat}(I:Inv X ah σ H s)(hH:H l=ab (.lst xs))
 (e:s.heap.get? l=ab { cls:=.type "list", data:=.seq av.toArray n }) (hf:f av.toArray=its'.toArray) (hv:Vals ys its') (hz:ys.length<=sizeLine) :
 Inv X ah σ (upd H l (.lst ys)) { s with heap:=s.heap.update l (vF f),toks:=t' }:=by
 have q:=PySem.IsL.update e f;rw[hf]at q;refine I.write (x:=l) (e:=l) (by rw[hH];exact trivial) (.inl rfl) (λb' u hb hu=>(Heap.get?_update_other s.heap (vF f) (fJ hb)).trans hu) ⟨_,q⟩ ?_;exact⟨hz,its',_,hv,q⟩
theorem Inv.MZ{av:List aj}{t':Nat}(I:Inv X ah σ H s)(hv:Vals ys av)(hz:ys.length<=sizeLine) :
 Inv X ah σ (upd H s.heap.objs.size (.lst ys)) { s with heap:=s.heap.push { cls:=.type "list", data:=.seq av.toArray },toks:=t' }:=
 I.laid (λ_ _ q=>cM _ q) (bK _) ⟨hz,av,0,hv,dS _ rfl⟩
theorem Inv.fresh(I:Inv X ah σ H s):H s.heap.objs.size=ae:=I.hok.fresh (bK _)
theorem Inv.sk(I:Inv X ah σ H s)(hH:H l=ab (.lst xs)):xs.length<=sizeLine/\∃(av:List aj) (n:Nat),Vals xs av/\xs.length=av.length/\s.heap.get? l=ab { cls:=.type "list", data:=.seq av.toArray n }:=by obtain⟨z,av,n,r,e⟩:=I.hok l _ hH;exact⟨z,av,n,r,r.length,e⟩
theorem LV{n:Nat}(h:n<=sizeLine):CS n=false:=by unfold CS;exact cD (by omega)
end
section
variable{X:Cx}
def zi:V->List V->Hp->VK->Prop:=λx vs H Q=>∃l xs y,x=.ref l/\vs=[y]/\H l=ab (.lst xs)/\xs.length<sizeLine/\Q .non (upd H l (.lst (xs++[y])))
theorem lO:qB X "list.append" zi:=by intro ah s σ H x vs v us Q I rx rv h;obtain⟨l,xs,y,rfl,rfl,hH,hz,q⟩:=h;cases rx;obtain⟨u,rfl,ru⟩:=rv.one;obtain⟨z,av,n,r,hl,e⟩:=I.sk hH;refine sG F.slot_list_append ⟨_,e,rfl⟩ F.entry_list_append (F.args_list_append_2 _ _) (PySem.list_append l av.toArray n u (by rw[dH];omega)) ⟨e,?_⟩;refine⟨.non,_,I.qK (its':=av++[u]) hH e (by simp) (r.append (.cons ru .nil)) ?_,rfl,q⟩;rw[bU,ft];omega
def Go:V->List V->Hp->VK->Prop:=λx vs H Q=>∃l xs y,x=.ref l/\vs=[]/\H l=ab (.lst xs)/\xs[xs.length-1]? = ab y/\Q y (upd H l (.lst xs.dropLast))
theorem NH:qB X "list.pop" Go:=by
 intro ah s σ H x vs v us Q I rx rv h;obtain⟨l,xs,y,rfl,rfl,hH,hy,q⟩:=h;cases rx;have hus:=rv.zero;subst hus;obtain⟨z,av,n,r,hl,e⟩:=I.sk hH;obtain⟨u,hu,ru⟩:=r.get hy;have hy':av.toArray[av.toArray.size-1]? = ab u:=by show av.toArray[av.length-1]? = ab u;rw[<- CT,<- hl];exact hu
 refine sG F.slot_list_pop ⟨_,e,rfl⟩ F.entry_list_pop (F.args_list_pop_1 _) (MeetsSeq.list_pop_last l av.toArray n u hy' (by rw[dH];omega)) ⟨e,?_⟩;refine⟨y,_,I.qK (its':=av.dropLast) hH e ?_ r.dropLast ?_,ru,q⟩
 ·show av.toArray.eraseIdxIfInBounds (av.toArray.size-1)=av.dropLast.toArray;rw[dH,JC,Lr]
 ·rw[List.length_dropLast];omega
def zd:V->List V->Hp->VK->Prop:=λx vs H Q=>∃l xs i k y,x=.ref l/\vs=[.int i]/\H l=ab (.lst xs)/\-(2 ^ 63)<=i/\i<2 ^ 63/\seqIndex? i xs.length=ab k/\xs[k]? = ab y/\Q y (upd H l (.lst (xs.eraseIdx k)))
theorem Ev:qB X "list.pop" zd:=by
 intro ah s σ H x vs v us Q I rx rv h;obtain⟨l,xs,i,k,y,rfl,rfl,hH,h1,h2,hk,hy,q⟩:=h;cases rx;obtain⟨u,rfl,ru⟩:=rv.one;obtain⟨t,rfl⟩:=ru;obtain⟨z,av,n,r,hl,e⟩:=I.sk hH;obtain⟨w,hw,rw'⟩:=r.get hy;refine sG F.slot_list_pop ⟨_,e,rfl⟩ F.entry_list_pop (F.args_list_pop_2 _ _)
  (MeetsSeq.list_pop_at l av.toArray n i t k w (fitsIndex_both h1 h2) (by rw[dH,<- hl];exact hk) (by rw[<- CT];exact hw) (by rw[dH];omega)) ⟨e,?_⟩
 refine⟨y,_,I.qK (its':=av.eraseIdx k) hH e ?_ (r.eraseIdx k) ?_,rw',q⟩
 ·show av.toArray.eraseIdxIfInBounds k=(av.eraseIdx k).toArray;rw[JC]
 ·have:=HN xs k;omega
def IF:V->List V->Hp->VK->Prop:=λx vs H Q=>∃l xs,x=.ref l/\vs=[]/\H l=ab (.lst xs)/\Q .non (upd H l (.lst xs.reverse))
theorem S6:qB X "list.reverse" IF:=by intro ah s σ H x vs v us Q I rx rv h;obtain⟨l,xs,rfl,rfl,hH,q⟩:=h;cases rx;have hus:=rv.zero;subst hus;obtain⟨z,av,n,r,hl,e⟩:=I.sk hH;refine sG F.slot_list_reverse ⟨_,e,rfl⟩ F.entry_list_reverse (F.args_list_reverse_1 _) (AutoSeq1.list_reverse_list_0 l av.toArray n (by rw[dH];omega)) ⟨e,?_⟩;refine⟨.non,_,I.qK (its':=av.reverse) hH e (by simp) r.reverse ?_,rfl,q⟩;rw[Cg];omega
def Jf:V->List V->Hp->VK->Prop:=λx vs H Q=>∃l xs,x=.ref l/\vs=[]/\H l=ab (.lst xs)/\Q .non (upd H l (.lst []))
theorem Qo:qB X "list.clear" Jf:=by intro ah s σ H x vs v us Q I rx rv h;obtain⟨l,xs,rfl,rfl,hH,q⟩:=h;cases rx;have hus:=rv.zero;subst hus;obtain⟨z,av,n,r,hl,e⟩:=I.sk hH;refine sG F.slot_list_clear ⟨_,e,rfl⟩ F.entry_list_clear (F.args_list_clear_1 _) (AutoSeq1.list_clear_list_0 l av.toArray n (by rw[dH];omega)) ⟨e,?_⟩;exact⟨.non,_,I.qK (its':=[]) (ys:=[]) hH e rfl .nil (g9 _),rfl,q⟩
end
section
variable{κ:Type}[DecidableEq κ]
def iO(ao:List (κ×V))(k:κ):Option V:=(ao.find? λkv=>decide (kv.1=k)).map (·.2)
def putK(ao:List (κ×V))(k:κ)(v:V):List (κ×V):=if(ao.any λkv=>decide (kv.1=k))=true then ao.map (λkv=>if kv.1=k then(kv.1,v)else kv)else ao++[(k,v)]
theorem A5{p:κ×V}{r:List (κ×V)}{k:κ}(e:p.1=k):iO (p::r) k=ab p.2:=by simp[iO,jW,e]
theorem An{p:κ×V}{r:List (κ×V)}{k:κ}(e:¬ p.1=k):iO (p::r) k=iO r k:=by simp[iO,jW,e]
theorem Er(k:κ):∀ao:List (κ×V),(ao.any λkv=>decide (kv.1=k))=(iO ao k).isSome
 |[]=>rfl
 |p::r=>by
  rw[kK];by_cases e:p.1=k
  ·simp only[A5 e,bP e,Bool.true_or,Option.isSome_some]
  ·rw[An e,cD e,yq];exact Er k r
theorem BD(ao:List (κ×V))(k:κ)(v:V):(putK ao k v).length<=ao.length+1:=by
 unfold putK;split
 ·rw[aO];omega
 ·rw[bU,cx,f7];omega
theorem k9.uO{o:Option V}{u:Option aj}(r:k9 o u):o.isSome=u.isSome:=by
 cases o with
 | none=>cases u with
  |none=>rfl
  |some _=>exact(show False from r).elim
 | some _=>cases u with
  |none=>exact(show False from r).elim
  |some _=>rfl
theorem KV.val{ao:List (κ×V)}{vs:List (κ×aj)}(r:KV ao vs)(k:κ):k9 (iO ao k) (valueAt vs k):=by
 unfold KV at r
 induction r with
 |nil=>exact lw
 | @cons p q ps qs h t ih=>
  obtain⟨h1,h2⟩:=h;by_cases e:p.1=k
  ·have e':q.1=k:=h1.symm.trans e;have b:valueAt (q::qs) k=ab q.2:=by simp[valueAt,jW,e']
   rw[A5 e,b];exact h2
  ·have e':¬ q.1=k:=λz=>e (h1.trans z);have b:valueAt (q::qs) k=valueAt qs k:=by simp[valueAt,jW,e']
   rw[An e,b];exact ih
theorem KV.any{ao:List (κ×V)}{vs:List (κ×aj)}(r:KV ao vs)(k:κ):(ao.any λkv=>decide (kv.1=k))=vs.any λkv=>decide (kv.1=k):=by
 unfold KV at r
 induction r with
 |nil=>rfl
 |cons h t ih=>rw[kK,kK,ih,h.1]
theorem KV.repl{ao:List (κ×V)}{vs:List (κ×aj)}(r:KV ao vs)(k:κ){y:V}{u:aj}(ry:RelV y u) :
 KV (ao.map λkv=>if kv.1=k then(kv.1,y)else kv) (vs.map λkv=>if kv.1=k then(kv.1,u)else kv):=by
 unfold KV at r ⊢
 induction r with
 |nil=>exact .nil
 | @cons p q ps qs h t ih=>
  rw[cP,cP];refine .cons ?_ ih;obtain⟨h1,h2⟩:=h;by_cases e:p.1=k
  ·rw[bc e,bc (h1.symm.trans e)];exact⟨h1,ry⟩
  ·rw[a8 e,a8 (λz=>e (h1.trans z))];exact⟨h1,h2⟩
theorem KV.put{ao:List (κ×V)}{vs:List (κ×aj)}(r:KV ao vs)(k:κ){y:V}{u:aj}(ry:RelV y u):KV (putK ao k y) (stored vs k u):=by
 unfold putK stored;rw[r.any k];by_cases e:(vs.any λkv=>decide (kv.1=k))=true
 ·rw[bc e,bc e];exact r.repl k ry
 ·rw[a8 e,a8 e];exact Paired.snoc r ⟨rfl,ry⟩
theorem KV.length{ao:List (κ×V)}{vs:List (κ×aj)}(r:KV ao vs):ao.length=vs.length:=vG r
end
theorem ro{P:bG}{w:bi}{k:Key}{u:aj}(r:RelV (kV k) u):(iD P w).is k u=true:=by
 cases k with
 |inl i=>obtain e:=(show u=iV i from r);subst e;exact OY P w i
 |inr x=>obtain⟨t,e⟩:=(show∃t,u=qt x t from r);subst e;exact Nh P w x t
theorem Iw{P:bG}{w:bi}:∀{ks:List Key} {us:List aj},Vals (ks.map kV) us->ItemsAre (iD P w) ks us
 |[],_,r=>by rw[vq]at r;cases r;exact .nil
 |k::ks,_,r=>by
  rw[cP]at r;cases r with
  |cons h t=>exact .cons (ro h) (Iw t)
abbrev KT(H:Hp):List (List Key×V)->List (List Key×ai×aj)->Prop:=oK λp q=>p.1=q.1/\H q.2.1=ab (.tup (p.1.map kV))/\RelV p.2 q.2.2
theorem KT.val{H:Hp}{ao:List (List Key×V)}{xs:List (List Key×ai×aj)}(r:KT H ao xs)(k:List Key):k9 (iO ao k) ((atKey xs k).map (·.2)):=by
 induction r with
 |nil=>exact lw
 | @cons p q ps qs h t ih=>
  obtain⟨h1,_,h2⟩:=h;by_cases e:p.1=k
  ·have e':q.1=k:=h1.symm.trans e;have b:atKey (q::qs) k=ab q.2:=by simp[atKey,jW,e']
   rw[A5 e,b];exact h2
  ·have e':¬ q.1=k:=λz=>e (h1.trans z);have b:atKey (q::qs) k=atKey qs k:=by simp[atKey,jW,e']
   rw[An e,b];exact ih
theorem KT.repl{H:Hp}{ao:List (List Key×V)}{xs:List (List Key×ai×aj)}(r:KT H ao xs)(k:List Key){y:V}{u:aj}(ry:RelV y u) :
 KT H (ao.map λkv=>if kv.1=k then(kv.1,y)else kv) (xs.map (putAt k u)):=by
 induction r with
 |nil=>exact .nil
 | @cons p q ps qs h t ih=>
  rw[cP,cP];refine .cons ?_ ih;obtain⟨h1,h2,h3⟩:=h;unfold putAt;by_cases e:p.1=k
  ·rw[bc e,bc (h1.symm.trans e)];exact⟨h1,h2,ry⟩
  ·rw[a8 e,a8 (λz=>e (h1.trans z))];exact⟨h1,h2,h3⟩
theorem KT.put{H:Hp}{ao:List (List Key×V)}{xs:List (List Key×ai×aj)}(r:KT H ao xs)(k:List Key){b:ai}{y:V}{u:aj}(hb:H b=ab (.tup (k.map kV)))(ry:RelV y u) :
 KT H (putK ao k y) (storedH xs k b u):=by
 have e:(ao.any λkv=>decide (kv.1=k))=(atKey xs k).isSome:=by rw[Er,(r.val k).uO,yu]
 unfold putK storedH;rw[e];by_cases q:(atKey xs k).isSome=true
 ·rw[bc q,bc q];exact r.repl k ry
 ·rw[a8 q,a8 q];exact Paired.snoc r ⟨rfl,hb,ry⟩
theorem KT.keeps{H H':Hp}{ao:List (List Key×V)}{xs:List (List Key×ai×aj)}(r:KT H ao xs)(ht:∀b ys,H b=ab (.tup ys)->H' b=ab (.tup ys)):KT H' ao xs:=Paired.zV r λ_ _ z=>⟨z.1,ht _ _ z.2.1,z.2.2⟩
section
variable{P:bG}{w:bi}{H:Hp}{h:aZ}{a:ai}
theorem Jd{u:HO}(ok:dy P w H h)(e:Rd H a u):dD P w H h a u:=e.ok ok
theorem u7{ao:List (Key×V)}(ok:dy P w H h)(e:Rd H a (.dK ao)):ao.length<=sizeLine/\(a==sysModules)=false/\∃vs,KV ao vs/\h.DictOf (iD P w) a vs:=show dD P w H h a (.dK ao)from Jd ok e
theorem FI{ao:List (Key×V)}(ok:dy P w H h)(e:H a=ab (.dK ao)):ao.length<=sizeLine/\(a==sysModules)=false/\∃vs,KV ao vs/\h.DictOf (iD P w) a vs:=u7 ok (.inl e)
theorem ul{ks:List Key}(ok:dy P w H h)(e:H a=ab (.tup (ks.map kV))):(tupleKind (iD P w)).is h ks a:=by obtain⟨_,av,r,o,h1,h2,_,n,h3⟩:=(show dD P w H h a (.tup (ks.map kV))from ok a _ e);exact⟨o,av.toArray,n,h1,h2,h3,by simpa using Iw r⟩
theorem vi{ao:List (List Key×V)}(ok:dy P w H h)(e:Rd H a (.dT ao)):ao.length<=sizeLine/\(a==sysModules)=false /\
 ∃xs,KT H ao xs/\h.DictOfH (tupleKind (iD P w)) a xs:=by
 obtain⟨z,y,xs,r,o,es,ep,h1,h2,h3,h4,h5⟩:=(show dD P w H h a (.dT ao)from Jd ok e);refine⟨z,y,xs,r,o,es,ep,h1,h2,h3,h4,λx hx=>?_,h5⟩;have all:∀{l:List (List Key×V)} {m:List (List Key×ai×aj)},KT H l m->∀x∈m,(tupleKind (iD P w)).is h x.1 x.2.1:=by
  intro l m q
  induction q with
  |nil=>intro x hx;exact nomatch hx
  | @cons p q ps qs hq t ih=>
   intro x hx;rcases bB.mp hx with e|hx
   ·subst e;exact ul ok (by rw[<- hq.1];exact hq.2.1)
   ·exact ih x hx
 exact all r x hx
theorem NB{ao:List (List Key×V)}(ok:dy P w H h)(e:H a=ab (.dT ao)):ao.length<=sizeLine/\(a==sysModules)=false /\
 ∃xs,KT H ao xs/\h.DictOfH (tupleKind (iD P w)) a xs:=vi ok (.inl e)
end
def i9(H:Hp)(a:ai)(y:V)(r:Option V):Prop:=(∃ao k,Rd H a (.dK ao)/\y=kV k/\r=iO ao k)\/∃ao k b,Rd H a (.dT ao)/\y=.ref b/\H b=ab (.tup (k.map kV))/\r=iO ao k
def nK(H:Hp)(a:ai)(y v:V)(H':Hp):Prop:=
 (∃ao k,H a=ab (.dK ao)/\y=kV k/\ao.length<sizeLine/\H'=upd H a (.dK (putK ao k v))) \/
 ∃ao k b,H a=ab (.dT ao)/\y=.ref b/\H b=ab (.tup (k.map kV))/\ao.length<sizeLine/\H'=upd H a (.dT (putK ao k v))
theorem i9.k{H:Hp}{a:ai}{ao:List (Key×V)}{k:Key}(e:H a=ab (.dK ao)):i9 H a (kV k) (iO ao k):=.inl ⟨ao,k,.inl e,rfl,rfl⟩
theorem i9.t{H:Hp}{a b:ai}{ao:List (List Key×V)}{k:List Key}(e:H a=ab (.dT ao))(eb:H b=ab (.tup (k.map kV))):i9 H a (.ref b) (iO ao k):=.inr ⟨ao,k,b,.inl e,rfl,eb,rfl⟩
theorem nK.k{H:Hp}{a:ai}{ao:List (Key×V)}{k:Key}{v:V}(e:H a=ab (.dK ao))(hl:ao.length<sizeLine):nK H a (kV k) v (upd H a (.dK (putK ao k v))):=.inl ⟨ao,k,e,rfl,hl,rfl⟩
theorem nK.t{H:Hp}{a b:ai}{ao:List (List Key×V)}{k:List Key}{v:V}(e:H a=ab (.dT ao))(eb:H b=ab (.tup (k.map kV)))(hl:ao.length<sizeLine) :
 nK H a (.ref b) v (upd H a (.dT (putK ao k v))):=.inr ⟨ao,k,b,e,rfl,eb,hl,rfl⟩
section
variable{X:Cx}{ah:List (ai×Obj)}{σ:St}{H:Hp}{s:aB}{a:ai}{y v:V}{u r:aj}{o:Option V}{A:b9}{E:aj->aB->Prop}
theorem Inv.big(I:Inv X ah σ H s):sysModules<s.heap.objs.size:=by have h:mainGlobals<s.heap.objs.size:=(I.mod.glob.keeps I.bk).lt;exact Nat.lt_trans (by decide) h
theorem N3{Q:aj->aB->Prop}(hu:A.units+1<cLine)(I:Inv X ah σ H s)(g:i9 H a y (ab v))(ry:RelV y u)(h:∀w' s',Inv X ah σ H s'->RelV v w'->Q w' s') :
 wpAny (model X.prog X.w) A (getItem (.ref a) u) Q E s:=by
 rcases g with ⟨ao,k,e,ey,l⟩|⟨ao,k,b,e,ey,eb,l⟩
 ·subst ey;obtain⟨z,hd,vs,rel,dd⟩:=u7 I.hok e;obtain⟨w',hw,rw'⟩:=k9.some_of (v:=v) (o:=valueAt vs k) (by rw[l];exact rel.val k);exact wpAny_getItem_of (ro ry) dd.mapOf hw (h w' _ (I.tok _) rw')
 ·subst ey;cases(show u=eA b from ry);obtain⟨z,hd,xs,rel,dd⟩:=vi I.hok e;obtain⟨w',hw,rw'⟩:=k9.some_of (v:=v) (o:=(atKey xs k).map (·.2)) (by rw[l];exact rel.val k);obtain⟨p,hp,hp2⟩:=gR.mp hw;refine wpAny_getItem_heap (yd hu) (ul I.hok eb) dd hp ?_;rw[hp2];exact h w' _ (I.tok _) rw'
theorem L1{Q:aj->aB->Prop}(hu:A.units+1<cLine)(I:Inv X ah σ H s)(g:i9 H a y o)(ry:RelV y u)(h:∀s',Inv X ah σ H s'->Q (.bool o.isSome) s') :
 wpAny (model X.prog X.w) A (compareOp .In u (.ref a)) Q E s:=by
 rcases g with ⟨ao,k,e,ey,l⟩|⟨ao,k,b,e,ey,eb,l⟩
 ·subst ey;obtain⟨z,hd,vs,rel,dd⟩:=u7 I.hok e;refine wpAny_in_of (ro ry) hd dd.mapOf ?_;rw[<- (rel.val k).uO,<- l];exact h _ (I.tok _)
 ·subst ey;cases(show u=eA b from ry);obtain⟨z,hd,xs,rel,dd⟩:=vi I.hok e;refine wpAny_in_heap (yd hu) (ul I.hok eb) hd dd ?_;have q:=(rel.val k).uO;rw[yu]at q;rw[<- q,<- l];exact h _ (I.tok _)
theorem Me{Q:aj->aB->Prop}(hu:A.units+1<cLine)(I:Inv X ah σ H s)(g:i9 H a y o)(ry:RelV y u)(h:∀s',Inv X ah σ H s'->Q (.bool (!o.isSome)) s') :
 wpAny (model X.prog X.w) A (compareOp .NotIn u (.ref a)) Q E s:=by
 rcases g with ⟨ao,k,e,ey,l⟩|⟨ao,k,b,e,ey,eb,l⟩
 ·subst ey;obtain⟨z,hd,vs,rel,dd⟩:=u7 I.hok e;refine wpAny_notIn_of (ro ry) hd dd.mapOf ?_;rw[<- (rel.val k).uO,<- l];exact h _ (I.tok _)
 ·subst ey;cases(show u=eA b from ry);obtain⟨z,hd,xs,rel,dd⟩:=vi I.hok e;refine wpAny_notIn_heap (yd hu) (ul I.hok eb) hd dd ?_;have q:=(rel.val k).uO;rw[yu]at q;rw[<- q,<- l];exact h _ (I.tok _)
theorem zo{h':aZ}{t':Nat}{ob:HO}(I:Inv X ah σ H s)(mu:ur (H a))(hs:oM a s.heap h')(he:∃q,h'.get? a=ab q)(new:dD X.prog X.w (upd H a ob) h' a ob) :
 Inv X ah σ (upd H a ob) { s with heap:=h',toks:=t' }:=
 I.write (x:=a) (e:=a) mu (.inl rfl) (λb q hb z=>(hs.2 b hb).trans z) he new
theorem Ge{P:bG}{w:bi}{H':Hp}{h':aZ}{ao:List (Key×V)}{vs:List (Key×aj)}(z:ao.length<=sizeLine)(hd:(a==sysModules)=false)(rel:KV ao vs)(dd:h'.DictOf (iD P w) a vs) :
 dD P w H' h' a (.dK ao):=⟨z,hd,vs,rel,dd⟩
theorem RA{H':Hp}{Q:Unit->aB->Prop}(hu:A.units+1<cLine)(I:Inv X ah σ H s)(g:nK H a y v H')(ry:RelV y u)(rv:RelV v r)(h:∀s',Inv X ah σ H' s'->Q () s') :
 wpAny (model X.prog X.w) A (setItem (.ref a) u r) Q E s:=by
 rcases g with ⟨ao,k,e,ey,l,eH⟩|⟨ao,k,b,e,ey,eb,l,eH⟩
 ·subst ey eH;obtain⟨z,hd,vs,rel,dd⟩:=FI I.hok e;have hz:vs.length<=sizeLine:=by rw[<- rel.length];exact z
  have hl:(putK ao k v).length<=sizeLine:=by have:=BD ao k v;omega
  refine wpAny_setItem_pairs (hsz:=hz) (ro ry) dd λh' dd' hs=>h _ ?_;have he:∃q,h'.get? a=ab q:=let ⟨q,_,_,hq,_⟩:=dd';⟨q,hq⟩;exact zo I (by rw[e];exact lw) hs he (Ge hl hd (rel.put k rv) dd')
 ·subst ey eH;cases(show u=eA b from ry);obtain⟨z,hd,xs,rel,dd⟩:=NB I.hok e;have hz:xs.length<=sizeLine:=by rw[<- vG rel];exact z
  have hl:(putK ao k v).length<=sizeLine:=by have:=BD ao k v;omega
  refine wpAny_setItem_heap (hsz:=hz) (yd hu) (ul I.hok eb) dd λh' dd' hs=>h _ ?_;obtain⟨q,es,ep,hq,h2,h3,h4,_,h5⟩:=dd';refine zo I (by rw[e];exact lw) hs ⟨q,hq⟩ ⟨hl,hd,_,(rel.put k eb rv).keeps λc ys ec=>?_,q,es,ep,hq,h2,h3,h4,h5⟩;rw[aS (Nc ec e (λz=>nomatch z))];exact ec
end
def IA(i:a9):Prop:=∀ov iv,subscripted i false ov iv=operate [ov,iv] (getItem ov iv)
theorem Qq{prog:bG}{w:bi}{A:b9}{E:aj->aB->Prop}{s:aB}{env:Env}{value slice:a9}{pos:Pos}{T id:String}{Q:aj->aB->Prop}
 (hl:typeLookup (.type T) "__getitem__" = pure (ab (.builtin id))) (hs:IA slice)
 (h:wpAny (model prog w) A (eval value env) (λo s₁=>wpAny (model prog w) A (eval slice env) (λi s₂=>s₂.TypeIs o T/\wpAny (model prog w) A (getItem o i) Q E s₂) E s₁) E s) :
 wpAny (model prog w) A (eval (.Subscript value slice pos) env) Q E s:=by
 refine Subscript_ (jY h (λo s₁ h₁=>jY h₁ (λi s₂ h₂=>?_) λ_ _ x=>x) λ_ _ x=>x);obtain⟨hT,h₂⟩:=h₂;unfold subscriptTail;refine aR ?_;rw[getitemInPython_of_ne hT.not_modules];refine aR (yf hT hl ?_);have fin:wpAny (model prog w) A (subscripted slice false o i) (λr s₃=>wpAny (model prog w) A (letTemporaryGo value o r >>= λ_=>pure r) Q E s₃) E s₂:=by rw[hs o i];exact wpAny_operating (jY h₂ (λr s₃ h₃=>aR (wpAny_letTemporaryGo (bV h₃))) λ_ _ x=>x)
 first
  |exact bV (aR fin)
  |exact aR (bV (aR fin))
  |exact aR fin
theorem ME{X:Cx}{ah:List (ai×Obj)}{σ:St}{H:Hp}{s:aB}{a:ai}{y:V}{o:Option V}(I:Inv X ah σ H s)(g:i9 H a y o):s.TypeIs (.ref a) "dict":= by
 rcases g with ⟨ao,k,e,_,_⟩|⟨ao,k,b,e,_,_,_⟩
 ·obtain⟨_,_,vs,_,dd⟩:=u7 I.hok e;exact dd.typeIs
 ·obtain⟨_,_,xs,_,dd⟩:=vi I.hok e;exact dd.typeIs
def Gy(td ty:TE):TE:=λσ H Q=>td σ H λx H1=>ty σ H1 λy H2=>∃a v,x=.ref a/\i9 H2 a y (ab v)/\Q v H2
def FP(ty td:TE):TE:=λσ H Q=>ty σ H λy H1=>td σ H1 λx H2=>∃a o,x=.ref a/\i9 H2 a y o/\Q (.bl o.isSome) H2
def Fv(ty td:TE):TE:=λσ H Q=>ty σ H λy H1=>td σ H1 λx H2=>∃a o,x=.ref a/\i9 H2 a y o/\Q (.bl (!o.isSome)) H2
def dA(td ty tv:TE):TS:=λD σ H=>tv σ H λv H1=>td σ H1 λx H2=>ty σ H2 λy H3=>∃a H4,x=.ref a/\nK H3 a y v H4/\D.nx σ H4
section
variable{X:Cx}{o i e value:a9}{pos pos' tpos:Pos}{td ty tv:TE}
theorem z9(hu:X.A.units+1<cLine)(ho:PE X o td)(hi:PE X i ty)(hs:IA i):PE X (.Subscript o i pos) (Gy td ty):=by intro ah s σ H Q I h;refine Qq PySem.F.slot_dict_getitem.lookup hs (bb (ho ah s σ H _ I h) λu s1 ⟨x,H1,I1,rx,q1⟩=>bb (hi ah s1 σ H1 _ I1 q1) λiv s2 ⟨y,H2,I2,ry,a,v,ex,g,q2⟩=>?_);subst ex;obtain rfl:u=eA a:=rx;exact⟨ME I2 g,N3 hu I2 g ry λw' s3 I3 rw'=>⟨v,H2,I3,rw',q2⟩⟩
theorem Gz(hu:X.A.units+1<cLine)(hi:PE X i ty)(ho:PE X o td):PC X .In i o (FP ty td):=by intro ah s σ H Q I h;refine bb (hi ah s σ H _ I h) λiv s1 ⟨y,H1,I1,ry,q1⟩=>bb (ho ah s1 σ H1 _ I1 q1) λu s2 ⟨x,H2,I2,rx,a,ov,ex,g,q2⟩=>?_;subst ex;obtain rfl:u=eA a:=rx;exact L1 hu I2 g ry λs3 I3=>⟨.bl ov.isSome,H2,I3,rfl,q2⟩
theorem Gq(hu:X.A.units+1<cLine)(hi:PE X i ty)(ho:PE X o td):PC X .NotIn i o (Fv ty td):=by intro ah s σ H Q I h;refine bb (hi ah s σ H _ I h) λiv s1 ⟨y,H1,I1,ry,q1⟩=>bb (ho ah s1 σ H1 _ I1 q1) λu s2 ⟨x,H2,I2,rx,a,ov,ex,g,q2⟩=>?_;subst ex;obtain rfl:u=eA a:=rx;exact Me hu I2 g ry λs3 I3=>⟨.bl (!ov.isSome),H2,I3,rfl,q2⟩
theorem q9(hu:X.A.units+1<cLine)(ho:PE X o td)(hi:PE X i ty)(hv:PE X value tv)(hs:swapsWith value (ab (.Subscript o i pos')) pos.line X.env=pure false) :
 PS X (.Assign [.Subscript o i pos'] value pos) (dA td ty tv):=by
 intro ah s σ H D I h;refine wpAny_Assign_Subscript (bb (hv ah s σ H _ I h) λr s1 ⟨v,H1,I1,rv,q1⟩=>bb (ho ah s1 σ H1 _ I1 q1) λu s2 ⟨x,H2,I2,rx,q2⟩=>bb (hi ah s2 σ H2 _ I2 q2) λiv s3 ⟨y,H3,I3,ry,a,H4,ex,g,q3⟩=>?_) hs;subst ex;obtain rfl:u=eA a:=rx;exact RA hu I3 g ry rv λs4 I4=>⟨σ,H4,I4,q3⟩
end
theorem Jg{P:bG}{w:bi}{H:Hp}(h:aZ)(hb:sysModules<h.objs.size):dD P w H (h.push { cls:=.type "dict", data:=.dict #[] }) h.objs.size (.dK []):=⟨g9 _,yQ.mpr (fJ (gQ hb)),[],.nil,Heap.DictOf.new h⟩
theorem NO{P:bG}{w:bi}{H:Hp}(h:aZ)(hb:sysModules<h.objs.size):dD P w H (h.push { cls:=.type "dict", data:=.dict #[] }) h.objs.size (.dT []):=⟨g9 _,yQ.mpr (fJ (gQ hb)),[],.nil,_,#[],0,dS _ rfl,⟨rfl,rfl,rfl⟩,rfl,rfl,List.nodup_nil⟩
def Eh:TE:=λ_ H Q=>∀p,H p=ae->Q (.ref p) (upd H p (.dK []))
def JA:TE:=λ_ H Q=>∀p,H p=ae->Q (.ref p) (upd H p (.dT []))
section
variable{X:Cx}{pos:Pos}
theorem Aa:PE X (.Dict [] [] pos) Eh:=λah s σ H Q I h=>
 wpAny_Dict_empty ⟨.ref s.heap.objs.size,_,I.laid (a:=s.heap.objs.size) (o:=.dK []) (t':=s.toks) (λ_ _ q=>cM _ q) (bK _) (Jg s.heap I.big),rfl,h _ (I.hok.fresh (bK _))⟩
theorem NL:PE X (.Dict [] [] pos) JA:=λah s σ H Q I h=>
 wpAny_Dict_empty ⟨.ref s.heap.objs.size,_,I.laid (a:=s.heap.objs.size) (o:=.dT []) (t':=s.toks) (λ_ _ q=>cM _ q) (bK _) (NO s.heap I.big),rfl,h _ (I.hok.fresh (bK _))⟩
end
def AD:List (TE×TE)->St->Hp->(List (V×V)->Hp->Prop)->Prop
 |[],_,H,Q=>Q [] H
 |(tk,tv)::r,σ,H,Q=>tk σ H λx H1=>tv σ H1 λy H2=>AD r σ H2 λps H3=>Q ((x,y)::ps) H3
abbrev VV:List (V×V)->List (aj×aj)->Prop:=oK λp q=>RelV p.1 q.1/\RelV p.2 q.2
def vT(X:Cx)(pos:Pos)(keys:List (Option a9))(values:List a9)(trs:List (TE×TE)):Prop:=
 ∀(ah:List (ai×Obj)) (s:aB) (σ:St) (H:Hp) (Q:List (V×V)->Hp->Prop),Inv X ah σ H s->AD trs σ H Q ->
  wpAny (model X.prog X.w) X.A (evalPairs (pairTrees keys values X.env pos)) (λvs s'=>∃ps H',Inv X ah σ H' s'/\VV ps vs/\Q ps H') X.xe s
theorem OA{X:Cx}{pos:Pos}:vT X pos [] [] []:=λah s σ H Q I h=>pairTrees_nil_walk ⟨[],H,I,.nil,h⟩
theorem SX{X:Cx}{pos:Pos}{k v:a9}{ks:List (Option a9)}{vs:List a9}{tk tv:TE}{trs:List (TE×TE)}(hk:PE X k tk)(hv:PE X v tv)(hr:vT X pos ks vs trs) :
 vT X pos (ab k::ks) (v::vs) ((tk,tv)::trs):=λah s σ H Q I h=>
 pairTrees_cons_walk (bb (hk ah s σ H _ I h) λu s1 ⟨x,H1,I1,rx,q1⟩=>bb (hv ah s1 σ H1 _ I1 q1) λw2 s2 ⟨y,H2,I2,ry,q2⟩=>
  bb (hr ah s2 σ H2 _ I2 q2) λws s3 ⟨ps,H3,I3,rel,q3⟩=>⟨(x,y)::ps,H3,I3,.cons ⟨rx,ry⟩ rel,q3⟩)
def uF(ao more:List (Key×V)):List (Key×V):=more.foldl (λacc kv=>putK acc kv.1 kv.2) ao
theorem KV.merge:∀{more:List (Key×V)} {rs:List (Key×aj)} {ao:List (Key×V)} {vs:List (Key×aj)},KV more rs->KV ao vs->KV (uF ao more) (merged vs rs):=by
 intro more rs ao vs r;unfold KV at r
 induction r generalizing ao vs with
 |nil=>intro q;exact q
 | @cons p q ps qs h t ih=>
  intro r0;have e:KV (putK ao p.1 p.2) (stored vs q.1 q.2):=by have:=r0.put p.1 h.2;rw[<- h.1];exact this
  exact ih e
theorem F2:∀(more ao:List (Key×V)),(uF ao more).length<=ao.length+more.length
 |[],ao=>by show ao.length<=ao.length+0;omega
 |p::r,ao=>by
  have h1:=F2 r (putK ao p.1 p.2);have h2:=BD ao p.1 p.2;show(uF (putK ao p.1 p.2) r).length<=_;rw[cx];omega
theorem Ip{P:bG}{w:bi}:∀{ao:List (Key×V)} {ws:List (aj×aj)},VV (ao.map λkv=>(kV kv.1,kv.2)) ws->∃rs,Carries (iD P w) ws rs/\KV ao rs
 |[],_,r=>by rw[vq]at r;cases r;exact⟨[],lw,.nil⟩
 |p::ao,_,r=>by
  rw[cP]at r;cases r with
  | @cons a b as bs h t=>
   obtain⟨rs,c,q⟩:=Ip (P:=P) (w:=w) t;obtain⟨b1,b2⟩:=b;exact⟨(p.1,b2)::rs,⟨ro h.1,rfl,c⟩,.cons ⟨rfl,h.2⟩ q⟩
def zA(trs:List (TE×TE)):TE:=λσ H Q=>∀p,H p=ae->AD trs σ (upd H p (.dK [])) λps H2=>H2 p=ab (.dK [])/\∃ao:List (Key×V),ps=ao.map (λkv=>(kV kv.1,kv.2))/\ao.length<=15/\Q (.ref p) (upd H2 p (.dK (uF [] ao)))
theorem Qg{X:Cx}{pos:Pos}{keys:List (Option a9)}{values:List a9}{trs:List (TE×TE)}(h:vT X pos keys values trs)(hall:keys.all (·.isSome)=true)(hl:keys.length=values.length)(h0:keys≠[])
 (h15:keys.length<=15):PE X (.Dict keys values pos) (zA trs):=by
 intro ah s σ H Q I q;have hn:=I.hok.fresh (bK s.heap.objs.size);have I1:=I.laid (a:=s.heap.objs.size) (o:=.dK []) (h':=s.heap.push { cls:=.type "dict", data:=.dict #[] }) (t':=s.toks) (λ_ _ q=>cM _ q) (bK _) (Jg s.heap I.big);refine wpAny_Dict_walk (knd:=iD X.prog X.w) hall hl h0 h15 (bb (h ah _ σ _ _ I1 (q _ hn)) λws s2 ⟨ps,H2,I2,rel,e,ao,ep,lk,q2⟩=>?_);subst ep;obtain⟨rs,c,rk⟩:=Ip (P:=X.prog) (w:=X.w) rel;obtain⟨z,hd,vs0,r0,dd⟩:=FI I2.hok e;cases r0;refine⟨rs,c,dd,λh' dd' hs=>⟨.ref s.heap.objs.size,_,?_,rfl,q2⟩⟩;have hz:(uF [] ao).length<=sizeLine:=by have h1:=F2 ao [];rw[f7]at h1;rw[eK];omega
 have he:∃q,h'.get? s.heap.objs.size=ab q:=let ⟨q,_,_,hq,_⟩:=dd';⟨q,hq⟩;exact zo I2 (by rw[e];exact lw) hs he (Ge hz hd (rk.merge .nil) dd')
end L2
namespace Att
open PySem PySem.W PySem.Calls PyProof.Rows
theorem SE{P:Params}{h:aZ}:∀(ns:List Int) (vs:List aj),WellAll P h vs (ns.map WData.int)->IntsAre vs ns:=by
 intro ns
 induction ns with
 |nil=>
  intro vs w;rw[vq]at w;cases w;exact .nil
 |cons n ns ih=>
  intro vs w;rw[cP]at w;cases w with
  |cons a b=>
   cases a;exact .cons _ _ (ih _ b)
theorem MC{l:OpenLaw}{n:Nat}(hn:l.most=ab n){P:Params}{h:aZ}{args:List WData}{vals:List aj}
 (hpre:l.row.toRowW.claim.pre args=true) (hwl:WellAll P h vals args) :
 ∃a vs ns,vals=[eA a]/\args=[WData.list (ns.map WData.int)]/\h.get? a=ab { cls:=.type "list", data:=.seq vs.toArray }/\IntsAre vs ns/\ns.length<=n:=by
 have hsh:WShape.hasAll [] args [.list .int]=true:=(pre_splitW hpre).1;have hc:l.pre.holds [] { args:=args }=true:=(pre_splitW hpre).2;obtain⟨d,r,rfl,h1,h2⟩:=hasAllW_cons hsh;obtain rfl:=hasAllW_nil h2;obtain⟨xs,rfl,h3⟩:=hasW_list h1;obtain⟨ns,rfl⟩:=items_int h3;have hlen:ns.length<=n:=by
  unfold OpenLaw.pre at hc;have h4:(WTm.not (.lt (.lit (.int (n:Int))) (.len (.arg 0)))).holds [] { args:=[.list (ns.map .int)] }=true:=by have h4:=(holds_andW hc).1;rw[hn]at h4;exact h4
  have h5:=condW_of h4 (w_not (w_lt w_lit (w_len_list (w_arg rfl))));rw[aO]at h5;refine Nat.le_of_not_lt λq=>?_;have q':(n:Int)<((ns.length:Nat):Int):=by omega
  first
   |(rw[bP q']at h5;exact absurd h5 (by decide))
   |(simp at h5;omega)
 cases hwl with
 |cons w1 w2=>
  cases w2;cases w1 with
  |list ho hall=>exact⟨_,_,ns,rfl,rfl,ho,SE ns _ hall,hlen⟩
theorem Sz(l:OpenLaw)(args:List WData):l.row.toRowW.claim.post args (.bool true) args=true:=
 postW_of (r:=l.row.toRowW) (X:=(true==true))
  (show WShape.has [] (.bool true) .bool=true by first|rfl|decide|simp[WShape.has,WShape.arms,WShape.armsAll])
  (show(WTm.eq .res (.lit (.bool true))).value [] { args:=args,res:=ab (.bool true),after:=args }=ab (.bool (true==true))from w_eq_bool (w_res rfl) w_lit) rfl
theorem Tf{l:OpenLaw}{n:Nat}{q:bG}{loose:List Str}{XP:(Str->Option aj)->aZ->Prop}{YP:bi->aZ->Prop}{d:DefRec}
 (hn:l.most=ab n) (hdf:d.params.defaults=[])
 (call:∀(w:bi) (s₀ s₁:aB) (mg mb:Str->Option aj) (fa:ai) (o:Obj) (pm cd doc:aj) (a:ai) (vs:List aj) (ns:List Int),
  Ground q loose [] XP w s₀ mg mb s₁.heap->YP w s₁.heap ->
  s₁.heap.get? fa=ab o->o.data=.func (docDef d.name d.params d.body d.scope pm cd doc)->s₁.heap.CodeRec cd d.name->mg d.name=ab (.ref fa) ->
  s₁.heap.get? a=ab { cls:=.type "list", data:=.seq vs.toArray }->IntsAre vs ns->ns.length<=n->s₁.gens = #[] ->
  codeAny (model l.prog w) callerA (.call (.ref fa) ⟨[.ref a],[]⟩) (λr s'=>r=.ok (.ret (.bool true))/\OldK s₁.heap s'.heap/\s'.os=s₁.os/\oO s'.gens) s₁) :
 WalkO q loose XP YP l.row.toRowW d [] (λf vs=>CC f vs):=by
 intro w s₀ s₁ mg mb G Y fa o pm cd doc dV kV ho hd hcd hD hmg hg args vals as hpre hlay hrd hwl hlo;obtain rfl:dV=.none:=Dflts.none hD hdf;obtain rfl:kV=.none:=Dflts.noKw hD;obtain⟨a,vs,ns,rfl,rfl,hobj,hints,hlen⟩:=MC hn hpre hwl;refine enter_call (ym (call w s₀ s₁ mg mb fa o pm cd doc a vs ns G Y ho (fd_plain hd) hcd hmg hobj hints hlen hg) λr s' hq=>?_);obtain⟨rfl,h2,h3,h4⟩:=hq;exact⟨.inl ⟨.bool true,.bool true,[],rfl,λ_=>rfl,.bool true,Sz l _,λ_=>⟨Ki,λ_ hm=>(nomatch hm)⟩⟩,h2,h3,h4⟩
end Att
namespace L2
open PySem PySem.Spec PyProof.Rows
theorem HQ:∀{vs:List aj} {ns:List Int},IntsAre vs ns->Vals (ns.map V.int) vs
 |_,_,.nil=>.nil
 |_,_,.cons n t h=>.cons ⟨t,rfl⟩ (HQ h)
def mQ(s:bC):sH:=match s with
 |.FunctionDef _ a _ _ _ _ _ _ _ _=>a
 |_=>{ posonlyargs:=[],args:=[],vararg:=ae,kwonlyargs:=[],kw_defaults:=[],kwarg:=ae,defaults:=[] }
def jj(s:bC):List bC:=match s with
 |.FunctionDef _ _ b _ _ _ _ _ _ _=>b
 |_=>[]
def bE(s:bC):fg:=match s with
 |.FunctionDef _ _ _ _ _ _ sc _ _ _=>sc
 |_=>{ kind:=.function,names:=[],isGenerator:=false,isCoroutine:=false }
abbrev aF:ic:=λ_ _ _ _ _ _=>False
abbrev E0:XK:=λ_ _ _=>False
theorem wE{X:Cx}:vN aF X E0:=λ_ _ _ _ _ _ _ h=>h.elim
structure bX(K:aU)(x qual:Str)(st:bC)(f:ai)(fd:bJ):Prop where
 ex:∃(oc:aj) (od:Option ai) (kV doc pm:aj) (an:Option ai) (cdv ct:aj) (osl:Array (Option aj)),
  fd=lp x qual (mQ st) (jj st) (bE st) .none kV doc pm an cdv ct/\K.lookup f=ab ⟨oc,od,.func fd,osl⟩/\sD K cdv qual=true
 kp:mq K (.ref f)=true
section
variable{P:bG}{w:bi}{K:aU}{mg:Str->Option aj}{base:aZ}
theorem bX.ok{x qual:Str}{st:bC}{f:ai}{fd:bJ}{N ps:List Str}{k:Nat}{sp:Sp}(F:bX K x qual st f fd)(S:cn N ps (bE st))(len:∀vs H Q E,sp vs H Q E->vs.length=ps.length)
 (hbody:∀(cdv:aj) (A:b9) (outer:List Env) (s:aB) (H:Hp) (vs:List V) (Q:VK) (E:XK),dw k (A.deeper (envOfC qual (bE st) s.heap.objs.size f cdv))->sp vs H Q E ->
  ∃t,io (lN aF P w K mg base N qual (bE st) f cdv A outer s H E).lV (jj st) t/\t { nx:=λ_ H'=>Q .non H',rt:=Q } (start N vs) H):bH P w K mg base aF (k+1) f fd ps sp:=by
 obtain⟨oc,od,kV,doc,pm,an,cdv,ct,osl,rfl,lk,hcd⟩:=F.ex;refine Fg lk hcd S len λA outer s H vs Q E hr hsp=>?_;obtain⟨t,h,q⟩:=hbody cdv A outer s H vs Q E hr hsp;exact⟨t,h.lV,q⟩
theorem bX.binds{x qual:Str}{st:bC}{f:ai}{fd:bJ}{ps:List Str}(F:bX K x qual st f fd)
 (h:∀(kV doc pm:aj) (an:Option ai) (cdv ct:aj) (us:List aj),us.length=ps.length->bindArgs (lp x qual (mQ st) (jj st) (bE st) .none kV doc pm an cdv ct) ⟨us,[]⟩=pure (ps.zip us)):Binds K fd ps []:=by
 obtain⟨oc,od,kV,doc,pm,an,cdv,ct,osl,rfl,lk,hcd⟩:=F.ex;exact .all (h kV doc pm an cdv ct)
theorem Gb{x qual:Str}{st:bC}{f:ai}{oc:aj}{od an:Option ai}{osl:Array (Option aj)}{kV doc pm cdv ct:aj}(l:K.lookup f=ab ⟨oc,od,.func (lp x qual (mQ st) (jj st) (bE st) .none kV doc pm an cdv ct),osl⟩)
 (c:sD K cdv qual=true) (k:mq K (.ref f)=true):bX K x qual st f (lp x qual (mQ st) (jj st) (bE st) .none kV doc pm an cdv ct):=⟨⟨oc,od,kV,doc,pm,an,cdv,ct,osl,rfl,l,c⟩,k⟩
end
theorem qH{A:b9}{k:Nat}(hr:dw k A):A.units+1<cLine:=Nat.lt_of_le_of_lt (Nat.add_le_add_left (by decide:1<=64) _) hr.units
section
variable{X:Cx}
theorem pv(i:Nat){x:Str}{pos:Pos}(hN:X.N[i]? = ab x:=by rfl)(hv:uc X.env.scope x:=by first|exact cV rfl|exact fO (cV rfl)|exact fO (fO rfl))(hd:(x==("__debug__" : Str))=false:=by decide)
 (hcd:(x==("__classdict__" : Str))=false:=by decide):PE X (.Name x pos) (fk i):=P0 hN hv hd hcd
end
theorem lK{A B:Prop}(h:B):if false=true then A else B:=by rw[a8 cZ];exact h
theorem lS{A B:Prop}(h:A):if true=true then A else B:=by rw[bc rfl];exact h
def cL(H H':Hp):Prop:=∀b o,H b=ab o->H' b=ab o
theorem cL.refl(H:Hp):cL H H:=λ_ _ h=>h
theorem cL.trans{H H1 H2:Hp}(a:cL H H1)(b:cL H1 H2):cL H H2:=λc o h=>b c o (a c o h)
theorem cL.free{H H':Hp}(e:cL H H'){l:ai}(h:H' l=Option.none):H l=Option.none:=by
 cases q:H l with
 |none=>rfl
 |some o=>
  rw[e l o q]at h;cases h
section
variable{prog:bG}{w:bi}{A:b9}{R:Result->aB->Prop}{s:aB}
theorem Tq{elt target iter:a9}{ifs:List a9}{scope:fg}{pos:Pos}{it acc:aj}{env:Env}(I:Nat->aB->Prop)
 (turn:∀n s,I n s->wpAny (model prog w) A (pyNext it) (λr s₁=>match r with
  |none=>R (.ok .next) s₁
  |some v=>wpAny (model prog w) A (letOwnedTupleGo target it v) (λ_ s₂=>wpAny (model prog w) A (assign target env v) (λ_ s₃=>
   wpAny (model prog w) A (forIn ifs true λc r=>if r=true then do let ok <- isTrue c env (eval c env);pure (oP ok)else pure (oP r)) (λok s₄=>
    if ok=true then wpAny (model prog w) A (eval elt env) (λx s₅=>
     wpAny (model prog w) A (call (.builtin "list.append") [acc,x]) (λ_ s₆=>∃m,m<n/\I m s₆) (λ_ _=>False) s₅) (λ_ _=>False) s₄
    else∃m,m<n/\I m s₄) (λ_ _=>False) s₃) (λ_ _=>False) s₂) (λ_ _=>False) s₁) (λ_ _=>False) s)
 (n:Nat) (h:I n s) :
 codeAny (model prog w) A (.compLoop (.ListComp elt [⟨target,iter,ifs,0⟩] scope pos) 0 it acc env) R s:=by
 refine codeAny_loop rfl I (λn s hI=>?_) n h;show wpAny _ A ((compTurn (.ListComp elt [⟨target,iter,ifs,0⟩] scope pos) 0 it acc env).onRaise (λx=>do noteFrame x env;theTreesLotGoes x)) _ _ s;refine wpAny_noted (jY (E:=λ_ _=>False) ?_ (λ_ _ q=>q) λ_ _ q=>q.elim);rw[compTurn_list];refine aR (CD (aR (bb (turn n s hI) λr s₁ h₁=>?_)));cases r with
 |none=>exact bV h₁
 |some v=>
  refine aR (bb h₁ λ_ s₂ h₂=>aR (bb h₂ λ_ s₃ h₃=>aR (bb h₃ λok s₄ h₄=>?_)));cases ok with
  |false=>exact bV ⟨rfl,h₄⟩
  |true=>exact aR (aR (bb h₄ λx s₅ h₅=>aR (bb h₅ λ_ s₆ h₆=>bV (bV ⟨rfl,h₆⟩))))
end
theorem dy.track{P:bG}{w:bi}{H:Hp}{h:aZ}{a:ai}{o:HO}(x:dy P w H h)(hn:H a=ae)(new:dD P w (upd H a o) h a o):dy P w (upd H a o) h:=λb u e=>by
 by_cases hb:b=a
 ·subst hb;rw[bN]at e;cases e;exact new
 ·rw[aS hb]at e;exact(x b u e).stay (λc v _ q=>q) (λc q=>by rw[aS (dX q hn)];exact q) λc xs q=>by rw[aS (dX q hn)];exact q
theorem lookup_mem{α:Type}:∀{l:List (Str×α)} {x:Str} {k:α},l.lookup x=ab k->(x,k)∈l
 |[],_,_,h=>by simp at h
 |(n,k')::r,x,k,h=>by
  rw[oF]at h;cases hx:x==n with
  |true=>
   rw[hx]at h;have:x=n:=by simpa using hx
   cases h;subst this;exact cJ
  |false=>rw[hx]at h;exact dR _ (lookup_mem h)
theorem wa{env:Env}:∀{names:List (Str×oJ)} {x:Str} {k:oJ},
 (names.map λ(n,k)=>if(k==nE&&env.scope.kind==.function&&env.kindOf n==ab .cell)then(n,CQ)else(n,k)).lookup x=ab k ->
 ∃k',names.lookup x=ab k'/\(k=k'\/(k'=.free/\k=.cell))
 |[],_,_,h=>by simp at h
 |(n,k0)::r,x,k,h=>by
  have ih:=@wa env r x k;have h':Cr x ((if(k0==nE&&env.scope.kind==.function&&env.kindOf n==ab .cell)=true then(n,CQ)else(n,k0)) ::
   (r.map λ(n,k)=>if(k==nE&&env.scope.kind==.function&&env.kindOf n==ab .cell)then(n,CQ)else(n,k)))=ab k:=h
  by_cases hc:(k0==nE&&env.scope.kind==.function&&env.kindOf n==ab .cell)=true
  ·rw[bc hc,oF]at h';rw[oF];cases hx:x==n with
   |true=>
    rw[hx]at h';cases h';simp only[gZ]at hc;exact⟨k0,rfl,.inr ⟨by simpa using hc.1.1,rfl⟩⟩
   |false=>rw[hx]at h';exact ih h'
  ·rw[a8 hc,oF]at h';rw[oF];cases hx:x==n with
   |true=>rw[hx]at h';cases h';exact⟨_,rfl,.inl rfl⟩
   |false=>rw[hx]at h';exact ih h'
theorem zS{env:Env}{f:(Str×oJ)->List (Str×ai)->Sem (ForInStep (List (Str×ai)))}
 (hf:∀n k r,f (n,k) r=if(k==nE)=true then(cellOf env n >>= λa=>pure (oP ((n,a)::r)))else pure (oP r)) :
 ∀(names:List (Str×oJ)) (acc:List (Str×ai)),(∀y∈names,y.2=.free->∃c,env.cells.lookup y.1=ab c)->(∀x c,acc.lookup x=ab c->env.cells.lookup x=ab c) ->
  ∃cl,forIn names acc f=pure cl/\(∀x c,cl.lookup x=ab c->env.cells.lookup x=ab c)/\(∀x,(∃c,acc.lookup x=ab c)->∃c,cl.lookup x=ab c)/\∀x,(x,nE)∈names->∃c,cl.lookup x=ab c
 |[],acc,_,hacc=>⟨acc,rfl,hacc,λ_ h=>h,λ_ h=>by simp at h⟩
 |(n,k)::r,acc,hn,hacc=>by
  have hr:∀y∈r,y.2=.free->∃c,env.cells.lookup y.1=ab c:=λy hy=>hn y (dR _ hy);by_cases hk:(k==nE)=true
  ·have hk':k=.free:=by simpa using hk
   obtain⟨c,hc⟩:=hn (n,k) cJ hk';obtain⟨cl,e,h1,h2,h3⟩:=zS hf r ((n,c)::acc) hr (λx c' h=>by
    rw[oF]at h;cases hx:x==n with
    | true => rw [hx] at h; cases h; have : x = n := by simpa using hx
              subst this;exact hc
    |false=>rw[hx]at h;exact hacc x c' h)
   refine⟨cl,?_,h1,λx ⟨c',hx⟩=>h2 x ?_,λx hx=>?_⟩
   ·rw[Cm,hf,bc hk];have:cellOf env n=pure c:=by unfold cellOf;rw[hc]
    rw[this];exact e
   ·rw[oF];cases x==n with
    |true=>exact⟨_,rfl⟩
    |false=>exact⟨c',hx⟩
   ·rcases bB.mp hx with e|hx
    ·cases e;exact h2 _ ⟨c,by rw[oF];simp⟩
    ·exact h3 x hx
  ·obtain⟨cl,e,h1,h2,h3⟩:=zS hf r acc hr hacc;refine⟨cl,?_,h1,h2,λx hx=>?_⟩
   ·rw[Cm,hf,a8 hk];exact e
   ·rcases bB.mp hx with e|hx
    ·cases e;exact absurd rfl hk
    ·exact h3 x hx
theorem MQ{sc:fg}{env:Env}(h:∀y∈sc.names,y.2=.free->∃c,env.cells.lookup y.1=ab c) :
 ∃cl,closureFor sc env=pure cl/\(∀x c,cl.lookup x=ab c->env.cells.lookup x=ab c)/\∀x,(x,nE)∈sc.names->∃c,cl.lookup x=ab c:=by
 obtain⟨cl,e,h1,_,h3⟩:=zS (env:=env) (f:=λx r=>match x with|(name,kind)=>if(kind==nE)=true then(cellOf env name >>= λa=>pure (oP ((name,a)::r)))else pure (oP r))
  (λn k r=>rfl) sc.names [] h (λ_ _ h=>by simp at h)
 refine⟨cl,?_,h1,h3⟩;unfold closureFor;refine Eq.trans ?_ e;exact bind_pure _
def pick(ρ:List (Option Nat))(σ:St):St:=ρ.map λo=>o.bind λj=>(σ[j]?).join
def gq(X:Cx)(N':List Str)(sc:fg)(cl:List (Str×ai))(C:ai)(s:aB)(H:Hp)(fp:List ai):Cx:={ X with N:=N',s₀:=s,H₀:=H,env:=compEnvC sc cl C X.env,outer:=X.stack,ex:=fp,fn:=λ_=>false,xe:=λ_ _=>False }
structure dU(X:Cx)(N':List Str)(ρ:List (Option Nat))(sc:fg):Prop where
 kind:sc.kind=.function
 nF:∀y∈sc.names,y.2≠.cell
 names:∀y∈sc.names,y.2=.local->sc.names.lookup y.1=ab .local
 free:∀y∈sc.names,y.2=.free->(X.env.kindOf y.1=ab .cell\/X.env.kindOf y.1=ab .free)
 len:ρ.length=N'.length
 ix:∀(i j:Nat),ρ[i]? = ab (ab j)->∃x,N'[i]? = ab x/\X.N[j]? = ab x/\sc.names.lookup x=ab .free
def tE(X:Cx)(ifs:List a9)(t:TT):Prop:=
 ∀(ah:List (ai×Obj)) (s:aB) (σ:St) (H:Hp) (Q:Bool->Hp->Prop),Inv X ah σ H s->t σ H Q ->
  wpAny (model X.prog X.w) X.A (forIn ifs true λc r=>if r=true then do let ok <- isTrue c X.env (eval c X.env);pure (oP ok)else pure (oP r)) (TP X ah σ Q) X.xe s
def D3:TT:=λ_ H Q=>Q true H
theorem jL{X:Cx}:tE X [] D3:=λ_ _ _ H _ I h=>wpAny_tests_nil ⟨H,I,h⟩
theorem j4{X:Cx}{c:a9}{t:TT}(h:PT X c t):tE X [c] t:=λah s σ H Q I hw=>wpAny_tests_one (h ah s σ H Q I hw)
def tK(ρ:List (Option Nat))(g:TG):Prop:=∀v σ H Q,g v σ H Q->g v σ H λσ2 H2=>(σ2.length = σ.length/\∀(i j:Nat),ρ[i]? = ab (ab j)->σ2[i]? = σ[i]?)/\Q σ2 H2
def xb(ρ:List (Option Nat))(g:ji):Prop:=∀v σ H Q,g v σ H Q->g v σ H λσ2 H2=>(σ2.length = σ.length/\∀(i j:Nat),ρ[i]? = ab (ab j)->σ2[i]? = σ[i]?)/\Q σ2 H2
theorem fR{ρ:List (Option Nat)}{i:Nat}(h:ρ[i]? = ab ae):tK ρ (gK i):=λv σ H Q q=>by
 refine⟨⟨kJ,λk j e=>?_⟩,q⟩;have:i≠k:=by intro z;subst z;rw[h]at e;cases e
 rw[fI this]
theorem wB{ρ:List (Option Nat)}:xb ρ sY:=λv σ H Q ⟨e,q⟩=>⟨e,⟨rfl,λ_ _ _=>rfl⟩,q⟩
theorem oq{ρ:List (Option Nat)}{i:Nat}{u:ji}(h:ρ[i]? = ab ae)(hu:xb ρ u)(mu:∀v σ H Q Q',(∀a b,Q a b->Q' a b)->u v σ H Q->u v σ H Q'):xb ρ (tI (gK i) u):=λvs σ H Q ⟨v,r,e,q⟩=>by
 refine⟨v,r,e,?_⟩;refine mu _ _ _ _ _ (λa b ⟨⟨l,k⟩,z⟩=>⟨⟨l.trans kJ,λi' j' e'=>(k i' j' e').trans ?_⟩,z⟩) (hu _ _ _ _ q);have:i≠i':=by intro z;subst z;rw[h]at e';cases e'
 rw[fI this]
theorem oB:∀v σ H Q Q',(∀a b,Q a b->Q' a b)->sY v σ H Q->sY v σ H Q':=λ_ _ _ _ _ m ⟨e,q⟩=>⟨e,m _ _ q⟩
theorem wc{i:Nat}{u:ji}(mu:∀v σ H Q Q',(∀a b,Q a b->Q' a b)->u v σ H Q->u v σ H Q'):∀v σ H Q Q',(∀a b,Q a b->Q' a b)->tI (gK i) u v σ H Q->tI (gK i) u v σ H Q':=λ_ _ _ _ _ m ⟨v,r,e,q⟩=>⟨v,r,e,mu _ _ _ _ _ m q⟩
theorem wj{ρ:List (Option Nat)}{K:aU}{n:Nat}{u:ji}(hu:xb ρ u):tK ρ (Bv K n u):=λv σ H Q ⟨a,xs,e,hq,hl,q⟩=>⟨a,xs,e,hq,hl,hu _ _ _ _ q⟩
def RW(J:It)(ρ:List (Option Nat))(g:TG)(tc:TT)(te:TE)(σ:St)(H1:Hp)(Q:VK):Prop:=∃W:Nat->Nat->List V->Hp->Prop,(∃m,W 0 m [] H1)/\∀i m acc H,W i m acc H ->
 (J.stop i H/\∀p,H p=ae->Q (.ref p) (upd H p (.lst acc))) \/
 (J.go i H/\acc.length<sizeLine/\∃N:List V->Hp->Prop,(∀acc' H',N acc' H'->∃m',m'<m/\W (i+1) m' acc' H') /\
  ∀x H',J.yld i H x H'->g x (pick ρ σ) H' λσ2 H2=>tc σ2 H2 λb H3=>if b=true then te σ2 H3 λy H4=>N (acc++[y]) H4 else N acc H3)
def wu(wi:TI)(ρ:List (Option Nat))(g:TG)(tc:TT)(te:TE):TE:=λσ H Q=>wi σ H λJ H1=>RW J ρ g tc te σ H1 Q
section
variable{X:Cx}{elt tg iter:a9}{ifs:List a9}{sc:fg}{pos cpos:Pos}{N':List Str}{ρ:List (Option Nat)}{wi:TI}{g:TG}{tc:TT}{te:TE}
theorem Ek(hcalm:X.calm=true)(S:dU X N' ρ sc)(hi:PI X tg iter wi)
 (hg:∀cl C s H fp,PG (gq X N' sc cl C s H fp) tg g) (gk:tK ρ g) (hc:∀cl C s H fp,tE (gq X N' sc cl C s H fp) ifs tc) (he:∀cl C s H fp,PE (gq X N' sc cl C s H fp) elt te)
 (hs:∀x,foldedSetIterable iter X.env x=pure x)
 (use:Option (aj->Sem Unit)) {R:aj->aB->Prop} {ah:List (ai×Obj)} {s:aB} {σ:St} {H:Hp} {Q:VK} (I:Inv X ah σ H s) (h:wu wi ρ g tc te σ H Q)
 (hR:∀s' D C H',Inv X ah σ H' s'->Q (.ref D) H'->(∃m,s'.heap.Ns C m)->iQ X ah H' C->compPost (model X.prog X.w) X.A X.xe use R (.ref D) C (.ok .next) s') :
 wpAny (model X.prog X.w) X.A (comprehension (.ListComp elt [⟨tg,iter,ifs,0⟩] sc pos) sc X.env cpos (newList []) false (eval iter X.env) use) R X.xe s:=by
 obtain⟨cl,hcl,hsub,hall⟩:=MQ (sc:=sc) (env:=X.env) λy hy hf=>I.ok.has y.1 (S.free y hy hf);refine wpAny_comprehension_free rfl hs hcl S.kind S.names (bb (hi ah s σ H _ I h) λv s1 h1=>bb h1 λitv s2 h2=>?_);obtain⟨it,fp,tn,J,H2,e,I2,T,st2,f2,W,⟨m0,w0⟩,turn⟩:=h2;subst e;refine wpAny_newList (items:=[]) ?_;refine wpAny_newFunctionEnv S.nF (by intro y hy;simp at hy) (λh₁ hns hsb=>?_) S.kind;dsimp only at hns hsb ⊢;generalize hH2:s2.heap.push { cls:=.type "list", data:=.seq ([]:List aj).toArray }=Hh at hns hsb ⊢;have hCs:Hh.objs.size=s2.heap.objs.size+1:=by rw[<- hH2,qr]
 generalize hD:s2.heap.objs.size=D at *;generalize hCC:Hh.objs.size=C at *;have hDC:D≠C:=by omega
 have ltC:∀b:Nat,b<s2.heap.objs.size->b≠C/\b≠D/\b<D:=λb h=>by omega
 have ltD:∀b:Nat,b<D->b≠C/\b≠D:=λb h=>by omega
 have old:∀b o,s2.heap.get? b=ab o->h₁.get? b=ab o:=λb o e=>hsb.extBut b o (ltC b (cG e)).1 (cM _ (by rw[<- hH2];exact cM _ e));have newD:h₁.get? D=ab { cls:=.type "list", data:=.seq ([]:List aj).toArray }:=hsb.extBut _ _ hDC (cM _ (by rw[<- hH2,<- hD];exact dS _ rfl));have ltb:∀b∈fp,b<D:=λb hb=>by
  obtain⟨o,e,_⟩:=T.obj _ _ st2 b hb;exact(ltC b (cG e)).2.2
 have fD:iQ X ah H2 D:=I2.jd (by omega) (I2.hok.fresh (by omega));have fC:iQ X ah H2 C:=I2.jd (by omega) (I2.hok.fresh (by omega));have nst:∀b,b≠X.env.locals->b∉X.fs->b∉frs X.stack:=λb h1 h2 hb=>by
  rcases bB.mp (I2.tw b hb)with e|e
  ·exact h1 e
  ·exact h2 e
 have ok':(gq X N' sc cl C s2 H2 fp).Ok:=by
  refine⟨I2.ok.mod,S.kind,I2.ok.glob,I2.ok.blt,(by show s2.heap.objs.size<=C;omega),λx y c e1 e2=>I2.ok.inj x y c (hsub _ _ e1) (hsub _ _ e2),λx hx=>?_,λx c z=>(by cases z),I2.ok.hd,I2.ok.frames,.inl rfl,
   λb hb=>⟨(ltD b (ltb b hb)).1,λx c e=>(f2 b hb).2.2.2.2.1 x c (hsub _ _ e)⟩,I2.bs,(by show X.base.objs.size<=s2.heap.objs.size;exact cU I2.ok.bsz I2.sz),λb o e hb=>?_,λb hb=>nst b (f2 b hb).2.1 (f2 b hb).2.2.1,I2.stack,I2.DP⟩
  ·have hx':∃k',sc.names.lookup x=ab k'/\(k'=.cell\/k'=.free):=by
    rcases hx with hx|hx
    ·obtain⟨k',e1,e2⟩:=wa (env:=X.env) (names:=sc.names) hx;rcases e2 with e2|⟨e2,_⟩
     ·exact⟨k',e1,.inl e2.symm⟩
     ·exact⟨k',e1,.inr e2⟩
    ·obtain⟨k',e1,e2⟩:=wa (env:=X.env) (names:=sc.names) hx;rcases e2 with e2|⟨e2,_⟩
     ·exact⟨k',e1,.inr e2.symm⟩
     ·exact⟨k',e1,.inr e2⟩
   obtain⟨k',e1,e2⟩:=hx';have hm:=lookup_mem e1;rcases e2 with e2|e2
   ·exact absurd e2 (S.nF _ hm)
   ·subst e2;exact hall x hm
  ·rcases(f2 b hb).2.2.2.1 with z|z
   ·exact I2.ok.vI b o e z
   ·exact absurd (g7 (cG e) (cU I2.ok.bsz z)) (kL _)
 have Kq:∀p∈X.pn++ah,p.1<D:=λp hp=>(ltC p.1 (cG (I2.pin p hp).1)).2.2;have TJ:∀x c,cl.lookup x=ab c->c<D:=λx c e=>by
  obtain⟨v,q⟩:=I2.cell x c (hsub _ _ e);exact(ltC c q.lt).2.2
 have I':∀tk,Inv (gq X N' sc cl C s2 H2 fp) (ah++[(D,{ cls:=.type "list", data:=.seq ([]:List aj).toArray })]) (pick ρ σ) H2 { s2 with heap:=h₁,toks:=tk }:=λtk=>by
  refine⟨ok',rfl,I2.bare,Un.kept old,⟨_,hns,λi x v e1 e2 e3=>?_⟩,λx c e=>?_,fC.1,λx c e=>I2.kO x c (hsub _ _ e),λp hp=>?_,I2.hok.kept old,?_⟩
  ·have e2':∃j,ρ[i]? = ab (ab j)/\σ[j]? = ab (ab v):=by
    unfold pick at e2;rw[cS]at e2;cases hr:ρ[i]? with
    |none=>rw[hr]at e2;cases e2
    |some o=>
     rw[hr]at e2;cases o with
     |none=>cases e2
     |some j=>
      refine⟨j,rfl,?_⟩;have e2:(σ[j]?).join=ab v:=iq e2;cases hq:σ[j]? with
      |none=>rw[hq]at e2;cases e2
      | some o' => rw [hq] at e2; have e2 : o' = ab v := e2
                   rw[e2]
   obtain⟨j,hj,hv⟩:=e2';obtain⟨y,ey,eN,ef⟩:=S.ix i j hj;have e1':N'[i]? = ab x:=e1;rw[ey]at e1';cases e1';obtain⟨m,hn,hl⟩:=I2.loc;have hm:=lookup_mem ef;have kX:=S.free _ hm rfl;obtain⟨u,ru,lk⟩:=hl j x v eN hv (by rcases kX with k|k;exact .inr (.inl k);exact .inr (.inr k));refine⟨u,ru,.inr ⟨?_,?_⟩⟩
   ·show(relabel sc X.env).names.lookup x=ab .cell\/(relabel sc X.env).names.lookup x=ab .free;rcases e3 with e3|e3|e3
    ·obtain⟨k',q1,q2⟩:=wa (env:=X.env) (names:=sc.names) e3;rw[ef]at q1;cases q1;rcases q2 with q2|⟨_,q2⟩<;>cases q2
    ·exact .inl e3
    ·exact .inr e3
   ·obtain⟨c,hc'⟩:=hall x hm;refine⟨c,hc',?_⟩;rcases lk with ⟨k,_⟩|⟨_,c',ec,z⟩
    ·rcases kX with k'|k'<;>(rw[k]at k';cases k')
    ·rw[hsub _ _ hc']at ec;cases ec;obtain⟨o,ho,hd⟩:=z;exact⟨o,old _ _ ho,hd⟩
  ·obtain⟨v,o,ho,hd⟩:=I2.cell x c (hsub _ _ e);exact⟨v,o,old _ _ ho,hd⟩
  ·have hp':p∈X.pn++ah\/p=(D,{ cls:=.type "list", data:=.seq ([]:List aj).toArray }):=by
    rcases bT.mp hp with z|z
    ·exact .inl (eo _ z)
    ·rcases bT.mp z with z|z
     ·exact .inl (dE _ z)
     ·exact .inr (by simpa using z)
   rcases hp' with z|z
   ·obtain⟨q1,q2,q3,q4,q5⟩:=I2.pin p z;exact⟨old _ _ q1,q2,(ltD p.1 (Kq p z)).1,nst _ q3 q4,q5⟩
   ·subst z;exact⟨newD,fD.1,hDC,nst _ fD.2.1 fD.2.2.1,λv z=>by cases z⟩
  ·show(pick ρ σ).length=N'.length;unfold pick;rw[aO];exact S.len
 have stat:∀{H':Hp} {o:Obj},(∀b∈fp,H' b=ae)->∀b∈fp,iQ (gq X N' sc cl C s2 H2 fp) (ah++[(D,o)]) H' b:=λ{H' o} hn b hb=>by
  refine⟨hn b hb,(ltD b (ltb b hb)).1,nst b (f2 b hb).2.1 (f2 b hb).2.2.1,.inl hb,λx c e=>(f2 b hb).2.2.2.2.1 x c (hsub _ _ e),λp hp=>?_⟩;rcases bT.mp hp with z|z
  ·exact(f2 b hb).2.2.2.2.2 p (eo _ z)
  ·rcases bT.mp z with z|z
   ·exact(f2 b hb).2.2.2.2.2 p (dE _ z)
   ·have e:p=(D,o):=by simpa using z
    subst e;exact fJ (ltD b (ltb b hb)).2
 have loop:∀tk,codeAny (model X.prog X.w) X.A (.compLoop (.ListComp elt [⟨tg,iter,ifs,0⟩] sc pos) 0 (.ref it) (.ref D) (compEnvC sc cl C X.env)) (compPost (model X.prog X.w) X.A X.xe use R (.ref D) C) { s2 with heap:=h₁,toks:=tk }:=λtk=>by
  refine Tq (λn s'=>∃(i:Nat) (acc:List V) (av:List aj) (k:Nat) (H':Hp),Inv (gq X N' sc cl C s2 H2 fp) (ah++[(D,{ cls:=.type "list", data:=.seq av.toArray k })]) (pick ρ σ) H' s'/\Vals acc av/\acc.length<=sizeLine/\tn i s'.heap/\(∀b∈fp,H' b=ae)/\W i n acc H')
   ?_ m0 ⟨0,[],[],0,H2,I' tk,.nil,g9 _,T.keep _ _ _ st2 λb hb o e=>old b o e,λb hb=>(f2 b hb).1,w0⟩
  rintro n s3 ⟨i,acc,av,k,H3,I3,va,hz0,st3,fr3,w3⟩;rcases turn i n acc H3 w3 with ⟨stop,qn⟩|⟨go,hz,Nn,hN,step⟩
  ·refine bb (T.done (gq X N' sc cl C s2 H2 fp) rfl rfl rfl hcalm i _ s3 _ H3 (λ_ _=>False) I3 (stat fr3) st3 stop) λr s4 ⟨hr,I4⟩=>?_;subst hr;obtain⟨p1,p2,p3,p4,p5⟩:=I4.pin (D,{ cls:=.type "list",data:=.seq av.toArray k }) (by simp);have p1:s4.heap.get? D=ab { cls:=.type "list", data:=.seq av.toArray k }:=p1;have p2:H3 D=ae:=p2;have B:=I4.base;have upn:∀b o,H3 b=ab o->upd H3 D (.lst acc) b=ab o:=λb o e=>by rw[aS (dX e p2)];exact e
   have IX:Inv X ah σ (upd H3 D (.lst acc)) s4:=by
    refine I2.call' (ch:=fp) I4.os ⟨λb o q1 q2 q3 q4=>B.keep b o q1 q2 q3 q4,λb o q1 q2 q3 q4=>B.slot b o q1 q2 q3 q4,λb o q1 q2 q3=>?_,λb o q1 q2=>B.there b o q1 q2,
     λb xs q=>upn _ _ (B.tups b xs q),λb o u q=>upn _ _ (B.mD b o u q),λb w ps q=>?_⟩ (I4.hok.track p2 ⟨hz0,av,k,va,p1⟩) I4.bare λb hb=>⟨(f2 b hb).2.2.2.1,(f2 b hb).2.1,(f2 b hb).2.2.2.2.1,(f2 b hb).2.2.2.2.2⟩
    ·rw[aS (ltC b (cG q1)).2.1];exact B.free b o q1 q2 q3
    ·obtain⟨more,q'⟩:=B.mE b w ps q;exact⟨more,upn _ _ q'⟩
   obtain⟨m,hm,_⟩:=I4.loc;refine hR s4 D C _ IX (qn D p2) ⟨m,hm⟩ (I2.jd (by omega) ?_);rw[aS (fJ hDC)];exact I4.free
  ·refine bb (T.item (gq X N' sc cl C s2 H2 fp) rfl rfl rfl hcalm i _ s3 _ H3 (λ_ _=>False) I3 (stat fr3) st3 go) λr s4 ⟨u,hr,h4⟩=>?_;subst hr;refine bb h4 λ_ s5 ⟨x,H5,I5,r5,y5,st5,fr5⟩=>?_;have I5':=I5.pinned (stat fr5) (T.obj _ _ st5);refine bb (hg cl C s2 H2 fp _ s5 _ H5 x u _ I5' r5 (gk _ _ _ _ (step x H5 y5))) λ_ s6 ⟨σ6,H6,I6,⟨l6,k6⟩,q6⟩=>?_;refine bb (hc cl C s2 H2 fp _ s6 σ6 H6 _ I6 q6) λok s7 ⟨H7,I7,q7⟩=>?_;have wk:∀{sN:List (ai×Obj)} {H':Hp} {s':aB},Inv (gq X N' sc cl C s2 H2 fp) sN σ6 H' s'->Inv (gq X N' sc cl C s2 H2 fp) sN (pick ρ σ) H' s':=λ{sN H' s'} J'=>
    J'.weak l6.symm λj v e=>by
     have:∃j',ρ[j]? = ab (ab j'):=by
      unfold pick at e;rw[cS]at e;cases hr:ρ[j]? with
      |none=>rw[hr]at e;cases e
      |some o=>
       rw[hr]at e;cases o with
       |none=>cases e
       |some j'=>exact⟨j',rfl⟩
     obtain⟨j',hj'⟩:=this;rw[k6 j j' hj'];exact e
   cases ok with
   |false=>
    have q7:Nn acc H7:=by simpa using q7
    rw[a8 cZ];obtain⟨m',hm,w7⟩:=hN acc H7 q7;refine⟨m',hm,i+1,acc,av,k,H7,wk I7.r9,va,hz0,T.keep _ _ _ st5 λb hb o e=>(I7.pin (b,o) (dE _ (dE _ (rj hb e)))).1,λb hb=>?_,w7⟩;obtain⟨o,e,d⟩:=T.obj _ _ st5 b hb;exact(I7.pin (b,o) (dE _ (dE _ (rj hb e)))).2.1
   |true=>
    have q7:te σ6 H7 λy H4=>Nn (acc++[y]) H4:=by simpa using q7
    rw[bc rfl];refine bb (he cl C s2 H2 fp _ s7 σ6 H7 _ I7 q7) λxv s8 ⟨y,H8,I8,r8,n8⟩=>?_;obtain⟨p1,p2,p3,p4,p5⟩:=I8.pin (D,{ cls:=.type "list",data:=.seq av.toArray k }) (by simp);have p1:s8.heap.get? D=ab { cls:=.type "list",data:=.seq av.toArray k }:=p1;have p2:H8 D=ae:=p2;refine wpAny_list_append_plain ⟨k,p1⟩ (λh' pl sb=>?_) (by rw[dH,<- va.length];omega);obtain⟨k',pl⟩:=pl;obtain⟨m',hm,w8⟩:=hN _ _ n8;have Ia:Inv (gq X N' sc cl C s2 H2 fp) ah σ6 H8 s8:=I8.r9.r9;have Ib:Inv (gq X N' sc cl C s2 H2 fp) ah σ6 H8 { s8 with heap:=h' }:=Ia.turned (t':=s8.toks) (it:=D) (λb o hb e=>(sb.2 b hb).trans e) p2 hDC (.inr (by show s2.heap.objs.size<=D;omega)) (λx c e=>(ltD c (TJ x c e)).2) λp hp=>(ltD p.1 (Kq p hp)).2;have pl':h'.get? D=ab { cls:=.type "list", data:=.seq (av++[xv]).toArray k' }:=by rw[pl];simp
    have Ic:Inv (gq X N' sc cl C s2 H2 fp) (ah++[(D,{ cls:=.type "list", data:=.seq (av++[xv]).toArray k' })]) σ6 H8 { s8 with heap:=h' }:=Ib.Ak λp hp=>by
     rcases bT.mp hp with z|z
     ·exact Ib.pin p (dE _ z)
     ·have e:p=(D,{ cls:=.type "list", data:=.seq (av++[xv]).toArray k' }):=by simpa using z
      subst e;exact⟨pl',p2,p3,p4,λv z=>by cases z⟩
    refine⟨m',hm,i+1,acc++[y],av++[xv],k',H8,wk Ic,va.append (.cons r8 .nil),(by rw[bU,ft];omega),T.keep _ _ _ st5 λb hb o e=>?_,λb hb=>?_,w8⟩
    ·exact(sb.2 b (ltD b (ltb b hb)).2).trans (I8.pin (b,o) (dE _ (dE _ (rj hb e)))).1
    ·obtain⟨o,e,d⟩:=T.obj _ _ st5 b hb;exact(I8.pin (b,o) (dE _ (dE _ (rj hb e)))).2.1
 refine codeAny_compStart_list (loop _) (T.self X.A 0 _ _ _ (T.keep _ _ _ st2 λb hb o e=>old b o e) (loop _))
theorem gc(hcalm:X.calm=true)(S:dU X N' ρ sc)(hi:PI X tg iter wi)
 (hg:∀cl C s H fp,PG (gq X N' sc cl C s H fp) tg g) (gk:tK ρ g) (hc:∀cl C s H fp,tE (gq X N' sc cl C s H fp) ifs tc) (he:∀cl C s H fp,PE (gq X N' sc cl C s H fp) elt te)
 (hs:∀x,foldedSetIterable iter X.env x=pure x:=by intro _;rfl) :
 PE X (.ListComp elt [⟨tg,iter,ifs,0⟩] sc pos) (wu wi ρ g tc te):=by
 intro ah s σ H Q I h;rw[eval_ListComp];refine Ek hcalm S hi hg gk hc he hs ae I h λs' D C H' I' q ⟨m,hm⟩ f=>⟨m,hm,λh' sb=>?_⟩;exact⟨.ref D,H',I'.turned (t':=s'.toks) (it:=C) (λb o hb e=>(sb.2 b hb).trans e) f.1 f.2.1 f.2.2.2.1 f.2.2.2.2.1 f.2.2.2.2.2,rfl,q⟩
theorem t7{i:Nat}{x:Str}{px:Pos}(hcalm:X.calm=true)(hN:X.N.Nodup)(hix:X.N[i]? = ab x)(hx:Loc X.env.scope x)(S:dU X N' ρ sc)(hi:PI X tg iter wi)
 (hg:∀cl C s H fp,PG (gq X N' sc cl C s H fp) tg g) (gk:tK ρ g) (hc:∀cl C s H fp,tE (gq X N' sc cl C s H fp) ifs tc) (he:∀cl C s H fp,PE (gq X N' sc cl C s H fp) elt te)
 (hsw:swapsWith (.ListComp elt [⟨tg,iter,ifs,0⟩] sc pos) (ab (.Name x px)) cpos.line X.env=pure true:=by rfl)
 (hs:∀x,foldedSetIterable iter X.env x=pure x:=by intro _;rfl)
 (hf:X.fn x=true\/X.env.scope.names.lookup x=ab .local:=by first|exact .inl rfl|exact .inr rfl|assumption) :
 PS X (.Assign [.Name x px] (.ListComp elt [⟨tg,iter,ifs,0⟩] sc pos) cpos) (jg (wu wi ρ g tc te) (gK i)):=by
 intro ah s σ H D I h;rw[exec_Assign_Name_used _ _ _ _ hsw];refine aR (CD (aR ?_));show wpAny _ X.A (do let _ <- comprehension (.ListComp elt [⟨tg,iter,ifs,0⟩] sc pos) sc X.env _ (newList []) false (eval iter X.env) (ab (assign (.Name x px) X.env))) _ _ s;refine aR (bb (Ek (Q:=λy H1=>D.nx (σ.set i (ab y)) H1) (R:=λ_ s'=>SP X ah D .next s') hcalm S hi hg gk hc he hs (ab (assign (.Name x px) X.env)) I h λs' Da C H' I' q ⟨m,hm⟩ f=>?_) λ_ s' hq=>bV (bV hq));show wpAny _ X.A (assign (.Name x px) X.env (.ref Da)) _ _ _;refine wpAny_assign_Name (Gc I' hN hix hx (v:=.ref Da) rfl (λs2 I2 ⟨a,sb,ha⟩=>⟨m,hm.sameBut sb ?_,λh' sb2=>?_⟩) hf)
 ·rcases ha with e|e
  ·subst e;exact f.2.1
  ·exactλz=>f.2.2.2.2.1 x a e z.symm
 ·exact⟨_,H',I2.turned (t':=s2.toks) (it:=C) (λb o hb e=>(sb2.2 b hb).trans e) f.1 f.2.1 f.2.2.2.1 f.2.2.2.2.1 f.2.2.2.2.2,q⟩
end
structure It.Of(J:It)(Ok:Hp->Prop)(xs:List V):Prop where
 go:∀i H,Ok H->i<xs.length->J.go i H
 yld:∀i H x H',Ok H->i<xs.length->J.yld i H x H'->H'=H/\xs[i]? = ab x
 stop:∀H,Ok H->J.stop xs.length H
theorem E7{K:aU}{a:ai}{xs:List V}:(tM K a).Of (λH=>eY K H a xs) xs:=⟨λi H h hi=>⟨xs,xs[i],h,by simp[hi]⟩,λi H x H' h _ y=>⟨y.1,y.2 xs h⟩,λH h=>⟨xs,h,bK _⟩⟩
theorem G3{K:aU}{a:ai}{xs:List V}:(t6 K a).Of (λH=>fK K H a xs) xs:=⟨λi H h hi=>⟨xs,xs[i],h,by simp[hi]⟩,λi H x H' h _ y=>⟨y.1,y.2 xs h⟩,λH h=>⟨xs,h,bK _⟩⟩
def pD(lo:Int)(n:Nat):List V:=(cu n).map λi=>V.int (lo+(i:Nat))
theorem zy(lo:Int)(n:Nat):(pD lo n).length=n:=by simp[pD]
theorem Th{lo:Int}{n i:Nat}(h:i<n):(pD lo n)[i]? = ab (.int (lo+i)):=by simp[pD,h]
theorem Ny{lo:Int}{n:Nat}:(nO lo n).Of (λ_=>True) (pD lo n):=⟨λi H _ hi=>by rw[zy]at hi;exact hi,λi H x H' _ hi y=>⟨y.1,by rw[zy]at hi;rw[y.2];exact Th hi⟩,λH _=>by rw[zy];exact bK _⟩
def sgn(c:Nat):V:=.str ⟨#[c]⟩
def py(x:Str):List V:=x.cps.toList.map sgn
theorem FC(x:Str):(py x).length=x.length:=by simp[py,qx]
def pY(x:Str):It:=⟨λi _=>i<x.length,λi H y H'=>H'=H/\(py x)[i]? = ab y,λi _=>i=x.length⟩
theorem FL{x:Str}:(pY x).Of (λ_=>True) (py x):=⟨λi H _ hi=>by rw[FC]at hi;exact hi,λi H y H' _ _ h=>h,λH _=>FC x⟩
theorem D9{P:bG}{w:bi}{K:aU}{tg:a9}(it:ai)(x:Str)(t:Tok)(ty:String)
 (hty:["enumerate","zip","dict_itemiterator","dict_reverseitemiterator","odict_iterator","itertools.zip_longest","itertools.pairwise"].contains ty=false)
 (W:∀A':b9,A'.handled=ae->Walks P w A' it [it] [it] x.cps.size (SignAt x) (λi h=>h.IsStrIter it ty x t i))
 (sf:∀(A:b9) (i:Nat) (s:aB) (Q:aj->aB->Prop) (E:aj->aB->Prop),s.heap.IsStrIter it ty x t i->Q (.ref it) s->wpAny (model P w) A (pyIter (.ref it)) Q E s) :
 Turn P w K tg (pY x) [it] it (λi h=>h.IsStrIter it ty x t i) where
 mem:=by simp
 obj:=λi h st b hb=>by
  have e:b=it:=by simpa using hb
  subst e;obtain⟨o,e,c,d⟩:=st;exact⟨o,e,λv z=>by rw[d]at z;cases z⟩
 keep:=λi h h' st k=>let ⟨o,ho,r⟩:=st;⟨o,k it (by simp) o ho,r⟩
 item:=by intro X hP hw hK hc i ah s σ H E I hf st hg;subst hP hw hK;obtain⟨f0,f1,f2,f3,f4,f5⟩:=hf it (by simp);refine(W X.A (I.ok.hd hc)).item i s _ _ hg st λv h' tk hv st' kk=>?_;obtain⟨c,u,e,rfl⟩:=hv;have I1:Inv X ah σ H { s with heap:=h',toks:=tk }:=I.turned (λb o hb e=>kk b o (by simpa using hb) e) f0 f1 f3 f4 f5;obtain⟨o,e',c',d'⟩:=id st';refine⟨_,rfl,ui (s:={ s with heap:=h',toks:=tk }) e' c' d' hty ⟨sgn c,H,I1,⟨u,rfl⟩,⟨rfl,?_⟩,st',λb hb=>(hf b hb).1⟩⟩;unfold py;rw[cS,CT,e];rfl
 done:=by intro X hP hw hK hc i ah s σ H E I hf st hg;subst hP hw hK;obtain⟨f0,f1,f2,f3,f4,f5⟩:=hf it (by simp);have hg:i=x.length:=hg;subst hg;exact(W X.A (I.ok.hd hc)).done s _ _ st λh' tk kk=>⟨rfl,I.turned (λb o hb e=>kk b o (by simpa using hb) e) f0 f1 f3 f4 f5⟩
 self:=sf
section
variable{X:Cx}{tg:a9}
def Ih(tl:TE):TI:=λσ H R=>tl σ H λx H1=>∃z,x=.str z/\R (pY z) H1
theorem PM{l:a9}{tl:TE}(hl:PE X l tl):PI X tg l (Ih tl):=by
 intro ah s σ H R I h;refine bb (hl ah s σ H _ I h) λv s1 ⟨x,H1,I1,r1,q1⟩=>?_;obtain⟨z,e,q⟩:=q1;subst e;obtain⟨t,rfl⟩:=r1;cases ha:z.cps.all (· < 128)
 ·refine wpAny_pyIter_wide ha ?_;refine⟨s1.heap.objs.size,[s1.heap.objs.size],_,pY z,H1,rfl,I1.kept (t':=s1.toks) λb o e=>cM _ e,D9 _ z t "str_iterator" (by decide) (λA' hA=>Walks.strWide hA _ z t) (λ_ _ _ _ _ st hQ=>wpAny_pyIter_striter_wide st hQ),⟨_,dS _ rfl,rfl,rfl⟩,λb hb=>?_,q⟩;have e:b=s1.heap.objs.size:=by simpa using hb
  subst e;exact I1.jd (bK _) (I1.hok.fresh (bK _))
 ·refine wpAny_pyIter_ascii ha ?_;refine⟨s1.heap.objs.size,[s1.heap.objs.size],_,pY z,H1,rfl,I1.kept (t':=s1.toks) λb o e=>cM _ e,D9 _ z t "str_ascii_iterator" (by decide) (λA' hA=>Walks.strAscii hA _ z t) (λ_ _ _ _ _ st hQ=>wpAny_pyIter_striter_ascii st hQ),⟨_,dS _ rfl,rfl,rfl⟩,λb hb=>?_,q⟩;have e:b=s1.heap.objs.size:=by simpa using hb
  subst e;exact I1.jd (bK _) (I1.hok.fresh (bK _))
theorem AI:∀{bs:List Bool} {us:List aj},Vals (bs.map V.bl) us->us=bs.map iV
 |[],_,.nil=>rfl
 |b::r,_,.cons q t=>by rw[AI t,show _=iV b from q];rfl
theorem range_all(bs:List Bool):(cu bs.length).all (λi=>bs.getD i false)=bs.all id:=by
 induction bs with
 |nil=>rfl
 |cons b r ih=>
  rw[cx,vk,Co,xX,Co]
  congr 1
theorem range_any(bs:List Bool):(cu bs.length).any (λi=>bs.getD i false)=bs.any id:=by
 induction bs with
 |nil=>rfl
 |cons b r ih=>
  rw[cx,vk,kK,vt,kK]
  congr 1
def wA(K:aU)(f:List Bool->Bool):List V->Hp->VK->Prop:=λxs H Q=>∃a bs,xs=[.ref a]/\eY K H a (bs.map V.bl)/\Q (.bl (f bs)) H
theorem IK{P:bG}{w:bi}{A:b9}(bs:List Bool):TruthOf P w A (λi v=>(bs.map iV).toArray[i]? = ab v) (λi=>bs.getD i false):=by
 intro i v s Q E hv hq;have:v=.bool (bs.getD i false):=by
  rw[List.getElem?_toArray,cS]at hv;cases hb:bs[i]? with
  |none=>rw[hb]at hv;cases hv
  |some b=>
   rw[hb]at hv;rw[fN,hb];exact(iq hv).symm
 subst this;exact oG hq
theorem Tx(hc:X.calm=true):ia X (.builtin "all") (wA X.K (·.all id)):=by
 intro ah s σ H xs us Q I r h;obtain⟨a,bs,rfl,hq,q⟩:=h;obtain⟨u,rfl,ru⟩:=vals1 r;cases ru;obtain⟨av,rv,p,hz⟩:=I.list hq;have e:=AI rv;subst e;have hlt:a<s.heap.objs.size:=by obtain⟨o,n,e,_⟩:=p;exact cG e
 refine call_all_walk (vx p.isList ⟨_,_,_,_,_,_,λi=>bs.getD i false,rfl,Walks.list (A:=X.A.in1) (I.ok.hd hc) _ a (gQ hlt) (bs.map iV).toArray,⟨⟨_,dS _ rfl,rfl,rfl⟩,(p.keeps λb o e=>cM _ e).isList⟩,IK bs,λh' tk kk=>?_⟩);refine⟨.bl (bs.all id),H,I.kept λb o e=>kk b o (by simpa using gQ (cG e)) (cM _ e),?_,q⟩;show iV _=iV _;rw[<- range_all];simp
theorem Qh(hc:X.calm=true):ia X (.builtin "any") (wA X.K (·.any id)):=by
 intro ah s σ H xs us Q I r h;obtain⟨a,bs,rfl,hq,q⟩:=h;obtain⟨u,rfl,ru⟩:=vals1 r;cases ru;obtain⟨av,rv,p,hz⟩:=I.list hq;have e:=AI rv;subst e;have hlt:a<s.heap.objs.size:=by obtain⟨o,n,e,_⟩:=p;exact cG e
 refine call_any_walk (vx p.isList ⟨_,_,_,_,_,_,λi=>bs.getD i false,rfl,Walks.list (A:=X.A.in1) (I.ok.hd hc) _ a (gQ hlt) (bs.map iV).toArray,⟨⟨_,dS _ rfl,rfl,rfl⟩,(p.keeps λb o e=>cM _ e).isList⟩,IK bs,λh' tk kk=>?_⟩);refine⟨.bl (bs.any id),H,I.kept λb o e=>kk b o (by simpa using gQ (cG e)) (cM _ e),?_,q⟩;show iV _=iV _;rw[<- range_any];simp
theorem Q4:cY X (compareOp .Gt) (λx y H Q=>∃i j,x=.str i/\y=.str j/\Q (.bl (decide (j.cps.toList<i.cps.toList))) H):=by intro ah s σ H x y v u Q I rx ry h;obtain⟨i,j,rfl,rfl,q⟩:=h;obtain⟨t,rfl⟩:=rx;obtain⟨t',rfl⟩:=ry;exact PySem.P.gt_str (zN I q rfl)
def rP(x:Str)(lo hi:Option Int):Str:=⟨((x.cps.toList.drop (HT.dq x.length 0 lo)).take (HT.dq x.length x.length hi-HT.dq x.length 0 lo)).toArray⟩
theorem Ss(lo hi:Option Int)(n:Nat):Kf lo hi 1 n=(cu (HT.dq n n hi-HT.dq n 0 lo)).map (λk=>HT.dq n 0 lo+k):=by
 have h1:∀(v:Option Int) (d:Nat),d<=n->(match v with|none=>(d:Int)|some i=>max 0 (min (if i<0 then i+(n:Int)else i) (n:Int)))=((HT.dq n d v:Nat):Int):=by
  intro v d hd;cases v with
  |none=>rfl
  |some i=>
   show max 0 (min (if i<0 then i+(n:Int)else i) (n:Int))=(((if i<0 then(i+(n:Int)).toNat else min i.toNat n):Nat):Int);by_cases hv:i<0
   ·simp only[bc hv];omega
   ·simp only[a8 hv];omega
 have fin:∀(p q:Int) (a b:Nat),p=(a:Int)->q=(b:Int)->sliceRange p q 1=(cu (b-a)).map (λk=>a+k):=by
  intro p q a b e1 e2;subst e1 e2;unfold sliceRange;simp only[show((1:Int)>0)=True from by simp,l8];by_cases hlt:(a:Int)<b
  ·have e3:(((b:Int)-a+1-1)/1).toNat=b-a:=by first|omega|(simp;done)|(simp;omega)
   simp only[hlt,l8,e3];refine vn λk _=>?_;omega
  ·have:b-a=0:=by omega
   simp[hlt,this]
 unfold Kf;refine fin _ _ _ _ ?_ ?_
 ·have:=h1 lo 0 (g9 _);cases lo with
  |none=>exact this
  |some i=>exact this
 ·have:=h1 hi n (bK _);cases hi with
  |none=>exact this
  |some i=>exact this
theorem OF(x:Str)(lo hi:Option Int):Txt.slice x lo hi=rP x lo hi:=by
 have hle:HT.dq x.length x.length hi<=x.length:=HT.GG _ _ (bK _) hi;have ha:HT.dq x.length 0 lo<=x.length:=HT.GG _ _ (g9 _) lo;unfold Txt.slice rP;rw[Ss];generalize HT.dq x.length 0 lo=a at *;generalize HT.dq x.length x.length hi=b at *;have hp:((cu (b-a)).map (λk=>a+k)).filterMap (λi=>x.cps[i]?)=(x.cps.toList.drop a).take (b-a):=by have h:=StrLaws.picks x.cps.toList (b-a) a (by simp[qx]at hle ha ⊢;omega);simpa using h
 split
 ·rename_i h;simp only[aO,vp,u9,Bool.true_and,beq_iff_eq]at h;have e:a=0\/x.length=0:=by omega
  have e2:(x.cps.toList.drop a).take (b-a)=x.cps.toList:=by
   rw[h];rcases e with e|e
   ·subst e;rw[qp];exact qh (by simp[qx])
   ·have:x.cps.toList=[]:=B9 (by simpa [qx]using e);rw[this];simp
  rw[e2]
 ·rw[hp]
def Jq:V->Option Int->Option Int->Hp->VK->Prop:=λx lo hi H Q=>∃z,x=.str z/\z.length<=sizeLine/\Q (.str (rP z lo hi)) H
theorem QR:l9 X Jq:=by
 intro ah s σ H x v vl vu lo hi sl Q I rx hs pl pu h;obtain⟨z,rfl,hz,q⟩:=h;obtain⟨t,rfl⟩:=rx;have fin:∀(l u:Option (Int×Tok)),vl=partValue l->vu=partValue u->lo=l.map (·.1)->hi=u.map (·.1) ->
  wpAny (model X.prog X.w) X.A (getItem (.str z t) (.ref sl)) (EP X ah σ Q) X.xe s:=by
  intro l u e1 e2 e3 e4;subst e1 e2 e3 e4;refine wpAny_getItem_str_slice (l:=l) (u:=u) (st:=ae) hs rfl ?_;refine post_val_or_str ⟨cU (Txt.slice_le z _ _) hz,λt' k=>?_⟩;refine⟨.str (rP z _ _),H,I.tok k,⟨t',?_⟩,q⟩;show qt (Txt.slice z _ _) t'=_;rw[OF]
 refine⟨"str", _,F.slot_str_getitem.lookup,typeIs_str _ _ _,?_⟩;cases pl with
 | none=>cases pu with
  |none=>exact fin ae ae rfl rfl rfl rfl
  |int j tj=>exact fin ae (ab (j,tj)) rfl rfl rfl rfl
 | int i ti=>cases pu with
  |none=>exact fin (ab (i,ti)) ae rfl rfl rfl rfl
  |int j tj=>exact fin (ab (i,ti)) (ab (j,tj)) rfl rfl rfl rfl
def FU(neg:Bool):R2:=λx y H Q=>∃c z,x=sgn c/\y=.str z/\Q (.bl (if neg then !decide (c∈z.cps.toList)else decide (c∈z.cps.toList))) H
theorem RN:cY X (compareOp .In) (FU false):=by intro ah s σ H x y v u Q I rx ry h;obtain⟨c,z,rfl,rfl,q⟩:=h;refine QJ ah s σ H _ _ v u Q I rx ry ⟨_,z,rfl,rfl,?_⟩;rw[StrLaws.found_one];exact q
def F3(K:aU):List V->Hp->VK->Prop:=λxs H Q=>∃x t T b,xs=[x,.ty T]/\jh K H x t/\Cz K t (.type T)=ab b/\Q (.bl b) H
theorem wN:ia X (.builtin "isinstance") (F3 X.K):=by intro ah s σ H xs us Q I r h;obtain⟨x,t,T,b,rfl,ty,e,q⟩:=h;obtain⟨u,w',rfl,rx,rt⟩:=vals2 r;cases(show w'=CP T from rt);exact OD I rx ty e λtk=>⟨.bl b,H,I.tok tk,rfl,q⟩
end
def Jt(osc:fg)(N N':List Str)(ρ:List (Option Nat))(sc:fg):Bool:=
 sc.names.all (λy=>!(decide (y.2=.cell)))&&sc.names.all (λy=>!(decide (y.2=.local))||decide (sc.names.lookup y.1=ab .local)) &&
 sc.names.all (λy=>!(decide (y.2=.free))||(decide (osc.names.lookup y.1=ab .cell)||decide (osc.names.lookup y.1=ab .free))) &&
 decide (ρ.length=N'.length)&&(cu ρ.length).all λi=>match ρ[i]? with
  |some (ab j)=>(match N'[i]? with|some x=>decide (N[j]? = ab x)&&decide (sc.names.lookup x=ab .free)|none=>false)
  |_=>true
theorem dU.of{X:Cx}{N':List Str}{ρ:List (Option Nat)}{sc:fg}(hk:sc.kind=.function)(h:Jt X.env.scope X.N N' ρ sc=true):dU X N' ρ sc:=by
 unfold Jt at h;simp only[gZ,kI,vA,mv,rT,l7]at h;obtain⟨⟨⟨⟨h1,h2⟩,h3⟩,h4⟩,h5⟩:=h;refine⟨hk,λy hy=>h1 y hy,λy hy e=>(h2 y hy).resolve_left (λz=>z e),λy hy e=>(h3 y hy).resolve_left (λz=>z e),h4,λi j e=>?_⟩;have hi:i < ρ.length:=(cv.mp e).1;have q:=h5 i (gz.mpr hi);rw[e]at q;cases hN:N'[i]? with
 |none=>rw[hN]at q;cases q
 |some x=>
  rw[hN]at q;simp only[gZ,rT]at q;exact⟨x,rfl,q.1,q.2⟩
structure bF(P:bG)(w:bi)(K:aU)(mg:Str->Option aj)(base:aZ)(CX:ic)(k:Nat)(x:Str)(ps:List Str)(sp:Sp):Prop where
 ex:∃(f:ai) (fd:bJ),mg x=ab (.ref f)/\mq K (.ref f)=true/\Binds K fd ps []/\bH P w K mg base CX k f fd ps sp
theorem xh{X:Cx}{CX:ic}{k:Nat}{x:Str}{ps:List Str}{sp:Sp}{E:XK}{e:a9}{es:List a9}{t:TA}{p pos:Pos}(C:bF X.prog X.w X.K X.mg X.base CX k x ps sp)(hr:dw k X.A)(hg:Gl X x)(hx:vN CX X E)
 (ha:PA X (e::es) t) (hdb:(x==("__debug__" : Str))=false:=by decide) (he:starEach (e::es) X.env=(false,eval e X.env)::starEach es X.env:=by rfl) (hpl:(backTo pos (starEach es X.env)).any (·.1)=false:=by rfl) :
 PE X (.Call (.Name x p) (e::es) [] pos) (oh sp [] E t):=by
 obtain⟨f,fd,hm,hk,hb,F⟩:=C.ex;exact Sq F hr hg hm hk hb .nil hx ha hdb he hpl
theorem wH{X:Cx}{x:Str}{T:String}{pos:Pos}(hg:Gl X x)(hm:X.mg x=ae)(hv:bootBuiltins x=ab (.type T))(hn:x ≠ "__name__" := by decide)(hd:(x==("__debug__" : Str))=false:=by decide):PE X (.Name x pos) (tC (.ty T)):=RH hg hm hv rfl hn hd
structure cr(K:aU)(mg:Str->Option aj)(x:Str)(st:bC)(ps:List Str):Prop where
 ex:∃(f:ai) (fd:bJ),mg x=ab (.ref f)/\mq K (.ref f)=true/\Binds K fd ps []/\(∀(s:aB) (us:List aj),us.length=ps.length->nC s fd ⟨us,[]⟩ (ps.zip us))/\bX K x x st f fd
theorem rJ{K:aU}{h:aZ}{mg:Str->Option aj}{x:Str}{st:bC}{ps:List Str}{f:ai}{oc:aj}{od an:Option ai}{osl:Array (Option aj)}{kV doc pm cdv ct:aj}(X:K.In h)(G:h.Ns mainGlobals mg)
 (hb:∀(kV doc pm:aj) (an:Option ai) (cdv ct:aj) (us:List aj),us.length=ps.length->bindArgs (lp x x (mQ st) (jj st) (bE st) .none kV doc pm an cdv ct) ⟨us,[]⟩=pure (ps.zip us))
 (a:f8 K mainGlobals x=ab (ab (.ref f))) (l:K.lookup f=ab ⟨oc,od,.func (lp x x (mQ st) (jj st) (bE st) .none kV doc pm an cdv ct),osl⟩)
 (c:sD K cdv x=true) (k:mq K (.ref f)=true):cr K mg x st ps:=by
 have F:=Gb (st:=st) l c k;exact⟨f,_,x5 X G a,k,F.binds hb,λs us hl=>.of_eq (hb kV doc pm an cdv ct us hl),F⟩
theorem cr.cal{P:bG}{w:bi}{K:aU}{mg:Str->Option aj}{base:aZ}{CX:ic}{k:Nat}{x:Str}{st:bC}{ps:List Str}{sp:Sp}(F:cr K mg x st ps)(h:∀f fd,bX K x x st f fd->bH P w K mg base CX k f fd ps sp) :
 bF P w K mg base CX k x ps sp:=by
 obtain⟨f,fd,h1,h2,h3,_,h4⟩:=F.ex;exact⟨f,fd,h1,h2,h3,h f fd h4⟩
end L2
namespace Mi
open PySem
inductive D where
 |non|bl (b:Bool)|int (i:Int)|str (x:Str)|lst (ds:List D)|tup (ds:List D)
mutual
def D.dep:D->Nat
 |.lst ds=>dW ds+1
 |.tup ds=>dW ds+1
 |_=>0
def dW:List D->Nat
 |[]=>0
 |d::r=>max d.dep (dW r)
end
mutual
/-- Python's == -/
def bR:D->D->Bool
 |.non,.non=>true
 |.bl a,.bl b=>a==b
 |.bl a,.int b=>(if a then 1 else 0)==b
 |.int a,.bl b=>a==(if b then 1 else 0)
 |.int a,.int b=>a==b
 |.str a,.str b=>a==b
 |.lst a,.lst b=>gY a b
 |.tup a,.tup b=>gY a b
 |_,_=>false
def gY:List D->List D->Bool
 |[],[]=>true
 |a::r,b::s=>bR a b&&gY r s
 |_,_=>false
end
mutual
/-- no list in it -/
def xu:D->Bool
 |.lst _=>false
 |.tup ds=>kj ds
 |_=>true
def kj:List D->Bool
 |[]=>true
 |d::r=>xu d&&kj r
end
def gP(n:Nat)(i:Int):Option Nat:=if 0<=i then(if i<n then ab i.toNat else ae)else if -(n:Int)<=i then ab (i+n).toNat else ae
def dM{α:Type}(xs:List α)(i:Int):Option α:=(gP xs.length i).bind λj=>xs[j]?
def dq(n d:Nat):Option Int->Nat
 |none=>d
 |some v=>if v<0 then(v+(n:Int)).toNat else min v.toNat n
def iK{α:Type}(xs:List α)(lo hi:Option Int):List α:=(xs.drop (dq xs.length 0 lo)).take (dq xs.length xs.length hi-dq xs.length 0 lo)
abbrev Ky:=Sum Bool Str
structure Kp where
 a:Nat
 c:Nat
 q:Str
 ga:List Nat
 deriving DecidableEq
inductive W where
 |d (x:D)|dk (ao:List (Ky×D))|dt (ao:List (List Ky×D))|df (ao:List (List Ky×D))|ex (c:String)|fn (κ:Kp) (aM:List D)
abbrev Env:=List (Option W)
structure nq where
 cls:String
 val:List D
inductive Rs(α:Type) where
 |ok (a:α)|ex (x:nq)|no
def Rs.bind{α β:Type}:Rs α->(α->Rs β)->Rs β
 |.ok a,f=>f a
 |.ex x,_=>.ex x
 |.no,_=>.no
@[simp] theorem aH {α β:Type} (a:α) (f:α->Rs β):(Rs.ok a).bind f=f a:=rfl
@[simp] theorem T4 {α β:Type} (x:nq) (f:α->Rs β):(Rs.ex x).bind f=.ex x:=rfl
@[simp] theorem T8 {α β:Type} (f:α->Rs β):(Rs.no).bind f=.no:=rfl
def Fin{α:Type}(r:Rs α)(k:α->Prop):Prop:=match r with
 |.ok a=>k a
 |_=>False
theorem aA{α β:Type}{r:Rs α}{f:α->Rs β}{k:β->Prop}:Fin (r.bind f) k↔Fin r λa=>Fin (f a) k:=by cases r<;>exact Iff.rfl
theorem Fin.mono{α:Type}{r:Rs α}{k k':α->Prop}(h:Fin r k)(m:∀a,k a->k' a):Fin r k':=by
 cases r with
 |ok a=>exact m a h
 |ex x=>exact h
 |no=>exact h
theorem lW{α:Type}{r s:Rs α}{k:α->Prop}(h:Fin (if true=true then r else s) k):Fin r k:=by simpa using h
theorem lI{α:Type}{r s:Rs α}{k:α->Prop}(h:Fin (if false=true then r else s) k):Fin s k:=by simpa using h
theorem pw{α:Type}{a:α}{k:α->Prop}(h:Fin (.ok a) k):k a:=h
def c6{α:Type}:Option α->Rs α
 |some a=>.ok a
 |none=>.no
def bp{α:Type}(c:Prop)[Decidable c](r:Rs α):Rs α:=if c then r else .no
theorem aX{α:Type}{c:Prop}[Decidable c]{r:Rs α}(h:c):bp c r=r:=bc h
theorem cW{α:Type}{c:Prop}[Decidable c]{r:Rs α}{k:α->Prop}(h:Fin (bp c r) k):c/\Fin r k:=by
 unfold bp at h;split at h
 ·exact⟨‹_›,h⟩
 ·exact h.elim
abbrev E:=Env->Rs D
abbrev C:=Env->Rs Bool
def mC(d:D):E:=λ_=>.ok d
def mV(i:Nat):E:=λe=>match e[i]? with
 |some (ab (.d x))=>.ok x
 |_=>.no
def m1(f:D->Rs D)(a:E):E:=λe=>(a e).bind f
def m2(f:D->D->Rs D)(a b:E):E:=λe=>(a e).bind λx=>(b e).bind λy=>f x y
def gy:List E->Env->Rs (List D)
 |[],_=>.ok []
 |a::r,e=>(a e).bind λx=>(gy r e).bind λxs=>.ok (x::xs)
def mN(f:List D->Rs D)(as:List E):E:=λe=>(gy as e).bind f
def dTup(ds:List D):Rs D:=bp (ds.length<=16777216) (.ok (.tup ds))
def bx(ds:List D):Rs D:=bp (ds.length<=16777216) (.ok (.lst ds))
def nS:D->Rs Bool
 |.bl b=>.ok b
 |_=>.no
def ko(a b:E):E:=λe=>(a e).bind λx=>(nS x).bind λc=>if c=true then b e else .ok (.bl false)
def jE(a b:E):E:=λe=>(a e).bind λx=>(nS x).bind λc=>if c=true then .ok (.bl true)else b e
def xq(a:E):E:=λe=>(a e).bind λx=>(nS x).bind λc=>.ok (.bl (!c))
def jN(c:C)(a b:E):E:=λe=>(c e).bind λk=>if k=true then a e else b e
def xx(f g:D->D->Rs D)(a b c:E):E:=λe=>(a e).bind λx=>(b e).bind λy=>(f x y).bind λz=>(nS z).bind λk=>if k=true then(c e).bind λw=>g y w else .ok (.bl false)
def ou:D->Rs Int
 |.int i=>.ok i
 |_=>.no
def la:Option E->Env->Rs (Option Int)
 |none,_=>.ok ae
 |some a,e=>(a e).bind λx=>(ou x).bind λi=>.ok (ab i)
def oA(x:Str)(lo hi:Option Int):Str:=⟨(iK x.cps.toList lo hi).toArray⟩
def fW(x:D)(lo hi:Option Int):Rs D:=match x with
 |.lst ds=>.ok (.lst (iK ds lo hi))
 |.str z=>bp (z.length<=16777216) (.ok (.str (oA z lo hi)))
 |_=>.no
def d3(f:D->Option Int->Option Int->Rs D)(a:E)(lo hi:Option E):E:=λe=>(a e).bind λx=>(la lo e).bind λl=>(la hi e).bind λh=>f x l h
def cB(a:E):C:=λe=>(a e).bind nS
def cE(a b:C):C:=λe=>(a e).bind λc=>if c=true then b e else .ok false
def gA(a b:C):C:=λe=>(a e).bind λc=>if c=true then .ok true else b e
def fZ(a:C):C:=λe=>(a e).bind λc=>.ok (!c)
def Hg:D->Rs Bool
 |.non=>.ok false
 |.bl b=>.ok b
 |.int i=>.ok (i != 0)
 |.str y=>bp (y.length<=16777216) (.ok ((y.length:Int) != 0))
 |.lst ds=>.ok (!ds.isEmpty)
 |.tup ds=>.ok (!ds.isEmpty)
def dQ(a:E):C:=λe=>(a e).bind Hg
abbrev I:=Env->Rs (List D)
def wI:D->Rs (List D)
 |.lst ds=>.ok ds
 |.tup ds=>.ok ds
 |.str x=>.ok (x.cps.toList.map λc=>.str ⟨#[c]⟩)
 |_=>.no
def bv(a:E):I:=λe=>(a e).bind wI
def dL(lo hi:Int):List D:=(cu (hi-lo).toNat).map λk=>.int (lo+(k:Nat))
def okR(i:Int):Prop:=-(2 ^ 62)<=i/\i<2 ^ 62
instance (i:Int):Decidable (okR i):=inferInstanceAs (Decidable (_/\_))
def iA(a:E):I:=λe=>(a e).bind λx=>(ou x).bind λj=>bp (okR j) (.ok (dL 0 j))
def uW(a b:E):I:=λe=>(a e).bind λx=>(b e).bind λy=>(ou x).bind λi=>(ou y).bind λj=>bp (okR i/\okR j) (.ok (dL i j))
def lQ(k:Nat):List D->List D
 |[]=>[]
 |d::r=>.tup [.int k,d]::lQ (k+1) r
def gU:List D->List D->List D->List D
 |a::r,b::s,c::t=>.tup [a,b,c]::gU r s t
 |_,_,_=>[]
inductive Tg where
 |n (i:Nat)|t (is:List Nat)
def nV:List Nat->List D->Env->Rs Env
 |[],[],e=>.ok e
 |i::is,d::ds,e=>nV is ds (e.set i (ab (.d d)))
 |_,_,_=>.no
def Tg.put:Tg->D->Env->Rs Env
 |.n i,d,e=>.ok (e.set i (ab (.d d)))
 |.t is,.tup ds,e=>nV is ds e
 |_,_,_=>.no
def jw(ρ:List (Option Nat))(e:Env):Env:=ρ.map λo=>o.bind λj=>(e[j]?).join
def dv(tg:Tg)(c:C)(a:E)(e:Env):List D->Rs (List D)
 |[]=>.ok []
 |x::r=>(tg.put x e).bind λe1=>(c e1).bind λk=>if k=true then(a e1).bind λy=>(dv tg c a e r).bind λys=>.ok (y::ys)else dv tg c a e r
def dc:C:=λ_=>.ok true
def b8(ρ:List (Option Nat))(it:I)(tg:Tg)(c:C)(a:E):E:=λe=>(it e).bind λxs=>bp (xs.length<=16777216) ((dv tg c a (jw ρ e) xs).bind λys=>.ok (.lst ys))
abbrev Fn:=List W->Rs W
abbrev EW:=Env->Rs W
def wD(a:E):EW:=λe=>(a e).bind λx=>.ok (.d x)
def wV(i:Nat):EW:=λe=>match e[i]? with
 |some (ab w)=>.ok w
 |_=>.no
def dm:List EW->Env->Rs (List W)
 |[],_=>.ok []
 |a::r,e=>(a e).bind λx=>(dm r e).bind λxs=>.ok (x::xs)
def ie(f:Fn)(as:List EW):EW:=λe=>(dm as e).bind f
def ma:W->Rs D
 |.d x=>.ok x
 |_=>.no
def aL(f:Fn)(as:List EW):E:=λe=>(ie f as e).bind ma
inductive Out where
 |nx (e:Env)|rt (w:W)|bk (e:Env)|ct (e:Env)
abbrev S:=Env->Rs Out
def bI:S:=λe=>.ok (.nx e)
def aE(s t:S):S:=λe=>(s e).bind λo=>match o with
 |.nx e'=>t e'
 |o=>.ok o
def ki(i:Nat)(a:EW):S:=λe=>(a e).bind λw=>.ok (.nx (e.set i (ab w)))
def bh(i:Nat)(a:E):S:=λe=>(a e).bind λd=>.ok (.nx (e.set i (ab (.d d))))
def Aw(tg:Tg)(a:E):S:=λe=>(a e).bind λd=>(tg.put d e).bind λe'=>.ok (.nx e')
def ej(a:E):S:=λe=>(a e).bind λ_=>.ok (.nx e)
def bw(a:EW):S:=λe=>(a e).bind λw=>.ok (.rt w)
def bu(c:C)(s t:S):S:=λe=>(c e).bind λk=>if k=true then s e else t e
def tX:S:=λ_=>.no
def gI(tg:Tg)(body:S):List D->Env->Rs Out
 |[],e=>.ok (.nx e)
 | x::r,e=>(tg.put x e).bind λe1=>(body e1).bind λo=>match o with
  |.nx e2=>gI tg body r e2
  |.ct e2=>gI tg body r e2
  |.bk e2=>.ok (.nx e2)
  |.rt w=>.ok (.rt w)
def cQ(it:I)(tg:Tg)(body:S):S:=λe=>(it e).bind λxs=>gI tg body xs e
def gJ(c:C)(body:S):Nat->Env->Rs Out
 |0,_=>.no
 | n+1,e=>(c e).bind λk=>if k=true then(body e).bind λo=>match o with
  |.nx e2=>gJ c body n e2
  |.ct e2=>gJ c body n e2
  |.bk e2=>.ok (.nx e2)
  |.rt w=>.ok (.rt w)
  else .ok (.nx e)
def jk(n:Nat)(c:C)(body:S):S:=gJ c body n
def getL(e:Env)(i:Nat):Rs (List D):=match e[i]? with
 |some (ab (.d (.lst ds)))=>.ok ds
 |_=>.no
def putL(e:Env)(i:Nat)(ds:List D):Env:=e.set i (ab (.d (.lst ds)))
def cH(i:Nat)(a:E):S:=λe=>(a e).bind λd=>(getL e i).bind λds=>bp (ds.length<16777216) (.ok (.nx (putL e i (ds++[d]))))
def lb(i:Nat)(a:E):S:=λe=>(a e).bind λd=>(getL e i).bind λds=>match d with
 |.lst xs=>bp (ds.length+xs.length<=16777216) (.ok (.nx (putL e i (ds++xs))))
 |_=>.no
def z0(i:Nat):S:=λe=>(getL e i).bind λds=>.ok (.nx (putL e i ds.reverse))
def tU(x y:Nat):S:=λe=>(getL e y).bind λds=>(c6 ds[ds.length-1]?).bind λd=>.ok (.nx ((putL e y ds.dropLast).set x (ab (.d d))))
def qb(ds:List D)(i:Int):Rs (D×List D):=bp (-(2 ^ 63)<=i/\i<2 ^ 63) ((c6 (gP ds.length i)).bind λk=>(c6 ds[k]?).bind λd=>.ok (d,ds.eraseIdx k))
def nZ(x y:Nat)(k:E):S:=λe=>(k e).bind λz=>(ou z).bind λi=>(getL e y).bind λds=>(qb ds i).bind λp=>.ok (.nx ((putL e y p.2).set x (ab (.d p.1))))
def xJ(x y:Nat)(k:E):S:=λe=>(k e).bind λz=>(ou z).bind λi=>(getL e y).bind λds=>(qb ds i).bind λp=>(getL (putL e y p.2) x).bind λes=>
 bp (es.length<16777216) (.ok (.nx (putL (putL e y p.2) x (es++[p.1]))))
def ox:D->Option Ky
 |.bl i=>ab (.inl i)
 |.str x=>ab (.inr x)
 |_=>ae
def pE:List D->Option (List Ky)
 |[]=>ab []
 | d::r=>match ox d,pE r with
  |some k,ab ks=>ab (k::ks)
  |_,_=>ae
def fM{κ:Type}[DecidableEq κ](ao:List (κ×D))(k:κ):Option D:=(ao.find? λkv=>decide (kv.1=k)).map (·.2)
def rW(w:W)(k:D):Rs (Option D):=match w with
 |.dk ao=>(c6 (ox k)).bind λk=>.ok (fM ao k)
 | .dt ao=>match k with
  |.tup ds=>(c6 (pE ds)).bind λk=>.ok (fM ao k)
  |_=>.no
 | .df ao=>match k with
  |.tup ds=>(c6 (pE ds)).bind λk=>.ok (fM ao k)
  |_=>.no
 |_=>.no
def putK{κ:Type}[DecidableEq κ](k:κ)(v:D)(ao:List (κ×D)):List (κ×D):=if(ao.any λkv=>decide (kv.1=k))=true then ao.map (λkv=>if kv.1=k then(kv.1,v)else kv)else ao++[(k,v)]
def o0(w:W)(k v:D):Rs W:=match w with
 |.dk ao=>bp (ao.length<16777216) ((c6 (ox k)).bind λk=>.ok (.dk (putK k v ao)))
 | .dt ao=>match k with
  |.tup ds=>bp (ao.length<16777216) ((c6 (pE ds)).bind λk=>.ok (.dt (putK k v ao)))
  |_=>.no
 |_=>.no
def nM(i:Nat)(k:E):E:=λe=>(k e).bind λd=>(wV i e).bind λw=>(rW w d).bind λo=>.ok (.bl o.isSome)
def gV(i:Nat)(k:E):E:=λe=>(k e).bind λd=>(wV i e).bind λw=>(rW w d).bind λo=>.ok (.bl (!o.isSome))
def hW(i:Nat)(k:E):E:=λe=>(k e).bind λd=>(wV i e).bind λw=>(rW w d).bind c6
def dA(i:Nat)(k v:E):S:=λe=>(v e).bind λx=>(k e).bind λd=>(wV i e).bind λw=>(o0 w d x).bind λw'=>.ok (.nx (e.set i (ab w')))
def jD:Out->Rs W
 |.rt w=>.ok w
 |.nx _=>.ok (.d .non)
 |_=>.no
def du(k n:Nat)(body:S):Fn:=λws=>bp (ws.length=k) ((body (ws.map ab++cK (n-ws.length) ae)).bind jD)
def ku:Out->Rs W
 |.rt w=>.ok w
 |_=>.no
def eh(k n:Nat)(body:S):Fn:=λws=>bp (ws.length=k) ((body (ws.map ab++cK (n-ws.length) ae)).bind ku)
def Ey:Fn:=λ_=>.no
def nk(i j:Int):Prop:=(-(2 ^ 64)<i/\i<2 ^ 64)\/(-(2 ^ 64)<j/\j<2 ^ 64)
instance (i j:Int):Decidable (nk i j):=inferInstanceAs (Decidable (_\/_))
def mO(j:Int):Prop:=0<j/\j.natAbs.log2<9000
instance (j:Int):Decidable (mO j):=inferInstanceAs (Decidable (_/\_))
def SG(i j:Int):Prop:=0<=j/\j<=1000000/\i.natAbs<2 ^ 64
instance (i j:Int):Decidable (SG i j):=inferInstanceAs (Decidable (_/\_))
def ba:D->D->Rs D
 |.int i,.int j=>.ok (.int (i+j))
 |.str i,.str j=>bp (i.length+j.length<=16777216) (.ok (.str (i++j)))
 |.lst i,.lst j=>bp (i.length+j.length<=16777216) (.ok (.lst (i++j)))
 |_,_=>.no
def gF:D->D->Rs D
 |.int i,.int j=>.ok (.int (i-j))
 |_,_=>.no
def dCat:D->D->Rs D
 |.lst i,.lst j=>bp (i.length+j.length<=16777216) (.ok (.lst (i++j)))
 |_,_=>.no
def cI:D->D->Rs D
 |.int i,.int j=>bp (nk i j) (.ok (.int (i*j)))
 |_,_=>.no
def dP:D->D->Rs D
 |.int i,.int j=>bp (mO j) (.ok (.int (i/j)))
 |_,_=>.no
def bY:D->D->Rs D
 |.int i,.int j=>bp (0<j) (.ok (.int (i%j)))
 |_,_=>.no
def gW:D->Rs D
 |.int i=>.ok (.int (-i))
 |_=>.no
def gt:D->D->Rs D
 |.int i,.int j=>.ok (.bl (decide (i<j)))
 |.str i,.str j=>.ok (.bl (decide (i.cps.toList<j.cps.toList)))
 |_,_=>.no
def l0:D->D->Rs D
 |.int i,.int j=>.ok (.bl (decide (j<i)))
 |.str i,.str j=>.ok (.bl (decide (j.cps.toList<i.cps.toList)))
 |_,_=>.no
def rp:D->D->Rs D
 |.int i,.int j=>.ok (.bl (decide (i<=j)))
 |_,_=>.no
def cy(x y:D):Rs D:=bp (x.dep<=16) (.ok (.bl (bR x y)))
def ib(x y:D):Rs D:=bp (x.dep<=16) (.ok (.bl (!bR x y)))
def Qs:D->Bool
 |.non=>true
 |_=>false
def xD(x y:D):Rs D:=match y with
 |.non=>.ok (.bl (!Qs x))
 |_=>.no
def bz(x y:D):Rs D:=match y with
 |.lst ds=>bp (dW ds<=16) (.ok (.bl (ds.any λe=>bR e x)))
 |.tup ds=>bp (dW ds<=16) (.ok (.bl (ds.any λe=>bR e x)))
 | .str z=>match x with
  |.str s=>bp (s.length=1) (.ok (.bl (decide (s.cps.getD 0 0∈z.cps.toList))))
  |_=>.no
 |_=>.no
def cF(x y:D):Rs D:=match y with
 |.lst ds=>bp (dW ds<=16) (.ok (.bl (!ds.any λe=>bR e x)))
 |.tup ds=>bp (dW ds<=16) (.ok (.bl (!ds.any λe=>bR e x)))
 |_=>.no
def az(x y:D):Rs D:=match x,y with
 |.lst ds,.int i=>c6 (dM ds i)
 |.tup ds,.int i=>c6 (dM ds i)
 |.str z,.int i=>bp (z.length<=16777216) ((c6 (dM z.cps.toList i)).bind λc=>.ok (.str ⟨#[c]⟩))
 |_,_=>.no
def d6:List D->Rs D
 |[.lst ds]=>.ok (.int ds.length)
 |[.tup ds]=>.ok (.int ds.length)
 |[.str z]=>bp (z.length<=16777216) (.ok (.int z.length))
 |_=>.no
def jP:List D->Rs D
 |[.int i,.int j]=>.ok (.int (max i j))
 |_=>.no
def n6:List D->Rs D
 |[.int i,.int j]=>.ok (.int (min i j))
 |_=>.no
def ju:List D->Option (List Bool)
 |[]=>ab []
 |.bl b::r=>(ju r).map (b :: ·)
 |_=>ae
def oZ:List D->Rs D
 |[.lst ds]=>(c6 (ju ds)).bind λbs=>.ok (.bl (bs.all id))
 |_=>.no
def zY:List D->Rs D
 |[.lst ds]=>(c6 (ju ds)).bind λbs=>.ok (.bl (bs.any id))
 |_=>.no
def eP:List D->Rs D
 |[.lst ds]=>.ok (.lst ds)
 |[.tup ds]=>.ok (.lst ds)
 |_=>.no
def oj:List D->Rs D
 |[.lst ds]=>.ok (.tup ds)
 |[.tup ds]=>.ok (.tup ds)
 |_=>.no
def wW(t:String):D->Bool
 |.non=>false
 |.bl _=>t == "bool" || t == "int"
 |.int _=>t == "int"
 |.str _=>t == "str"
 |.lst _=>t == "list"
 |.tup _=>t == "tuple"
def ES:D->String
 |.non => "NoneType" | .bl _ => "bool" | .int _ => "int" | .str _ => "str" | .lst _ => "list" | .tup _ => "tuple"
def lJ(ts:List String)(x:D):Rs D:=.ok (.bl (ts.any λt=>wW t x))
def m6:List D->Option (List Str)
 |[]=>ab []
 |.str b::r=>(m6 r).map (b :: ·)
 |_=>ae
def xw(x y:D):Rs D:=match x,y with
 |.str sep,.lst ds=>(c6 (m6 ds)).bind λys=>bp ((ys.map (·.length)).sum+ys.length*sep.length<=16777216) (.ok (.str (lz sep ys)))
 |_,_=>.no
def met(val:Nat->Str):Nat->List Str
 |0=>[]
 |i+1=>if val i∈met val i then met val i else met val i++[val i]
end Mi
namespace L2
open PySem PySem.Spec PyProof.Rows
open Mi (D dW bR gY)
mutual
theorem y0:∀d:D,bR d d=true
 |.non=>rfl
 |.bl b=>by simp[bR]
 |.int i=>by simp[bR]
 |.str x=>by simp[bR]
 |.lst ds=>by rw[bR];exact yX ds
 |.tup ds=>by rw[bR];exact yX ds
theorem yX:∀ds:List D,gY ds ds=true
 |[]=>rfl
 |d::r=>by rw[gY,y0 d,yX r];rfl
end
theorem tY:∀{ds es:List D},ds.length≠es.length->gY ds es=false
 |[],[],h=>absurd rfl h
 |[],_::_,_=>rfl
 |_::_,[],_=>rfl
 |d::r,e::s,h=>by rw[gY,tY (λz=>h (by rw[cx,cx,z])),yp]
theorem tD:∀{ds es:List D},ds.length=es.length->gY ds es=(cu ds.length).all λj=>bR (ds.getD j .non) (es.getD j .non)
 |[],[],_=>rfl
 |[],_::_,h=>by simp at h
 |_::_,[],h=>by simp at h
 |d::r,e::s,h=>by
  rw[gY,tD (by simpa using h),cx,vk,Co,xX];rfl
mutual
/-- the value v in the heap H is the tree d -/
def Rep(K:aU)(H:Hp):D->V->Prop
 |.non,v=>v=.non
 |.bl b,v=>v=.bl b
 |.int i,v=>v=.int i
 |.str x,v=>v=.str x
 |.lst ds,v=>∃a xs,v=.ref a/\eY K H a xs/\bD K H ds xs
 |.tup ds,v=>∃a xs,v=.ref a/\fK K H a xs/\bD K H ds xs
def bD(K:aU)(H:Hp):List D->List V->Prop
 |[],vs=>vs=[]
 |d::ds,vs=>∃v r,vs=v::r/\Rep K H d v/\bD K H ds r
end
theorem bD.length{K:aU}{H:Hp}:∀{ds:List D} {vs:List V},bD K H ds vs->ds.length=vs.length
 |[],vs,h=>by rw[bD]at h;subst h;rfl
 |d::ds,vs,h=>by
  rw[bD]at h;obtain⟨v,r,rfl,_,q⟩:=h;rw[cx,cx,bD.length q]
theorem bD.get{K:aU}{H:Hp}:∀{ds:List D} {vs:List V} {j:Nat} {v:V},bD K H ds vs->vs[j]? = ab v->Rep K H (ds.getD j .non) v
 |[],vs,j,v,h,e=>by rw[bD]at h;subst h;simp at e
 |d::ds,vs,0,v,h,e=>by
  rw[bD]at h;obtain⟨v',r,rfl,p,q⟩:=h;simp at e;subst e;exact p
 |d::ds,vs,j+1,v,h,e=>by
  rw[bD]at h;obtain⟨v',r,rfl,p,q⟩:=h;have:=bD.get (j:=j) (v:=v) q (by simpa using e);simpa using this
section
variable{X:Cx}{ah:List (ai×Obj)}{σ:St}{H:Hp}{s:aB}
theorem Inv.GD(I:Inv X ah σ H s){a:ai}{xs ys:List V}(h:eY X.K H a xs)(h':fK X.K H a ys):False:=by obtain⟨av,_,p,_⟩:=I.list h;obtain⟨its',_,q,_⟩:=I.tuple h';obtain⟨o,n,e,c,_⟩:=p;obtain⟨o',e',c',_⟩:=q;rw[e]at e';cases e';rw[c]at c';exact absurd (Value.type.inj c') (by decide)
mutual
theorem Rep.inj(I:Inv X ah σ H s):∀{d e:D} {v:V},Rep X.K H d v->Rep X.K H e v->d=e
 |.non,e,v,h,h'=>by
  rw[Rep]at h;subst h;cases e<;>rw[Rep]at h'<;>first|rfl|(obtain⟨_,_,z,_⟩:=h';cases z)|cases h'
 |.bl b,e,v,h,h'=>by
  rw[Rep]at h;subst h;cases e<;>rw[Rep]at h'<;>first|(obtain⟨_,_,z,_⟩:=h';cases z)|(cases h';rfl)|cases h'
 |.int b,e,v,h,h'=>by
  rw[Rep]at h;subst h;cases e<;>rw[Rep]at h'<;>first|(obtain⟨_,_,z,_⟩:=h';cases z)|(cases h';rfl)|cases h'
 |.str b,e,v,h,h'=>by
  rw[Rep]at h;subst h;cases e<;>rw[Rep]at h'<;>first|(obtain⟨_,_,z,_⟩:=h';cases z)|(cases h';rfl)|cases h'
 |.lst ds,e,v,h,h'=>by
  rw[Rep]at h;obtain⟨a,xs,rfl,q,r⟩:=h;cases e with
  |lst es=>
   rw[Rep]at h';obtain⟨a',xs',z,q',r'⟩:=h';cases z;rw[I.BY q' q]at r';rw[bD.inj I r r']
  |tup es=>
   rw[Rep]at h';obtain⟨a',xs',z,q',r'⟩:=h';cases z;exact(I.GD q q').elim
  |_=>rw[Rep]at h';cases h'
 |.tup ds,e,v,h,h'=>by
  rw[Rep]at h;obtain⟨a,xs,rfl,q,r⟩:=h;cases e with
  |tup es=>
   rw[Rep]at h';obtain⟨a',xs',z,q',r'⟩:=h';cases z;rw[I.zk q' q]at r';rw[bD.inj I r r']
  |lst es=>
   rw[Rep]at h';obtain⟨a',xs',z,q',r'⟩:=h';cases z;exact(I.GD q' q).elim
  |_=>rw[Rep]at h';cases h'
theorem bD.inj(I:Inv X ah σ H s):∀{ds es:List D} {vs:List V},bD X.K H ds vs->bD X.K H es vs->ds=es
 |[],es,vs,h,h'=>by
  rw[bD]at h;subst h;cases es with
  |nil=>rfl
  |cons e es=>rw[bD]at h';obtain⟨_,_,z,_⟩:=h';cases z
 |d::ds,es,vs,h,h'=>by
  rw[bD]at h;obtain⟨v,r,rfl,p,q⟩:=h;cases es with
  |nil=>rw[bD]at h';cases h'
  |cons e es=>
   rw[bD]at h';obtain⟨v',r',z,p',q'⟩:=h';cases z;rw[Rep.inj I p p',bD.inj I q q']
end
theorem Ai:∀{ds:List D} {j:Nat},(ds.getD j .non).dep<=dW ds
 |[],j=>by simp[D.dep]
 |d::ds,0=>by simp[dW];omega
 |d::ds,j+1=>by
  have:=Ai (ds:=ds) (j:=j);have e:(d::ds).getD (j+1) .non=ds.getD j .non:=by simp
  rw[e,dW];omega
def _root_.Mi.D.flat:D->Bool
 |.lst _=>false
 |.tup _=>false
 |_=>true
def _root_.Mi.D.toV:D->V
 |.non=>.non|.bl b=>.bl b|.int i=>.int i|.str x=>.str x|.lst _=>.non|.tup _=>.non
theorem Rep.flat{K:aU}:∀{d:D} {v:V},d.flat=true->Rep K H d v->v=d.toV/\Af v=true
 |.non,v,_,h=>by rw[Rep]at h;subst h;exact⟨rfl,rfl⟩
 |.bl b,v,_,h=>by rw[Rep]at h;subst h;exact⟨rfl,rfl⟩
 |.int b,v,_,h=>by rw[Rep]at h;subst h;exact⟨rfl,rfl⟩
 |.str b,v,_,h=>by rw[Rep]at h;subst h;exact⟨rfl,rfl⟩
 |.lst _,v,z,h=>by cases z
 |.tup _,v,z,h=>by cases z
theorem Od:∀{d e:D},d.flat=true->e.flat=true->bR d e=En d.toV e.toV:=by intro d e h1 h2;cases d<;>cases e<;>first|rfl|exact absurd (show false=true from h1) cZ|exact absurd (show false=true from h2) cZ
open SeqAt in
theorem D6(I:Inv X ah σ H s):∀(n:Nat) (d e:D) (A:b9) {x y:V} {u u':aj},d.dep<=n->A.units+n<cLine->Rep X.K H d x->Rep X.K H e y->RelV x u->RelV y u'->EqAt A s u u' (bR d e):=by
 intro n
 induction n using Nat.strongRecOn with
 |ind n ih=>
  intro d e A x y u u' hd hu h h' r r';have hu0:A.units<cLine:=by omega
  by_cases hdf:d.flat=true
  ·obtain⟨ex,fx⟩:=h.flat hdf;subst ex;by_cases hef:e.flat=true
   ·obtain⟨ey,fy⟩:=h'.flat hef;subst ey;rw[Od hdf hef];exact NU r r' fx fy
   ·cases e with
    |lst es=>
     rw[Rep]at h';obtain⟨a,xs,rfl,q,_⟩:=h';cases r';obtain⟨av,_,p,_⟩:=I.list q;cases d with
     |non=>cases r;exact EqAt.none_list p.isList hu0
     |bl b=>cases r;exact EqAt.bool_list b p.isList hu0
     |int b=>obtain⟨t,rfl⟩:=r;exact EqAt.int_list b t p.isList hu0
     |str b=>obtain⟨t,rfl⟩:=r;exact EqAt.str_list b t p.isList hu0
     |_=>cases hdf
    |tup es=>
     rw[Rep]at h';obtain⟨a,xs,rfl,q,_⟩:=h';cases r';obtain⟨av,_,p,_⟩:=I.tuple q;cases d with
     |non=>cases r;exact EqAt.none_tuple p hu0
     |bl b=>cases r;exact EqAt.bool_tuple b p hu0
     |int b=>obtain⟨t,rfl⟩:=r;exact EqAt.int_tuple b t p hu0
     |str b=>obtain⟨t,rfl⟩:=r;exact EqAt.str_tuple b t p hu0
     |_=>cases hdf
    |_=>exact absurd rfl hef
  ·by_cases hef:e.flat=true
   ·obtain⟨ey,fy⟩:=h'.flat hef;subst ey;cases d with
    |lst ds=>
     rw[Rep]at h;obtain⟨a,xs,rfl,q,_⟩:=h;cases r;obtain⟨av,_,p,_⟩:=I.list q;cases e with
     |non=>cases r';exact EqAt.list_none p.isList hu0
     |bl b=>cases r';exact EqAt.list_bool b p.isList hu0
     |int b=>obtain⟨t,rfl⟩:=r';exact EqAt.list_int b t p.isList hu0
     |str b=>obtain⟨t,rfl⟩:=r';exact EqAt.list_str b t p.isList hu0
     |_=>cases hef
    |tup ds=>
     rw[Rep]at h;obtain⟨a,xs,rfl,q,_⟩:=h;cases r;obtain⟨av,_,p,_⟩:=I.tuple q;cases e with
     |non=>cases r';exact EqAt.tuple_none p hu0
     |bl b=>cases r';exact EqAt.tuple_bool b p hu0
     |int b=>obtain⟨t,rfl⟩:=r';exact EqAt.tuple_int b t p hu0
     |str b=>obtain⟨t,rfl⟩:=r';exact EqAt.tuple_str b t p hu0
     |_=>cases hef
    |_=>exact absurd rfl hdf
   ·-- both are lists or tuples
    have item:∀{ds es:List D} {xs ys:List V} {av its':List aj},dW ds+1<=n->bD X.K H ds xs->bD X.K H es ys->Vals xs av->Vals ys its' ->
     ∀j (h1:j<av.toArray.size) (h2:j<its'.toArray.size),EqAt A.in1 s av.toArray[j] its'.toArray[j] (bR (ds.getD j .non) (es.getD j .non)):=by
     intro ds es xs ys av its' hn q q' v v' j h1 h2;have h1':j<av.length:=by simpa using h1
     have h2':j<its'.length:=by simpa using h2
     have e1:j<xs.length:=by rw[v.length];exact h1'
     have e2:j<ys.length:=by rw[v'.length];exact h2'
     have g1:xs[j]? = ab xs[j]:=by simp[e1]
     have g2:ys[j]? = ab ys[j]:=by simp[e2]
     obtain⟨w1,k1,r1⟩:=v.get g1;obtain⟨w2,k2,r2⟩:=v'.get g2;have t1:av.toArray[j]=w1:=by obtain⟨_,k1⟩:=cv.mp k1;simpa using k1
     have t2:its'.toArray[j]=w2:=by obtain⟨_,k2⟩:=cv.mp k2;simpa using k2
     rw[t1,t2];have:=Ai (ds:=ds) (j:=j);refine ih (n-1) (by omega) _ _ A.in1 (by omega) ?_ (q.get g1) (q'.get g2) r1 r2;show A.units+1+(n-1)<cLine;omega
    cases d with
    |lst ds=>
     rw[Rep]at h;obtain⟨a,xs,rfl,q,rr⟩:=h;cases r;obtain⟨av,v,p,_⟩:=I.list q;have hn:dW ds+1<=n:=by simpa [D.dep]using hd
     cases e with
     |lst es=>
      rw[Rep]at h';obtain⟨b,ys,rfl,q',rr'⟩:=h';cases r';obtain⟨its',v',p',_⟩:=I.list q';by_cases hab:a=b
      ·subst hab;rw[I.BY q' q]at rr';rw[bD.inj I rr rr',y0];exact EqAt.same _
      ·have l1:=rr.length;have l2:=rr'.length;have l3:=v.length;have l4:=v'.length;by_cases hl:ds.length=es.length
       ·rw[bR,tD hl];have:=RcAt.lists p.isList p'.isList (by simp;omega) hu0 (item hn rr rr' v v');have e:av.toArray.size=ds.length:=by simp;omega
        rw[e]at this;exact .of_refs hab this
       ·rw[bR,tY hl];exact .of_refs hab (RcAt.lists_lengths p.isList p'.isList (by simp;omega) hu0)
     |tup es=>
      rw[Rep]at h';obtain⟨b,ys,rfl,q',_⟩:=h';cases r';obtain⟨its',_,p',_⟩:=I.tuple q';exact EqAt.list_tuple p.isList p' hu0
     |_=>exact absurd rfl hef
    |tup ds=>
     rw[Rep]at h;obtain⟨a,xs,rfl,q,rr⟩:=h;cases r;obtain⟨av,v,p,_⟩:=I.tuple q;have hn:dW ds+1<=n:=by simpa [D.dep]using hd
     cases e with
     |tup es=>
      rw[Rep]at h';obtain⟨b,ys,rfl,q',rr'⟩:=h';cases r';obtain⟨its',v',p',_⟩:=I.tuple q';by_cases hab:a=b
      ·subst hab;rw[I.zk q' q]at rr';rw[bD.inj I rr rr',y0];exact EqAt.same _
      ·have l1:=rr.length;have l2:=rr'.length;have l3:=v.length;have l4:=v'.length;have R:=RcAt.tuples p p' hu0 (item hn rr rr' v v');have e1:av.toArray.size=ds.length:=by simp;omega
       have e2:its'.toArray.size=es.length:=by simp;omega
       rw[e1,e2]at R;by_cases hl:ds.length=es.length
       ·rw[bR,tD hl];rw[hl,Nat.min_self,u9,Bool.and_true,<- hl]at R;exact .of_refs hab R
       ·rw[bR,tY hl];have:(ds.length==es.length)=false:=by simpa using hl
        rw[this,yp]at R;exact .of_refs hab R
     |lst es=>
      rw[Rep]at h';obtain⟨b,ys,rfl,q',_⟩:=h';cases r';obtain⟨its',_,p',_⟩:=I.list q';exact EqAt.tuple_list p p'.isList hu0
     |_=>exact absurd rfl hef
    |_=>exact absurd rfl hdf
def xo(K:aU)(neg:Bool):R2:=λx y H Q=>∃(p:ai) (xs:List V) (d:D) (ds:List D),y=.ref p/\(eY K H p xs\/fK K H p xs)/\Rep K H d x/\bD K H ds xs/\dW ds<=16 /\
 Q (.bl (if neg then !ds.any (λe=>bR e d)else ds.any (λe=>bR e d))) H
theorem bD.main{K:aU}:∀{ds:List D} {xs:List V} {us:List aj},bD K H ds xs->Vals xs us->∀u∈us,∃b∈ds,∃y,Rep K H b y/\RelV y u
 |[],xs,us,hr,hv,u,hu=>by
  rw[bD]at hr;subst hr;cases hv;cases hu
 |b::bs,xs,us,hr,hv,u,hu=>by
  rw[bD]at hr;obtain⟨y,r,rfl,p,q⟩:=hr;cases hv with
  |cons ry t=>
   rcases bB.mp hu with rfl|hu
   ·exact⟨b,cJ,_,p,ry⟩
   ·obtain⟨b',hb',w⟩:=bD.main q t u hu;exact⟨b',dR _ hb',w⟩
theorem bD.any{K:aU}{e:aj->Bool}{f:D->Bool}(key:∀b y u,Rep K H b y->RelV y u->e u=f b):∀{ds:List D} {xs:List V} {us:List aj},bD K H ds xs->Vals xs us->us.any e=ds.any f
 |[],xs,us,hr,hv=>by
  rw[bD]at hr;subst hr;cases hv;rfl
 |b::bs,xs,us,hr,hv=>by
  rw[bD]at hr;obtain⟨y,r,rfl,p,q⟩:=hr;cases hv with
  |cons ry t=>rw[kK,kK,key b y _ p ry,bD.any key q t]
theorem Ju:∀{ds:List D} {b:D},b∈ds->b.dep<=dW ds
 |d::ds,b,h=>by
  rw[dW];rcases bB.mp h with rfl|h
  ·omega
  ·have:=Ju h;omega
open Classical in
theorem wK(I:Inv X ah σ H s){A:b9}(hu:A.units+16<cLine){d:D}{x:V}{v:aj}(hx:Rep X.K H d x)(rx:RelV x v){ds:List D}{xs:List V}{us:List aj}(hd:dW ds<=16)(hr:bD X.K H ds xs)(hv:Vals xs us) :
 ∃e:aj->Bool,(∀u∈us,SeqAt.EqAt A s u v (e u))/\us.any e=ds.any (λb=>bR b d):=by
 have key:∀b y u,Rep X.K H b y->RelV y u->(λu=>decide (∃b y,Rep X.K H b y/\RelV y u/\bR b d=true)) u=bR b d:=by
  intro b y u hb hy;cases hp:bR b d with
  |true=>exact bP ⟨b,y,hb,hy,hp⟩
  |false=>
   refine cD ?_;rintro⟨b',y',hb',hy',hp'⟩;have:=hy.inj hy';subst this;rw[Rep.inj I hb hb',hp']at hp;cases hp
 refine⟨λu=>decide (∃b y,Rep X.K H b y/\RelV y u/\bR b d=true),λu hu'=>?_,bD.any key hr hv⟩;obtain⟨b,hb,y,rb,ry⟩:=bD.main hr hv u hu';rw[key b y u rb ry];exact D6 I 16 b d A (cU (Ju hb) hd) hu rb hx ry rx
theorem O6(hu:X.A.units+64<cLine):cY X (compareOp .In) (xo X.K false):=by
 intro ah s σ H x y v u Q I rx ry h;obtain⟨p,xs,d,ds,rfl,hq,hx,hr,hd,q⟩:=h;cases ry;have hu1:X.A.in1.units+16<cLine:=by show X.A.units+1+16<cLine;omega
 rcases hq with hq|hq
 ·obtain⟨av,r,pl,hz⟩:=I.list hq;obtain⟨e,he,ea⟩:=wK I hu1 hx rx hd hr r;refine SeqAt.in_listAt e pl.isList (λw hw=>he w (by simpa using hw)) ⟨.bl _,H,I,rfl,?_⟩;rw[show av.toArray.any e=av.any e by simp,ea];exact q
 ·obtain⟨av,r,pl,hz⟩:=I.tuple hq;obtain⟨e,he,ea⟩:=wK I hu1 hx rx hd hr r;refine SeqAt.in_tupleAt e pl (λw hw=>he w (by simpa using hw)) ⟨.bl _,H,I,rfl,?_⟩;rw[show av.toArray.any e=av.any e by simp,ea];exact q
theorem iZ(hu:X.A.units+64<cLine):cY X (compareOp .NotIn) (xo X.K true):=by
 intro ah s σ H x y v u Q I rx ry h;obtain⟨p,xs,d,ds,rfl,hq,hx,hr,hd,q⟩:=h;cases ry;have hu1:X.A.in1.units+16<cLine:=by show X.A.units+1+16<cLine;omega
 rcases hq with hq|hq
 ·obtain⟨av,r,pl,hz⟩:=I.list hq;obtain⟨e,he,ea⟩:=wK I hu1 hx rx hd hr r;refine SeqAt.notIn_listAt e pl.isList (λw hw=>he w (by simpa using hw)) ⟨.bl _,H,I,rfl,?_⟩;rw[show av.toArray.any e=av.any e by simp,ea];exact q
 ·obtain⟨av,r,pl,hz⟩:=I.tuple hq;obtain⟨e,he,ea⟩:=wK I hu1 hx rx hd hr r;refine SeqAt.notIn_tupleAt e pl (λw hw=>he w (by simpa using hw)) ⟨.bl _,H,I,rfl,?_⟩;rw[show av.toArray.any e=av.any e by simp,ea];exact q
end
end L2
namespace L2
open PySem PySem.Spec PyProof.Rows
theorem uL{H:Hp}{p:ai}{o:HO}(hp:H p=ae):cL H (upd H p o):=λb u e=>by rw[aS (dX e hp)];exact e
theorem IJ:∀{ys:List Str} {us:List aj},Vals (ys.map V.str) us->StrsAre us ys
 |[],_,.nil=>.nil
 |y::ys,_,.cons r t=>by
  obtain⟨tk,rfl⟩:=(show∃tk,_=qt y tk from r);exact .cons y tk (IJ t)
section
variable{X:Cx}
def rJoin(K:aU):V->List V->Hp->VK->Prop:=λx vs H Q=>∃(sep:Str) (p:ai) (ys:List Str),x=.str sep/\vs=[.ref p]/\eY K H p (ys.map V.str)/\(ys.map (·.length)).sum+ys.length*sep.length<=16777216/\Q (.str (lz sep ys)) H
theorem Ft:BW X "str.join" (rJoin X.K):=by intro ah s σ H x vs v us Q I rx rv h;obtain⟨sep,p,ys,rfl,rfl,hq,hz,q⟩:=h;obtain⟨t,rfl⟩:=rx;obtain⟨u,rfl,ru⟩:=rv.one;cases ru;obtain⟨av,r,pl,_⟩:=I.list hq;refine join_list pl.isList (by simpa using IJ r) hz λt' k=>⟨.str (lz sep ys),H,I.tok k,⟨t',?_⟩,q⟩;show qt (Builtin.Str.glued sep ys) t'=_;rw[StrLaws.glued_eq_join]
def D5(i j:Int):Prop:=0<j/\j.natAbs.log2<9000
theorem l5:cY X (binaryOp .FloorDiv) (rI D5 λi j=>.int (i/j)):=Bk λi j _ _ _ _ _ hc q=>by
 refine floordiv_int (by have:=hc.1;omega) ?_ (.inl (PyProof.noPylong_of_log2 hc.2));rw[Int.fdiv_eq_ediv_of_nonneg i (by have:=hc.1;omega)];exact q
theorem Qr(hc:X.calm=true):ia X (.builtin "max") (λxs H Q=>∃i j z,xs=[.int i,.int j]/\max i j=z/\Q (.int z) H):=by intro ah s σ H xs us Q I r ⟨i,j,z,e1,e2,q⟩;subst e2;refine Pu hc ah s σ H xs us Q I r ⟨i,j,e1,?_⟩;rw[show(if j>i then j else i)=max i j by split<;>omega];exact q
theorem QC(hc:X.calm=true):ia X (.builtin "min") (λxs H Q=>∃i j z,xs=[.int i,.int j]/\min i j=z/\Q (.int z) H):=by intro ah s σ H xs us Q I r ⟨i,j,z,e1,e2,q⟩;subst e2;refine O3 hc ah s σ H xs us Q I r ⟨i,j,e1,?_⟩;rw[show(if j<i then j else i)=min i j by split<;>omega];exact q
end
end L2
namespace A
open PySem L2 PyProof.Rows
open Mi (D W Rs Fin aA)
inductive P2{α β:Type}(F:α->β->Prop):List α->List β->Prop
 |nil:P2 F [] []
 |cons {a b l m}:F a b->P2 F l m->P2 F (a::l) (b::m)
section
variable{α β:Type}{F G:α->β->Prop}
theorem P2.imp(h:∀a b,F a b->G a b):∀{l m},P2 F l m->P2 G l m
 |_,_,.nil=>.nil
 |_,_,.cons x t=>.cons (h _ _ x) (t.imp h)
theorem P2.len:∀{l m},P2 F l m->l.length=m.length
 |_,_,.nil=>rfl
 |_,_,.cons _ t=>by rw[cx,cx,t.len]
theorem P2.append:∀{l m l' m'},P2 F l m->P2 F l' m'->P2 F (l++l') (m++m')
 |_,_,_,_,.nil,s=>s
 |_,_,_,_,.cons x t,s=>.cons x (t.append s)
theorem P2.get:∀{l m} {i:Nat} {a b},P2 F l m->l[i]? = ab a->m[i]? = ab b->F a b
 |_,_,_,_,_,.nil,e,_=>by simp at e
 |_,_,0,_,_,.cons x _,e,e'=>by simp at e e';subst e e';exact x
 |_,_,i+1,a,b,.cons _ t,e,e'=>t.get (i:=i) (by simpa using e) (by simpa using e')
theorem P2.getL{l m}{i:Nat}{a}(t:P2 F l m)(e:l[i]? = ab a):∃b,m[i]? = ab b/\F a b:=by
 have h:i<m.length:=by rw[<- t.len];exact(cv.mp e).1
 exact⟨m[i],by simp[h],t.get e (by simp[h])⟩
theorem P2.y7{l m}{i:Nat}{b}(t:P2 F l m)(e:m[i]? = ab b):∃a,l[i]? = ab a/\F a b:=by
 have h:i<l.length:=by rw[t.len];exact(cv.mp e).1
 exact⟨l[i],by simp[h],t.get (by simp[h]) e⟩
theorem P2.take:∀{l m} (n:Nat),P2 F l m->P2 F (l.take n) (m.take n)
 |_,_,0,_=>.nil
 |_,_,_+1,.nil=>.nil
 |_,_,n+1,.cons x t=>.cons x (t.take n)
theorem P2.drop:∀{l m} (n:Nat),P2 F l m->P2 F (l.drop n) (m.drop n)
 |_,_,0,t=>t
 |_,_,_+1,.nil=>.nil
 |_,_,n+1,.cons _ t=>t.drop n
theorem P2.erase:∀{l m} (n:Nat),P2 F l m->P2 F (l.eraseIdx n) (m.eraseIdx n)
 |_,_,_,.nil=>.nil
 |_,_,0,.cons _ t=>t
 |_,_,n+1,.cons x t=>.cons x (t.erase n)
theorem P2.rev:∀{l m},P2 F l m->P2 F l.reverse m.reverse
 |_,_,.nil=>.nil
 |_,_,.cons x t=>by rw[sB,sB];exact t.rev.append (.cons x .nil)
theorem P2.dropLast:∀{l m},P2 F l m->P2 F l.dropLast m.dropLast
 |_,_,.nil=>.nil
 |_,_,.cons x .nil=>.nil
 |_,_,.cons x (.cons y t)=>.cons x (P2.dropLast (.cons y t))
end
def Lst(H:Hp)(a:ai)(xs:List V):Prop:=H a=ab (.lst xs)\/∃o,H a=ab (.frz o (.lst xs))
mutual
def Rep(H:Hp):D->V->Prop
 |.non,v=>v=.non
 |.bl b,v=>v=.bl b
 |.int i,v=>v=.int i
 |.str x,v=>v=.str x
 |.lst ds,v=>∃a xs,v=.ref a/\Lst H a xs/\bD H ds xs
 |.tup ds,v=>∃a xs,v=.ref a/\H a=ab (.tup xs)/\bD H ds xs
def bD(H:Hp):List D->List V->Prop
 |[],vs=>vs=[]
 |d::ds,vs=>∃v r,vs=v::r/\Rep H d v/\bD H ds r
end
theorem pb{H:Hp}:∀{ds:List D} {vs:List V},bD H ds vs↔P2 (Rep H) ds vs
 |[],vs=>by
  rw[bD];exact⟨λh=>by subst h;exact .nil,λh=>by cases h;rfl⟩
 |d::ds,vs=>by
  rw[bD];constructor
  ·rintro⟨v,r,rfl,p,q⟩;exact .cons p (pb.mp q)
  ·intro h;cases h with
   |cons p q=>exact⟨_,_,rfl,p,pb.mpr q⟩
@[simp] theorem Fd {H:Hp} {v:V}:Rep H .non v↔v=.non:=by rw[Rep]
@[simp] theorem se {H:Hp} {v:V} {b:Bool}:Rep H (.bl b) v↔v=.bl b:=by rw[Rep]
@[simp] theorem uK {H:Hp} {v:V} {b:Int}:Rep H (.int b) v↔v=.int b:=by rw[Rep]
@[simp] theorem ng {H:Hp} {v:V} {b:Str}:Rep H (.str b) v↔v=.str b:=by rw[Rep]
theorem iS{H:Hp}{v:V}{ds:List D}:Rep H (.lst ds) v↔∃a xs,v=.ref a/\Lst H a xs/\P2 (Rep H) ds xs:=by rw[Rep];exact⟨λ⟨a,xs,e,l,r⟩=>⟨a,xs,e,l,pb.mp r⟩,λ⟨a,xs,e,l,r⟩=>⟨a,xs,e,l,pb.mpr r⟩⟩
theorem jM{H:Hp}{v:V}{ds:List D}:Rep H (.tup ds) v↔∃a xs,v=.ref a/\H a=ab (.tup xs)/\P2 (Rep H) ds xs:=by rw[Rep];exact⟨λ⟨a,xs,e,l,r⟩=>⟨a,xs,e,l,pb.mp r⟩,λ⟨a,xs,e,l,r⟩=>⟨a,xs,e,l,pb.mpr r⟩⟩
theorem Lst.same{H H':Hp}{a:ai}{xs:List V}(s:cL H H')(h:Lst H a xs):Lst H' a xs:=by
 rcases h with h|⟨o,h⟩
 ·exact .inl (s _ _ h)
 ·exact .inr ⟨o,s _ _ h⟩
theorem Lst.sq{K:aU}{H:Hp}{a:ai}{xs:List V}(h:Lst H a xs):eY K H a xs:=.inl h
mutual
theorem iw{H H':Hp}(s:cL H H'):∀{d:D} {v:V},Rep H d v->Rep H' d v
 |.non,v,h=>by rw[Rep]at h ⊢;exact h
 |.bl b,v,h=>by rw[Rep]at h ⊢;exact h
 |.int i,v,h=>by rw[Rep]at h ⊢;exact h
 |.str x,v,h=>by rw[Rep]at h ⊢;exact h
 |.lst ds,v,h=>by
  rw[Rep]at h ⊢;obtain⟨a,xs,e,q,r⟩:=h;exact⟨a,xs,e,q.same s,A9 s r⟩
 |.tup ds,v,h=>by
  rw[Rep]at h ⊢;obtain⟨a,xs,e,q,r⟩:=h;exact⟨a,xs,e,s _ _ q,A9 s r⟩
theorem A9{H H':Hp}(s:cL H H'):∀{ds:List D} {vs:List V},bD H ds vs->bD H' ds vs
 |[],vs,h=>by rw[bD]at h ⊢;exact h
 |d::ds,vs,h=>by
  rw[bD]at h ⊢;obtain⟨v,r,e,p,q⟩:=h;exact⟨v,r,e,iw s p,A9 s q⟩
end
theorem fL{H H':Hp}(s:cL H H'){ds:List D}{vs:List V}(h:P2 (Rep H) ds vs):P2 (Rep H') ds vs:=h.imp λ_ _=>iw s
mutual
theorem mW(K:aU){H:Hp}:∀{d:D} {v:V},Rep H d v->L2.Rep K H d v
 |.non,v,h=>by rw[Rep]at h;rw[L2.Rep];exact h
 |.bl b,v,h=>by rw[Rep]at h;rw[L2.Rep];exact h
 |.int i,v,h=>by rw[Rep]at h;rw[L2.Rep];exact h
 |.str x,v,h=>by rw[Rep]at h;rw[L2.Rep];exact h
 |.lst ds,v,h=>by
  rw[Rep]at h;rw[L2.Rep];obtain⟨a,xs,e,q,r⟩:=h;exact⟨a,xs,e,q.sq,ww K r⟩
 |.tup ds,v,h=>by
  rw[Rep]at h;rw[L2.Rep];obtain⟨a,xs,e,q,r⟩:=h;exact⟨a,xs,e,.inl (.inl q),ww K r⟩
theorem ww(K:aU){H:Hp}:∀{ds:List D} {vs:List V},bD H ds vs->L2.bD K H ds vs
 |[],vs,h=>by rw[bD]at h;rw[L2.bD];exact h
 |d::ds,vs,h=>by
  rw[bD]at h;rw[L2.bD];obtain⟨v,r,e,p,q⟩:=h;exact⟨v,r,e,mW K p,ww K q⟩
end
def NT:HO->Prop
 |.tbl _ _=>False
 |_=>True
def NW:HO->Prop
 |.tbl _ _=>False
 |.frz _ (.lst _)=>False
 |_=>True
theorem NW.nt:∀{o:HO},NW o->NT o:=λ{o} c=>by cases o<;>first|exact c.elim|trivial
structure Old(H H':Hp):Prop where
 nt:∀a o,H a=ab o->NT o->H' a=ab o
 dom:∀a,H' a=ae->H a=ae
 tb:∀a w ps,H a=ab (.tbl w ps)->∃ps',H' a=ab (.tbl w ps')
theorem Old.at{H H':Hp}(s:Old H H'){a:ai}{o:HO}(q:H a=ab o)(n:NT o:=by trivial):H' a=ab o:=s.nt a o q n
theorem Old.free{H H':Hp}(s:Old H H'){a:ai}(h:H' a=ae):H a=ae:=s.dom a h
theorem Old.refl(H:Hp):Old H H:=⟨λ_ _ e _=>e,λ_ e=>e,λ_ _ ps e=>⟨ps,e⟩⟩
theorem Old.trans{H H1 H2:Hp}(a:Old H H1)(b:Old H1 H2):Old H H2:=⟨λx o e n=>b.nt x o (a.nt x o e n) n,λx e=>a.dom x (b.dom x e),λx w ps e=>let ⟨p1,e1⟩:=a.tb x w ps e;b.tb x w p1 e1⟩
theorem Old.of{H H':Hp}(s:cL H H'):Old H H':=⟨λa o e _=>s a o e,λa e=>s.free e,λa w ps e=>⟨ps,s a _ e⟩⟩
theorem Old.tab{H H':Hp}(s:Old H H'){a:ai}{w:Str}{ps:Array aj}{o:HO}(q:H a=ab (.tbl w ps))(n:NT o):¬ H' a=ab o:=λe=>by
 obtain⟨p,z⟩:=s.tb a w ps q;rw[e]at z;cases z;exact n
theorem Old.put{H0 H:Hp}(s:Old H0 H){p:ai}{o u:HO}(h0:H0 p=ae)(h:H p=ab u):Old H0 (upd H p o):=
 ⟨λa v e n=>by rw[aS (dX e h0)];exact s.nt a v e n,λa e=>by
  by_cases hp:a=p
  ·subst hp;exact h0
  ·rw[aS hp]at e;exact s.dom a e,λa w ps e=>by rw[aS (dX e h0)];exact s.tb a w ps e⟩
def iz(c:ai)(q:Str):aZ->Prop:=λh=>∃o vs t,h.get? c=ab o/\o.data=.fields vs/\vs[1]? = ab (.str q t)
class bS where
 l:List (ai×Str)
 cl:String->ai
variable[Tb:bS]
structure iL(H:Hp):Prop where
 has:∀p∈Tb.l,∃ps,H p.1=ab (.tbl p.2 ps)
 cd:∀T q ps,H T=ab (.tbl q ps)->sI ps.toList/\∀pos v,codeAmong pos ps.toList=ab v->∃c,v=.ref c/\H c=ab (.ext (iz c q))
 fz:∀a o xs,H a=ab (.frz o (.lst xs))->∀x∈xs,∃i,x=V.int i
theorem iL.new{H:Hp}(k:iL H){p:ai}{o:HO}(h:H p=ae)(n:NW o):iL (upd H p o):=⟨λr hr=>let ⟨ps,e⟩:=k.has r hr;⟨ps,by rw[aS (dX e h)];exact e⟩,λT q ps e=>by
 by_cases hp:T=p
 ·subst hp;rw[bN]at e;cases e;exact n.elim
 ·rw[aS hp]at e;obtain⟨t,r⟩:=k.cd T q ps e;refine⟨t,λpos v z=>?_⟩;obtain⟨c,e1,e2⟩:=r pos v z;exact⟨c,e1,by rw[aS (dX e2 h)];exact e2⟩,λa q xs e=>by
 by_cases hp:a=p
 ·subst hp;rw[bN]at e;cases e;exact n.elim
 ·rw[aS hp]at e;exact k.fz a q xs e⟩
def Cell:HO->Prop
 |.lst _=>True
 |.dK _=>True
 |.dT _=>True
 |.ext _=>True
 |_=>False
theorem Cell.nw:∀{o:HO},Cell o->NW o:=λ{o} c=>by cases o<;>first|exact c.elim|trivial
theorem Cell.nt:∀{o:HO},Cell o->NT o:=λ{o} c=>by cases o<;>first|exact c.elim|trivial
def ut:HO->Prop
 |.lst _=>True
 |.dK _=>True
 |.dT _=>True
 |_=>False
theorem ut.cell:∀{o:HO},ut o->Cell o:=λ{o} c=>by cases o<;>first|exact c.elim|trivial
theorem iL.put{H:Hp}(k:iL H){p:ai}{o u:HO}(h:H p=ab u)(c:ut u)(n:NW o):iL (upd H p o):=⟨λr hr=>let ⟨ps,e⟩:=k.has r hr;⟨ps,by rw[aS (λy=>by rw[y,h]at e;cases e;exact c.elim)];exact e⟩,λT q ps e=>by
 by_cases hp:T=p
 ·subst hp;rw[bN]at e;cases e;exact n.elim
 ·rw[aS hp]at e;obtain⟨t,r⟩:=k.cd T q ps e;refine⟨t,λpos v z=>?_⟩;obtain⟨x,e1,e2⟩:=r pos v z;refine⟨x,e1,?_⟩;rw[aS (λy=>by subst y;rw[h]at e2;cases e2;exact c.elim)];exact e2,λa q xs e=>by
 by_cases hp:a=p
 ·subst hp;rw[bN]at e;cases e;exact n.elim
 ·rw[aS hp]at e;exact k.fz a q xs e⟩
structure Vw(H Hv:Hp):Prop where
 sub:cL Hv H
 tup:∀a xs,H a=ab (.tup xs)->Hv a=ab (.tup xs)
 frz:∀a o u,H a=ab (.frz o u)->Hv a=ab (.frz o u)
 cd:iL H
 nv:∀a o,Hv a=ab o->NT o
structure br(H Hv H' Hv':Hp):Prop where
 old:Old H H'
 vis:cL Hv Hv'
 vw:Vw H' Hv'
 hid:∀a o,H a=ab o->Hv a=ae->Hv' a=ae
theorem br.refl{H Hv:Hp}(v:Vw H Hv):br H Hv H Hv:=⟨Old.refl _,cL.refl _,v,λ_ _ _ e=>e⟩
theorem Old.some{H H':Hp}(s:Old H H'){a:ai}{o:HO}(q:H a=ab o):∃o',H' a=ab o':=by
 cases h:H' a with
 |none=>rw[s.dom a h]at q;cases q
 |some o'=>exact⟨o',rfl⟩
theorem br.trans{H Hv H1 Hv1 H2 Hv2:Hp}(g:br H Hv H1 Hv1)(k:br H1 Hv1 H2 Hv2):br H Hv H2 Hv2:=⟨g.old.trans k.old,g.vis.trans k.vis,k.vw,λa o e n=>let ⟨o',e'⟩:=g.old.some e;k.hid a o' e' (g.hid a o e n)⟩
theorem oC{H Hv:Hp}(v:Vw H Hv){p:ai}(h:H p=ae):Hv p=ae:=v.sub.free h
theorem br.new{H Hv:Hp}(v:Vw H Hv){p:ai}{o:HO}(h:H p=ae)(nt:NW o:=by trivial):br H Hv (upd H p o) (upd Hv p o):=by
 refine⟨.of (uL h),uL (oC v h),⟨λb u e=>?_,λb xs e=>?_,λb q u e=>?_,v.cd.new h nt,λb u e=>?_⟩,λb u e n=>?_⟩
 ·by_cases hb:b=p
  ·subst hb;rw[bN]at e ⊢;exact e
  ·rw[aS hb]at e ⊢;exact v.sub b u e
 ·by_cases hb:b=p
  ·subst hb;rw[bN]at e ⊢;exact e
  ·rw[aS hb]at e ⊢;exact v.tup b xs e
 ·by_cases hb:b=p
  ·subst hb;rw[bN]at e ⊢;exact e
  ·rw[aS hb]at e ⊢;exact v.frz b q u e
 ·by_cases hb:b=p
  ·subst hb;rw[bN]at e;cases e;exact nt.nt
  ·rw[aS hb]at e;exact v.nv b u e
 ·rw[aS (dX e h)];exact n
theorem br.pj{H Hv:Hp}(v:Vw H Hv){p:ai}{o:HO}(c:Cell o)(h:H p=ae):br H Hv (upd H p o) Hv:=by
 refine⟨.of (uL h),cL.refl _,⟨λb u e=>?_,λb xs e=>?_,λb q u e=>?_,v.cd.new h c.nw,v.nv⟩,λb u e n=>n⟩
 ·rw[aS (dX (v.sub b u e) h)];exact v.sub b u e
 ·by_cases hb:b=p
  ·subst hb;rw[bN]at e;cases e;exact c.elim
  ·rw[aS hb]at e;exact v.tup b xs e
 ·by_cases hb:b=p
  ·subst hb;rw[bN]at e;cases e;exact c.elim
  ·rw[aS hb]at e;exact v.frz b q u e
theorem Vw.show{H Hv:Hp}(v:Vw H Hv){a:ai}{o:HO}(h:H a=ab o)(n:Hv a=ae)(nt:NT o):Vw H (upd Hv a o)/\cL Hv (upd Hv a o):=by
 refine⟨⟨λb u e=>?_,λb xs e=>?_,λb q u e=>?_,v.cd,λb u e=>?_⟩,uL n⟩
 ·by_cases hb:b=a
  ·subst hb;rw[bN]at e;rw[h];exact e
  ·rw[aS hb]at e;exact v.sub b u e
 ·by_cases hb:b=a
  ·subst hb;rw[bN];rw[h]at e;exact e
  ·rw[aS hb];exact v.tup b xs e
 ·by_cases hb:b=a
  ·subst hb;rw[bN];rw[h]at e;exact e
  ·rw[aS hb];exact v.frz b q u e
 ·by_cases hb:b=a
  ·subst hb;rw[bN]at e;cases e;exact nt
  ·rw[aS hb]at e;exact v.nv b u e
theorem Lst.old{H H':Hp}{a:ai}{xs:List V}(s:Old H H')(h:Lst H a xs):Lst H' a xs:=by
 rcases h with h|⟨o,h⟩
 ·exact .inl (s.at h)
 ·exact .inr ⟨o,s.at h⟩
mutual
theorem Hz{H H':Hp}(t:∀a xs,H a=ab (.tup xs)->H' a=ab (.tup xs)):∀{d:D} {v:V},Mi.xu d=true->Rep H d v->Rep H' d v
 |.non,v,_,h=>by rw[Rep]at h ⊢;exact h
 |.bl b,v,_,h=>by rw[Rep]at h ⊢;exact h
 |.int i,v,_,h=>by rw[Rep]at h ⊢;exact h
 |.str x,v,_,h=>by rw[Rep]at h ⊢;exact h
 |.lst ds,v,z,h=>by rw[Mi.xu]at z;cases z
 |.tup ds,v,z,h=>by
  rw[Mi.xu]at z;rw[Rep]at h ⊢;obtain⟨a,xs,e,q,r⟩:=h;exact⟨a,xs,e,t _ _ q,IV t z r⟩
theorem IV{H H':Hp}(t:∀a xs,H a=ab (.tup xs)->H' a=ab (.tup xs)):∀{ds:List D} {vs:List V},Mi.kj ds=true->bD H ds vs->bD H' ds vs
 |[],vs,_,h=>by rw[bD]at h ⊢;exact h
 |d::ds,vs,z,h=>by
  rw[Mi.kj,gZ]at z;rw[bD]at h ⊢;obtain⟨v,r,e,p,q⟩:=h;exact⟨v,r,e,Hz t z.1 p,IV t z.2 q⟩
end
def fG{κ:Type}(H:Hp)(ao:List (κ×D))(kv:List (κ×V)):Prop:=P2 (λp q=>p.1=q.1/\Rep H p.2 q.2) ao kv
theorem fG.same{κ:Type}{H H':Hp}(s:cL H H'){ao:List (κ×D)}{kv:List (κ×V)}(h:fG H ao kv):fG H' ao kv:=P2.imp (λ_ _ z=>⟨z.1,iw s z.2⟩) h
def eF(Hv:Hp):W->HO->Prop
 |.d (.lst ds),.lst xs=>P2 (Rep Hv) ds xs
 |.dk ao,.dK kv=>fG Hv ao kv
 |.dt ao,.dT kv=>fG Hv ao kv
 |_,_=>False
theorem eF.same{H H':Hp}(s:cL H H'):∀{w:W} {o:HO},eF H w o->eF H' w o:=λ{w o} h=>by
 cases w with
 |d x=>
  cases x with
  | lst ds=>cases o with
   |lst xs=>exact fL s h
   |_=>exact h.elim
  |_=>cases o<;>exact h.elim
 | dk ao=>cases o with
  |dK kv=>exact fG.same s h
  |_=>exact h.elim
 | dt ao=>cases o with
  |dT kv=>exact fG.same s h
  |_=>exact h.elim
 |df ao=>exact h.elim
 |ex c=>exact h.elim
 |fn c=>exact h.elim
theorem eF.HX{H:Hp}{w:W}{o:HO}(h:eF H w o):ut o:=by
 cases w with
 |d x=>
  cases x with
  | lst ds=>cases o with
   |lst xs=>trivial
   |_=>exact h.elim
  |_=>cases o<;>exact h.elim
 | dk ao=>cases o with
  |dK kv=>trivial
  |_=>exact h.elim
 | dt ao=>cases o with
  |dT kv=>trivial
  |_=>exact h.elim
 |df ao=>exact h.elim
 |ex c=>exact h.elim
 |fn c=>exact h.elim
theorem eF.cell{H:Hp}{w:W}{o:HO}(h:eF H w o):Cell o:=h.HX.cell
theorem eF.nw{H:Hp}{w:W}{o:HO}(h:eF H w o):NW o:=h.cell.nw
theorem eF.nt{H:Hp}{w:W}{o:HO}(h:eF H w o):NT o:=h.cell.nt
def EK(a C:ai):aZ->Prop:=λh=>∃o,h.get? a=ab o/\o.cls=.ref C/\o.dict=ae/\∃vs,o.data=.fields vs
def gE(H:Hp):W->V->Prop
 |.d x,v=>Rep H x v
 |.dk ao,v=>∃a kv,v=.ref a/\H a=ab (.dK kv)/\fG H ao kv
 |.dt ao,v=>∃a kv,v=.ref a/\H a=ab (.dT kv)/\fG H ao kv
 |.df ao,v=>∃a ob kv,v=.ref a/\H a=ab (.frz ob (.dT kv))/\fG H ao kv
 |.ex c,v=>∃a,v=.ref a/\H a=ab (.ext (EK a (Tb.cl c)))
 |.fn κ aM,v=>v=.ref κ.a/\H κ.c=ab (.ext (iz κ.c κ.q))/\P2 (λd a=>Rep H d (.ref a)) aM κ.ga
theorem oS{H H':Hp}(s:cL H H'):∀{w:W} {v:V},gE H w v->gE H' w v
 |.d x,v,h=>iw (d:=x) s h
 |.dk ao,v,⟨a,kv,e,q,r⟩=>⟨a,kv,e,s _ _ q,r.same s⟩
 |.dt ao,v,⟨a,kv,e,q,r⟩=>⟨a,kv,e,s _ _ q,r.same s⟩
 |.df ao,v,⟨a,ob,kv,e,q,r⟩=>⟨a,ob,kv,e,s _ _ q,r.same s⟩
 |.ex c,v,⟨a,e,q⟩=>⟨a,e,s _ _ q⟩
 |.fn κ aM,v,⟨e,q,r⟩=>⟨e,s _ _ q,r.imp λ_ _ z=>iw s z⟩
theorem tR{H:Hp}{w:W}{a:ai}{o:HO}(h:H a=ab o)(c:eF H w o):gE H w (.ref a):=by
 cases w with
 |d x=>
  cases x with
  | lst ds=>cases o with
   |lst xs=>exact iS.mpr ⟨a,xs,rfl,.inl h,c⟩
   |_=>exact c.elim
  |_=>cases o<;>exact c.elim
 | dk ao=>cases o with
  |dK kv=>exact⟨a,kv,rfl,h,c⟩
  |_=>exact c.elim
 | dt ao=>cases o with
  |dT kv=>exact⟨a,kv,rfl,h,c⟩
  |_=>exact c.elim
 |df ao=>exact c.elim
 |ex z=>exact c.elim
 |fn z=>exact c.elim
def Own(H Hv:Hp)(w:W)(v:V):Prop:=∃a o,v=.ref a/\H a=ab o/\Hv a=ae/\eF Hv w o
def RB(H Hv:Hp)(w:W)(v:V):Prop:=gE Hv w v\/∃a o,v=.ref a/\H a=ab o/\eF Hv w o
theorem RB.grow{H Hv H' Hv':Hp}(g:br H Hv H' Hv'){w:W}{v:V}(h:RB H Hv w v):RB H' Hv' w v:=by
 rcases h with h|⟨a,o,e,q,c⟩
 ·exact .inl (oS g.vis h)
 ·exact .inr ⟨a,o,e,g.old.at q c.nt,c.same g.vis⟩
theorem Own.grow{H Hv H' Hv':Hp}(g:br H Hv H' Hv'){w:W}{v:V}(h:Own H Hv w v):Own H' Hv' w v:=by obtain⟨a,o,e,q,n,c⟩:=h;exact⟨a,o,e,g.old.at q c.nt,g.hid _ _ q n,c.same g.vis⟩
theorem RB.full{H Hv:Hp}(v:Vw H Hv){w:W}{x:V}(h:RB H Hv w x):gE H w x:=by
 rcases h with h|⟨a,o,rfl,q,c⟩
 ·exact oS v.sub h
 ·exact tR q (c.same v.sub)
abbrev RD(H Hv:Hp)(d:D)(v:V):Prop:=RB H Hv (.d d) v
theorem RD.u6{H Hv:Hp}{d:D}{v:V}(h:RD H Hv d v)(n:∀ds,d≠.lst ds):Rep Hv d v:=by
 rcases h with h|⟨a,o,e,q,c⟩
 ·exact h
 ·cases d with
  |lst ds=>exact absurd rfl (n ds)
  |_=>cases o<;>exact c.elim
theorem RD.lst{H Hv:Hp}(w:Vw H Hv){ds:List D}{v:V}(h:RD H Hv (.lst ds) v):∃a xs,v=.ref a/\Lst H a xs/\P2 (Rep Hv) ds xs:=by
 rcases h with h|⟨a,o,e,q,c⟩
 ·obtain⟨a,xs,e,l,r⟩:=iS.mp h;exact⟨a,xs,e,l.same w.sub,r⟩
 ·cases o with
  |lst xs=>exact⟨a,xs,e,.inl q,c⟩
  |_=>exact c.elim
theorem RD.tup{H Hv:Hp}(w:Vw H Hv){ds:List D}{v:V}(h:RD H Hv (.tup ds) v):∃a xs,v=.ref a/\H a=ab (.tup xs)/\Hv a=ab (.tup xs)/\P2 (Rep Hv) ds xs:=by obtain⟨a,xs,e,l,r⟩:=jM.mp (h.u6 λ_ z=>by cases z);exact⟨a,xs,e,w.sub _ _ l,l,r⟩
theorem RD.int{H Hv:Hp}{i:Int}{v:V}(h:RD H Hv (.int i) v):v=.int i:=uK.mp (h.u6 λ_ z=>by cases z)
theorem RD.str{H Hv:Hp}{i:Str}{v:V}(h:RD H Hv (.str i) v):v=.str i:=ng.mp (h.u6 λ_ z=>by cases z)
theorem RD.bl{H Hv:Hp}{i:Bool}{v:V}(h:RD H Hv (.bl i) v):v=.bl i:=se.mp (h.u6 λ_ z=>by cases z)
theorem RD.non{H Hv:Hp}{v:V}(h:RD H Hv .non v):v=.non:=Fd.mp (h.u6 λ_ z=>by cases z)
theorem RD.full{H Hv:Hp}(v:Vw H Hv){d:D}{x:V}(h:RD H Hv d x):Rep H d x:=RB.full v h
abbrev Kd:=Hp->Hp->Hp->W->V->Prop
def qP:Kd:=λ_ H' Hv' w v=>RB H' Hv' w v
def qV:Kd:=λ_ _ Hv' w v=>gE Hv' w v
def qN:Kd:=λH H' Hv' w v=>∃a o,v=.ref a/\H a=ae/\H' a=ab o/\Hv' a=ae/\eF Hv' w o
theorem km{H H' Hv':Hp}{i:Int}:qV H H' Hv' (.d (.int i)) (.int i):=(uK (H:=Hv')).mpr rfl
theorem u4{H H' Hv':Hp}{i:Str}:qV H H' Hv' (.d (.str i)) (.str i):=(ng (H:=Hv')).mpr rfl
theorem fB{H H' Hv':Hp}{i:Bool}:qV H H' Hv' (.d (.bl i)) (.bl i):=(se (H:=Hv')).mpr rfl
theorem Bb{H H' Hv':Hp}:qV H H' Hv' (.d .non) .non:=(Fd (H:=Hv')).mpr rfl
class KM (κ:Kd):Prop where
 mono:∀{H H1 H' Hv' w v},Old H H1->κ H1 H' Hv' w v->κ H H' Hv' w v
instance:KM qP:=⟨λ_ h=>h⟩
instance:KM qV:=⟨λ_ h=>h⟩
instance:KM qN:=⟨λs ⟨a,o,e,n,r⟩=>⟨a,o,e,s.free n,r⟩⟩
structure R0(M:Nat->Bool)(e:Mi.Env)(σ:L2.St)(H Hv:Hp):Prop where
 vw:Vw H Hv
 len:σ.length=e.length
 nob:∀i w,e[i]? = ab (ab w)->M i=false->∃v,σ[i]? = ab (ab v)/\gE Hv w v
 own:∀i w,e[i]? = ab (ab w)->M i=true->∃v,σ[i]? = ab (ab v)/\Own H Hv w v
theorem R0.grow{M:Nat->Bool}{e:Mi.Env}{σ:L2.St}{H Hv H' Hv':Hp}(r:R0 M e σ H Hv)(g:br H Hv H' Hv'):R0 M e σ H' Hv':=⟨g.vw,r.len,λi w h m=>let ⟨v,q,z⟩:=r.nob i w h m;⟨v,q,oS g.vis z⟩,λi w h m=>let ⟨v,q,z⟩:=r.own i w h m;⟨v,q,z.grow g⟩⟩
structure R1(M:Nat->Bool)(H0 Hv0:Hp)(e:Mi.Env)(σ:L2.St)(H Hv:Hp):Prop extends R0 M e σ H Hv where
 gw:br H0 Hv0 H Hv
 fresh:∀i w a,e[i]? = ab (ab w)->M i=true->σ[i]? = ab (ab (.ref a))->H0 a=ae
 sep:∀i j w w' a b,i≠j->e[i]? = ab (ab w)->e[j]? = ab (ab w')->M i=true->M j=true->σ[i]? = ab (ab (.ref a))->σ[j]? = ab (ab (.ref b))->a≠b
theorem R1.grow{M:Nat->Bool}{H0 Hv0:Hp}{e:Mi.Env}{σ:L2.St}{H Hv H' Hv':Hp}(r:R1 M H0 Hv0 e σ H Hv)(g:br H Hv H' Hv'):R1 M H0 Hv0 e σ H' Hv':=⟨r.toR0.grow g,r.gw.trans g,r.fresh,r.sep⟩
end A
namespace A
open PySem L2 PyProof.Rows
open Mi (D W Rs Fin aA)
variable[Tb:bS]
abbrev qS:=Mi.Env
class KG (κ:Kd):Prop where
 go:∀{H H1 Hv1 H2 Hv2 w v},br H1 Hv1 H2 Hv2->κ H H1 Hv1 w v->κ H H2 Hv2 w v
instance:KG qP:=⟨λg h=>h.grow g⟩
instance:KG qV:=⟨λg h=>oS g.vis h⟩
instance:KG qN:=⟨λg ⟨a,o,e,n,q,z,c⟩=>⟨a,o,e,n,g.old.at q c.nt,g.hid _ _ q z,c.same g.vis⟩⟩
def AW(M:Nat->Bool)(κ:Kd)(t:TE)(m:Mi.EW):Prop:=∀e σ H Hv Q,R0 M e σ H Hv->Fin (m e) (λw=>∀v H' Hv',br H Hv H' Hv'->κ H H' Hv' w v->Q v H')->t σ H Q
def AE(M:Nat->Bool)(κ:Kd)(t:TE)(m:Mi.E):Prop:=∀e σ H Hv Q,R0 M e σ H Hv->Fin (m e) (λd=>∀v H' Hv',br H Hv H' Hv'->κ H H' Hv' (.d d) v->Q v H')->t σ H Q
def AT(M:Nat->Bool)(t:TT)(m:Mi.C):Prop:=∀e σ H Hv Q,R0 M e σ H Hv->Fin (m e) (λb=>∀H' Hv',br H Hv H' Hv'->Q b H')->t σ H Q
def AA(M:Nat->Bool)(κ:Kd)(t:TA)(m:qS->Rs (List D)):Prop:=∀e σ H Hv Q,R0 M e σ H Hv->Fin (m e) (λds=>∀vs H' Hv',br H Hv H' Hv'->P2 (λd v=>κ H H' Hv' (.d d) v) ds vs->Q vs H')->t σ H Q
def AAW(M:Nat->Bool)(κ:Kd)(t:TA)(m:qS->Rs (List W)):Prop:=∀e σ H Hv Q,R0 M e σ H Hv->Fin (m e) (λws=>∀vs H' Hv',br H Hv H' Hv'->P2 (λw v=>κ H H' Hv' w v) ws vs->Q vs H')->t σ H Q
def AO(M:Nat->Bool)(t:TO)(m:qS->Rs (Option Int)):Prop:=∀e σ H Hv Q,R0 M e σ H Hv->Fin (m e) (λo=>∀H' Hv',br H Hv H' Hv'->Q o H')->t σ H Q
section
variable{M:Nat->Bool}{κ:Kd}{t ta tb tc te:TE}{a b c:Mi.E}{r r':R2}{f g:D->D->Rs D}
theorem AE.w(h:AE M κ t a):AW M κ t (Mi.wD a):=λe σ H Hv Q I q=>h e σ H Hv Q I ((aA.mp q).mono λd z=>z)
theorem MW{H H' Hv':Hp}{w:W}{v:V}(h:qV H H' Hv' w v):qP H H' Hv' w v:=.inl h
theorem MA{H H' Hv':Hp}{w:W}{v:V}(h:qN H H' Hv' w v):qP H H' Hv' w v:=by obtain⟨a,o,e,_,q,_,c⟩:=h;exact .inr ⟨a,o,e,q,c⟩
theorem BJ{H Hv H' Hv':Hp}(g:br H Hv H' Hv'){w:W}{v:V}(h:qN H H' Hv' w v):∃hV,br H Hv H' hV/\gE hV w v:=by obtain⟨a,o,rfl,n,q,z,c⟩:=h;obtain⟨vw,s⟩:=g.vw.show q z c.nt;refine⟨upd Hv' a o,⟨g.old,g.vis.trans s,vw,λb u e m=>?_⟩,tR bN (c.same s)⟩;rw[aS (dX e n)];exact g.hid b u e m
theorem AW.nv(h:AW M qN t m):AW M qV t m:=λe σ H Hv Q I q=>h e σ H Hv Q I (q.mono λw z v H' Hv' g k=>let ⟨hV,g',r⟩:=BJ g k;z v H' hV g' r)
theorem AE.p(h:AE M qV t a):AE M qP t a:=λe σ H Hv Q I q=>h e σ H Hv Q I (q.mono λw z v H' Hv' g k=>z v H' Hv' g (MW k))
theorem AE.np(h:AE M qN t a):AE M qP t a:=λe σ H Hv Q I q=>h e σ H Hv Q I (q.mono λw z v H' Hv' g k=>z v H' Hv' g (MA k))
theorem AE.nv(h:AE M qN t a):AE M qV t a:=λe σ H Hv Q I q=>h e σ H Hv Q I (q.mono λw z v H' Hv' g k=>let ⟨hV,g',r⟩:=BJ g k;z v H' hV g' r)
theorem aJ{i:Int}:AE M qV (tC (.int i)) (Mi.mC (.int i)):=λe σ H Hv Q I h=>h _ H Hv (.refl I.vw) km
theorem pM{i:Str}:AE M qV (tC (.str i)) (Mi.mC (.str i)):=λe σ H Hv Q I h=>h _ H Hv (.refl I.vw) u4
theorem i5{i:Bool}:AE M qV (tC (.bl i)) (Mi.mC (.bl i)):=λe σ H Hv Q I h=>h _ H Hv (.refl I.vw) fB
theorem Oe:AE M qV (tC .non) (Mi.mC .non):=λe σ H Hv Q I h=>h _ H Hv (.refl I.vw) Bb
theorem HP{e:qS}{i:Nat}{k:D->Prop}(h:Fin (Mi.mV i e) k):∃d,e[i]? = ab (ab (.d d))/\k d:=by
 unfold Mi.mV at h;split at h
 ·exact⟨_,‹_›,h⟩
 ·exact h.elim
theorem qa{e:qS}{i:Nat}{k:W->Prop}(h:Fin (Mi.wV i e) k):∃w,e[i]? = ab (ab w)/\k w:=by
 unfold Mi.wV at h;split at h
 ·exact⟨_,‹_›,h⟩
 ·exact h.elim
theorem Fy(i:Nat)(hm:M i=false):AE M qV (fk i) (Mi.mV i):=λe σ H Hv Q I h=>by
 obtain⟨d,he,k⟩:=HP h;obtain⟨v,q,z⟩:=I.nob i _ he hm;exact⟨v,q,k v H Hv (.refl I.vw) z⟩
theorem SD{H Hv:Hp}{w:W}{v:V}(h:Own H Hv w v):RB H Hv w v:=by obtain⟨a,o,e,q,_,c⟩:=h;exact .inr ⟨a,o,e,q,c⟩
theorem R0.any{e:qS}{σ:L2.St}{H Hv:Hp}(I:R0 M e σ H Hv){i:Nat}{w:W}(he:e[i]? = ab (ab w)):∃v,σ[i]? = ab (ab v)/\RB H Hv w v:=by
 cases hm:M i with
 |false=>
  obtain⟨v,q,z⟩:=I.nob i w he hm;exact⟨v,q,.inl z⟩
 |true=>
  obtain⟨v,q,z⟩:=I.own i w he hm;exact⟨v,q,SD z⟩
theorem aq(i:Nat):AE M qP (fk i) (Mi.mV i):=λe σ H Hv Q I h=>by
 obtain⟨d,he,k⟩:=HP h;obtain⟨v,q,z⟩:=I.any he;exact⟨v,q,k v H Hv (.refl I.vw) z⟩
theorem Tn(i:Nat)(hm:M i=false):AW M qV (fk i) (Mi.wV i):=λe σ H Hv Q I h=>by
 obtain⟨d,he,k⟩:=qa h;obtain⟨v,q,z⟩:=I.nob i _ he hm;exact⟨v,q,k v H Hv (.refl I.vw) z⟩
def B2(κ:Kd)(r:R2)(f:D->D->Rs D):Prop:=∀x y v u H Hv Q,Vw H Hv->RD H Hv x v->RD H Hv y u->Fin (f x y) (λd=>∀w H' Hv',br H Hv H' Hv'->κ H H' Hv' (.d d) w->Q w H')->r v u H Q
def B1(κ:Kd)(r:V->Hp->VK->Prop)(f:D->Rs D):Prop:=∀x v H Hv Q,Vw H Hv->RD H Hv x v->Fin (f x) (λd=>∀w H' Hv',br H Hv H' Hv'->κ H H' Hv' (.d d) w->Q w H')->r v H Q
def BN(κ:Kd)(r:List V->Hp->VK->Prop)(f:List D->Rs D):Prop:=∀ds vs H Hv Q,Vw H Hv->P2 (RD H Hv) ds vs->Fin (f ds) (λd=>∀w H' Hv',br H Hv H' Hv'->κ H H' Hv' (.d d) w->Q w H')->r vs H Q
theorem aw[KM κ](hr:B2 κ r f)(ha:AE M qP ta a)(hb:AE M qP tb b):AE M κ (pZ r ta tb) (Mi.m2 f a b):=λe σ H Hv Q I h=>
 ha e σ H Hv _ I ((aA.mp h).mono λx hx v H1 Hv1 g1 rx=>hb e σ H1 Hv1 _ (I.grow g1) ((aA.mp hx).mono λy hy u H2 Hv2 g2 ry=>
  hr x y v u H2 Hv2 Q g2.vw (RB.grow g2 rx) ry (hy.mono λd hd w H3 Hv3 g3 rw=>hd w H3 Hv3 (g1.trans (g2.trans g3)) (KM.mono (g1.old.trans g2.old) rw))))
theorem wz[KM κ]{r:V->Hp->VK->Prop}{f:D->Rs D}(hr:B1 κ r f)(ha:AE M qP ta a):AE M κ (DS r ta) (Mi.m1 f a):=λe σ H Hv Q I h=>
 ha e σ H Hv _ I ((aA.mp h).mono λx hx v H1 Hv1 g1 rx=>hr x v H1 Hv1 Q g1.vw rx (hx.mono λd hd w H3 Hv3 g3 rw=>hd w H3 Hv3 (g1.trans g3) (KM.mono g1.old rw)))
theorem wx{x:D}{k:Bool->Prop}(h:Fin (Mi.nS x) k):∃b,x=.bl b/\k b:=by
 cases x with
 |bl b=>exact⟨b,rfl,h⟩
 |_=>exact h.elim
theorem rX{x:D}{k:Int->Prop}(h:Fin (Mi.ou x) k):∃b,x=.int b/\k b:=by
 cases x with
 |int b=>exact⟨b,rfl,h⟩
 |_=>exact h.elim
theorem vV(ha:AE M qP ta a)(hb:AE M qV tb b):AE M qV (HA ta tb) (Mi.ko a b):=λe σ H Hv Q I h=>
 ha e σ H Hv _ I ((aA.mp h).mono λx hx v H1 Hv1 g1 rx=>by
  obtain⟨k,rfl,hk⟩:=wx (aA.mp hx);cases RD.bl rx;refine⟨k,rfl,?_⟩;cases k with
  |true=>exact lS (hb e σ H1 Hv1 Q (I.grow g1) (Fin.mono (Mi.lW hk) λd hd w H2 Hv2 g2 rw=>hd w H2 Hv2 (g1.trans g2) rw))
  |false=>exact lK ((Mi.pw (Mi.lI hk)) _ H1 Hv1 g1 fB))
theorem BZ(ha:AE M qP ta a)(hb:AE M qV tb b):AE M qV (E8 ta tb) (Mi.jE a b):=λe σ H Hv Q I h=>
 ha e σ H Hv _ I ((aA.mp h).mono λx hx v H1 Hv1 g1 rx=>by
  obtain⟨k,rfl,hk⟩:=wx (aA.mp hx);cases RD.bl rx;refine⟨k,rfl,?_⟩;cases k with
  |false=>exact lK (hb e σ H1 Hv1 Q (I.grow g1) (Fin.mono (Mi.lI hk) λd hd w H2 Hv2 g2 rw=>hd w H2 Hv2 (g1.trans g2) rw))
  |true=>exact lS ((Mi.pw (Mi.lW hk)) _ H1 Hv1 g1 fB))
theorem Lw(ha:AE M qP ta a):AE M qV (Jo ta) (Mi.xq a):=λe σ H Hv Q I h=>
 ha e σ H Hv _ I ((aA.mp h).mono λx hx v H1 Hv1 g1 rx=>by
  obtain⟨k,rfl,hk⟩:=wx (aA.mp hx);cases RD.bl rx;exact⟨k,rfl,hk _ H1 Hv1 g1 fB⟩)
theorem uT[KM κ]{tt:TT}{k:Mi.C}(hc:AT M tt k)(ha:AE M κ ta a)(hb:AE M κ tb b):AE M κ (D2 tt ta tb) (Mi.jN k a b):=λe σ H Hv Q I h=>
 hc e σ H Hv _ I ((aA.mp h).mono λx hx H1 Hv1 g1=>by
  cases x with
  |true=>exact lS (ha e σ H1 Hv1 Q (I.grow g1) (Fin.mono (Mi.lW hx) λd hd w H2 Hv2 g2 rw=>hd w H2 Hv2 (g1.trans g2) (KM.mono g1.old rw)))
  |false=>exact lK (hb e σ H1 Hv1 Q (I.grow g1) (Fin.mono (Mi.lI hx) λd hd w H2 Hv2 g2 rw=>hd w H2 Hv2 (g1.trans g2) (KM.mono g1.old rw))))
theorem nW:AO M G5 (Mi.la ae):=λe σ H Hv Q I h=>h H Hv (.refl I.vw)
theorem lG(ha:AE M qP ta a):AO M (GZ ta) (Mi.la (ab a)):=λe σ H Hv Q I h=>
 ha e σ H Hv _ I ((aA.mp h).mono λx hx v H1 Hv1 g1 rx=>by
  obtain⟨i,rfl,hk⟩:=rX (aA.mp hx);exact⟨i,RD.int rx,hk H1 Hv1 g1⟩)
def BS(κ:Kd)(r:V->Option Int->Option Int->Hp->VK->Prop)(f:D->Option Int->Option Int->Rs D):Prop:=∀x lo hi v H Hv Q,Vw H Hv->RD H Hv x v->Fin (f x lo hi) (λd=>∀w H' Hv',br H Hv H' Hv'->κ H H' Hv' (.d d) w->Q w H')->r v lo hi H Q
theorem mK[KM κ]{r:V->Option Int->Option Int->Hp->VK->Prop}{tl th:TO}{lo hi:Option Mi.E}{f:D->Option Int->Option Int->Rs D}(hr:BS κ r f)(ha:AE M qP ta a)(hl:AO M tl (Mi.la lo))(hh:AO M th (Mi.la hi)):AE M κ (Ep r ta tl th) (Mi.d3 f a lo hi):=λe σ H Hv Q I h=>
 ha e σ H Hv _ I ((aA.mp h).mono λx hx v H1 Hv1 g1 rx=>hl e σ H1 Hv1 _ (I.grow g1) ((aA.mp hx).mono λl hl H2 Hv2 g2=>hh e σ H2 Hv2 _ (I.grow (g1.trans g2)) ((aA.mp hl).mono λu hu H3 Hv3 g3=>
  hr x l u v H3 Hv3 Q g3.vw (RB.grow (g2.trans g3) rx) (hu.mono λd hd w H4 Hv4 g4 rw=>hd w H4 Hv4 (g1.trans (g2.trans (g3.trans g4))) (KM.mono (g1.old.trans (g2.old.trans g3.old)) rw)))))
theorem jc(ha:AE M qP ta a):AT M (tB ta) (Mi.cB a):=λe σ H Hv Q I h=>
 ha e σ H Hv _ I ((aA.mp h).mono λx hx v H1 Hv1 g1 rx=>by
  obtain⟨k,rfl,hk⟩:=wx hx;exact⟨k,RD.bl rx,hk H1 Hv1 g1⟩)
theorem cz(ha:AE M qP ta a):AT M (DX ta) (Mi.cB a):=jc ha
theorem nX{K:aU}(ha:AE M qP ta a):AT M (λσ H Q=>ta σ H λx H'=>∃k,vd K x H' k/\Q k H') (Mi.dQ a):=λe σ H Hv Q I h=>
 ha e σ H Hv _ I ((aA.mp h).mono λx hx v H1 Hv1 g1 rx=>by
  cases x with
  |non=>cases RD.non rx;exact⟨false,rfl,hx H1 Hv1 g1⟩
  |bl b=>cases RD.bl rx;exact⟨b,rfl,hx H1 Hv1 g1⟩
  |int i=>cases RD.int rx;exact⟨_,rfl,hx H1 Hv1 g1⟩
  |str y=>
   cases RD.str rx;obtain⟨hz,hq⟩:=Mi.cW hx;exact⟨_,⟨by rw[eK];exact hz,rfl⟩,hq H1 Hv1 g1⟩
  |lst ds=>
   obtain⟨p,xs,rfl,l,r⟩:=RD.lst g1.vw rx;refine⟨!xs.isEmpty,.inl ⟨xs,l.sq,rfl⟩,?_⟩;have:ds.isEmpty=xs.isEmpty:=by cases r<;>rfl
   rw[<- this];exact hx H1 Hv1 g1
  |tup ds=>
   obtain⟨p,xs,rfl,l,_,r⟩:=RD.tup g1.vw rx;refine⟨!xs.isEmpty,.inr (.inl ⟨xs,.inl (.inl l),rfl⟩),?_⟩;have:ds.isEmpty=xs.isEmpty:=by cases r<;>rfl
   rw[<- this];exact hx H1 Hv1 g1)
variable{tt uu:TT}{k l:Mi.C}
theorem lR(ha:AT M tt k)(hb:AT M uu l):AT M (Hq tt uu) (Mi.cE k l):=λe σ H Hv Q I h=>
 ha e σ H Hv _ I ((aA.mp h).mono λx hx H1 Hv1 g1=>by
  cases x with
  |true=>exact lS (hb e σ H1 Hv1 Q (I.grow g1) (Fin.mono (Mi.lW hx) λb hd H2 Hv2 g2=>hd H2 Hv2 (g1.trans g2)))
  |false=>exact lK ((Mi.pw (Mi.lI hx)) H1 Hv1 g1))
theorem qd(ha:AT M tt k)(hb:AT M uu l):AT M (Ji tt uu) (Mi.gA k l):=λe σ H Hv Q I h=>
 ha e σ H Hv _ I ((aA.mp h).mono λx hx H1 Hv1 g1=>by
  cases x with
  |false=>exact lK (hb e σ H1 Hv1 Q (I.grow g1) (Fin.mono (Mi.lI hx) λb hd H2 Hv2 g2=>hd H2 Hv2 (g1.trans g2)))
  |true=>exact lS ((Mi.pw (Mi.lW hx)) H1 Hv1 g1))
theorem ua(ha:AT M tt k):AT M (F9 tt) (Mi.fZ k):=λe σ H Hv Q I h=>
 ha e σ H Hv _ I ((aA.mp h).mono λx hx H1 Hv1 g1=>hx H1 Hv1 g1)
theorem jC:AT M D3 Mi.dc:=λe σ H Hv Q I h=>h H Hv (.refl I.vw)
variable{tr:TA}{as:List Mi.E}{ws:List Mi.EW}
theorem bf:AA M κ iE (Mi.gy []):=λe σ H Hv Q I h=>h [] H Hv (.refl I.vw) .nil
theorem aQ[KM κ][KG κ](ha:AE M κ ta a)(hr:AA M κ tr (Mi.gy as)):AA M κ (fU ta tr) (Mi.gy (a::as)):=λe σ H Hv Q I h=>
 ha e σ H Hv _ I ((aA.mp h).mono λx hx v H1 Hv1 g1 rx=>hr e σ H1 Hv1 _ (I.grow g1) ((aA.mp hx).mono λxs hs vs H2 Hv2 g2 rs=>
  hs (v::vs) H2 Hv2 (g1.trans g2) (.cons (KG.go g2 rx) (rs.imp λ_ _ z=>KM.mono g1.old z))))
theorem bM:AAW M κ iE (Mi.dm []):=λe σ H Hv Q I h=>h [] H Hv (.refl I.vw) .nil
theorem aD[KM κ][KG κ]{w:Mi.EW}(ha:AW M κ ta w)(hr:AAW M κ tr (Mi.dm ws)):AAW M κ (fU ta tr) (Mi.dm (w::ws)):=λe σ H Hv Q I h=>
 ha e σ H Hv _ I ((aA.mp h).mono λx hx v H1 Hv1 g1 rx=>hr e σ H1 Hv1 _ (I.grow g1) ((aA.mp hx).mono λxs hs vs H2 Hv2 g2 rs=>
  hs (v::vs) H2 Hv2 (g1.trans g2) (.cons (KG.go g2 rx) (rs.imp λ_ _ z=>KM.mono g1.old z))))
theorem dO[KM κ]{r:List V->Hp->VK->Prop}{f:List D->Rs D}(hr:BN κ r f)(ha:AA M qP tr (Mi.gy as)):AE M κ (v8 r tr) (Mi.mN f as):=λe σ H Hv Q I h=>
 ha e σ H Hv _ I ((aA.mp h).mono λds hx vs H1 Hv1 g1 rx=>hr ds vs H1 Hv1 Q g1.vw rx (hx.mono λd hd w H3 Hv3 g3 rw=>hd w H3 Hv3 (g1.trans g3) (KM.mono g1.old rw)))
theorem fP(ha:AA M qV tr (Mi.gy as)):AE M qV (wJ tr) (Mi.mN Mi.dTup as):=λe σ H Hv Q I h=>
 ha e σ H Hv _ I ((aA.mp h).mono λds hx vs H1 Hv1 g1 rx=>by
  obtain⟨hz,hq⟩:=Mi.cW hx;refine⟨by rw[<- rx.len,eK];exact hz,λp hp=>?_⟩;have g2:br H1 Hv1 (upd H1 p (.tup vs)) (upd Hv1 p (.tup vs)):=.new g1.vw hp;exact hq _ _ _ (g1.trans g2) (jM.mpr ⟨p,vs,rfl,bN,fL g2.vis rx⟩))
theorem de(ha:AA M qV tr (Mi.gy as)):AE M qN (zM tr) (Mi.mN Mi.bx as):=λe σ H Hv Q I h=>
 ha e σ H Hv _ I ((aA.mp h).mono λds hx vs H1 Hv1 g1 rx=>by
  obtain⟨hz,hq⟩:=Mi.cW hx;refine⟨by rw[<- rx.len,eK];exact hz,λp hp=>?_⟩;have g2:br H1 Hv1 (upd H1 p (.lst vs)) Hv1:=.pj g1.vw trivial hp;exact hq _ _ _ (g1.trans g2) ⟨p,.lst vs,rfl,g1.old.free hp,bN,oC g1.vw hp,rx⟩)
def aG(f:Mi.Fn):Sp:=λvs H Q _=>∃Hv ws,Vw H Hv/\P2 (gE Hv) ws vs/\Fin (f ws) (λw=>∀v H' Hv',br H Hv H' Hv'->qV H H' Hv' w v->Q v H')
def bW(f:Mi.Fn):Sp:=λvs H Q _=>∃Hv ws,Vw H Hv/\P2 (gE Hv) ws vs/\Fin (f ws) (λw=>∀v H' Hv',br H Hv H' Hv'->qN H H' Hv' w v->Q v H')
variable{fn:Mi.Fn}{E:XK}
theorem LR(ha:AAW M qV tr (Mi.dm ws)):AW M qV (oh (aG fn) [] E tr) (Mi.ie fn ws):=λe σ H Hv Q I h=>
 ha e σ H Hv _ I ((aA.mp h).mono λds hx vs H1 Hv1 g1 rx=>by
  rw[qo];exact⟨Hv1,ds,g1.vw,rx,hx.mono λd hd w H3 Hv3 g3 rw=>hd w H3 Hv3 (g1.trans g3) rw⟩)
theorem AJ(ha:AAW M qV tr (Mi.dm ws)):AW M qN (oh (bW fn) [] E tr) (Mi.ie fn ws):=λe σ H Hv Q I h=>
 ha e σ H Hv _ I ((aA.mp h).mono λds hx vs H1 Hv1 g1 rx=>by
  rw[qo];exact⟨Hv1,ds,g1.vw,rx,hx.mono λd hd w H3 Hv3 g3 rw=>hd w H3 Hv3 (g1.trans g3) (KM.mono (κ:=qN) g1.old rw)⟩)
theorem G4{w:W}{k:D->Prop}(h:Fin (Mi.ma w) k):∃d,w=.d d/\k d:=by
 cases w with
 |d x=>exact⟨x,rfl,h⟩
 |_=>exact h.elim
theorem AW.d{w:Mi.EW}(h:AW M κ t w):AE M κ t (λe=>(w e).bind Mi.ma):=λe σ H Hv Q I q=>
 h e σ H Hv Q I ((aA.mp q).mono λw z v H' Hv' g k=>by
  obtain⟨d,rfl,z⟩:=G4 z;exact z v H' Hv' g k)
theorem c9(ha:AAW M qV tr (Mi.dm ws)):AE M qV (oh (aG fn) [] E tr) (Mi.aL fn ws):=(LR ha).d
theorem fo(ha:AAW M qV tr (Mi.dm ws)):AE M qN (oh (bW fn) [] E tr) (Mi.aL fn ws):=(AJ ha).d
def jz(H:Hp):Hp:=λa=>match H a with
 |some (.tbl _ _)=>ae
 |x=>x
theorem kW{H:Hp}{a:ai}{o:HO}(h:H a=ab o)(n:NT o):jz H a=ab o:=by unfold jz;rw[h];cases o<;>first|rfl|exact n.elim
theorem vP{H:Hp}{a:ai}{o:HO}(h:jz H a=ab o):H a=ab o/\NT o:=by
 unfold jz at h;cases q:H a with
 |none=>rw[q]at h;cases h
 |some u=>
  rw[q]at h;cases u with
  |tbl w ps=>cases h
  |_=>cases h;exact⟨rfl,trivial⟩
theorem Vw.all{H:Hp}(k:iL H):Vw H (jz H):=⟨λa o e=>(vP e).1,λa xs e=>kW e trivial,λa o u e=>kW e trivial,k,λa o e=>(vP e).2⟩
theorem RB.OC{H Hv:Hp}(v:Vw H Hv){w:W}{x:V}(h:RB H Hv w x):gE (jz H) w x:=by
 have s:cL Hv (jz H):=λa o e=>kW (v.sub a o e) (v.nv a o e);rcases h with h|⟨a,o,rfl,q,c⟩
 ·exact oS s h
 ·exact tR (kW q c.nt) (c.same s)
def seen(H Hv H':Hp):Hp:=λa=>match Hv a,H a with
 |none,ab _=>ae
 |_,_=>jz H' a
theorem MF{H Hv H':Hp}(v:Vw H Hv)(s:Old H H')(k':iL H'):br H Hv H' (seen H Hv H'):=by
 have key:∀a,(∃o,H a=ab o/\Hv a=ae/\seen H Hv H' a=ae)\/(seen H Hv H' a=jz H' a/\∀o,H a=ab o->Hv a=ab o):=λa=>by
  cases h1:Hv a with
  |none=>
   cases h2:H a with
   |none=>exact .inr ⟨by unfold seen;rw[h1,h2],λo e=>by cases e⟩
   |some o=>exact .inl ⟨o,rfl,rfl,by unfold seen;rw[h1,h2]⟩
  |some o=>
   refine .inr ⟨by unfold seen;rw[h1],λu e=>?_⟩;rw[v.sub a o h1]at e;exact e
 have back:∀b o,H' b=ab o->NT o->(∃u,H b=ab u)->∃u,H b=ab u:=λ_ _ _ _ z=>z;refine⟨s,λb o e=>?_,⟨λb o e=>?_,λb xs e=>?_,λb q u e=>?_,k',λb o e=>?_⟩,λb o e n=>?_⟩
 ·rcases key b with ⟨u,_,z,_⟩|⟨z,_⟩
  ·rw[e]at z;cases z
  ·rw[z];exact kW (s.nt b o (v.sub b o e) (v.nv b o e)) (v.nv b o e)
 ·rcases key b with ⟨u,_,_,z⟩|⟨z,_⟩
  ·rw[e]at z;cases z
  ·rw[z]at e;exact(vP e).1
 ·rcases key b with ⟨u,h1,h2,_⟩|⟨z,_⟩
  ·cases u with
   |tbl w ps=>exact absurd e (s.tab h1 trivial)
   |_=>
    have:=s.nt b _ h1 trivial;rw[e]at this;cases this
    try (rw[v.tup b xs h1]at h2;cases h2)
  ·rw[z];exact kW e trivial
 ·rcases key b with ⟨w,h1,h2,_⟩|⟨z,_⟩
  ·cases w with
   |tbl w ps=>exact absurd e (s.tab h1 trivial)
   |_=>
    have:=s.nt b _ h1 trivial;rw[e]at this;cases this
    try (rw[v.frz b q u h1]at h2;cases h2)
  ·rw[z];exact kW e trivial
 ·rcases key b with ⟨u,_,_,z⟩|⟨z,_⟩
  ·rw[e]at z;cases z
  ·rw[z]at e;exact(vP e).2
 ·rcases key b with ⟨u,h1,h2,z⟩|⟨z,k⟩
  ·exact z
  ·rw[k o e]at n;cases n
end
end A
namespace A
open PySem L2 PyProof.Rows
open Mi (D W Rs Fin aA Out Tg)
variable[Tb:bS]
structure rq(J:It)(P:Hp->Hp->Prop)(ds:List D):Prop where
 go:∀i H Hv,P H Hv->Vw H Hv->i<ds.length->J.go i H
 yld:∀i H Hv x H',P H Hv->Vw H Hv->i<ds.length->J.yld i H x H'->∃Hv' d,br H Hv H' Hv'/\ds[i]? = ab d/\Rep Hv' d x
 stop:∀H Hv,P H Hv->Vw H Hv->J.stop ds.length H
def AH(M:Nat->Bool)(wi:TI)(it:Mi.I):Prop:=∀e σ H Hv (R:It->Hp->Prop),R0 M e σ H Hv->Fin (it e) (λds=>∀(J:It) H' Hv' (P:Hp->Hp->Prop),br H Hv H' Hv'->rq J P ds->P H' Hv'->(∀H1 Hv1 H2 Hv2,P H1 Hv1->br H1 Hv1 H2 Hv2->P H2 Hv2)->R J H')->wi σ H R
def iu(M:Nat->Bool)(wi:TI)(it:Mi.I):Prop:=∀e σ H Hv (R:It->Hp->Prop),R0 M e σ H Hv->Fin (it e) (λds=>∀(J:It) H' Hv' (P:Hp->Hp->Prop),br H Hv H' Hv'->rq J P ds->P H' Hv'->(∀H1 Hv1 H2 Hv2,P H1 Hv1->cL Hv1 Hv2->Vw H2 Hv2->P H2 Hv2)->R J H')->wi σ H R
theorem k5{α:Type}{r:Rs α}{k:α->Prop}(h:Fin r k):∃x,r=.ok x/\k x:=by
 cases r with
 |ok x=>exact⟨x,rfl,h⟩
 |_=>exact h.elim
section
variable{M:Nat->Bool}{ta tb:TE}{a b:Mi.E}{wi:TI}{it:Mi.I}{tr:TA}{as:List Mi.E}
theorem iu.c(h:iu M wi it):AH M wi it:=λe σ H Hv R I q=>h e σ H Hv R I (q.mono λds z J H' Hv' P g o p k=>z J H' Hv' P g o p λH1 Hv1 H2 Hv2 p g'=>k H1 Hv1 H2 Hv2 p g'.vis g'.vw)
theorem oR{J:It}{Ok:Hp->Prop}{xs:List V}(O:J.Of Ok xs){ds:List D}{P:Hp->Hp->Prop}(ok:∀H Hv,P H Hv->Vw H Hv->Ok H)(r:∀H Hv,P H Hv->P2 (Rep Hv) ds xs)(ex:∃H Hv,P H Hv):rq J P ds:=by
 have hl:ds.length=xs.length:=by obtain⟨H,Hv,p⟩:=ex;exact(r H Hv p).len
 refine⟨λi H Hv p v hi=>O.go i H (ok H Hv p v) (by omega),λi H Hv x H' p v hi y=>?_,λH Hv p v=>by rw[hl];exact O.stop H (ok H Hv p v)⟩;obtain⟨rfl,hx⟩:=O.yld i H x H' (ok H Hv p v) (by omega) y;obtain⟨d,hd,rx⟩:=(r H' Hv p).y7 hx;exact⟨Hv,d,.refl v,hd,rx⟩
def Au(K:aU)(tl:TE):TI:=λσ H R=>Gf K tl σ H R\/HE K tl σ H R\/Ih tl σ H R
theorem dI{X:Cx}{tg l:a9}{tl:TE}(hl:PE X l tl):PI X tg l (Au X.K tl):=λah s σ H R I h=>by
 rcases h with h|h|h
 ·exact QZ hl ah s σ H R I h
 ·exact PL hl ah s σ H R I h
 ·exact PM hl ah s σ H R I h
theorem Ho(H:Hp)(z:Str):P2 (Rep H) (z.cps.toList.map λc=>D.str ⟨#[c]⟩) (py z):=by
 unfold py
 induction z.cps.toList with
 |nil=>exact .nil
 |cons c r ih=>exact .cons (ng.mpr rfl) ih
theorem gX{K:aU}(ha:AE M qP ta a):AH M (Au K ta) (Mi.bv a):=λe σ H Hv R I h=>by
 obtain⟨d,hd,h⟩:=k5 (aA.mp h);have run:∀Q:VK,(∀v H' Hv',br H Hv H' Hv'->RD H' Hv' d v->Q v H')->ta σ H Q:=λQ q=>ha e σ H Hv Q I (by rw[hd];exact q);cases d with
 |lst ds=>
  refine .inl (run _ λv H' Hv' g r=>?_);obtain⟨p,xs,rfl,l,r⟩:=RD.lst g.vw r;exact⟨p,rfl,⟨xs,l.sq⟩,h (tM K p) H' Hv' (λH Hv=>Lst H p xs/\P2 (Rep Hv) ds xs) g (oR E7 (λH Hv p v=>p.1.sq) (λH Hv p=>p.2) ⟨H',Hv',l,r⟩) ⟨l,r⟩ λH1 Hv1 H2 Hv2 z g'=>⟨z.1.old g'.old,fL g'.vis z.2⟩⟩
 |tup ds=>
  refine .inr (.inl (run _ λv H' Hv' g r=>?_));obtain⟨p,xs,rfl,l,_,r⟩:=RD.tup g.vw r;exact⟨p,rfl,⟨xs,.inl (.inl l)⟩,h (t6 K p) H' Hv' (λH Hv=>H p=ab (.tup xs)/\P2 (Rep Hv) ds xs) g (oR G3 (λH Hv p v=>.inl (.inl p.1)) (λH Hv p=>p.2) ⟨H',Hv',l,r⟩) ⟨l,r⟩ λH1 Hv1 H2 Hv2 z g'=>⟨g'.old.at z.1,fL g'.vis z.2⟩⟩
 |str z=>
  refine .inr (.inr (run _ λv H' Hv' g r=>?_));exact⟨z,RD.str r,h (pY z) H' Hv' (λ_ _=>True) g (oR FL (λ_ _ _ _=>trivial) (λH Hv _=>Ho Hv z) ⟨H,Hv,trivial⟩) trivial λ_ _ _ _ _ _=>trivial⟩
 |_=>exact h.elim
theorem ja{K:aU}(ha:AE M qV ta a):iu M (Au K ta) (Mi.bv a):=λe σ H Hv R I h=>by
 obtain⟨d,hd,h⟩:=k5 (aA.mp h);have run:∀Q:VK,(∀v H' Hv',br H Hv H' Hv'->Rep Hv' d v->Q v H')->ta σ H Q:=λQ q=>ha e σ H Hv Q I (by rw[hd];exact q);cases d with
 |lst ds=>
  refine .inl (run _ λv H' Hv' g r=>?_);obtain⟨p,xs,rfl,l,r⟩:=iS.mp r;exact⟨p,rfl,⟨xs,(l.same g.vw.sub).sq⟩,h (tM K p) H' Hv' (λH Hv=>Lst Hv p xs/\P2 (Rep Hv) ds xs) g (oR E7 (λH Hv p v=>(p.1.same v.sub).sq) (λH Hv p=>p.2) ⟨H',Hv',l,r⟩) ⟨l,r⟩ λH1 Hv1 H2 Hv2 z s v=>⟨z.1.same s,fL s z.2⟩⟩
 |tup ds=>
  refine .inr (.inl (run _ λv H' Hv' g r=>?_));obtain⟨p,xs,rfl,l,r⟩:=jM.mp r;exact⟨p,rfl,⟨xs,.inl (.inl (g.vw.sub _ _ l))⟩,h (t6 K p) H' Hv' (λH Hv=>Hv p=ab (.tup xs)/\P2 (Rep Hv) ds xs) g (oR G3 (λH Hv p v=>.inl (.inl (v.sub _ _ p.1))) (λH Hv p=>p.2) ⟨H',Hv',l,r⟩) ⟨l,r⟩ λH1 Hv1 H2 Hv2 z s v=>⟨s _ _ z.1,fL s z.2⟩⟩
 |str z=>
  refine .inr (.inr (run _ λv H' Hv' g r=>?_));exact⟨z,ng.mp r,h (pY z) H' Hv' (λ_ _=>True) g (oR FL (λ_ _ _ _=>trivial) (λH Hv _=>Ho Hv z) ⟨H,Hv,trivial⟩) trivial λ_ _ _ _ _ _ _=>trivial⟩
 |_=>exact h.elim
theorem QQ(H:Hp)(lo hi:Int):P2 (Rep H) (Mi.dL lo hi) (pD lo (hi-lo).toNat):=by
 unfold Mi.dL pD
 induction cu (hi-lo).toNat with
 |nil=>exact .nil
 |cons c r ih=>exact .cons (uK.mpr rfl) ih
theorem Eb(lo hi:Int)(H Hv:Hp):rq (nO lo (hi-lo).toNat) (λ_ _=>True) (Mi.dL lo hi):=oR Ny (λ_ _ _ _=>trivial) (λH Hv _=>QQ Hv lo hi) ⟨H,Hv,trivial⟩
theorem kC(ha:AE M qP ta a):iu M (F1 (fU ta iE)) (Mi.iA a):=λe σ H Hv R I h=>
 ha e σ H Hv _ I ((aA.mp h).mono λx hx v H1 Hv1 g1 rx=>by
  obtain⟨j,rfl,hk⟩:=rX (aA.mp hx);obtain⟨hz,hq⟩:=Mi.cW hk;cases RD.int rx;refine⟨j,rfl,hz.1,hz.2,?_⟩;have:=hq (nO 0 (j-0).toNat) H1 Hv1 _ g1 (Eb 0 j H Hv) trivial λ_ _ _ _ _ _ _=>trivial;rw[Int.sub_zero]at this;exact this)
theorem R8(ha:AE M qP ta a)(hb:AE M qP tb b):iu M (Hy (fU ta (fU tb iE))) (Mi.uW a b):=λe σ H Hv R I h=>
 ha e σ H Hv _ I ((aA.mp h).mono λx hx v H1 Hv1 g1 rx=>hb e σ H1 Hv1 _ (I.grow g1) ((aA.mp hx).mono λy hy u H2 Hv2 g2 ry=>by
  obtain⟨i,rfl,hk⟩:=rX (aA.mp hy);obtain⟨j,rfl,hk⟩:=rX (aA.mp hk);obtain⟨hz,hq⟩:=Mi.cW hk;cases RD.int rx;cases RD.int ry;exact⟨i,j,rfl,⟨hz.1.1,hz.1.2,hz.2.1,hz.2.2⟩,hq (nO i (j-i).toNat) H2 Hv2 _ (g1.trans g2) (Eb i j H Hv) trivial λ_ _ _ _ _ _ _=>trivial⟩))
end
def w5:List Nat->ji
 |[]=>sY
 |i::r=>tI (gK i) (w5 r)
def uV:Tg->List Nat
 |.n i=>[i]
 |.t is=>is
def wG(K:aU):Tg->TG
 |.n i=>gK i
 |.t is=>Bv K is.length (w5 is)
section
variable{P:Mi.Env->L2.St->Prop}{H Hv:Hp}
theorem BF:∀{is:List Nat} {ds:List D} {xs:List V} {e:Mi.Env} {σ:L2.St} {Q:L2.St->Hp->Prop},(∀i∈is,∀e σ d v,P e σ->Rep Hv d v->P (e.set i (ab (.d d))) (σ.set i (ab v)))->P e σ->P2 (Rep Hv) ds xs ->
 Fin (Mi.nV is ds e) (λe'=>∀σ',P e' σ'->Q σ' H)->w5 is xs σ H Q
 |[],[],xs,e,σ,Q,cl,p,r,h=>by
  cases r;exact⟨rfl,h σ p⟩
 |[],_::_,xs,e,σ,Q,cl,p,r,h=>h.elim
 |_::_,[],xs,e,σ,Q,cl,p,r,h=>h.elim
 |i::is,d::ds,xs,e,σ,Q,cl,p,r,h=>by
  cases r with
  |cons x t=>exact⟨_,_,rfl,BF (λj hj=>cl j (dR _ hj)) (cl i cJ _ _ _ _ p x) t h⟩
theorem yZ:∀{is:List Nat} {ds:List D} {e:Mi.Env} {k:Mi.Env->Prop},Fin (Mi.nV is ds e) k->ds.length=is.length
 |[],[],_,_,_=>rfl
 |[],_::_,_,_,h=>h.elim
 |_::_,[],_,_,h=>h.elim
 |i::is,d::ds,e,k,h=>by rw[cx,cx,yZ (is:=is) (ds:=ds) (k:=k) h]
theorem Bw{K:aU}(vw:Vw H Hv){tg:Tg}{d:D}{v:V}{e:Mi.Env}{σ:L2.St}{Q:L2.St->Hp->Prop}(cl:∀i∈uV tg,∀e σ d v,P e σ->Rep Hv d v->P (e.set i (ab (.d d))) (σ.set i (ab v)))(p:P e σ)(r:Rep Hv d v)
 (h:Fin (tg.put d e) (λe'=>∀σ',P e' σ'->Q σ' H)):wG K tg v σ H Q:=by
 cases tg with
 |n i=>exact h _ (cl i (by simp[uV]) _ _ _ _ p r)
 |t is=>
  cases d with
  |tup ds=>
   obtain⟨a,xs,e1,l,r⟩:=jM.mp r;exact⟨a,xs,e1,.inl (.inl (vw.sub _ _ l)),by rw[<- r.len];exact yZ h,BF cl p r h⟩
  |_=>exact h.elim
end
theorem kU{α:Type}{l:List α}{i j:Nat}{x y:α}(h:(l.set i x)[j]? = ab y):(i=j/\x=y/\i<l.length)\/(i≠j/\l[j]? = ab y):=by
 rw[Cj]at h;split at h
 ·split at h
  ·exact .inl ⟨‹_›,iq h,by omega⟩
  ·cases h
 ·exact .inr ⟨‹_›,h⟩
theorem R0.set{M:Nat->Bool}{e:Mi.Env}{σ:L2.St}{H Hv:Hp}(I:R0 M e σ H Hv){i:Nat}{w:W}{v:V}(hm:M i=false)(r:gE Hv w v):R0 M (e.set i (ab w)) (σ.set i (ab v)) H Hv:=by
 refine⟨I.vw,by rw[kJ,kJ];exact I.len,λj w' h m=>?_,λj w' h m=>?_⟩
 ·rcases kU h with ⟨rfl,h,l⟩|⟨n,h⟩
  ·cases h;exact⟨v,by rw[lg (by rw[I.len];exact l)],r⟩
  ·obtain⟨u,q,z⟩:=I.nob j w' h m;exact⟨u,by rw[fI n];exact q,z⟩
 ·rcases kU h with ⟨rfl,h,l⟩|⟨n,h⟩
  ·rw[hm]at m;cases m
  ·obtain⟨u,q,z⟩:=I.own j w' h m;exact⟨u,by rw[fI n];exact q,z⟩
theorem R1.set{M:Nat->Bool}{H0 Hv0:Hp}{e:Mi.Env}{σ:L2.St}{H Hv:Hp}(I:R1 M H0 Hv0 e σ H Hv){i:Nat}{w:W}{v:V}(hm:M i=false)(r:gE Hv w v):R1 M H0 Hv0 (e.set i (ab w)) (σ.set i (ab v)) H Hv:=by
 have nj:∀{j:Nat} {w':W},(e.set i (ab w))[j]? = ab (ab w')->M j=true->i≠j/\e[j]? = ab (ab w'):=λ{j w'} h m=>by
  rcases kU h with ⟨rfl,_,_⟩|⟨n,h⟩
  ·rw[hm]at m;cases m
  ·exact⟨n,h⟩
 refine⟨I.toR0.set hm r,I.gw,λj w' a h m q=>?_,λj k w1 w2 a b hjk h1 h2 m1 m2 q1 q2=>?_⟩
 ·obtain⟨n,h⟩:=nj h m;rw[fI n]at q;exact I.fresh j w' a h m q
 ·obtain⟨n1,h1⟩:=nj h1 m1;obtain⟨n2,h2⟩:=nj h2 m2;rw[fI n1]at q1;rw[fI n2]at q2;exact I.sep j k w1 w2 a b hjk h1 h2 m1 m2 q1 q2
def pV(ρ:List (Option Nat))(M:Nat->Bool):Nat->Bool:=λi=>match ρ[i]? with
 |some (ab j)=>M j
 |_=>false
theorem Gu{α:Type}{ρ:List (Option Nat)}{e:List (Option α)}{i:Nat}{w:α}(h:(ρ.map λo=>o.bind λj=>(e[j]?).join)[i]? = ab (ab w)):∃j,ρ[i]? = ab (ab j)/\e[j]? = ab (ab w):=by
 rw[cS]at h;cases hr:ρ[i]? with
 |none=>rw[hr]at h;cases h
 |some o=>
  rw[hr]at h;cases o with
  |none=>cases h
  |some j=>
   refine⟨j,rfl,?_⟩;have h:(e[j]?).join=ab w:=iq h;cases hq:e[j]? with
   |none=>rw[hq]at h;cases h
   | some o' => rw [hq] at h; have h : o' = ab w := h
                rw[h]
theorem GV{α:Type}{ρ:List (Option Nat)}{e:List (Option α)}{i j:Nat}{w:α}(h1:ρ[i]? = ab (ab j))(h2:e[j]? = ab (ab w)):(ρ.map λo=>o.bind λj=>(e[j]?).join)[i]? = ab (ab w):=by rw[cS,h1];show ab ((e[j]?).join)=_;rw[h2];rfl
theorem R0.pick{M:Nat->Bool}{e:Mi.Env}{σ:L2.St}{H Hv:Hp}(I:R0 M e σ H Hv)(ρ:List (Option Nat)):R0 (pV ρ M) (Mi.jw ρ e) (L2.pick ρ σ) H Hv:=by
 refine⟨I.vw,by unfold Mi.jw L2.pick;rw[aO,aO],λi w h m=>?_,λi w h m=>?_⟩
 ·obtain⟨j,h1,h2⟩:=Gu h;have m:M j=false:=by unfold pV at m;rw[h1]at m;exact m
  obtain⟨v,q,z⟩:=I.nob j w h2 m;exact⟨v,GV h1 q,z⟩
 ·obtain⟨j,h1,h2⟩:=Gu h;have m:M j=true:=by unfold pV at m;rw[h1]at m;exact m
  obtain⟨v,q,z⟩:=I.own j w h2 m;exact⟨v,GV h1 q,z⟩
theorem M1{tg:Tg}{c:Mi.C}{a:Mi.E}{e:Mi.Env}{x:D}{r:List D}{k:List D->Prop}(h:Fin (Mi.dv tg c a e (x::r)) k) :
 Fin (tg.put x e) λe1=>Fin (c e1) λb=>if b=true then Fin (a e1) λy=>Fin (Mi.dv tg c a e r) λys=>k (y::ys)else Fin (Mi.dv tg c a e r) k:=by
 refine(aA.mp h).mono λe1 h1=>(aA.mp h1).mono λb h2=>?_;cases b with
 |true=>exact lS ((aA.mp (Mi.lW h2)).mono λy h3=>(aA.mp h3).mono λys h4=>h4)
 |false=>exact lK (Mi.lI h2)
theorem eX{M:Nat->Bool}{K:aU}{ρ:List (Option Nat)}{wi:TI}{it:Mi.I}{tg:Tg}{tc:TT}{c:Mi.C}{te:TE}{a:Mi.E}(hi:AH M wi it)(hm:∀i∈uV tg,pV ρ M i=false)(hc:AT (pV ρ M) tc c)(he:AE (pV ρ M) qV te a) :
 AE M qN (wu wi ρ (wG K tg) tc te) (Mi.b8 ρ it tg c a):=λe σ H Hv Q I h=>
 hi e σ H Hv _ I ((aA.mp h).mono λds h1 J H1 Hv1 P g1 O p1 per=>by
  obtain⟨hz,h1⟩:=Mi.cW h1;have h1:=aA.mp h1;have I1:=I.grow g1;refine⟨λi m acc H'=>m=ds.length-i/\i<=ds.length/\∃Hv',br H1 Hv1 H' Hv'/\P H' Hv'/\acc.length<=i/\∃done,P2 (Rep Hv') done acc/\Fin (Mi.dv tg c a (Mi.jw ρ e) (ds.drop i)) λys=>∀v H2 Hv2,br H Hv H2 Hv2->qN H H2 Hv2 (.d (.lst (done++ys))) v->Q v H2,
   ⟨ds.length,by simp,g9 _,Hv1,.refl g1.vw,p1,bK _,[],.nil,by rw[qp];exact h1.mono λys z=>z⟩,?_⟩
  rintro i m acc H' ⟨rfl,hle,Hv',g,pp,l,done,pd,hf⟩;by_cases hlt:i<ds.length
  ·refine .inr ⟨O.go i H' Hv' pp g.vw hlt,by rw[eK];omega,λacc' H2=>∃Hv2,br H1 Hv1 H2 Hv2/\P H2 Hv2/\acc'.length<=i+1/\∃done,P2 (Rep Hv2) done acc'/\Fin (Mi.dv tg c a (Mi.jw ρ e) (ds.drop (i+1))) λys=>∀v H3 Hv3,br H Hv H3 Hv3->qN H H3 Hv3 (.d (.lst (done++ys))) v->Q v H3,
    λacc' H2 z=>⟨ds.length-(i+1),by omega,rfl,hlt,z⟩,λx H2 y=>?_⟩
   obtain⟨Hv2,d,g2,hd,rx⟩:=O.yld i H' Hv' x H2 pp g.vw hlt y;have g12:=g.trans g2;have hdr:ds.drop i=d::ds.drop (i+1):=by obtain⟨hl,e1⟩:=cv.mp hd;rw[sx hl,e1]
   rw[hdr]at hf;have hf:=M1 hf;refine Bw (P:=λe1 σ1=>R0 (pV ρ M) e1 σ1 H2 Hv2) g2.vw (λj hj e1 σ1 d1 v1 r1 z=>r1.set (hm j hj) z) ((I1.grow g12).pick ρ) rx (hf.mono λe1 hf1 σ1 r1=>?_);refine hc e1 σ1 H2 Hv2 _ r1 (hf1.mono λb hb H3 Hv3 g3=>?_);cases b with
   |true=>
    refine lS (he e1 σ1 H3 Hv3 _ (r1.grow g3) (Fin.mono (by simpa using hb) λy hy v H4 Hv4 g4 ry=>?_));exact⟨Hv4,g12.trans (g3.trans g4),per _ _ _ _ pp (g2.trans (g3.trans g4)),by rw[bU,ft];omega,done++[y],(fL (g2.trans (g3.trans g4)).vis pd).append (.cons ry .nil),hy.mono λys z v H5 Hv5 g5 k=>z v H5 Hv5 g5 (by rw[jV]at k;exact k)⟩
   |false=>exact lK ⟨Hv3,g12.trans g3,per _ _ _ _ pp (g2.trans g3),by omega,done,fL (g2.trans g3).vis pd,by simpa using hb⟩
  ·have hi:i=ds.length:=by omega
   subst hi;refine .inl ⟨O.stop H' Hv' pp g.vw,λp hp=>?_⟩;rw[vm (bK _)]at hf;have g2:br H' Hv' (upd H' p (.lst acc)) Hv':=.pj g.vw trivial hp;refine hf _ _ _ (g1.trans (g.trans g2)) ⟨p,.lst acc,rfl,(g1.old.trans g.old).free hp,bN,oC g.vw hp,?_⟩;show P2 (Rep Hv') (done++[]) acc;rw[qo];exact pd)
def i0(M:Nat->Bool)(κ:Kd)(H0 Hv0:Hp)(D:Ends)(Hv:Hp):Out->Prop
 |.nx e=>∀σ H' Hv',R1 M H0 Hv0 e σ H' Hv'->cL Hv Hv'->D.nx σ H'
 |.rt w=>∀v H' Hv',br H0 Hv0 H' Hv'->κ H0 H' Hv' w v->D.rt v H'
 |.bk e=>∀σ H' Hv',R1 M H0 Hv0 e σ H' Hv'->cL Hv Hv'->D.bk σ H'
 |.ct e=>∀σ H' Hv',R1 M H0 Hv0 e σ H' Hv'->cL Hv Hv'->D.ct σ H'
def AS(M:Nat->Bool)(κ:Kd)(t:TS)(m:Mi.S):Prop:=∀H0 Hv0 e σ H Hv D,R1 M H0 Hv0 e σ H Hv->Fin (m e) (i0 M κ H0 Hv0 D Hv)->t D σ H
section
variable{M:Nat->Bool}{κ:Kd}{t u:TS}{m n:Mi.S}{te:TE}{a b:Mi.E}{w:Mi.EW}
theorem eR:AS M κ wP Mi.bI:=λH0 Hv0 e σ H Hv D I h=>h σ H Hv I (cL.refl _)
theorem Jv:AS M κ Gh Mi.tX:=λH0 Hv0 e σ H Hv D I h=>h
theorem a6(h1:AS M κ t m)(h2:AS M κ u n):AS M κ (nR t u) (Mi.aE m n):=λH0 Hv0 e σ H Hv D I h=>
 h1 H0 Hv0 e σ H Hv _ I ((aA.mp h).mono λo ho=>by
  cases o with
  |nx e'=>exactλσ' H' Hv' I' s=>h2 H0 Hv0 e' σ' H' Hv' D I' (Fin.mono ho λo z=>by
   cases o with
   |nx e2=>exactλσ2 H2 Hv2 I2 s2=>z σ2 H2 Hv2 I2 (s.trans s2)
   |rt w=>exact z
   |bk e2=>exactλσ2 H2 Hv2 I2 s2=>z σ2 H2 Hv2 I2 (s.trans s2)
   |ct e2=>exactλσ2 H2 Hv2 I2 s2=>z σ2 H2 Hv2 I2 (s.trans s2))
  |rt w=>exact ho
  |bk e'=>exact ho
  |ct e'=>exact ho)
theorem j6(ha:AE M qP te a):AS M κ (oU te) (Mi.ej a):=λH0 Hv0 e σ H Hv D I h=>
 ha e σ H Hv _ I.toR0 ((aA.mp h).mono λd hd v H1 Hv1 g1 r=>hd σ H1 Hv1 (I.grow g1) g1.vis)
theorem dr(i:Nat)(hm:M i=false)(ha:AE M qV te a):AS M κ (jg te (gK i)) (Mi.bh i a):=λH0 Hv0 e σ H Hv D I h=>
 ha e σ H Hv _ I.toR0 ((aA.mp h).mono λd hd v H1 Hv1 g1 r=>hd _ H1 Hv1 ((I.grow g1).set hm r) g1.vis)
theorem F6{K:aU}(tg:Tg)(hm:∀i∈uV tg,M i=false)(ha:AE M qV te a):AS M κ (jg te (wG K tg)) (Mi.Aw tg a):=λH0 Hv0 e σ H Hv D I h=>
 ha e σ H Hv _ I.toR0 ((aA.mp h).mono λd hd v H1 Hv1 g1 r=>
  Bw (P:=λe1 σ1=>R1 M H0 Hv0 e1 σ1 H1 Hv1) g1.vw (λj hj e1 σ1 d1 v1 r1 z=>r1.set (hm j hj) z) (I.grow g1) r ((aA.mp hd).mono λe1 h1 σ1 I1=>h1 σ1 H1 Hv1 I1 g1.vis))
theorem fc(ha:AW M qV te w):AS M qV (pB te) (Mi.bw w):=λH0 Hv0 e σ H Hv D I h=>
 ha e σ H Hv _ I.toR0 ((aA.mp h).mono λd hd v H1 Hv1 g1 r=>hd v H1 Hv1 (I.gw.trans g1) r)
theorem jf(ha:AW M qN te w):AS M qN (pB te) (Mi.bw w):=λH0 Hv0 e σ H Hv D I h=>
 ha e σ H Hv _ I.toR0 ((aA.mp h).mono λd hd v H1 Hv1 g1 r=>hd v H1 Hv1 (I.gw.trans g1) (KM.mono (κ:=qN) I.gw.old r))
theorem eI{tt:TT}{c:Mi.C}(hc:AT M tt c)(h1:AS M κ t m)(h2:AS M κ u n):AS M κ (uJ tt t u) (Mi.bu c m n):=λH0 Hv0 e σ H Hv D I h=>
 hc e σ H Hv _ I.toR0 ((aA.mp h).mono λb hb H1 Hv1 g1=>by
  have up:∀o,i0 M κ H0 Hv0 D Hv o->i0 M κ H0 Hv0 D Hv1 o:=λo z=>by
   cases o with
   |nx e2=>exactλσ2 H2 Hv2 I2 s2=>z σ2 H2 Hv2 I2 (g1.vis.trans s2)
   |rt w=>exact z
   |bk e2=>exactλσ2 H2 Hv2 I2 s2=>z σ2 H2 Hv2 I2 (g1.vis.trans s2)
   |ct e2=>exactλσ2 H2 Hv2 I2 s2=>z σ2 H2 Hv2 I2 (g1.vis.trans s2)
  cases b with
  |true=>exact lS (h1 H0 Hv0 e σ H1 Hv1 D (I.grow g1) (Fin.mono (Mi.lW hb) up))
  |false=>exact lK (h2 H0 Hv0 e σ H1 Hv1 D (I.grow g1) (Fin.mono (Mi.lI hb) up)))
theorem i0.up{H0 Hv0 Hv Hv1:Hp}{D:Ends}(s:cL Hv Hv1){o:Out}(z:i0 M κ H0 Hv0 D Hv o):i0 M κ H0 Hv0 D Hv1 o:=by
 cases o with
 |nx e2=>exactλσ2 H2 Hv2 I2 s2=>z σ2 H2 Hv2 I2 (s.trans s2)
 |rt w=>exact z
 |bk e2=>exactλσ2 H2 Hv2 I2 s2=>z σ2 H2 Hv2 I2 (s.trans s2)
 |ct e2=>exactλσ2 H2 Hv2 I2 s2=>z σ2 H2 Hv2 I2 (s.trans s2)
theorem fm{K:aU}{wi:TI}{it:Mi.I}{tg:Tg}(hi:iu M wi it)(hm:∀i∈uV tg,M i=false)(hb:AS M κ t m):AS M κ (Fu wi (wG K tg) t) (Mi.cQ it tg m):=λH0 Hv0 e σ H Hv D I h=>
 hi e σ H Hv _ I.toR0 ((aA.mp h).mono λds h1 J H1 Hv1 P g1 O p1 per=>by
  refine⟨λi k σ' H'=>k=ds.length-i/\i<=ds.length/\∃e' Hv',R1 M H0 Hv0 e' σ' H' Hv'/\P H' Hv'/\Fin (Mi.gI tg m (ds.drop i) e') (i0 M κ H0 Hv0 D Hv'),
   ⟨ds.length,by simp,g9 _,e,Hv1,I.grow g1,p1,by rw[qp];exact h1.mono λo z=>z.up g1.vis⟩,?_⟩
  rintro i k σ' H' ⟨rfl,hle,e',Hv',I',pp,hf⟩;by_cases hlt:i<ds.length
  ·refine .inr ⟨O.go i H' Hv' pp I'.vw hlt,λσ2 H2=>∃e2 Hv2,R1 M H0 Hv0 e2 σ2 H2 Hv2/\P H2 Hv2/\Fin (Mi.gI tg m (ds.drop (i+1)) e2) (i0 M κ H0 Hv0 D Hv2),
    λσ2 H2 z=>⟨ds.length-(i+1),by omega,rfl,hlt,z⟩,λx H2 y=>?_⟩
   obtain⟨Hv2,d,g2,hd,rx⟩:=O.yld i H' Hv' x H2 pp I'.vw hlt y;have I2:=I'.grow g2;have hdr:ds.drop i=d::ds.drop (i+1):=by obtain⟨hl,e1⟩:=cv.mp hd;rw[sx hl,e1]
   rw[hdr]at hf;refine Bw (P:=λe1 σ1=>R1 M H0 Hv0 e1 σ1 H2 Hv2) g2.vw (λj hj e1 σ1 d1 v1 r1 z=>r1.set (hm j hj) z) I2 rx ((aA.mp hf).mono λe1 h1 σ1 I1=>?_);refine hb H0 Hv0 e1 σ1 H2 Hv2 _ I1 ((aA.mp h1).mono λo ho=>?_);cases o with
   |nx e2=>exactλσ2 H3 Hv3 I3 s3=>⟨e2,Hv3,I3,per _ _ _ _ pp (g2.vis.trans s3) I3.vw,Fin.mono ho λo z=>z.up (g2.vis.trans s3)⟩
   |ct e2=>exactλσ2 H3 Hv3 I3 s3=>⟨e2,Hv3,I3,per _ _ _ _ pp (g2.vis.trans s3) I3.vw,Fin.mono ho λo z=>z.up (g2.vis.trans s3)⟩
   |bk e2=>exactλσ2 H3 Hv3 I3 s3=>ho σ2 H3 Hv3 I3 (g2.vis.trans s3)
   |rt w=>exact ho
  ·have hi:i=ds.length:=by omega
   subst hi;refine .inl ⟨O.stop H' Hv' pp I'.vw,?_⟩;rw[vm (bK _)]at hf;exact hf σ' H' Hv' I' (cL.refl _))
theorem HF{tt:TT}{c:Mi.C}(k:Nat)(hc:AT M tt c)(hb:AS M κ t m):AS M κ (DQ tt t) (Mi.jk k c m):=λH0 Hv0 e σ H Hv D I h=>by
 refine⟨λj σ' H'=>∃e' Hv',R1 M H0 Hv0 e' σ' H' Hv'/\Fin (Mi.gJ c m j e') (i0 M κ H0 Hv0 D Hv'),⟨k,e,Hv,I,h⟩,?_⟩;rintro j σ' H' ⟨e',Hv',I',hf⟩;cases j with
 |zero=>exact hf.elim
 |succ j=>
  refine hc e' σ' H' Hv' _ I'.toR0 ((aA.mp hf).mono λb hb' H1 Hv1 g1=>?_);cases b with
  |false=>exact lK ((Mi.pw (Mi.lI hb')) σ' H1 Hv1 (I'.grow g1) g1.vis)
  |true=>
   refine lS ⟨λσ2 H2=>∃e2 Hv2,R1 M H0 Hv0 e2 σ2 H2 Hv2/\Fin (Mi.gJ c m j e2) (i0 M κ H0 Hv0 D Hv2),λσ2 H2 z=>⟨j,CH j,z⟩,?_⟩;refine hb H0 Hv0 e' σ' H1 Hv1 _ (I'.grow g1) ((aA.mp (Mi.lW hb')).mono λo ho=>?_);cases o with
   |nx e2=>exactλσ2 H2 Hv2 I2 s2=>⟨e2,Hv2,I2,Fin.mono ho λo z=>z.up (g1.vis.trans s2)⟩
   |ct e2=>exactλσ2 H2 Hv2 I2 s2=>⟨e2,Hv2,I2,Fin.mono ho λo z=>z.up (g1.vis.trans s2)⟩
   |bk e2=>exactλσ2 H2 Hv2 I2 s2=>ho σ2 H2 Hv2 I2 (g1.vis.trans s2)
   |rt w=>exact ho
end
end A
namespace A
open PySem L2 PyProof.Rows
open Mi (D W Rs Fin aA Out Tg)
variable[Tb:bS]
section
variable{M:Nat->Bool}{κ:Kd}{te:TE}{a b:Mi.E}{w:Mi.EW}{K:aU}
theorem R1.write{H0 Hv0:Hp}{e:Mi.Env}{σ:L2.St}{H Hv:Hp}(I:R1 M H0 Hv0 e σ H Hv){i:Nat}{w w':W}{p:ai}{o:HO}(hm:M i=true)(he:e[i]? = ab (ab w))(hs:σ[i]? = ab (ab (.ref p)))(c:eF Hv w' o):R1 M H0 Hv0 (e.set i (ab w')) σ (upd H p o) Hv:=by
 have hp:∃o',H p=ab o'/\Hv p=ae/\ut o':=by obtain⟨v,q,a,o',e1,q1,n,c'⟩:=I.own i w he hm;rw[hs]at q;cases q;cases e1;exact⟨o',q1,n,c'.HX⟩
 obtain⟨o',hp,hn,hcc⟩:=hp;have h0:H0 p=ae:=I.fresh i w p he hm hs;have vw:Vw (upd H p o) Hv:=by
  refine⟨λb u q=>?_,λb xs q=>?_,λb z u q=>?_,I.vw.cd.put hp hcc c.nw,I.vw.nv⟩
  ·rw[aS (dX q hn)];exact I.vw.sub b u q
  ·by_cases hb:b=p
   ·subst hb;rw[bN]at q;cases q;exact c.cell.elim
   ·rw[aS hb]at q;exact I.vw.tup b xs q
  ·by_cases hb:b=p
   ·subst hb;rw[bN]at q;cases q;exact c.cell.elim
   ·rw[aS hb]at q;exact I.vw.frz b z u q
 have get:∀{j:Nat} {w2:W},(e.set i (ab w'))[j]? = ab (ab w2)->(i=j/\w'=w2)\/(i≠j/\e[j]? = ab (ab w2)):=λ{j w2} h=>by
  rcases kU h with ⟨x,y,_⟩|z
  ·exact .inl ⟨x,iq y⟩
  ·exact .inr z
 have get':∀{j:Nat} {w2:W},(e.set i (ab w'))[j]? = ab (ab w2)->∃w3,e[j]? = ab (ab w3):=λ{j w2} h=>by
  rcases get h with ⟨x,_⟩|⟨_,z⟩
  ·subst x;exact⟨w,he⟩
  ·exact⟨w2,z⟩
 refine⟨⟨vw,by rw[kJ];exact I.len,λj w2 h m=>?_,λj w2 h m=>?_⟩,⟨I.gw.old.put h0 hp,I.gw.vis,vw,I.gw.hid⟩,λj w2 x h m q=>?_,λj k w1 w2 x y hjk h1 h2 m1 m2 q1 q2=>?_⟩
 ·rcases get h with ⟨rfl,_⟩|⟨_,z⟩
  ·rw[hm]at m;cases m
  ·exact I.nob j w2 z m
 ·rcases get h with ⟨rfl,rfl⟩|⟨n,z⟩
  ·exact⟨.ref p,hs,p,o,rfl,bN,hn,c⟩
  ·obtain⟨v,q,x,u,e1,q1,n1,c1⟩:=I.own j w2 z m;subst e1;have:=I.sep i j w w2 p x n he z hm m hs q;exact⟨.ref x,q,x,u,rfl,by rw[aS (fJ this)];exact q1,n1,c1⟩
 ·obtain⟨w3,z⟩:=get' h;exact I.fresh j w3 x z m q
 ·obtain⟨w3,z3⟩:=get' h1;obtain⟨w4,z4⟩:=get' h2;exact I.sep j k w3 w4 x y hjk z3 z4 m1 m2 q1 q2
theorem R1.cell{H0 Hv0:Hp}{e:Mi.Env}{σ:L2.St}{H Hv:Hp}(I:R1 M H0 Hv0 e σ H Hv){i:Nat}{w:W}(hm:M i=true)(he:e[i]? = ab (ab w)):∃p o,σ[i]? = ab (ab (.ref p))/\H p=ab o/\Hv p=ae/\H0 p=ae/\eF Hv w o:=by obtain⟨v,q,p,o,rfl,q1,n,c⟩:=I.own i w he hm;exact⟨p,o,q,q1,n,I.fresh i w p he hm q,c⟩
theorem oT{e:Mi.Env}{i:Nat}{k:List D->Prop}(h:Fin (Mi.getL e i) k):∃ds,e[i]? = ab (ab (.d (.lst ds)))/\k ds:=by
 unfold Mi.getL at h;split at h
 ·exact⟨_,‹_›,h⟩
 ·exact h.elim
theorem R1.list{H0 Hv0:Hp}{e:Mi.Env}{σ:L2.St}{H Hv:Hp}(I:R1 M H0 Hv0 e σ H Hv){i:Nat}{ds:List D}(hm:M i=true)(he:e[i]? = ab (ab (.d (.lst ds)))):∃p xs,σ[i]? = ab (ab (.ref p))/\H p=ab (.lst xs)/\Hv p=ae/\P2 (Rep Hv) ds xs:=by
 obtain⟨p,o,q,q1,n,_,c⟩:=I.cell hm he;cases o with
 |lst xs=>exact⟨p,xs,q,q1,n,c⟩
 |_=>exact c.elim
theorem R1.name{H0 Hv0:Hp}{e:Mi.Env}{σ:L2.St}{H Hv H1 Hv1:Hp}(I:R1 M H0 Hv0 e σ H Hv)(g:br H Hv H1 Hv1){i:Nat}{w:W}{v:V}(hm:M i=true)(k:qN H H1 Hv1 w v):R1 M H0 Hv0 (e.set i (ab w)) (σ.set i (ab v)) H1 Hv1:=by
 obtain⟨p,o,rfl,hf,hp,hn,c⟩:=k;have I1:=I.grow g;have other:∀{j:Nat} {w2:W} {x:ai},e[j]? = ab (ab w2)->M j=true->σ[j]? = ab (ab (.ref x))->x≠p:=λ{j w2 x} h m q=>by
  obtain⟨p',o',q',q1,_⟩:=I.cell m h;rw[q]at q';cases q';exact dX q1 hf
 refine⟨⟨I1.vw,by rw[kJ,kJ];exact I.len,λj w2 h m=>?_,λj w2 h m=>?_⟩,I1.gw,λj w2 x h m q=>?_,λj k w1 w2 x y hjk h1 h2 m1 m2 q1 q2=>?_⟩
 ·rcases kU h with ⟨rfl,_⟩|⟨n,z⟩
  ·rw[hm]at m;cases m
  ·obtain⟨u,q,r⟩:=I1.nob j w2 z m;exact⟨u,by rw[fI n];exact q,r⟩
 ·rcases kU h with ⟨rfl,h,l⟩|⟨n,z⟩
  ·cases h;exact⟨.ref p,by rw[lg (by rw[I.len];exact l)],p,o,rfl,hp,hn,c⟩
  ·obtain⟨u,q,r⟩:=I1.own j w2 z m;exact⟨u,by rw[fI n];exact q,r⟩
 ·rcases kU h with ⟨rfl,h,l⟩|⟨n,z⟩
  ·rw[lg (by rw[I.len];exact l)]at q;cases q;exact I.gw.old.free hf
  ·rw[fI n]at q;exact I.fresh j w2 x z m q
 ·rcases kU h1 with ⟨rfl,_,l⟩|⟨n,z⟩
  ·rw[lg (by rw[I.len];exact l)]at q1;cases q1;rcases kU h2 with ⟨rfl,_,_⟩|⟨n2,z2⟩
   ·exact absurd rfl hjk
   ·rw[fI n2]at q2;exact fJ (other z2 m2 q2)
  ·rw[fI n]at q1;rcases kU h2 with ⟨rfl,_,l⟩|⟨n2,z2⟩
   ·rw[lg (by rw[I.len];exact l)]at q2;cases q2;exact other z m1 q1
   ·rw[fI n2]at q2;exact I.sep j k w1 w2 x y hjk z z2 m1 m2 q1 q2
theorem jK(i:Nat)(hm:M i=true)(ha:AE M qN te a):AS M κ (jg te (gK i)) (Mi.bh i a):=λH0 Hv0 e σ H Hv D I h=>
 ha e σ H Hv _ I.toR0 ((aA.mp h).mono λd hd v H1 Hv1 g1 r=>hd _ H1 Hv1 (I.name g1 hm r) g1.vis)
theorem tu(i:Nat)(hm:M i=true)(ha:AW M qN te w):AS M κ (jg te (gK i)) (Mi.ki i w):=λH0 Hv0 e σ H Hv D I h=>
 ha e σ H Hv _ I.toR0 ((aA.mp h).mono λd hd v H1 Hv1 g1 r=>hd _ H1 Hv1 (I.name g1 hm r) g1.vis)
theorem Az:AW M qN Eh (λ_=>.ok (.dk [])):=λe σ H Hv Q I h p hp=>
 h _ _ Hv (.pj I.vw trivial hp) ⟨p,.dK [],rfl,hp,bN,oC I.vw hp,.nil⟩
theorem RG:AW M qN JA (λ_=>.ok (.dt [])):=λe σ H Hv Q I h p hp=>
 h _ _ Hv (.pj I.vw trivial hp) ⟨p,.dT [],rfl,hp,bN,oC I.vw hp,.nil⟩
theorem m9(i:Nat)(hm:M i=true)(ha:AE M qV te a):AS M κ (oU (pK K "list" zi (fk i) (fU te iE))) (Mi.cH i a):=λH0 Hv0 e σ H Hv D I h=>by
 obtain⟨d,hd,h⟩:=k5 (aA.mp h);obtain⟨ds,he,h⟩:=oT (aA.mp h);obtain⟨hz,h⟩:=Mi.cW h;obtain⟨p,xs,q,q1,n,c⟩:=I.list hm he;refine⟨.ref p,q,.inl ⟨rfl,xs,.inl (.inl q1)⟩,ha e σ H Hv _ I.toR0 (by
  rw[hd];intro v H1 Hv1 g1 r;have I1:=I.grow g1;refine⟨p,xs,v,rfl,rfl,g1.old.at q1,by rw[<- c.len,eK];exact hz,?_⟩;exact h σ _ Hv1 (I1.write hm he q (show eF Hv1 (.d (.lst (ds++[d]))) (.lst (xs++[v]))from(fL g1.vis c).append (.cons r .nil))) g1.vis)⟩
theorem Rr(i:Nat)(hm:M i=true):AS M κ (oU (xr K "list" IF (fk i))) (Mi.z0 i):=λH0 Hv0 e σ H Hv D I h=>by
 obtain⟨ds,he,h⟩:=oT (aA.mp h);obtain⟨p,xs,q,q1,n,c⟩:=I.list hm he;exact⟨.ref p,q,.inl ⟨rfl,xs,.inl (.inl q1)⟩,p,xs,rfl,rfl,q1,h σ _ Hv (I.write hm he q (show eF Hv (.d (.lst ds.reverse)) (.lst xs.reverse)from c.rev)) (cL.refl _)⟩
theorem iP{α:Type}{o:Option α}{k:α->Prop}(h:Fin (Mi.c6 o) k):∃x,o=ab x/\k x:=by
 cases o with
 |some x=>exact⟨x,rfl,h⟩
 |none=>exact h.elim
theorem LG(x y:Nat)(hx:M x=false)(hy:M y=true):AS M κ (jg (xr K "list" Go (fk y)) (gK x)) (Mi.tU x y):=λH0 Hv0 e σ H Hv D I h=>by
 obtain⟨ds,he,h⟩:=oT (aA.mp h);obtain⟨d,hd,h⟩:=iP (aA.mp h);obtain⟨p,xs,q,q1,n,c⟩:=I.list hy he;rw[c.len]at hd;obtain⟨v,hv,r⟩:=c.getL hd;exact⟨.ref p,q,.inl ⟨rfl,xs,.inl (.inl q1)⟩,p,xs,v,rfl,rfl,q1,hv,h _ _ Hv ((I.write hy he q (show eF Hv (.d (.lst ds.dropLast)) (.lst xs.dropLast)from c.dropLast)).set hx r) (cL.refl _)⟩
theorem Fa{n:Nat}{i:Int}{k:Nat}(h:Mi.gP n i=ab k):seqIndex? i n=ab k:=by
 unfold Mi.gP at h;split at h
 ·split at h
  ·rw[seqIndex_of (by omega) (by omega)];exact h
  ·cases h
 ·split at h
  ·rw[seqIndex_neg (by omega) (by omega)];exact h
  ·cases h
theorem FF{ds:List D}{i:Int}{k:D×List D->Prop}(h:Fin (Mi.qb ds i) k):-(2 ^ 63)<=i/\i<2 ^ 63/\∃j d,Mi.gP ds.length i=ab j/\ds[j]? = ab d/\k (d,ds.eraseIdx j):=by obtain⟨⟨h1,h2⟩,h⟩:=Mi.cW h;obtain⟨j,hj,h⟩:=iP (aA.mp h);obtain⟨d,hd,h⟩:=iP (aA.mp h);exact⟨h1,h2,j,d,hj,hd,h⟩
theorem Sk(x y:Nat)(hx:M x=false)(hy:M y=true)(ha:AE M qP te a):AS M κ (jg (pK K "list" zd (fk y) (fU te iE)) (gK x)) (Mi.nZ x y a):=λH0 Hv0 e σ H Hv D I h=>by
 obtain⟨z,hz,h⟩:=k5 (aA.mp h);obtain⟨i,rfl,h⟩:=rX (aA.mp h);obtain⟨ds,he,h⟩:=oT (aA.mp h);obtain⟨h1,h2,j,d,hj,hd,h⟩:=FF (aA.mp h);obtain⟨p,xs,q,q1,n,c⟩:=I.list hy he;refine⟨.ref p,q,.inl ⟨rfl,xs,.inl (.inl q1)⟩,ha e σ H Hv _ I.toR0 (by
  rw[hz];intro v H1 Hv1 g1 r;have I1:=I.grow g1;cases RD.int r;obtain⟨u,hu,ru⟩:=c.getL hd;rw[c.len]at hj;refine⟨p,xs,i,j,u,rfl,rfl,g1.old.at q1,h1,h2,Fa hj,hu,?_⟩;exact h _ _ Hv1 ((I1.write hy he q (show eF Hv1 (.d (.lst (ds.eraseIdx j))) (.lst (xs.eraseIdx j))from(fL g1.vis c).erase j)).set hx (iw g1.vis ru)) g1.vis)⟩
theorem N9(x y:Nat)(hxy:x≠y)(hx:M x=true)(hy:M y=true)(ha:AE M qP te a):AS M κ (oU (pK K "list" zi (fk x) (fU (pK K "list" zd (fk y) (fU te iE)) iE))) (Mi.xJ x y a):=λH0 Hv0 e σ H Hv D I h=>by
 obtain⟨z,hz,h⟩:=k5 (aA.mp h);obtain⟨i,rfl,h⟩:=rX (aA.mp h);obtain⟨ds,he,h⟩:=oT (aA.mp h);obtain⟨h1,h2,j,d,hj,hd,h⟩:=FF (aA.mp h);obtain⟨es,he2,h⟩:=oT (aA.mp h);obtain⟨hsz,h⟩:=Mi.cW h;have Kr:e[x]? = ab (ab (.d (.lst es))):=by
  have he2:(e.set y (ab (.d (.lst (ds.eraseIdx j)))))[x]? = _:=he2
  rwa [fI (fJ hxy)]at he2
 obtain⟨p,xs,q,q1,n,c⟩:=I.list hy he;obtain⟨p',xs',q',q1',n',c'⟩:=I.list hx Kr;have hpp:p'≠p:=I.sep x y _ _ p' p hxy Kr he hx hy q' q;refine⟨.ref p',q',.inl ⟨rfl,xs',.inl (.inl q1')⟩,.ref p,q,.inl ⟨rfl,xs,.inl (.inl q1)⟩,ha e σ H Hv _ I.toR0 (by
  rw[hz];intro v H1 Hv1 g1 r;have I1:=I.grow g1;cases RD.int r;obtain⟨u,hu,ru⟩:=c.getL hd;rw[c.len]at hj;refine⟨p,xs,i,j,u,rfl,rfl,g1.old.at q1,h1,h2,Fa hj,hu,?_⟩;have I2:=I1.write hy he q (show eF Hv1 (.d (.lst (ds.eraseIdx j))) (.lst (xs.eraseIdx j))from(fL g1.vis c).erase j);refine⟨p',xs',u,rfl,rfl,by rw[aS hpp];exact g1.old.at q1',by rw[<- c'.len,eK];exact hsz,?_⟩;exact h σ _ Hv1 (I2.write hx he2 q' (show eF Hv1 (.d (.lst (es++[d]))) (.lst (xs'++[u]))from(fL g1.vis c').append (.cons (iw g1.vis ru) .nil))) g1.vis)⟩
theorem nQ(i:Nat)(hm:M i=true):AS M qN (pB (fk i)) (Mi.bw (Mi.wV i)):=λH0 Hv0 e σ H Hv D I h=>by
 obtain⟨w,he,h⟩:=qa (aA.mp h);obtain⟨p,o,q,q1,n,h0,c⟩:=I.cell hm he;exact⟨.ref p,q,h _ H Hv I.gw ⟨p,o,rfl,h0,q1,n,c⟩⟩
theorem R1.O1{H0 Hv0:Hp}{e:Mi.Env}{σ:L2.St}{H Hv:Hp}(I:R1 M H0 Hv0 e σ H Hv){y:Nat}{w:W}(hy:M y=true)(he:e[y]? = ab (ab w)):∃p Hv',σ[y]? = ab (ab (.ref p))/\R1 M H0 Hv0 (e.set y ae) σ H Hv'/\cL Hv Hv'/\gE Hv' w (.ref p):=by
 obtain⟨p,o,q,q1,n,h0,c⟩:=I.cell hy he;obtain⟨vw,s⟩:=I.vw.show q1 n c.nt;have nj:∀{j:Nat} {w':W},(e.set y ae)[j]? = ab (ab w')->y≠j/\e[j]? = ab (ab w'):=λ{j w'} h=>by
  rcases kU h with ⟨_,h,_⟩|z
  ·cases h
  ·exact z
 refine⟨p,upd Hv p o,q,⟨⟨vw,by rw[kJ];exact I.len,λj w' h m=>?_,λj w' h m=>?_⟩,⟨I.gw.old,I.gw.vis.trans s,vw,λb u z1 z2=>?_⟩,λj w' x h m z=>?_,λj k w1 w2 x z hjk h1 h2 m1 m2 z1 z2=>?_⟩,s,tR bN (c.same s)⟩
 ·obtain⟨_,h⟩:=nj h;obtain⟨v,z,r⟩:=I.nob j w' h m;exact⟨v,z,oS s r⟩
 ·obtain⟨hne,h⟩:=nj h;obtain⟨v,z,x,u,e1,q2,n2,c2⟩:=I.own j w' h m;subst e1;have:=I.sep y j w w' p x hne he h hy m q z;exact⟨.ref x,z,x,u,rfl,q2,by rw[aS (fJ this)];exact n2,c2.same s⟩
 ·rw[aS (dX z1 h0)];exact I.gw.hid b u z1 z2
 ·exact I.fresh j w' x (nj h).2 m z
 ·exact I.sep j k w1 w2 x z hjk (nj h1).2 (nj h2).2 m1 m2 z1 z2
theorem By{κ':Type}[DecidableEq κ']{H:Hp}{k:κ'}{ao:List (κ'×D)}{kv:List (κ'×V)}(h:fG H ao kv):match Mi.fM ao k with
 |some d=>∃v,iO kv k=ab v/\Rep H d v
 |none=>iO kv k=ae:=by
 unfold Mi.fM iO
 induction h with
 |nil=>rfl
 | @cons p q l m hpq t ih=>
  rw[jW,jW,hpq.1];by_cases hk:q.1=k
  ·rw[bP hk];exact⟨q.2,rfl,hpq.2⟩
  ·rw[cD hk];exact ih
theorem ET{κ':Type}[DecidableEq κ']{H:Hp}{k:κ'}{d:D}{v:V}(r:Rep H d v){ao:List (κ'×D)}{kv:List (κ'×V)}(h:fG H ao kv):fG H (Mi.putK k d ao) (L2.putK kv k v):=by
 have e:(ao.any λx=>decide (x.1=k))=(kv.any λx=>decide (x.1=k)):=by
  induction h with
  |nil=>rfl
  | @cons p q l m hpq t ih=>rw[kK,kK,ih,hpq.1]
 unfold Mi.putK L2.putK;rw[e];split
 ·rename_i hh;clear hh e
  induction h with
  |nil=>exact .nil
  | @cons p q l m hpq t ih=>
   rw[cP,cP];refine .cons ?_ ih
   ·by_cases hk:q.1=k
    ·rw[bc hk,bc (hpq.1.trans hk)];exact⟨hpq.1,r⟩
    ·rw[a8 hk,a8 (λz=>hk (hpq.1.symm.trans z))];exact hpq
 ·exact P2.append h (.cons ⟨rfl,r⟩ .nil)
end
end A
namespace A
open PySem L2 PyProof.Rows
open Mi (D W Rs Fin aA Out Tg)
variable[Tb:bS]
section
variable{X:Cx}{K:aU}
def Sc:R2:=λx y H Q=>∃i j,x=.str i/\y=.str j/\i.length+j.length<=sizeLine/\Q (.str (i++j)) H
theorem xC{ah:List (ai×Obj)}{σ:L2.St}{H:Hp}{s:aB}{a:ai}{xs:List V}(I:Inv X ah σ H s)(h:Lst H a xs):∃(av:List aj) (n:Nat),Vals xs av/\xs.length<=sizeLine/\s.heap.get? a=ab { cls:=.type "list", data:=.seq av.toArray n }:=by
 rcases h with h|⟨o,h⟩
 ·obtain⟨z,av,n,r,e⟩:=I.hok a _ h;exact⟨av,n,r,z,e⟩
 ·obtain⟨_,z,av,n,r,e⟩:=I.hok a _ h;exact⟨av,n,r,z,e⟩
def HI:R2:=λx y H Q=>∃l b xs zs,x=.ref l/\y=.ref b/\Lst H l xs/\Lst H b zs/\xs.length+zs.length<=sizeLine/\∀p,H p=ae->Q (.ref p) (upd H p (.lst (xs++zs)))
theorem LN:cY X (binaryOp .Add) HI:=by
 intro ah s σ H x y v u Q I rx ry h;obtain⟨l,b,xs,zs,rfl,rfl,hH,hB,hz,q⟩:=h;cases rx;cases ry;obtain⟨av,n,r,z,e⟩:=xC I hH;obtain⟨its2,n2,r2,z2,e2⟩:=xC I hB;have hl:=r.length;have hl2:=r2.length;refine PySem.P.add_list e e2 ?_ (by rw[dH,dH];omega);have ea:av.toArray++its2.toArray=(av++its2).toArray:=by simp
 rw[ea];exact⟨.ref _,_,I.MZ (t':=s.toks) (r.append r2) (by rw[bU];omega),rfl,q _ I.fresh⟩
def G9:R2:=λx y H Q=>lH (λi j=>.int (i+j)) x y H Q\/Sc x y H Q\/HI x y H Q
theorem dj:cY X (binaryOp .Add) G9:=Qy.or (cY.or Pq LN)
theorem Hu{H Hv:Hp}(vw:Vw H Hv){ds:List D}{xs:List V}(r:P2 (Rep Hv) ds xs){p:ai}(hp:H p=ae):br H Hv (upd H p (.lst xs)) Hv/\qN H (upd H p (.lst xs)) Hv (.d (.lst ds)) (.ref p):=⟨.pj vw trivial hp,p,.lst xs,rfl,hp,bN,oC vw hp,r⟩
theorem yY{H Hv:Hp}(vw:Vw H Hv){ds:List D}{xs:List V}(r:P2 (Rep Hv) ds xs){p:ai}(hp:H p=ae):br H Hv (upd H p (.lst xs)) (upd Hv p (.lst xs))/\qV H (upd H p (.lst xs)) (upd Hv p (.lst xs)) (.d (.lst ds)) (.ref p):=by have g:br H Hv (upd H p (.lst xs)) (upd Hv p (.lst xs)):=.new vw hp;exact⟨g,iS.mpr ⟨p,xs,rfl,.inl bN,fL g.vis r⟩⟩
theorem wM{H Hv:Hp}(vw:Vw H Hv){ds:List D}{xs:List V}(r:P2 (Rep Hv) ds xs){p:ai}(hp:H p=ae):br H Hv (upd H p (.tup xs)) (upd Hv p (.tup xs))/\qV H (upd H p (.tup xs)) (upd Hv p (.tup xs)) (.d (.tup ds)) (.ref p):=by have g:br H Hv (upd H p (.tup xs)) (upd Hv p (.tup xs)):=.new vw hp;exact⟨g,jM.mpr ⟨p,xs,rfl,bN,fL g.vis r⟩⟩
theorem dh:B2 qV G9 Mi.ba:=λx y v u H Hv Q vw rx ry h=>by
 cases x with
 | int i=>cases y with
  |int j=>cases RD.int rx;cases RD.int ry;exact .inl ⟨i,j,rfl,rfl,h _ H Hv (.refl vw) km⟩
  |_=>exact h.elim
 | str i=>cases y with
  |str j=>
   cases RD.str rx;cases RD.str ry;obtain⟨hz,h⟩:=Mi.cW h;exact .inr (.inl ⟨i,j,rfl,rfl,by rw[eK];exact hz,h _ H Hv (.refl vw) u4⟩)
  |_=>exact h.elim
 | lst a=>cases y with
  |lst b=>
   obtain⟨hz,h⟩:=Mi.cW h;obtain⟨p,xs,rfl,l1,r1⟩:=RD.lst vw rx;obtain⟨q,ys,rfl,l2,r2⟩:=RD.lst vw ry;refine .inr (.inr ⟨p,q,xs,ys,rfl,rfl,l1,l2,by rw[<- r1.len,<- r2.len,eK];exact hz,λa ha=>?_⟩);obtain⟨g,k⟩:=yY vw (r1.append r2) ha;exact h _ _ _ g k
  |_=>exact h.elim
 |_=>cases y<;>exact h.elim
theorem uI:B2 qV (lH λi j=>.int (i-j)) Mi.gF:=λx y v u H Hv Q vw rx ry h=>by
 cases x with
 | int i=>cases y with
  |int j=>cases RD.int rx;cases RD.int ry;exact⟨i,j,rfl,rfl,h _ H Hv (.refl vw) km⟩
  |_=>exact h.elim
 |_=>cases y<;>exact h.elim
theorem iH:B2 qV (rI wt λi j=>.int (i*j)) Mi.cI:=λx y v u H Hv Q vw rx ry h=>by
 cases x with
 | int i=>cases y with
  |int j=>cases RD.int rx;cases RD.int ry;obtain⟨hz,h⟩:=Mi.cW h;exact⟨i,j,rfl,rfl,hz,h _ H Hv (.refl vw) km⟩
  |_=>exact h.elim
 |_=>cases y<;>exact h.elim
theorem lF:B2 qV (rI D5 λi j=>.int (i/j)) Mi.dP:=λx y v u H Hv Q vw rx ry h=>by
 cases x with
 | int i=>cases y with
  |int j=>cases RD.int rx;cases RD.int ry;obtain⟨hz,h⟩:=Mi.cW h;exact⟨i,j,rfl,rfl,hz,h _ H Hv (.refl vw) km⟩
  |_=>exact h.elim
 |_=>cases y<;>exact h.elim
theorem gG:B2 qV (rI (λ_ j=>0<j) λi j=>.int (i%j)) Mi.bY:=λx y v u H Hv Q vw rx ry h=>by
 cases x with
 | int i=>cases y with
  |int j=>cases RD.int rx;cases RD.int ry;obtain⟨hz,h⟩:=Mi.cW h;exact⟨i,j,rfl,rfl,hz,h _ H Hv (.refl vw) km⟩
  |_=>exact h.elim
 |_=>cases y<;>exact h.elim
theorem xK:B1 qV (rU λi=>.int (-i)) Mi.gW:=λx v H Hv Q vw rx h=>by
 cases x with
 |int i=>cases RD.int rx;exact⟨i,rfl,h _ H Hv (.refl vw) km⟩
 |_=>exact h.elim
def Fk:R2:=λx y H Q=>lH (λi j=>.bl (decide (i<j))) x y H Q\/∃i j,x=.str i/\y=.str j/\Q (.bl (decide (i.cps.toList<j.cps.toList))) H
theorem tT:cY X (compareOp .Lt) Fk:=Pw.or O9
def Hc:R2:=λx y H Q=>lH (λi j=>.bl (decide (j<i))) x y H Q\/∃i j,x=.str i/\y=.str j/\Q (.bl (decide (j.cps.toList<i.cps.toList))) H
theorem yT:cY X (compareOp .Gt) Hc:=Pc.or Q4
theorem ug:B2 qV Fk Mi.gt:=λx y v u H Hv Q vw rx ry h=>by
 cases x with
 | int i=>cases y with
  |int j=>cases RD.int rx;cases RD.int ry;exact .inl ⟨i,j,rfl,rfl,h _ H Hv (.refl vw) fB⟩
  |_=>exact h.elim
 | str i=>cases y with
  |str j=>cases RD.str rx;cases RD.str ry;exact .inr ⟨i,j,rfl,rfl,h _ H Hv (.refl vw) fB⟩
  |_=>exact h.elim
 |_=>cases y<;>exact h.elim
theorem zH:B2 qV Hc Mi.l0:=λx y v u H Hv Q vw rx ry h=>by
 cases x with
 | int i=>cases y with
  |int j=>cases RD.int rx;cases RD.int ry;exact .inl ⟨i,j,rfl,rfl,h _ H Hv (.refl vw) fB⟩
  |_=>exact h.elim
 | str i=>cases y with
  |str j=>cases RD.str rx;cases RD.str ry;exact .inr ⟨i,j,rfl,rfl,h _ H Hv (.refl vw) fB⟩
  |_=>exact h.elim
 |_=>cases y<;>exact h.elim
def wC(K:aU)(neg:Bool):R2:=λx y H Q=>∃d e,L2.Rep K H d x/\L2.Rep K H e y/\d.dep<=16/\Q (.bl (if neg then !Mi.bR d e else Mi.bR d e)) H
theorem jy:B2 qV (wC K false) Mi.cy:=λx y v u H Hv Q vw rx ry h=>by
 obtain⟨hz,h⟩:=Mi.cW h;exact⟨x,y,mW K (RD.full vw rx),mW K (RD.full vw ry),hz,h _ H Hv (.refl vw) fB⟩
theorem tV:B2 qV (wC K true) Mi.ib:=λx y v u H Hv Q vw rx ry h=>by
 obtain⟨hz,h⟩:=Mi.cW h;exact⟨x,y,mW K (RD.full vw rx),mW K (RD.full vw ry),hz,h _ H Hv (.refl vw) fB⟩
def HZ(K:aU):R2:=λx y H Q=>xo K false x y H Q\/FU false x y H Q
theorem gf(hu:X.A.units+64<cLine):cY X (compareOp .In) (HZ X.K):=(O6 hu).or RN
theorem wf{H:Hp}{ds:List D}{xs:List V}(h:P2 (Rep H) ds xs):L2.bD K H ds xs:=ww K (pb.mpr h)
theorem gp:B2 qV (HZ K) Mi.bz:=λx y v u H Hv Q vw rx ry h=>by
 cases y with
 |lst ds=>
  obtain⟨hz,h⟩:=Mi.cW h;obtain⟨p,xs,rfl,l1,r1⟩:=RD.lst vw ry;exact .inl ⟨p,xs,x,ds,rfl,.inl l1.sq,mW K (RD.full vw rx),wf (fL vw.sub r1),hz,h _ H Hv (.refl vw) fB⟩
 |tup ds=>
  obtain⟨hz,h⟩:=Mi.cW h;obtain⟨p,xs,rfl,l1,_,r1⟩:=RD.tup vw ry;exact .inl ⟨p,xs,x,ds,rfl,.inr (.inl (.inl l1)),mW K (RD.full vw rx),wf (fL vw.sub r1),hz,h _ H Hv (.refl vw) fB⟩
 | str z=>cases x with
  |str c=>
   obtain⟨hz,h⟩:=Mi.cW h;cases RD.str rx;cases RD.str ry;obtain⟨⟨l⟩⟩:=c
   match l,hz with
   |[c],_=>exact .inr ⟨c,z,rfl,rfl,h _ H Hv (.refl vw) fB⟩
  |_=>exact h.elim
 |_=>exact h.elim
theorem i8:B2 qV (xo K true) Mi.cF:=λx y v u H Hv Q vw rx ry h=>by
 cases y with
 |lst ds=>
  obtain⟨hz,h⟩:=Mi.cW h;obtain⟨p,xs,rfl,l1,r1⟩:=RD.lst vw ry;exact⟨p,xs,x,ds,rfl,.inl l1.sq,mW K (RD.full vw rx),wf (fL vw.sub r1),hz,h _ H Hv (.refl vw) fB⟩
 |tup ds=>
  obtain⟨hz,h⟩:=Mi.cW h;obtain⟨p,xs,rfl,l1,_,r1⟩:=RD.tup vw ry;exact⟨p,xs,x,ds,rfl,.inr (.inl (.inl l1)),mW K (RD.full vw rx),wf (fL vw.sub r1),hz,h _ H Hv (.refl vw) fB⟩
 |_=>exact h.elim
theorem QB{α:Type}(xs:List α)(i:Int):Mi.dM xs i=L2.dM xs i:=rfl
theorem IH{α β:Type}{F:α->β->Prop}{l:List α}{m:List β}(h:P2 F l m){i:Int}{a:α}(e:Mi.dM l i=ab a):∃b,L2.dM m i=ab b/\F a b:=by
 unfold Mi.dM at e;cases hj:Mi.gP l.length i with
 |none=>rw[hj]at e;cases e
 |some j=>
  rw[hj]at e;have e:l[j]? = ab a:=e;obtain⟨b,hb,r⟩:=h.getL e;refine⟨b,?_,r⟩;rw[<- QB];unfold Mi.dM;rw[<- h.len,hj];exact hb
theorem bA:B2 qV (wq K) Mi.az:=λx y v u H Hv Q vw rx ry h=>by
 cases y with
 |int i=>
  cases RD.int ry;cases x with
  |lst ds=>
   obtain⟨d,e,h⟩:=iP h;obtain⟨p,xs,rfl,l1,r1⟩:=RD.lst vw rx;obtain⟨z,ez,rz⟩:=IH r1 e;exact .inl ⟨p,xs,i,z,rfl,rfl,l1.sq,ez,h z H Hv (.refl vw) rz⟩
  |tup ds=>
   obtain⟨d,e,h⟩:=iP h;obtain⟨p,xs,rfl,l1,_,r1⟩:=RD.tup vw rx;obtain⟨z,ez,rz⟩:=IH r1 e;exact .inr (.inl ⟨p,xs,i,z,rfl,rfl,.inl (.inl l1),ez,h z H Hv (.refl vw) rz⟩)
  |str z=>
   cases RD.str rx;obtain⟨hz,h⟩:=Mi.cW h;obtain⟨c,e,h⟩:=iP (aA.mp h);exact .inr (.inr ⟨z,i,c,rfl,rfl,by rw[eK];exact hz,e,h _ H Hv (.refl vw) u4⟩)
  |_=>exact h.elim
 |_=>cases x<;>exact h.elim
theorem Em{F:D->V->Prop}{l:List D}{m:List V}(h:P2 F l m)(lo hi:Option Int):P2 F (Mi.iK l lo hi) (L2.qD m lo hi):=by unfold Mi.iK L2.qD;rw[h.len];exact(h.drop _).take _
def EO(K:aU):V->Option Int->Option Int->Hp->VK->Prop:=λx lo hi H Q=>AU K x lo hi H Q\/Jq x lo hi H Q
theorem nY:l9 X (EO X.K):=HR.or QR
theorem PH(z:Str)(lo hi:Option Int):rP z lo hi=Mi.oA z lo hi:=by
 unfold rP Mi.oA Mi.iK;have:z.cps.toList.length=z.length:=by simp[qx]
 rw[this];rfl
theorem nH:BS qV (EO K) Mi.fW:=λx lo hi v H Hv Q vw rx h=>by
 cases x with
 |lst ds=>
  obtain⟨p,xs,rfl,l1,r1⟩:=RD.lst vw rx;refine .inl ⟨p,xs,rfl,l1.sq,λa ha=>?_⟩;obtain⟨g,k⟩:=yY vw (Em r1 lo hi) ha;exact h _ _ _ g k
 |str z=>
  cases RD.str rx;obtain⟨hz,h⟩:=Mi.cW h;exact .inr ⟨z,rfl,by rw[eK];exact hz,h _ H Hv (.refl vw) (by rw[PH];exact u4)⟩
 |_=>exact h.elim
theorem m8{F:D->V->Prop}{d:D}{vs:List V}(h:P2 F [d] vs):∃v,vs=[v]/\F d v:=by
 cases h with
 |cons r t=>cases t;exact⟨_,rfl,r⟩
theorem Hf{F:D->V->Prop}{d e:D}{vs:List V}(h:P2 F [d,e] vs):∃v u,vs=[v,u]/\F d v/\F e u:=by
 cases h with
 | cons r t=>cases t with
  |cons r' t=>cases t;exact⟨_,_,rfl,r,r'⟩
def Hl(K:aU):List V->Hp->VK->Prop:=λxs H Q=>∃x n,xs=[x]/\GA K x H n/\Q (.int n) H
theorem lY:ia X (.builtin "len") (Hl X.K):=QA
theorem fT:BN qV (Hl K) Mi.d6:=λds vs H Hv Q vw r h=>by
 match ds,r,h with
 |[.lst ds],r,h=>
  obtain⟨v,ev,rr⟩:=m8 r;subst ev;replace r:=rr;obtain⟨p,xs,rfl,l1,r1⟩:=RD.lst vw r;refine⟨_,xs.length,rfl,.inl ⟨xs,l1.sq,rfl⟩,?_⟩;rw[<- r1.len];exact h _ H Hv (.refl vw) km
 |[.tup ds],r,h=>
  obtain⟨v,ev,rr⟩:=m8 r;subst ev;replace r:=rr;obtain⟨p,xs,rfl,l1,_,r1⟩:=RD.tup vw r;refine⟨_,xs.length,rfl,.inr ⟨xs,.inl (.inl l1),rfl⟩,?_⟩;rw[<- r1.len];exact h _ H Hv (.refl vw) km
 |[.str z],r,h=>
  obtain⟨v,ev,rr⟩:=m8 r;subst ev;replace r:=rr;cases RD.str r;obtain⟨hz,h⟩:=Mi.cW h;exact⟨_,z.length,rfl,⟨by rw[eK];exact hz,rfl⟩,h _ H Hv (.refl vw) km⟩
def F8:List V->Hp->VK->Prop:=λxs H Q=>∃i j z,xs=[.int i,.int j]/\max i j=z/\Q (.int z) H
def Fh:List V->Hp->VK->Prop:=λxs H Q=>∃i j z,xs=[.int i,.int j]/\min i j=z/\Q (.int z) H
theorem HB(hc:X.calm=true):ia X (.builtin "max") F8:=Qr hc
theorem Sv(hc:X.calm=true):ia X (.builtin "min") Fh:=QC hc
theorem uU:BN qV F8 Mi.jP:=λds vs H Hv Q vw r h=>by
 match ds,r,h with
 |[.int i,.int j],r,h=>
  obtain⟨v,u,ev,rr,r'⟩:=Hf r;subst ev;replace r:=rr;cases RD.int r;cases RD.int r';exact⟨i,j,_,rfl,rfl,h _ H Hv (.refl vw) km⟩
theorem AC:BN qV Fh Mi.n6:=λds vs H Hv Q vw r h=>by
 match ds,r,h with
 |[.int i,.int j],r,h=>
  obtain⟨v,u,ev,rr,r'⟩:=Hf r;subst ev;replace r:=rr;cases RD.int r;cases RD.int r';exact⟨i,j,_,rfl,rfl,h _ H Hv (.refl vw) km⟩
theorem ze{Hv:Hp}:∀{ds:List D} {xs:List V} {bs:List Bool},Mi.ju ds=ab bs->P2 (Rep Hv) ds xs->xs=bs.map V.bl
 |[],_,bs,e,r=>by cases e;cases r;rfl
 |.bl b::ds,_,bs,e,r=>by
  cases r with
  |cons x t=>
   cases hb:Mi.ju ds with
   |none=>rw[Mi.ju,hb]at e;cases e
   |some cs=>
    rw[Mi.ju,hb]at e;cases e;rw[ze hb t,se.mp x];rfl
 |.non::_,_,_,e,_=>by cases e
 |.int _::_,_,_,e,_=>by cases e
 |.str _::_,_,_,e,_=>by cases e
 |.lst _::_,_,_,e,_=>by cases e
 |.tup _::_,_,_,e,_=>by cases e
theorem AL:BN qV (wA K (·.all id)) Mi.oZ:=λds vs H Hv Q vw r h=>by
 match ds,r,h with
 |[.lst ds],r,h=>
  obtain⟨v,ev,rr⟩:=m8 r;subst ev;replace r:=rr;obtain⟨bs,e,h⟩:=iP (aA.mp h);obtain⟨p,xs,rfl,l1,r1⟩:=RD.lst vw r;have:=ze e r1;subst this;exact⟨p,bs,rfl,l1.sq,h _ H Hv (.refl vw) fB⟩
theorem Be:BN qV (wA K (·.any id)) Mi.zY:=λds vs H Hv Q vw r h=>by
 match ds,r,h with
 |[.lst ds],r,h=>
  obtain⟨v,ev,rr⟩:=m8 r;subst ev;replace r:=rr;obtain⟨bs,e,h⟩:=iP (aA.mp h);obtain⟨p,xs,rfl,l1,r1⟩:=RD.lst vw r;have:=ze e r1;subst this;exact⟨p,bs,rfl,l1.sq,h _ H Hv (.refl vw) fB⟩
def II(K:aU):List V->Hp->VK->Prop:=λxs H Q=>∃p ys,xs=[.ref p]/\(eY K H p ys\/fK K H p ys)/\∀l,H l=ae->Q (.ref l) (upd H l (.lst ys))
theorem kT:ia X (.type "list") (II X.K):=Qk
theorem eW:BN qN (II K) Mi.eP:=λds vs H Hv Q vw r h=>by
 match ds,r,h with
 |[.lst ds],r,h=>
  obtain⟨v,ev,rr⟩:=m8 r;subst ev;replace r:=rr;obtain⟨p,xs,rfl,l1,r1⟩:=RD.lst vw r;refine⟨p,xs,rfl,.inl l1.sq,λa ha=>?_⟩;obtain⟨g,k⟩:=Hu vw r1 ha;exact h _ _ _ g k
 |[.tup ds],r,h=>
  obtain⟨v,ev,rr⟩:=m8 r;subst ev;replace r:=rr;obtain⟨p,xs,rfl,l1,_,r1⟩:=RD.tup vw r;refine⟨p,xs,rfl,.inr (.inl (.inl l1)),λa ha=>?_⟩;obtain⟨g,k⟩:=Hu vw r1 ha;exact h _ _ _ g k
def Ew(K:aU):List V->Hp->VK->Prop:=λxs H Q=>∃p ys,xs=[.ref p]/\((eY K H p ys/\∀l,H l=ae->Q (.ref l) (upd H l (.tup ys)))\/(fK K H p ys/\Q (.ref p) H))
theorem ri:ia X (.type "tuple") (Ew X.K):=Lz
theorem i6:BN qV (Ew K) Mi.oj:=λds vs H Hv Q vw r h=>by
 match ds,r,h with
 |[.lst ds],r,h=>
  obtain⟨v,ev,rr⟩:=m8 r;subst ev;replace r:=rr;obtain⟨p,xs,rfl,l1,r1⟩:=RD.lst vw r;refine⟨p,xs,rfl,.inl ⟨l1.sq,λa ha=>?_⟩⟩;obtain⟨g,k⟩:=wM vw r1 ha;exact h _ _ _ g k
 |[.tup ds],r,h=>
  obtain⟨v,ev,rr⟩:=m8 r;subst ev;replace r:=rr;obtain⟨p,xs,rfl,l1,l2,r1⟩:=RD.tup vw r;exact⟨p,xs,rfl,.inr ⟨.inl (.inl l1),h _ H Hv (.refl vw) (jM.mpr ⟨p,xs,rfl,l2,r1⟩)⟩⟩
end
end A
namespace A
open PySem L2 PyProof.Rows
open Mi (D W Rs Fin aA Out Tg)
variable[Tb:bS]
section
variable{X:Cx}{ah:List (ai×Obj)}{σ:L2.St}{H:Hp}{s:aB}
open SeqAt in
theorem Nu:∀{d e:D} {A:b9} {x y:V} {u u':aj},d.flat=true->e.flat=true->L2.Rep X.K H d x->L2.Rep X.K H e y->RelV x u->RelV y u'->RcAt A s u u' (Mi.bR d e)/\RcNeAt A s u u' (!Mi.bR d e):=by
 intro d e A x y u u' h1 h2 r1 r2 q1 q2;cases d with
 |non=>
  rw[L2.Rep]at r1;subst r1;cases q1;cases e with
  |non=>rw[L2.Rep]at r2;subst r2;cases q2;exact⟨RcAt.none_none,RcNeAt.none_none⟩
  |bl b=>rw[L2.Rep]at r2;subst r2;cases q2;exact⟨RcAt.none_bool b,RcNeAt.none_bool b⟩
  |int b=>rw[L2.Rep]at r2;subst r2;obtain⟨t,rfl⟩:=q2;exact⟨RcAt.none_int b t,RcNeAt.none_int b t⟩
  |str b=>rw[L2.Rep]at r2;subst r2;obtain⟨t,rfl⟩:=q2;exact⟨RcAt.none_str b t,RcNeAt.none_str b t⟩
  |_=>cases h2
 |bl a=>
  rw[L2.Rep]at r1;subst r1;cases q1;cases e with
  |non=>rw[L2.Rep]at r2;subst r2;cases q2;exact⟨RcAt.bool_none a,RcNeAt.bool_none a⟩
  |bl b=>rw[L2.Rep]at r2;subst r2;cases q2;rw[Mi.bR];exact⟨RcAt.bool_bool a b,RcNeAt.bool_bool a b⟩
  |int b=>rw[L2.Rep]at r2;subst r2;obtain⟨t,rfl⟩:=q2;rw[Mi.bR];exact⟨RcAt.bool_int a b t,RcNeAt.bool_int a b t⟩
  |str b=>rw[L2.Rep]at r2;subst r2;obtain⟨t,rfl⟩:=q2;exact⟨RcAt.bool_str a b t,RcNeAt.bool_str a b t⟩
  |_=>cases h2
 |int a=>
  rw[L2.Rep]at r1;subst r1;obtain⟨t1,rfl⟩:=q1;cases e with
  |non=>rw[L2.Rep]at r2;subst r2;cases q2;exact⟨RcAt.int_none a t1,RcNeAt.int_none a t1⟩
  |bl b=>rw[L2.Rep]at r2;subst r2;cases q2;rw[Mi.bR];exact⟨RcAt.int_bool a t1 b,RcNeAt.int_bool a t1 b⟩
  |int b=>rw[L2.Rep]at r2;subst r2;obtain⟨t,rfl⟩:=q2;rw[Mi.bR];exact⟨RcAt.int_int a t1 b t,RcNeAt.int_int a t1 b t⟩
  |str b=>rw[L2.Rep]at r2;subst r2;obtain⟨t,rfl⟩:=q2;exact⟨RcAt.int_str a t1 b t,RcNeAt.int_str a t1 b t⟩
  |_=>cases h2
 |str a=>
  rw[L2.Rep]at r1;subst r1;obtain⟨t1,rfl⟩:=q1;cases e with
  |non=>rw[L2.Rep]at r2;subst r2;cases q2;exact⟨RcAt.str_none a t1,RcNeAt.str_none a t1⟩
  |bl b=>rw[L2.Rep]at r2;subst r2;cases q2;exact⟨RcAt.str_bool a t1 b,RcNeAt.str_bool a t1 b⟩
  |int b=>rw[L2.Rep]at r2;subst r2;obtain⟨t,rfl⟩:=q2;exact⟨RcAt.str_int a t1 b t,RcNeAt.str_int a t1 b t⟩
  |str b=>rw[L2.Rep]at r2;subst r2;obtain⟨t,rfl⟩:=q2;rw[Mi.bR];exact⟨RcAt.str_str a t1 b t,RcNeAt.str_str a t1 b t⟩
  |_=>cases h2
 |_=>cases h1
open SeqAt in
theorem HJ(I:Inv X ah σ H s):∀(d e:D) (A:b9) {x y:V} {u u':aj},d.dep<=16->A.units+17<cLine->L2.Rep X.K H d x->L2.Rep X.K H e y->RelV x u->RelV y u'->RcAt A s u u' (Mi.bR d e)/\RcNeAt A s u u' (!Mi.bR d e):=by
 intro d e A x y u u' hd hu h h' r r';have hu0:A.units<cLine:=by omega
 have item:∀{ds es:List D} {xs ys:List V} {av its':List aj},Mi.dW ds<=16->L2.bD X.K H ds xs->L2.bD X.K H es ys->Vals xs av->Vals ys its' ->
  ∀j (h1:j<av.toArray.size) (h2:j<its'.toArray.size),EqAt A.in1 s av.toArray[j] its'.toArray[j] (Mi.bR (ds.getD j .non) (es.getD j .non)):=by
  intro ds es xs ys av its' hn q q' v v' j h1 h2;have h1':j<av.length:=by simpa using h1
  have h2':j<its'.length:=by simpa using h2
  have e1:j<xs.length:=by rw[v.length];exact h1'
  have e2:j<ys.length:=by rw[v'.length];exact h2'
  have g1:xs[j]? = ab xs[j]:=by simp[e1]
  have g2:ys[j]? = ab ys[j]:=by simp[e2]
  obtain⟨w1,k1,r1⟩:=v.get g1;obtain⟨w2,k2,r2⟩:=v'.get g2;have t1:av.toArray[j]=w1:=by obtain⟨_,k1⟩:=cv.mp k1;simpa using k1
  have t2:its'.toArray[j]=w2:=by obtain⟨_,k2⟩:=cv.mp k2;simpa using k2
  rw[t1,t2];have:=Ai (ds:=ds) (j:=j);refine D6 I 16 _ _ A.in1 (by omega) ?_ (q.get g1) (q'.get g2) r1 r2;show A.units+1+16<cLine;omega
 by_cases hdf:d.flat=true
 ·by_cases hef:e.flat=true
  ·exact Nu hdf hef h h' r r'
  ·cases e with
   |lst es=>
    rw[L2.Rep]at h';obtain⟨a,xs,rfl,q,_⟩:=h';cases r';obtain⟨av,_,p,_⟩:=I.list q;cases d with
    |non=>rw[L2.Rep]at h;subst h;cases r;exact⟨RcAt.none_list p.isList hu0,RcNeAt.none_list p.isList hu0⟩
    |bl b=>rw[L2.Rep]at h;subst h;cases r;exact⟨RcAt.bool_list b p.isList hu0,RcNeAt.bool_list b p.isList hu0⟩
    |int b=>rw[L2.Rep]at h;subst h;obtain⟨t,rfl⟩:=r;exact⟨RcAt.int_list b t p.isList hu0,RcNeAt.int_list b t p.isList hu0⟩
    |str b=>rw[L2.Rep]at h;subst h;obtain⟨t,rfl⟩:=r;exact⟨RcAt.str_list b t p.isList hu0,RcNeAt.str_list b t p.isList hu0⟩
    |_=>cases hdf
   |tup es=>
    rw[L2.Rep]at h';obtain⟨a,xs,rfl,q,_⟩:=h';cases r';obtain⟨av,_,p,_⟩:=I.tuple q;cases d with
    |non=>rw[L2.Rep]at h;subst h;cases r;exact⟨RcAt.none_tuple p hu0,RcNeAt.none_tuple p hu0⟩
    |bl b=>rw[L2.Rep]at h;subst h;cases r;exact⟨RcAt.bool_tuple b p hu0,RcNeAt.bool_tuple b p hu0⟩
    |int b=>rw[L2.Rep]at h;subst h;obtain⟨t,rfl⟩:=r;exact⟨RcAt.int_tuple b t p hu0,RcNeAt.int_tuple b t p hu0⟩
    |str b=>rw[L2.Rep]at h;subst h;obtain⟨t,rfl⟩:=r;exact⟨RcAt.str_tuple b t p hu0,RcNeAt.str_tuple b t p hu0⟩
    |_=>cases hdf
   |_=>exact absurd rfl hef
 ·cases d with
  |lst ds=>
   rw[L2.Rep]at h;obtain⟨a,xs,rfl,q,rr⟩:=h;cases r;obtain⟨av,v,p,_⟩:=I.list q;have hn:Mi.dW ds<=16:=by rw[Mi.D.dep]at hd;omega
   cases e with
   |non=>rw[L2.Rep]at h';subst h';cases r';exact⟨RcAt.list_none p.isList hu0,RcNeAt.list_none p.isList hu0⟩
   |bl b=>rw[L2.Rep]at h';subst h';cases r';exact⟨RcAt.list_bool b p.isList hu0,RcNeAt.list_bool b p.isList hu0⟩
   |int b=>rw[L2.Rep]at h';subst h';obtain⟨t,rfl⟩:=r';exact⟨RcAt.list_int b t p.isList hu0,RcNeAt.list_int b t p.isList hu0⟩
   |str b=>rw[L2.Rep]at h';subst h';obtain⟨t,rfl⟩:=r';exact⟨RcAt.list_str b t p.isList hu0,RcNeAt.list_str b t p.isList hu0⟩
   |lst es=>
    rw[L2.Rep]at h';obtain⟨b,ys,rfl,q',rr'⟩:=h';cases r';obtain⟨its',v',p',_⟩:=I.list q';have l1:=rr.length;have l2:=rr'.length;have l3:=v.length;have l4:=v'.length;by_cases hl:ds.length=es.length
    ·rw[Mi.bR,tD hl];have e1:av.toArray.size=ds.length:=by simp;omega
     have k1:=RcAt.lists p.isList p'.isList (by simp;omega) hu0 (item hn rr rr' v v');have k2:=RcNeAt.lists p.isList p'.isList (by simp;omega) hu0 (item hn rr rr' v v');rw[e1]at k1 k2;exact⟨k1,k2⟩
    ·rw[Mi.bR,tY hl];exact⟨RcAt.lists_lengths p.isList p'.isList (by simp;omega) hu0,RcNeAt.lists_lengths p.isList p'.isList (by simp;omega) hu0⟩
   |tup es=>
    rw[L2.Rep]at h';obtain⟨b,ys,rfl,q',_⟩:=h';cases r';obtain⟨its',_,p',_⟩:=I.tuple q';exact⟨RcAt.list_tuple p.isList p' hu0,RcNeAt.list_tuple p.isList p' hu0⟩
  |tup ds=>
   rw[L2.Rep]at h;obtain⟨a,xs,rfl,q,rr⟩:=h;cases r;obtain⟨av,v,p,_⟩:=I.tuple q;have hn:Mi.dW ds<=16:=by rw[Mi.D.dep]at hd;omega
   cases e with
   |non=>rw[L2.Rep]at h';subst h';cases r';exact⟨RcAt.tuple_none p hu0,RcNeAt.tuple_none p hu0⟩
   |bl b=>rw[L2.Rep]at h';subst h';cases r';exact⟨RcAt.tuple_bool b p hu0,RcNeAt.tuple_bool b p hu0⟩
   |int b=>rw[L2.Rep]at h';subst h';obtain⟨t,rfl⟩:=r';exact⟨RcAt.tuple_int b t p hu0,RcNeAt.tuple_int b t p hu0⟩
   |str b=>rw[L2.Rep]at h';subst h';obtain⟨t,rfl⟩:=r';exact⟨RcAt.tuple_str b t p hu0,RcNeAt.tuple_str b t p hu0⟩
   |tup es=>
    rw[L2.Rep]at h';obtain⟨b,ys,rfl,q',rr'⟩:=h';cases r';obtain⟨its',v',p',_⟩:=I.tuple q';have l1:=rr.length;have l2:=rr'.length;have l3:=v.length;have l4:=v'.length;have k1:=RcAt.tuples p p' hu0 (item hn rr rr' v v');have k2:=RcNeAt.tuples p p' hu0 (item hn rr rr' v v');have e1:av.toArray.size=ds.length:=by simp;omega
    have e2:its'.toArray.size=es.length:=by simp;omega
    rw[e1,e2]at k1 k2;by_cases hl:ds.length=es.length
    ·rw[Mi.bR,tD hl];rw[hl,Nat.min_self,u9,Bool.and_true,<- hl]at k1 k2;exact⟨k1,k2⟩
    ·rw[Mi.bR,tY hl];have:(ds.length==es.length)=false:=by simpa using hl
     rw[this,yp]at k1 k2;exact⟨k1,k2⟩
   |lst es=>
    rw[L2.Rep]at h';obtain⟨b,ys,rfl,q',_⟩:=h';cases r';obtain⟨its',_,p',_⟩:=I.list q';exact⟨RcAt.tuple_list p p'.isList hu0,RcNeAt.tuple_list p p'.isList hu0⟩
  |_=>exact absurd rfl hdf
theorem jJ(hu:X.A.units+64<cLine):cY X (compareOp .Eq) (wC X.K false):=by intro ah s σ H x y v u Q I rx ry h;obtain⟨d,e,r1,r2,hz,q⟩:=h;exact(HJ I d e X.A hz (by omega) r1 r2 rx ry).1 _ _ _ _ ⟨.bl _,H,I,rfl,q⟩
theorem uE(hu:X.A.units+64<cLine):cY X (compareOp .NotEq) (wC X.K true):=by intro ah s σ H x y v u Q I rx ry h;obtain⟨d,e,r1,r2,hz,q⟩:=h;exact(HJ I d e X.A hz (by omega) r1 r2 rx ry).2 _ _ _ _ ⟨.bl _,H,I,rfl,q⟩
end
section
variable{X:Cx}{K:aU}{M:Nat->Bool}{κ:Kd}{ta tb te:TE}{a b:Mi.E}
theorem OH{H Hv:Hp}(vw:Vw H Hv){d:D}{v:V}(r:RD H Hv d v):jh K H v (.type (Mi.ES d)):=by
 cases d with
 |non=>cases RD.non r;exact .non
 |bl b=>cases RD.bl r;exact .bl b
 |int b=>cases RD.int r;exact .int b
 |str b=>cases RD.str r;exact .str b
 |lst ds=>
  obtain⟨p,xs,rfl,l,_⟩:=RD.lst vw r;rcases l with l|⟨o,l⟩
  ·exact .lst l
  ·exact .frz l
 |tup ds=>
  obtain⟨p,xs,rfl,l,_⟩:=RD.tup vw r;exact .tup l
def wm(K:aU)(T:String):Prop:=∀d:D,Cz K (.type (Mi.ES d)) (.type T)=ab (Mi.wW T d)
theorem vU{T:String}(hT:wm K T)(ha:AE M qP ta a):AE M qV (v8 (F3 K) (fU ta (fU (tC (.ty T)) iE))) (Mi.m1 (Mi.lJ [T]) a):=λe σ H Hv Q I h=>
 ha e σ H Hv _ I ((aA.mp h).mono λx hx v H1 Hv1 g1 rx=>⟨v,_,T,_,rfl,OH g1.vw rx,hT x,(Mi.pw hx) _ H1 Hv1 g1 (by
  have:([T].any λt=>Mi.wW t x)=Mi.wW T x:=by simp
  rw[this];exact fB)⟩)
theorem ty_str(K:aU):wm K "str" := λd=>by cases d<;>rfl
theorem ty_list(K:aU):wm K "list" := λd=>by cases d<;>rfl
theorem ty_tuple(K:aU):wm K "tuple" := λd=>by cases d<;>rfl
end
end A
namespace A
open PySem L2 PyProof.Rows
open Mi (D W Rs Fin aA Out Tg)
variable[Tb:bS]
def Mo(l:List Nat):Nat->Bool:=λi=>l.contains i
theorem zT{M:Nat->Bool}{N:List Str}{k:Nat}{ws:List W}{vs:List V}{H Hv:Hp}(vw:Vw H Hv)(p:P2 (gE Hv) ws vs)(hk:ws.length=k)(hM:∀i,i<k->M i=false) :
 R1 M H Hv (ws.map ab++cK (N.length-ws.length) ae) (start N vs) H Hv:=by
 have get:∀{i:Nat} {w:W},(ws.map ab++cK (N.length-ws.length) ae)[i]? = ab (ab w)->ws[i]? = ab w/\i<k:=λ{i w} h=>by
  by_cases hi:i<ws.length
  ·rw[mf (by simpa using hi),cS]at h;cases e:ws[i]? with
   |none=>rw[e]at h;cases h
   |some a=>rw[e]at h;cases h;exact⟨rfl,by omega⟩
  ·rw[kG (by simpa using hi),JD]at h;split at h<;>cases h
 have no:∀{i:Nat} {w:W},(ws.map ab++cK (N.length-ws.length) ae)[i]? = ab (ab w)->M i=true->False:=λ{i w} h m=>by
  rw[hM i (get h).2]at m;cases m
 refine⟨⟨vw,?_,λi w h m=>?_,λi w h m=>(no h m).elim⟩,.refl vw,λi w a h m=>(no h m).elim,λi j w w' a b _ h _ m=>(no h m).elim⟩
 ·unfold L2.start;rw[bU,bU,aO,aO,Cb,Cb,p.len]
 ·obtain⟨hw,hi⟩:=get h;obtain⟨v,hv,r⟩:=p.getL hw;refine⟨v,?_,r⟩;unfold L2.start;rw[mf (by rw[aO,<- p.len];omega),cS,hv];rfl
theorem Oj{f:Mi.S}{k n:Nat}{vs:List V}{H:Hp}{Q:VK}{E:XK}(h:aG (Mi.du k n f) vs H Q E):vs.length=k:=by obtain⟨Hv,ws,_,p,q⟩:=h;rw[<- p.len];exact(Mi.cW q).1
theorem wU{f:Mi.S}{k n:Nat}{vs:List V}{H:Hp}{Q:VK}{E:XK}(h:bW (Mi.eh k n f) vs H Q E):vs.length=k:=by obtain⟨Hv,ws,_,p,q⟩:=h;rw[<- p.len];exact(Mi.cW q).1
theorem Q3{N:List Str}{M:Nat->Bool}{k:Nat}{t:TS}{m:Mi.S}(hA:AS M qV t m)(hM:∀i,i<k->M i=false){vs:List V}{H:Hp}{Q:VK}{E:XK}(h:aG (Mi.du k N.length m) vs H Q E) :
 t { nx:=λ_ H'=>Q .non H',rt:=Q } (start N vs) H:=by
 obtain⟨Hv,ws,vw,p,q⟩:=h;obtain⟨hk,q⟩:=Mi.cW q;refine hA H Hv _ _ H Hv _ (zT vw p hk hM) ((aA.mp q).mono λo ho=>?_);cases o with
 |nx e=>exactλσ H' Hv' I s=>ho _ H' Hv' I.gw Bb
 |rt w=>exactλv H' Hv' g r=>ho v H' Hv' g r
 |bk e=>exact ho.elim
 |ct e=>exact ho.elim
theorem runN{N:List Str}{M:Nat->Bool}{k:Nat}{t:TS}{m:Mi.S}(hA:AS M qN t m)(hM:∀i,i<k->M i=false){vs:List V}{H:Hp}{Q:VK}{E:XK}(h:bW (Mi.eh k N.length m) vs H Q E) :
 t { nx:=λ_ H'=>Q .non H',rt:=Q } (start N vs) H:=by
 obtain⟨Hv,ws,vw,p,q⟩:=h;obtain⟨hk,q⟩:=Mi.cW q;refine hA H Hv _ _ H Hv _ (zT vw p hk hM) ((aA.mp q).mono λo ho=>?_);cases o with
 |rt w=>exactλv H' Hv' g r=>ho v H' Hv' g r
 |nx e=>exact ho.elim
 |bk e=>exact ho.elim
 |ct e=>exact ho.elim
theorem QO{P:bG}{w:bi}{K:aU}{mg:Str->Option aj}{base:aZ}{CX:ic}{k:Nat}{f:ai}{fd:bJ}{ps:List Str}:bH P w K mg base CX k f fd ps (aG Mi.Ey):=⟨λvs H Q E h=>by obtain⟨_,_,_,_,q⟩:=h;exact q.elim,λA outer s H args us vs Q E _ _ _ _ h=>by obtain⟨_,_,_,_,q⟩:=h;exact q.elim⟩
def uR:Sp:=λvs H Q _=>∃(a:ai) (ns:List Int),vs=[.ref a]/\Lst H a (ns.map V.int)/\ns.length<=63/\iL H/\∀H',Q (.bl true) H'
theorem ints_rep(H:Hp):∀ns:List Int,P2 (Rep H) (ns.map D.int) (ns.map V.int)
 |[]=>.nil
 |n::r=>.cons (uK.mpr rfl) (ints_rep H r)
theorem RS{P:bG}{w:bi}{K:aU}{mg:Str->Option aj}{base:aZ}{CX:ic}{k:Nat}{f:ai}{fd:bJ}{ps:List Str}{m:Mi.Fn}(F:bH P w K mg base CX k f fd ps (aG m))
 (h:∀ns:List Int,ns.length<=63->m [.d (.lst (ns.map D.int))]=.ok (.d (.bl true))):bH P w K mg base CX k f fd ps uR:=
 F.imp λvs H Q E ⟨a,ns,e,l,hl,k,q⟩=>by
  subst e;have l':Lst (jz H) a (ns.map V.int):=by
   rcases l with l|⟨o,l⟩
   ·exact .inl (kW l trivial)
   ·exact .inr ⟨o,kW l trivial⟩
  refine⟨jz H,[.d (.lst (ns.map D.int))],.all k,.cons (iS.mpr ⟨a,_,rfl,l',ints_rep _ ns⟩) .nil,?_⟩;rw[h ns hl];intro v H' Hv' g r;cases(se (H:=Hv')).mp r;exact q H'
theorem Ir{X:Cx}{ah:List (ai×Obj)}{σ:L2.St}{H:Hp}{s:aB}{fp:List ai}{T:ai}{o:HO}{h':aZ}{t':Nat}(I:Inv X ah σ H s)(hf:∀b∈fp,iQ X ah H b)
 (k:∀b u,b∉fp->s.heap.get? b=ab u->h'.get? b=ab u) (hT:s.heap.objs.size<=T) (new:dD X.prog X.w (upd H T o) h' T o):Inv X ah σ (upd H T o) { s with heap:=h',toks:=t' }:=by
 have hn:H T=ae:=I.hok.fresh hT;have nfp:∀b u,H b=ab u->b∉fp:=λb u e z=>by rw[(hf b z).1]at e;cases e
 refine I.call' (s':={ s with heap:=h',toks:=t' }) (ch:=fp) rfl ⟨λb u e _ _ hb=>k b u hb e,λb u e _ _ hb=>⟨u.slots,k b u hb e⟩,λb u e hb _=>?_,λb u e hb=>⟨u,k b u hb e⟩,λb xs e=>?_,λb q u e=>?_,λb w ps e=>⟨#[],?_⟩⟩ ?_ I.bare
  λb hb=>⟨(hf b hb).2.2.2.1,(hf b hb).2.1,(hf b hb).2.2.2.2.1,(hf b hb).2.2.2.2.2⟩
 ·have:b≠T:=gQ (g7 (cG e) hT);rw[aS this];exact hb
 ·rw[aS (dX e hn)];exact e
 ·rw[aS (dX e hn)];exact e
 ·rw[aS (dX e hn),e];simp
 ·intro b u e;by_cases hb:b=T
  ·subst hb;rw[bN]at e;cases e;exact new
  ·rw[aS hb]at e;refine(I.hok b u e).stay (λc v hc q=>k c v ?_ q) (λc q=>by rw[aS (dX q hn)];exact q) λc xs q=>by rw[aS (dX q hn)];exact q
   rcases hc with z|z
   ·rw[z];exact nfp b u e
   ·exact nfp c _ z
theorem JB{X:Cx}{ah:List (ai×Obj)}{σ:L2.St}{H:Hp}{s:aB}{fp:List ai}{h':aZ}{t':Nat}(I:Inv X ah σ H s)(hf:∀b∈fp,iQ X ah H b)
 (k:∀b u,b∉fp->s.heap.get? b=ab u->h'.get? b=ab u):Inv X ah σ H { s with heap:=h',toks:=t' }:=by
 have nfp:∀b u,H b=ab u->b∉fp:=λb u e z=>by rw[(hf b z).1]at e;cases e
 refine I.call' (s':={ s with heap:=h',toks:=t' }) (ch:=fp) rfl ⟨λb u e _ _ hb=>k b u hb e,λb u e _ _ hb=>⟨u.slots,k b u hb e⟩,λb u e hb _=>hb,λb u e hb=>⟨u,k b u hb e⟩,λb xs e=>e,λb q u e=>e,λb w ps e=>⟨#[],by rw[e];simp⟩⟩ ?_ I.bare
  λb hb=>⟨(hf b hb).2.2.2.1,(hf b hb).2.1,(hf b hb).2.2.2.2.1,(hf b hb).2.2.2.2.2⟩
 intro b u e;refine(I.hok b u e).stay (λc v hc q=>k c v ?_ q) (λc q=>q) λc xs q=>q;rcases hc with z|z
 ·rw[z];exact nfp b u e
 ·exact nfp c _ z
section
variable{X:Cx}{elts:List a9}{k1:Nat}{tpos:Pos}
theorem FH:∀{ds:List D} {k i:Nat} {d:D},ds[i]? = ab d->(Mi.lQ k ds)[i]? = ab (.tup [.int ((k+i:Nat):Int),d])
 |[],_,_,_,h=>by simp at h
 |d::r,k,0,e,h=>by simp at h;subst h;rfl
 |d::r,k,i+1,e,h=>by
  have:=FH (ds:=r) (k:=k+1) (i:=i) (d:=e) (by simpa using h);rw[Mi.lQ,jq,this];rw[show k+1+i=k+(i+1)by omega]
theorem xg:∀(ds:List D) (k:Nat),(Mi.lQ k ds).length=ds.length
 |[],_=>rfl
 |d::r,k=>by rw[Mi.lQ,cx,cx,xg r]
end
end A
namespace A
open PySem L2 PyProof.Rows
open Mi (D W Rs Fin aA Out Tg)
variable[Tb:bS]
section
variable{X:Cx}{K:aU}{M:Nat->Bool}{κ:Kd}{ta tb te tk:TE}{a b k:Mi.E}
theorem F4{Hv:Hp}:∀{ds:List D} {xs:List V} {bs:List Str},Mi.m6 ds=ab bs->P2 (Rep Hv) ds xs->xs=bs.map V.str
 |[],_,bs,e,r=>by cases e;cases r;rfl
 |.str b::ds,_,bs,e,r=>by
  cases r with
  |cons x t=>
   cases hb:Mi.m6 ds with
   |none=>rw[Mi.m6,hb]at e;cases e
   |some cs=>
    rw[Mi.m6,hb]at e;cases e;rw[F4 hb t,ng.mp x];rfl
 |.non::_,_,_,e,_=>by cases e
 |.int _::_,_,_,e,_=>by cases e
 |.bl _::_,_,_,e,_=>by cases e
 |.lst _::_,_,_,e,_=>by cases e
 |.tup _::_,_,_,e,_=>by cases e
theorem Ij(ha:AE M qP ta a)(hb:AE M qP tb b):AE M qV (pK K "str" (rJoin K) ta (fU tb iE)) (Mi.m2 Mi.xw a b):=λe σ H Hv Q I h=>by
 obtain⟨x,hx,h⟩:=k5 (aA.mp h);obtain⟨y,hy,h⟩:=k5 (aA.mp h);cases x with
 | str sep=>cases y with
  |lst ds=>
   obtain⟨ys,hs,h⟩:=iP (aA.mp h);obtain⟨hz,h⟩:=Mi.cW h;refine ha e σ H Hv _ I (by
    rw[hx];intro v H1 Hv1 g1 r1;cases RD.str r1;refine⟨rfl,hb e σ H1 Hv1 _ (I.grow g1) (by
     rw[hy];intro v2 H2 Hv2 g2 r2;obtain⟨p,xs,rfl,l,r⟩:=RD.lst g2.vw r2;have:=F4 hs r;subst this;exact⟨sep,p,ys,rfl,rfl,l.sq,hz,(Mi.pw h) _ H2 Hv2 (g1.trans g2) u4⟩)⟩)
  |_=>exact h.elim
 |_=>cases y<;>exact h.elim
def EG:V->List V->Hp->VK->Prop:=λx vs H Q=>∃l b xs zs,x=.ref l/\vs=[.ref b]/\H l=ab (.lst xs)/\Lst H b zs/\xs.length+zs.length<=sizeLine/\Q .non (upd H l (.lst (xs++zs)))
theorem zX:qB X "list.extend" EG:=by
 intro ah s σ H x vs v us Q I rx rv h;obtain⟨l,b,xs,zs,rfl,rfl,hH,hB,hz,q⟩:=h;cases rx;obtain⟨u,rfl,ru⟩:=rv.one;cases ru;obtain⟨z,av,n,r,hl,e⟩:=I.sk hH;obtain⟨its2,n2,r2,z2,e2⟩:=xC I hB;have hl2:=r2.length;have hsz:av.toArray.size+its2.toArray.size<=sizeLine:=by rw[dH,dH];omega
 have yF:¬ (!av.toArray.isEmpty&&CS (av.toArray.size+its2.toArray.size))=true:=by rw[LV hsz,yp];exact cZ
 refine sG F.slot_list_extend ⟨_,e,rfl⟩ F.entry_list_extend (F.args_list_extend_2 _ _)
  (AutoSeq1.list_extend_list_list_0 l av.toArray n b its2.toArray n2 yF (by rw[dH];omega) (by omega)) ⟨e,e2,?_⟩
 refine⟨.non,_,I.qK (its':=av++its2) hH e (by simp) (r.append r2) ?_,rfl,q⟩;rw[bU];omega
theorem BX(i:Nat)(hm:M i=true)(ha:AE M qV te a):AS M κ (oU (pK K "list" EG (fk i) (fU te iE))) (Mi.lb i a):=λH0 Hv0 e σ H Hv D I h=>by
 obtain⟨d,hd,h⟩:=k5 (aA.mp h);obtain⟨ds,he,h⟩:=oT (aA.mp h);cases d with
 |lst es=>
  obtain⟨hz,h⟩:=Mi.cW h;obtain⟨p,xs,q,q1,n,c⟩:=I.list hm he;refine⟨.ref p,q,.inl ⟨rfl,xs,.inl (.inl q1)⟩,ha e σ H Hv _ I.toR0 (by
   rw[hd];intro v H1 Hv1 g1 r;have I1:=I.grow g1;obtain⟨b,ys,rfl,l,r⟩:=(iS (H:=Hv1)).mp r;refine⟨p,b,xs,ys,rfl,rfl,g1.old.at q1,l.same g1.vw.sub,by rw[<- c.len,<- r.len,eK];exact hz,?_⟩;exact h σ _ Hv1 (I1.write hm he q (show eF Hv1 (.d (.lst (ds++es))) (.lst (xs++ys))from(fL g1.vis c).append r)) g1.vis)⟩
 |_=>exact h.elim
theorem wL{H:Hp}{d:D}{v:V}{y:Mi.Ky}(h:Mi.ox d=ab y)(r:Rep H d v):v=kV y:=by
 cases d with
 |bl i=>cases h;exact se.mp r
 |str i=>cases h;exact ng.mp r
 |_=>cases h
theorem xa{H:Hp}:∀{ds:List D} {vs:List V} {ys:List Mi.Ky},Mi.pE ds=ab ys->P2 (Rep H) ds vs->vs=ys.map kV
 |[],_,_,h,r=>by cases h;cases r;rfl
 |d::ds,_,ys,h,r=>by
  cases r with
  |cons x t=>
   unfold Mi.pE at h;cases h1:Mi.ox d with
   |none=>rw[h1]at h;cases h
   |some y=>
    cases h2:Mi.pE ds with
    |none=>rw[h1,h2]at h;cases h
    |some zs=>
     rw[h1,h2]at h;cases h;rw[wL h1 x,xa h2 t];rfl
theorem zx{H Hv:Hp}(vw:Vw H Hv){w:W}{x:V}{d:D}{v:V}{q:Option D->Prop}(hw:RB H Hv w x)(r:Rep Hv d v)(h:Fin (Mi.rW w d) q):∃a o o',x=.ref a/\i9 H a v o/\q o'/\match o' with
 |some d'=>∃v',o=ab v'/\Rep Hv d' v'
 |none=>o=ae:=by
 cases w with
 |d x=>exact h.elim
 |ex z=>exact h.elim
 |fn z=>exact h.elim
 |dk ao=>
  obtain⟨y,hy,h⟩:=iP (aA.mp h);have h:q (Mi.fM ao y):=h;have:∃a kv,x=.ref a/\H a=ab (.dK kv)/\fG Hv ao kv:=by
   rcases hw with ⟨a,kv,e,z,c⟩|⟨a,o,e,z,c⟩
   ·exact⟨a,kv,e,vw.sub _ _ z,c⟩
   ·cases o with
    |dK kv=>exact⟨a,kv,e,z,c⟩
    |_=>exact c.elim
  obtain⟨a,kv,e,z,c⟩:=this;have hv:=wL hy r;subst hv;exact⟨a,_,_,e,i9.k z,h,By c⟩
 |dt ao=>
  cases d with
  |tup ds=>
   obtain⟨y,hy,h⟩:=iP (aA.mp h);have h:q (Mi.fM ao y):=h;have:∃a kv,x=.ref a/\H a=ab (.dT kv)/\fG Hv ao kv:=by
    rcases hw with ⟨a,kv,e,z,c⟩|⟨a,o,e,z,c⟩
    ·exact⟨a,kv,e,vw.sub _ _ z,c⟩
    ·cases o with
     |dT kv=>exact⟨a,kv,e,z,c⟩
     |_=>exact c.elim
   obtain⟨a,kv,e,z,c⟩:=this;obtain⟨b,xs,rfl,l,r⟩:=jM.mp r;have hv:=xa hy r;subst hv;exact⟨a,_,_,e,i9.t z (vw.sub _ _ l),h,By c⟩
  |_=>exact h.elim
 |df ao=>
  cases d with
  |tup ds=>
   obtain⟨y,hy,h⟩:=iP (aA.mp h);have h:q (Mi.fM ao y):=h;have:∃a ob kv,x=.ref a/\H a=ab (.frz ob (.dT kv))/\fG Hv ao kv:=by
    rcases hw with ⟨a,ob,kv,e,z,c⟩|⟨a,o,e,z,c⟩
    ·exact⟨a,ob,kv,e,vw.sub _ _ z,c⟩
    ·exact c.elim
   obtain⟨a,ob,kv,e,z,c⟩:=this;obtain⟨b,xs,rfl,l,r⟩:=jM.mp r;have hv:=xa hy r;subst hv;exact⟨a,_,_,e,.inr ⟨kv,y,b,.inr ⟨ob,z⟩,rfl,vw.sub _ _ l,rfl⟩,h,By c⟩
  |_=>exact h.elim
theorem Fw(i:Nat)(hk:AE M qV tk k):AE M qV (FP tk (fk i)) (Mi.nM i k):=λe σ H Hv Q I h=>
 hk e σ H Hv _ I ((aA.mp h).mono λd hd v H1 Hv1 g1 r=>by
  obtain⟨w,he,hd⟩:=qa (aA.mp hd);have I1:=I.grow g1;obtain⟨x,q,z⟩:=I1.any he;obtain⟨a,o,o',e1,g,h2,m⟩:=zx g1.vw z r (aA.mp hd);refine⟨x,q,a,o,e1,g,?_⟩;have:o.isSome=o'.isSome:=by
   cases o' with
   |none=>have m:o=ae:=m;rw[m];rfl
   |some d'=>obtain⟨v',m,_⟩:=m;rw[m];rfl
  rw[this];exact h2 _ H1 Hv1 g1 fB)
theorem E4(i:Nat)(hk:AE M qV tk k):AE M qV (Fv tk (fk i)) (Mi.gV i k):=λe σ H Hv Q I h=>
 hk e σ H Hv _ I ((aA.mp h).mono λd hd v H1 Hv1 g1 r=>by
  obtain⟨w,he,hd⟩:=qa (aA.mp hd);have I1:=I.grow g1;obtain⟨x,q,z⟩:=I1.any he;obtain⟨a,o,o',e1,g,h2,m⟩:=zx g1.vw z r (aA.mp hd);refine⟨x,q,a,o,e1,g,?_⟩;have:o.isSome=o'.isSome:=by
   cases o' with
   |none=>have m:o=ae:=m;rw[m];rfl
   |some d'=>obtain⟨v',m,_⟩:=m;rw[m];rfl
  rw[this];exact h2 _ H1 Hv1 g1 fB)
theorem Br(i:Nat)(hk:AE M qV tk k):AE M qV (Gy (fk i) tk) (Mi.hW i k):=λe σ H Hv Q I h=>by
 obtain⟨d,hd,h⟩:=k5 (aA.mp h);obtain⟨w,he,h⟩:=qa (aA.mp h);obtain⟨x,q,z⟩:=I.any he;refine⟨x,q,hk e σ H Hv _ I (by
  rw[hd];intro v H1 Hv1 g1 r;obtain⟨a,o,o',e1,g,h2,m⟩:=zx g1.vw (z.grow g1) r (aA.mp h);cases o' with
  |none=>exact h2.elim
  |some d'=>
   obtain⟨v',rfl,rv⟩:=m;exact⟨a,v',e1,g,h2 v' H1 Hv1 g1 rv⟩)⟩
theorem rD{tv:TE}{v:Mi.E}(i:Nat)(hm:M i=true)(hk:AE M qV tk k)(hv:AE M qV tv v):AS M κ (L2.dA (fk i) tk tv) (Mi.dA i k v):=λH0 Hv0 e σ H Hv D I h=>by
 obtain⟨d,hd,h⟩:=k5 (aA.mp h);obtain⟨y,hy,h⟩:=k5 (aA.mp h);obtain⟨w,he,h⟩:=qa (aA.mp h);refine hv e σ H Hv _ I.toR0 (by
  rw[hd];intro x H1 Hv1 g1 rx;have I1:=I.grow g1;obtain⟨p,o,q,q1,n,h0,c⟩:=I1.cell hm he;refine⟨.ref p,q,hk e σ H1 Hv1 _ I1.toR0 (by
   rw[hy];intro u H2 Hv2 g2 ru;have I2:=I1.grow g2;have c2:=c.same g2.vis;have q2:=g2.old.at q1 c.nt;have g12:=g1.trans g2;have rx2:=iw g2.vis rx;cases w with
   |d x=>exact(show False from aA.mp h).elim
   |ex z=>exact(show False from aA.mp h).elim
   |fn z=>exact(show False from aA.mp h).elim
   |df z=>exact(show False from aA.mp h).elim
   |dk ao=>
    obtain⟨hz,h⟩:=Mi.cW (aA.mp h);obtain⟨ky,hky,h⟩:=iP (aA.mp h);cases o with
    |dK kv=>
     have c2:fG Hv2 ao kv:=c2;have hu:=wL hky ru;subst hu;refine⟨p,_,rfl,nK.k q2 (by rw[<- P2.len c2,eK];exact hz),?_⟩;exact h σ _ Hv2 (I2.write hm he q (show eF Hv2 (.dk (Mi.putK ky d ao)) (.dK (L2.putK kv ky x))from ET rx2 c2)) g12.vis
    |_=>exact c2.elim
   |dt ao=>
    cases y with
    |tup ds=>
     obtain⟨hz,h⟩:=Mi.cW (aA.mp h);obtain⟨ky,hky,h⟩:=iP (aA.mp h);cases o with
     |dT kv=>
      have c2:fG Hv2 ao kv:=c2;obtain⟨b,xs,rfl,l,r⟩:=(jM (H:=Hv2)).mp ru;have hu:=xa hky r;subst hu;refine⟨p,_,rfl,nK.t q2 (g2.vw.sub _ _ l) (by rw[<- P2.len c2,eK];exact hz),?_⟩;exact h σ _ Hv2 (I2.write hm he q (show eF Hv2 (.dt (Mi.putK ky d ao)) (.dT (L2.putK kv ky x))from ET rx2 c2)) g12.vis
     |_=>exact c2.elim
    |_=>exact(show False from aA.mp h).elim)⟩)
end
end A
namespace Zp
open PySem PySem.Spec PyProof.Rows L2
variable[Tb:A.bS]
section
variable{P:bG}{w:bi}{B:b9}{F:aj->aB->Prop}{z:aB}
theorem Q0{c t:ai}{i:Nat}{us:Array aj}{u:aj}{R:aj->aB->Prop}(hc:z.heap.IsTupleIter c t i)(ht:z.heap.IsTuple t us)(hu:us[i]? = ab u)
 (hR:∀h',h'.IsTupleIter c t (i+1)->oM c z.heap h'->R u { z with heap:=h' }):wpAny (model P w) B (qu (.ref c)) R F z:=by
 obtain⟨ob,gb,cb,db⟩:=id hc;obtain⟨ol,gl,_,nl,dl⟩:=ht;unfold qu;refine aR (sE (name:=sL "__next__") hc.typeIs yv (oH yv hc.typeIs JY ?_ (JX _)));show wpAny _ _ (field (.ref c) 0 >>= _) _ _ z;refine aR (oI gb db (x:=.ref t) rfl ?_);show wpAny _ _ (if(eA t==kN)=true then _ else _) _ _ z;rw[a8 (λq:(eA t==kN)=true=>nomatch q)];show wpAny _ _ (field (.ref c) 1 >>= _) _ _ z;refine aR (oI gb db (x:=.int i 0) rfl ?_);show wpAny _ _ (seqItems? (.ref t) >>= _) _ _ z;refine aR (vz gl dl ?_);simp only[kM,hu];refine aR (yk gb db (by simp) (bV ⟨u,rfl,bV (hR _ ?_ (vE ..))⟩));refine⟨_,CF _ gb (Kc (yB db _)),(Obj.cls_mapFields ..).trans cb,?_⟩;rw[yB db];simp[rawInt]
theorem NI{c t:ai}{i:Nat}{us:Array aj}{R:aj->aB->Prop}(hn:B.handled=ae)(hc:z.heap.IsTupleIter c t i)(ht:z.heap.IsTuple t us)(hu:us[i]? = ae)
 (hF:∀h' e,yo c z.heap h'->(∃o,h'.get? e=ab o/\o.cls=.type "StopIteration")->F (.ref e) { z with heap:=h' }):wpAny (model P w) B (qu (.ref c)) R F z:=by
 obtain⟨ob,gb,cb,db⟩:=id hc;obtain⟨ol,gl,_,nl,dl⟩:=ht;unfold qu;refine aR (sE (name:=sL "__next__") hc.typeIs yv (oH yv hc.typeIs JY ?_ (JX _)));show wpAny _ _ (field (.ref c) 0 >>= _) _ _ z;refine aR (oI gb db (x:=.ref t) rfl ?_);show wpAny _ _ (if(eA t==kN)=true then _ else _) _ _ z;rw[a8 (λq:(eA t==kN)=true=>nomatch q)];show wpAny _ _ (field (.ref c) 1 >>= _) _ _ z;refine aR (oI gb db (x:=.int i 0) rfl ?_);show wpAny _ _ (seqItems? (.ref t) >>= _) _ _ z;refine aR (vz gl dl ?_);simp only[kM,hu];refine aR (wpAny_rule (aR (yk gb db (by simp) ?_)));show wpAny _ _ (newExc (.type "StopIteration") [] >>= _) _ _ _;refine aR ?_;simp only[newExc,newTuple];refine aR (vy ?_ (by size_fits));refine aR (m:=firstArgMember _ _) (wpAny_of_eq (a:=kN) (by simp only[firstArgMember];rfl) (vy ?_ (by size_fits)));simp only[raiseNew];refine aR (wpAny_handled ?_)
 first|rw[show B.in1.handled=ae from hn]|rw[hn]
 exact aR (bV (wpAny_throw (hF _ _ (((vE ..).extBut.push _).push _) ⟨_,dS _ rfl,rfl⟩)))
end
def nm:Bool->String|true => "list" | false => "tuple"
def HH:Bool->String|true => "list_iterator" | false => "tuple_iterator"
def fS(k:Bool)(h:aZ)(l:ai)(us:Array aj):Prop:=∃o,h.get? l=ab o/\o.cls=.type (nm k)/\∃n,o.data=.seq us n
def jt(k:Bool)(h:aZ)(c l:ai)(i:Nat):Prop:=∃o,h.get? c=ab o/\o.cls=.type (HH k)/\o.data=.fields #[.ref l,.int i 0]
theorem fS.at{k:Bool}{h h':aZ}{l:ai}{us:Array aj}(x:fS k h l us)(f:∀o,h.get? l=ab o->h'.get? l=ab o):fS k h' l us:=let ⟨o,e,r⟩:=x;⟨o,f o e,r⟩
theorem jt.at{k:Bool}{h h':aZ}{c l:ai}{i:Nat}(x:jt k h c l i)(f:∀o,h.get? c=ab o->h'.get? c=ab o):jt k h' c l i:=let ⟨o,e,r⟩:=x;⟨o,f o e,r⟩
theorem jt.cell{k:Bool}{h:aZ}{c l:ai}{i:Nat}(x:jt k h c l i):∃o,h.get? c=ab o/\∀v,o.data≠.cell v:=let ⟨o,e,_,d⟩:=x;⟨o,e,λv q=>by rw[d]at q;cases q⟩
section
variable{P:bG}{w:bi}{B:b9}{F:aj->aB->Prop}{z:aB}
theorem nx{k:Bool}{c t:ai}{i:Nat}{us:Array aj}{u:aj}{R:aj->aB->Prop}(hc:jt k z.heap c t i)(ht:fS k z.heap t us)(hu:us[i]? = ab u)
 (hR:∀h',jt k h' c t (i+1)->oM c z.heap h'->R u { z with heap:=h' }):wpAny (model P w) B (qu (.ref c)) R F z:=by
 cases k
 ·exact Q0 hc ht hu hR
 ·exact wpAny_nextOf_list_item hc ht hu hR
theorem Io{k:Bool}{c t:ai}{i:Nat}{us:Array aj}{R:aj->aB->Prop}(hn:B.handled=ae)(hc:jt k z.heap c t i)(ht:fS k z.heap t us)(hu:us[i]? = ae)
 (hF:∀h' e,yo c z.heap h'->(∃o,h'.get? e=ab o/\o.cls=.type "StopIteration")->F (.ref e) { z with heap:=h' }):wpAny (model P w) B (qu (.ref c)) R F z:=by
 cases k
 ·exact NI hn hc ht hu hF
 ·exact wpAny_nextOf_list_end hn hc ht hu hF
abbrev j9(k:Bool)(l:ai):Obj:={ cls:=.type (HH k),data:=.fields #[.ref l,.int 0 0] }
theorem q0{k:Bool}{l:ai}{us:Array aj}{R:aj->aB->Prop}(h:fS k z.heap l us)(hR:R (.ref z.heap.objs.size) { z with heap:=z.heap.push (j9 k l) }):wpAny (model P w) B (pyIter (.ref l)) R F z:=by
 cases k
 ·exact wpAny_pyIter_tuple h hR
 ·exact vx h hR
end
theorem GW{P:bG}{w:bi}{B:b9}(hn:B.handled=ae)(k:Bool)(c l:ai)(hne:l≠c)(us:Array aj) :
 Draws P w B c [c,l] us.size (λi v=>us[i]? = ab v) (λi h=>jt k h c l i/\fS k h l us) where
 live:=λ_ _ st=>let ⟨o,ho,_⟩:=st.1;⟨o,ho⟩
 frame:=λ_ _ _ st f=>⟨st.1.at λo e=>f c (by simp) o e,st.2.at λo e=>f l (by simp) o e⟩
 item:=λi s Q E hi st hQ=>nx st.1 st.2 (u:=us[i]) (by simp[hi]) λh' a b=>hQ _ h' s.toks (by simp[hi]) ⟨a,st.2.at λo e=>b.extBut _ _ hne e⟩ b
 done:=λs Q E st hE=>Io hn st.1 st.2 (by simp) hE
end Zp
namespace Zp
open PySem PySem.Spec PyProof.Rows L2
variable[Tb:A.bS]
structure Sr where
 k:Bool
 c:ai
 l:ai
 us:Array aj
def On(h:aZ)(i:Nat)(q:Sr):Prop:=jt q.k h q.c q.l i/\fS q.k h q.l q.us
theorem On.at{h h':aZ}{i:Nat}{q:Sr}(x:On h i q)(f:∀b o,b=q.c\/b=q.l->h.get? b=ab o->h'.get? b=ab o):On h' i q:=⟨x.1.at λo e=>f _ o (.inl rfl) e,x.2.at λo e=>f _ o (.inr rfl) e⟩
abbrev TupAt(h:aZ)(T:ai)(vs:List aj):Prop:=h.get? T=ab { cls:=.type "tuple", data:=.seq vs.toArray }
structure Ap(z TI TO:ai)(L:List Sr):Prop where
 TIz:TI≠z
 TOz:TO≠z
 TITO:TI≠TO
 nd:(L.map (·.c)).Nodup
 c:∀q∈L,q.c≠z/\q.c≠TI/\q.c≠TO
 l:∀q∈L,q.l≠z/\q.l≠TO/\∀r∈L,q.l≠r.c
theorem GH{M:Model}{B:b9}{α β:Type}{b:β}{f:α->β->Sem (ForInStep β)}{E:aj->aB->Prop}(I:Nat->aB->Prop):∀(xs:List α) (n:Nat) (s:aB),
 (∀j x,xs[j]? = ab x->∀s,I (n+j) s->wpAny M B (f x b) (λr s'=>r=.yield b/\I (n+j+1) s') E s)->I n s->wpAny M B (forIn xs b f) (λr s'=>r=b/\I (n+xs.length) s') E s
 |[],n,s,_,h=>by
  rw[List.forIn_nil];exact bV ⟨rfl,h⟩
 |x::r,n,s,hs,h=>by
  rw[Cm];refine aR (jY (hs 0 x rfl s h) (λy s' hy=>?_) λ_ _ e=>e);obtain⟨rfl,hy⟩:=hy;refine jY (GH I r (n+1) s' (λj x' e s2 h2=>?_) hy) (λy s2 h2=>⟨h2.1,?_⟩) λ_ _ e=>e
  ·rw[show n+1+j=n+(j+1)by omega]at h2 ⊢;exact hs (j+1) x' (by simpa using e) s2 h2
  ·rw[cx,show n+(r.length+1)=n+1+r.length by omega];exact h2.2
section
variable{P:bG}{w:bi}{B:b9}{F:aj->aB->Prop}{s:aB}
def Kp(z TO:ai)(L:List Sr)(h h':aZ):Prop:=∀b o,b≠z->b≠TO->b∉L.map (·.c)->h.get? b=ab o->h'.get? b=ab o
structure Mid(s:aB)(z TI TO:ai)(L:List Sr)(i n:Nat)(s':aB):Prop where
 zz:IsZip s'.heap z TI TO .ellipsis
 vs:∃vs:List aj,vs.length=L.length/\TupAt s'.heap TO vs/\∀(j:Nat) (q:Sr),j<n->L[j]? = ab q->vs[j]? = q.us[i]?/\i<q.us.size
 on:∀(j:Nat) (q:Sr),L[j]? = ab q->On s'.heap (if j<n then i+1 else i) q
 sz:s'.heap.objs.size=s.heap.objs.size
 kp:Kp z TO L s.heap s'.heap
 eq:s'={ s with heap:=s'.heap }
theorem Mf{L:List Sr}(h:(L.map (·.c)).Nodup){i j:Nat}{p q:Sr}(hp:L[i]? = ab p)(hq:L[j]? = ab q)(hij:i≠j):p.c≠q.c:=by
 intro e;have h1:(L.map (·.c))[i]? = ab p.c:=by rw[cS,hp];rfl
 have h2:(L.map (·.c))[j]? = ab q.c:=by rw[cS,hq];rfl
 obtain⟨l1,g1⟩:=cv.mp h1;obtain⟨l2,g2⟩:=cv.mp h2;exact hij ((qj h).mp (by rw[g1,g2,e]))
theorem Fq{z TI TO:ai}{L:List Sr}{i:Nat}{vs:List aj}{R:aj->aB->Prop}(hh:B.handled=ae)(D:Ap z TI TO L)(h0:L≠[])
 (hz:IsZip s.heap z TI TO .none) (hI:TupAt s.heap TI (L.map λq=>.ref q.c)) (hO:TupAt s.heap TO vs) (hl:vs.length=L.length) (hL:L.length<=8) (hon:∀q∈L,On s.heap i q)
 (hR:∀(h':aZ) (ws:List aj),IsZip h' z TI TO (rawInt s.heap.objs.size)->ws.length=L.length->(∀(j:Nat) (q:Sr),L[j]? = ab q->ws[j]? = q.us[i]?/\i<q.us.size)->TupAt h' TO ws->TupAt h' s.heap.objs.size ws->(∀q∈L,On h' (i+1) q) ->
  Kp z TO L s.heap h'->R (.ref s.heap.objs.size) { s with heap:=h' })
 (hF:∀(h':aZ) (e:ai),Kp z TO L s.heap h'->(∃o,h'.get? e=ab o/\o.cls=.type "StopIteration")->(∃q∈L,q.us.size<=i)->F (.ref e) { s with heap:=h' }) :
 wpAny (model P w) B (Builtin.«zip.__next__» ⟨[.ref z],[]⟩) (λfin s'=>∃v,fin=.done (.ret v)/\R v s') F s:=by
 show wpAny _ _ (field (.ref z) 2 >>= _) _ _ _;refine aR (oI hz rfl (x:=.bool false) rfl ?_);show wpAny _ _ (field (.ref z) 3 >>= _) _ _ _;refine aR (oI hz rfl (x:=.ref TI) rfl ?_);refine aR (vz hI rfl ?_);have hne:((L.map λq=>eA q.c).toArray.isEmpty)=false:=by cases L with|nil=>exact absurd rfl h0|cons q r=>rfl
 simp only[hne,sJ,j8];show wpAny _ _ (J6 (.ref z) >>= _) _ _ _;refine aR ?_;unfold J6;refine aR (oI hz rfl (x:=.none) rfl (bV ?_));simp only[l8];refine aR (wpAny_rule (aR (oI hz rfl (x:=.ref TO) rfl (aR (ye hz (by simp) λh1 hz1 hs1=>?_)))));replace hz1:IsZip h1 z TI TO .ellipsis:=hz1;have M0:Mid s z TI TO L i 0 { s with heap:=h1 }:=⟨hz1,⟨vs,hl,hs1.extBut _ _ D.TOz hO,λj q h _=>absurd h (mx _)⟩,λj q e=>(hon q (eS e)).at λb o hb x=>by
  have hq:=eS e;rcases hb with rfl|rfl
  ·exact hs1.extBut _ _ (D.c q hq).1 x
  ·exact hs1.extBut _ _ (D.l q hq).1 x,hs1.1,λb o b1 _ _ x=>hs1.extBut _ _ b1 x,rfl⟩
 refine aR (jY (GH (Mid s z TI TO L i) _ 0 _ ?_ M0) ?_ λ_ _ e=>e)
 ·intro j x e s2 M;rw[da]at M ⊢;obtain⟨q,hq,rfl⟩ : ∃q,L[j]? = ab q/\x=(eA q.c,j):=by
   simp only[List.getElem?_zipIdx,cS,Option.map_map]at e;obtain⟨q,hq,e⟩:=gR.mp e;exact⟨q,hq,by rw[<- e];simp⟩
  have hqm:=eS hq;have jlt:j<L.length:=(cv.mp hq).1;have onq:=M.on j q hq;rw[a8 (kL j)]at onq;obtain⟨ws,wl,wO,wv⟩:=M.vs;refine aR (wpAny_onRaise ?_);show wpAny _ _ (qu (.ref q.c) >>= _) _ _ _;cases hu:q.us[i]? with
  |none=>
   refine aR (Io hh onq.1 onq.2 hu λh3 e2 x3 he=>?_);obtain⟨oe,goe,coe⟩:=he;have hz3:IsZip h3 z TI TO .ellipsis:=x3 _ _ (D.c q hqm).1.symm M.zz;have hez:e2≠z:=λy=>by subst y;rw[hz3]at goe;cases goe;simp at coe
   refine ye hz3 (by simp) λh4 _ x4=>?_;rw[M.eq];exact hF h4 e2 (λb o b1 b2 b3 y=>x4.extBut _ _ b1 (x3 _ _ (λq'=>b3 (by rw[q'];exact qi hqm)) (M.kp b o b1 b2 b3 y))) ⟨oe,x4.extBut _ _ hez goe,coe⟩ ⟨q,hqm,by simpa using hu⟩
  |some u=>
   refine aR (nx onq.1 onq.2 hu λh3 a3 x3=>bV ?_);have hO3:TupAt h3 TO ws:=x3.extBut _ _ (D.c q hqm).2.2.symm wO;refine aR (vz hO3 rfl (aR (wpAny_updateSeq hO3 rfl ?_ (by rw[dH,wl,eK];omega) (by simp only[Array.size_setIfInBounds,dH];rw[wl,eK];omega))));refine aR (wpAny_letGo (bV ⟨rfl,?_⟩));have x4:oM TO h3 (h3.update TO (vF (·.setIfInBounds j u))):=vE ..;have hu':i<q.us.size:=(Array.getElem?_eq_some_iff.mp hu).1;have up:∀b o,b≠q.c->b≠TO->s2.heap.get? b=ab o->(h3.update TO (vF (·.setIfInBounds j u))).get? b=ab o:=λb o b1 b2 y=>x4.extBut _ _ b2 (x3.extBut _ _ b1 y);refine⟨up _ _ (D.c q hqm).1.symm D.TOz.symm M.zz,⟨ws.set j u,by rw[kJ];exact wl,?_,λk r hk hr=>?_⟩,λk r hr=>?_,?_,λb o b1 b2 b3 y=>up b o (λq'=>b3 (by rw[q'];exact qi hqm)) b2 (M.kp b o b1 b2 b3 y),?_⟩
   ·show(h3.update TO _).get? TO=_;rw[CF _ hO3 rfl];simp[vF]
   ·by_cases hkj:k=j
    ·subst hkj;rw[hq]at hr;cases hr;rw[Cj,bc rfl,bc (by omega),hu];exact⟨rfl,hu'⟩
    ·rw[Cj,a8 (λq=>hkj q.symm)];exact wv k r (by omega) hr
   ·have hrm:=eS hr;by_cases hkj:k=j
    ·subst hkj;rw[hq]at hr;cases hr;rw[bc (CH _)];exact⟨a3.at λo y=>x4.extBut _ _ (D.c q hqm).2.2 y,onq.2.at λo y=>up _ o ((D.l q hqm).2.2 q hqm) (D.l q hqm).2.1 y⟩
    ·have:=M.on k r hr;rw[show(if k<j then i+1 else i)=(if k<j+1 then i+1 else i)from by
      by_cases h:k<j
      ·rw[bc h,bc (by omega)]
      ·rw[a8 h,a8 (by omega)]]at this
     exact this.at λb o hb y=>by
      rcases hb with rfl|rfl
      ·exact up _ _ (Mf D.nd hr hq hkj) (D.c r hrm).2.2 y
      ·exact up _ _ ((D.l r hrm).2.2 q hqm) (D.l r hrm).2.1 y
   ·show(h3.update TO _).objs.size=_;rw[x4.1,x3.1,M.sz]
   ·rw[M.eq]
 ·rintro r s2 ⟨rfl,M⟩;have hL2:0+((L.map λq=>eA q.c).toArray.toList.zipIdx).length=L.length:=by simp
  rw[hL2]at M;obtain⟨ws,wl,wO,wv⟩:=M.vs;refine aR (vz wO rfl (aR (wpAny_newTuple ?_ (by show ws.length<=_;rw[wl,eK];omega))));show wpAny _ _ (J5 (.ref z) (.ref s2.heap.objs.size) >>= _) _ _ _;refine aR ?_;unfold J5;have hz6:IsZip (s2.heap.push { cls:=.type "tuple", data:=.seq ws.toArray }) z TI TO .ellipsis:=cM _ M.zz;refine aR (ye hz6 (by simp) λh7 hz7 x7=>?_);replace hz7:IsZip h7 z TI TO (rawInt s2.heap.objs.size):=hz7;refine ye hz7 (by simp) λh8 hz8 x8=>?_;replace hz8:IsZip h8 z TI TO (rawInt s2.heap.objs.size):=hz8;have up:∀b o,b≠z->s2.heap.get? b=ab o->h8.get? b=ab o:=λb o b1 y=>x8.extBut _ _ b1 (x7.extBut _ _ b1 (cM _ y));have hzl:z<s2.heap.objs.size:=cG M.zz;have hT8:TupAt h8 s2.heap.objs.size ws:=x8.extBut _ _ (vB hzl) (x7.extBut _ _ (vB hzl) (dS _ rfl));refine bV ⟨_,rfl,?_⟩;show R (.ref s2.heap.objs.size) _;rw[M.sz]at hz8 hT8 ⊢;have e:=M.eq;rw[e];exact hR h8 ws hz8 wl (λj q hq=>wv j q (cv.mp hq).1 hq) (up _ _ D.TOz wO) hT8 (λq hq=>by
   obtain⟨j,hj⟩:=li hq;have:=M.on j q hj;rw[bc (cv.mp hj).1]at this;exact this.at λb o hb y=>by
    rcases hb with rfl|rfl
    ·exact up _ _ (D.c q hq).1 y
    ·exact up _ _ (D.l q hq).1 y) λb o b1 b2 b3 y=>up b o b1 (M.kp b o b1 b2 b3 y)
end
end Zp
namespace Zp
open PySem PySem.Spec PyProof.Rows L2
variable[Tb:A.bS]
section
variable{P:bG}{w:bi}{B:b9}{F':aj->aB->Prop}{s:aB}
theorem SA(a b c:aj):checkTypeCall "zip" ⟨[a,b,c],[]⟩=pure ():=by kernel_rfl
theorem Pb(a b c:aj):checkBuiltinCall "zip.__new__" ⟨[.type "zip", a,b,c],[]⟩=pure ():=by kernel_rfl
theorem MI(a b c d:aj):argsOk "object.__init__" ⟨[a,b,c,d],[]⟩:=by unfold argsOk;rw[signature?_of (id := "object.__init__") (n:=['_','_','t','i','n','i','_','_']) (o:=['t','c','e','j','b','o']) (by kernel_rfl) F.owner_object];kernel_rfl
abbrev zO(TI TO:ai):Obj:={ cls:=.type "zip", data:=.fields #[.none,.bool false,.bool false,.ref TI,.ref TO] }
abbrev tO(vs:List aj):Obj:={ cls:=.type "tuple", data:=.seq vs.toArray }
theorem mk3(k1 k2 k3:Bool)(l1 l2 l3:ai)(xs ys zs:Array aj) :
 Meets (Builtin.«zip.__new__» ⟨[.type "zip", .ref l1,.ref l2,.ref l3],[]⟩) (λ_ R s=>fS k1 s.heap l1 xs/\fS k2 s.heap l2 ys/\fS k3 s.heap l3 zs /\
  ∀h1 h2 h3 h4 h5:aZ,h1=s.heap.push (j9 k1 l1)->h2=h1.push (j9 k2 l2)->h3=h2.push (j9 k3 l3)->h4=h3.push (tO [.ref s.heap.objs.size,.ref h1.objs.size,.ref h2.objs.size])->h5=h4.push (tO [.none,.none,.none]) ->
  R (.ok (.ret (.ref h5.objs.size))) { s with heap:=h5.push (zO h3.objs.size h4.objs.size) }):=
 .of_wp λprog w A R s h=>by
  obtain⟨hp,g,d,tk,os⟩:=s;obtain⟨a1,a2,a3,h⟩:=h;have hsub:=sub_zip;have b1:fS k1 (yC ⟨hp,g,d,tk,os⟩) l1 xs:=a1;have b2:fS k2 (yC ⟨hp.push (j9 k1 l1),g,d,tk,os⟩) l2 ys:=a2.at λo e=>cM _ e;have b3:fS k3 (yC ⟨(hp.push (j9 k1 l1)).push (j9 k2 l2),g,d,tk,os⟩) l3 zs:=a3.at λo e=>cM _ (cM _ e)
  wp_walk using q0 b1,q0 b2,q0 b3
  exact⟨_,rfl,h _ _ _ _ _ rfl rfl rfl rfl rfl⟩
abbrev Tr:=Bool×ai×ai
structure Zs(h:aZ)(z TI TO:ai)(T:List Tr)(i:Nat):Prop where
 zz:IsZip h z TI TO .none
 ti:TupAt h TI (T.map λq=>.ref q.2.1)
 to:∃vs:List aj,vs.length=T.length/\TupAt h TO vs
 it:∀q∈T,jt q.1 h q.2.1 q.2.2 i
theorem iG{k1 k2 k3:Bool}{l1 l2 l3:ai}{xs ys zs:Array aj}{R:aj->aB->Prop}(a1:fS k1 s.heap l1 xs)(a2:fS k2 s.heap l2 ys)(a3:fS k3 s.heap l3 zs)
 (h:∀h',Zs h' (s.heap.objs.size+5) (s.heap.objs.size+3) (s.heap.objs.size+4) [(k1,s.heap.objs.size,l1),(k2,s.heap.objs.size+1,l2),(k3,s.heap.objs.size+2,l3)] 0->(∀c o,s.heap.get? c=ab o->h'.get? c=ab o) ->
  R (.ref (s.heap.objs.size+5)) { s with heap:=h' }):wpAny (model P w) B (call (.type "zip") [.ref l1,.ref l2,.ref l3]) R F' s:=by
 refine callType_new F.called_zip (by decide) (SA _ _ _) (Pb _ _ _) (λobj=>MI obj _ _ _) F.entry_zip_new (mk3 k1 k2 k3 l1 l2 l3 xs ys zs) ⟨a1,a2,a3,?_⟩;intro h1 h2 h3 h4 h5 e1 e2 e3 e4 e5;have z1:h1.objs.size=s.heap.objs.size+1:=by rw[e1];exact qr ..
 have z2:h2.objs.size=s.heap.objs.size+2:=by rw[e2,qr,z1]
 have z3:h3.objs.size=s.heap.objs.size+3:=by rw[e3,qr,z2]
 have z4:h4.objs.size=s.heap.objs.size+4:=by rw[e4,qr,z3]
 have z5:h5.objs.size=s.heap.objs.size+5:=by rw[e5,qr,z4]
 have p1:∀c o,s.heap.get? c=ab o->h1.get? c=ab o:=λc o x=>by rw[e1];exact cM _ x
 have p2:∀c o,h1.get? c=ab o->h2.get? c=ab o:=λc o x=>by rw[e2];exact cM _ x
 have p3:∀c o,h2.get? c=ab o->h3.get? c=ab o:=λc o x=>by rw[e3];exact cM _ x
 have p4:∀c o,h3.get? c=ab o->h4.get? c=ab o:=λc o x=>by rw[e4];exact cM _ x
 have p5:∀c o,h4.get? c=ab o->h5.get? c=ab o:=λc o x=>by rw[e5];exact cM _ x
 have p6:∀c o,h5.get? c=ab o->(h5.push (zO h3.objs.size h4.objs.size)).get? c=ab o:=λc o x=>cM _ x;have g1:h1.get? s.heap.objs.size=ab (j9 k1 l1):=by rw[e1];exact dS _ rfl
 have g2:h2.get? h1.objs.size=ab (j9 k2 l2):=by rw[e2];exact dS _ rfl
 have g3:h3.get? h2.objs.size=ab (j9 k3 l3):=by rw[e3];exact dS _ rfl
 have g4:h4.get? h3.objs.size=ab (tO [.ref s.heap.objs.size,.ref h1.objs.size,.ref h2.objs.size]):=by rw[e4];exact dS _ rfl
 have g5:h5.get? h4.objs.size=ab (tO [.none,.none,.none]):=by rw[e5];exact dS _ rfl
 have g6:(h5.push (zO h3.objs.size h4.objs.size)).get? h5.objs.size=ab (zO h3.objs.size h4.objs.size):=dS _ rfl;show _/\_;refine⟨⟨_,g6,rfl⟩,?_⟩;rw[z1]at g2 g4;rw[z2]at g3 g4;rw[z3]at g4;rw[z4]at g5;rw[z5]at g6 ⊢;rw[z3,z4]at g6 p6 ⊢;exact h _ ⟨g6,p6 _ _ (p5 _ _ g4),⟨_,rfl,p6 _ _ g5⟩,λq hq=>by
  rcases bB.mp hq with rfl|hq
  ·exact⟨_,p6 _ _ (p5 _ _ (p4 _ _ (p3 _ _ (p2 _ _ g1)))),rfl,rfl⟩
  rcases bB.mp hq with rfl|hq
  ·exact⟨_,p6 _ _ (p5 _ _ (p4 _ _ (p3 _ _ g2))),rfl,rfl⟩
  ·obtain rfl:=bQ.mp hq;exact⟨_,p6 _ _ (p5 _ _ (p4 _ _ g3)),rfl,rfl⟩⟩ λc o x=>p6 _ _ (p5 _ _ (p4 _ _ (p3 _ _ (p2 _ _ (p1 _ _ x)))))
end
end Zp
namespace Zp
open PySem PySem.Spec PyProof.Rows L2 A
variable[Tb:A.bS]
def gO(H:Hp)(s:Bool×ai)(xs:List V):Prop:=match s.1 with
 |true=>Lst H s.2 xs
 |false=>H s.2=ab (.tup xs)
theorem gO.nn{H:Hp}{s:Bool×ai}{xs:List V}(h:gO H s xs):H s.2≠ae:=by
 obtain⟨k,a⟩:=s;cases k
 ·have h:H a=_:=h;show H a≠ae;rw[h];simp
 ·rcases(show Lst H a xs from h)with h|⟨o,h⟩
  ·show H a≠ae;rw[h];simp
  ·show H a≠ae;rw[h];simp
theorem gO.inj{H:Hp}{s:Bool×ai}{xs ys:List V}(h:gO H s xs)(h':gO H s ys):xs=ys:=by
 obtain⟨k,a⟩:=s;cases k
 ·have h:H a=ab (.tup xs):=h;have h':H a=ab (.tup ys):=h';rw[h]at h';cases h';rfl
 ·rcases(show Lst H a xs from h)with h|⟨o,h⟩<;>rcases(show Lst H a ys from h')with h'|⟨o',h'⟩<;>rw[h]at h'<;>cases h'<;>rfl
theorem gO.at{X:Cx}{ah:List (ai×Obj)}{σ:L2.St}{H:Hp}{s:aB}{k:Bool}{a:ai}{xs:List V}(I:Inv X ah σ H s)(h:gO H (k,a) xs):∃av:List aj,Vals xs av/\fS k s.heap a av.toArray:=by
 cases k
 ·have h:H a=ab (.tup xs):=h;obtain⟨_,av,rv,o,e,c,_,d⟩:=I.hok a _ h;exact⟨av,rv,o,e,c,d⟩
 ·have h:Lst H a xs:=h;obtain⟨av,rv,⟨o,n,e,c,_,d⟩,_⟩:=I.list h.sq;exact⟨av,rv,o,e,c,n,d⟩
abbrev j7(H:Hp)(S:List (Bool×ai))(xss:List (List V)):Prop:=P2 (λs xs=>gO H s xs) S xss
def tQ(S:List (Bool×ai)):It:=
 ⟨fun i H => ∃ xss, j7 H S xss ∧ ∀ xs ∈ xss, i < xs.length,
  λi H v H'=>∃p ws,(∀xss,j7 H S xss->P2 (λ(xs:List V) x=>xs[i]? = ab x) xss ws)/\H p=ae/\v=.ref p/\H'=upd H p (.tup ws),
  λi H=>∃xss,j7 H S xss/\∃xs∈xss,xs.length<=i⟩
theorem IT{H:Hp}:∀{S:List (Bool×ai)} {xss yss:List (List V)},j7 H S xss->j7 H S yss->xss=yss
 |_,_,_,.nil,.nil=>rfl
 |_,_,_,.cons a r,.cons b t=>by rw[a.inj b,IT r t]
theorem lie{X:Cx}{ah:List (ai×Obj)}{σ:L2.St}{H:Hp}{s:aB}(I:Inv X ah σ H s):∀{T:List Tr} {xss:List (List V)},j7 H (T.map λq=>(q.1,q.2.2)) xss ->
 ∃L:List Sr,L.map (λq=>(q.k,q.c,q.l))=T/\(∀q∈L,fS q.k s.heap q.l q.us/\H q.l≠ae)/\P2 (λ(q:Sr) xs=>Vals xs q.us.toList) L xss
 |[],_,.nil=>⟨[],rfl,λq h=>absurd h (by simp),.nil⟩
 |(k,c,l)::T,_,.cons a r=>by
  obtain⟨L,e,h,p⟩:=lie I r;obtain⟨av,rv,q⟩:=a.at I;refine⟨⟨k,c,l,av.toArray⟩::L,by rw[cP,e],λy hy=>?_,.cons rv p⟩;rcases bB.mp hy with rfl|hy
  ·exact⟨q,a.nn⟩
  ·exact h y hy
theorem pick{i:Nat}:∀{L:List Sr} {xss:List (List V)} {ws:List aj},P2 (λ(q:Sr) xs=>Vals xs q.us.toList) L xss->ws.length=L.length->(∀(j:Nat) (q:Sr),L[j]? = ab q->ws[j]? = q.us[i]?/\i<q.us.size) ->
 ∃vws:List V,Vals vws ws/\P2 (λ(xs:List V) x=>xs[i]? = ab x) xss vws
 |_,_,[],.nil,_,_=>⟨[],.nil,.nil⟩
 |_,_,w::ws,.cons (a:=q) (b:=xs) rv t,hl,h=>by
  obtain⟨vws,r,p⟩:=pick t (by simpa using hl) λj r hr=>by simpa using h (j+1) r (by simpa using hr)
  obtain⟨e,hi⟩:=h 0 q rfl;have hlen:=rv.length;have hix:i<xs.length:=by simp at hlen;omega
  obtain⟨u,hu,ru⟩:=rv.get (i:=i) (x:=xs[i]) (by simp[hix]);have:ab w=ab u:=by have e':ab w=q.us[i]?:=e;rw[e',<- hu];simp
  cases this;exact⟨xs[i]::vws,.cons ru r,.cons (by simp[hix]) p⟩
 |_,_,[],.cons _ _,hl,_=>by simp at hl
 |_,_,w::ws,.nil,hl,_=>by simp at hl
structure FR(z TI TO:ai)(T:List Tr):Prop where
 TIz:TI≠z
 TOz:TO≠z
 TITO:TI≠TO
 nd:(T.map (·.2.1)).Nodup
 c:∀q∈T,q.2.1≠z/\q.2.1≠TI/\q.2.1≠TO
theorem TB{P:bG}{w:bi}{K:aU}{elts:List a9}{k1:Nat}{pos:Pos}{z TI TO:ai}{T:List Tr}(D0:FR z TI TO T)(hT0:T≠[])(hT8:T.length<=8) :
 Turn P w K (.Tuple elts k1 pos) (tQ (T.map λq=>(q.1,q.2.2))) (z::TI::TO::T.map (·.2.1)) z (λi h=>Zs h z TI TO T i) where
 mem:=by simp
 obj:=λi h st b hb=>by
  rcases bB.mp hb with rfl|hb
  ·exact⟨_,st.zz,λv q=>by cases q⟩
  rcases bB.mp hb with rfl|hb
  ·exact⟨_,st.ti,λv q=>by cases q⟩
  rcases bB.mp hb with rfl|hb
  ·obtain⟨vs,_,h⟩:=st.to;exact⟨_,h,λv q=>by cases q⟩
  ·obtain⟨q,hq,rfl⟩:=ce.mp hb;exact(st.it q hq).cell
 keep:=λi h h' st kk=>⟨kk z (by simp) _ st.zz,kk TI (by simp) _ st.ti,let ⟨vs,l,e⟩:=st.to;⟨vs,l,kk TO (by simp) _ e⟩,λq hq=>(st.it q hq).at λo e=>kk _ (by simp only[bB];exact .inr (.inr (.inr (qi (f:=λq:Tr=>q.2.1) hq)))) o e⟩
 item:=by
  intro X hP hw hK hc i ah s σ H E I hf st hg;subst hP hw hK;obtain⟨xss,hq,hx⟩:=hg;obtain⟨L,eL,at_,rL⟩:=lie I hq;have eT:T.map (λq=>(eA q.2.1))=L.map λq=>.ref q.c:=by rw[<- eL,dF];rfl
  have eC:T.map (λq=>q.2.1)=L.map λq=>q.c:=by rw[<- eL,dF];rfl
  have lT:T.length=L.length:=by rw[<- eL,aO]
  have inT:∀q∈L,(q.k,q.c,q.l)∈T:=λq h=>by rw[<- eL];exact qi (f:=λq:Sr=>(q.k,q.c,q.l)) h
  have lne:∀q∈L,∀b∈z::TI::TO::T.map (·.2.1),q.l≠b:=λq h b hb e=>(at_ q h).2 (by rw[e];exact(hf b hb).1);have D:Ap z TI TO L:=⟨D0.TIz,D0.TOz,D0.TITO,by rw[<- eC];exact D0.nd,λq h=>D0.c _ (inT q h),λq h=>⟨lne q h z (by simp),lne q h TO (by simp),λr hr=>lne q h r.c (by rw[eC];simp only[bB];exact .inr (.inr (.inr (qi (f:=λq:Sr=>q.c) hr))))⟩⟩;have hO:=st.to;obtain⟨vs,vl,hO⟩:=hO;have hTI:=st.ti;rw[eT]at hTI;have hty:s.TypeIs (.ref z) "zip" := ⟨_,st.zz,rfl⟩;unfold pyNext;refine aR (yl (sE (name:=sL "__next__") hty yx (oH yx hty F.entry_zip_next
   (Fq (by first|exact I.ok.hd hc|(simp;exact I.ok.hd hc)) D (λe=>hT0 (by rw[e]at lT;exact B9 lT)) st.zz hTI hO (by rw[vl,lT]) (by omega) (λq h=>⟨st.it _ (inT q h),(at_ q h).1⟩) (λh' ws hz' wl wv hO' hN on' kp=>bV ?_) (λh' e kp he hend=>?_)) (F.args_zip_next_1 _))))
  ·refine⟨_,rfl,wpAny_letOwnedTupleGo_zip hz' λh2 hz2 hs2=>?_⟩;have kk:∀b o,b∉z::TI::TO::T.map (·.2.1)->s.heap.get? b=ab o->h2.get? b=ab o:=λb o hb q=>by
    simp only[bB,not_or]at hb;exact(hs2.2 b hb.1).trans (kp b o hb.1 hb.2.2.1 (by rw[<- eC];exact hb.2.2.2) q)
   have hne:∀b∈z::TI::TO::T.map (·.2.1),b≠s.heap.objs.size:=λb hb e=>by
    obtain⟨o,ho,_⟩ : ∃o,s.heap.get? b=ab o/\True:=by
     rcases bB.mp hb with rfl|hb
     ·exact⟨_,st.zz,trivial⟩
     rcases bB.mp hb with rfl|hb
     ·exact⟨_,st.ti,trivial⟩
     rcases bB.mp hb with rfl|hb
     ·exact⟨_,hO,trivial⟩
     ·obtain⟨q,hq,rfl⟩:=ce.mp hb;obtain⟨o,ho,_⟩:=st.it q hq;exact⟨o,ho,trivial⟩
    exact absurd (cG ho) (by rw[e];exact kL _)
   obtain⟨vws,hv,hy⟩ : ∃vws:List V,Vals vws ws/\P2 (λ(xs:List V) x=>xs[i]? = ab x) xss vws:=by exact pick rL wl wv
   have hN2:TupAt h2 s.heap.objs.size ws:=(hs2.2 _ (λe=>hne z (by simp) e.symm)).trans hN;refine⟨.ref s.heap.objs.size,upd H s.heap.objs.size (.tup vws),Ir (s:=s) (t':=s.toks) I hf kk (bK _) ⟨?_,ws,hv,⟨_,hN2,rfl,rfl,_,rfl⟩⟩,rfl,⟨_,vws,λyss h=>by rw[IT h hq];exact hy,I.hok.fresh (bK _),rfl,rfl⟩,?_,λb hb=>?_⟩
   ·rw[hv.length,wl,eK];omega
   ·refine⟨hz2,(hs2.2 _ D0.TIz).trans ?_,⟨ws,by rw[wl,lT],(hs2.2 _ D0.TOz).trans hO'⟩,λq hq2=>?_⟩
    ·exact kp _ _ D0.TIz D0.TITO (λh=>by
      rw[<- eC]at h;obtain⟨q,hq2,e⟩:=ce.mp h;exact(D0.c q hq2).2.1 e) st.ti
    ·rw[<- eL]at hq2;obtain⟨r,hr,rfl⟩:=ce.mp hq2;exact(on' r hr).1.at λo q=>(hs2.2 _ (D.c r hr).1).trans q
   ·rw[aS (hne b hb)];exact(hf b hb).1
  ·exfalso;obtain⟨q,hqm,hle⟩:=hend;obtain⟨j,hj⟩:=li hqm;obtain⟨xs,hxs,rv⟩:=rL.getL hj;have:=hx xs (eS hxs);have:=rv.length;simp at this;omega
 done:=by
  intro X hP hw hK hc i ah s σ H E I hf st hg;subst hP hw hK;obtain⟨xss,hq,xs0,hx0,hxl⟩:=hg;obtain⟨L,eL,at_,rL⟩:=lie I hq;have eT:T.map (λq=>(eA q.2.1))=L.map λq=>.ref q.c:=by rw[<- eL,dF];rfl
  have eC:T.map (λq=>q.2.1)=L.map λq=>q.c:=by rw[<- eL,dF];rfl
  have lT:T.length=L.length:=by rw[<- eL,aO]
  have inT:∀q∈L,(q.k,q.c,q.l)∈T:=λq h=>by rw[<- eL];exact qi (f:=λq:Sr=>(q.k,q.c,q.l)) h
  have lne:∀q∈L,∀b∈z::TI::TO::T.map (·.2.1),q.l≠b:=λq h b hb e=>(at_ q h).2 (by rw[e];exact(hf b hb).1);have D:Ap z TI TO L:=⟨D0.TIz,D0.TOz,D0.TITO,by rw[<- eC];exact D0.nd,λq h=>D0.c _ (inT q h),λq h=>⟨lne q h z (by simp),lne q h TO (by simp),λr hr=>lne q h r.c (by rw[eC];simp only[bB];exact .inr (.inr (.inr (qi (f:=λq:Sr=>q.c) hr))))⟩⟩;have hO:=st.to;obtain⟨vs,vl,hO⟩:=hO;have hTI:=st.ti;rw[eT]at hTI;have hty:s.TypeIs (.ref z) "zip" := ⟨_,st.zz,rfl⟩;unfold pyNext;refine aR (yl (sE (name:=sL "__next__") hty yx (oH yx hty F.entry_zip_next
   (Fq (by first|exact I.ok.hd hc|(simp;exact I.ok.hd hc)) D (λe=>hT0 (by rw[e]at lT;exact B9 lT)) st.zz hTI hO (by rw[vl,lT]) (by omega) (λq h=>⟨st.it _ (inT q h),(at_ q h).1⟩) (λh' ws hz' wl wv hO' hN on' kp=>?_) (λh' e kp he hend=>?_)) (F.args_zip_next_1 _))))
  ·exfalso;obtain⟨j,hj⟩:=li hx0;obtain⟨q,hqj,rv⟩:=rL.y7 hj;have:=(wv j q hqj).2;have:=rv.length;simp at this;omega
  ·obtain⟨o,ho,hcl⟩:=he;refine aR (wpAny_isInstance (T := "StopIteration") (b:=true) ⟨o,ho,hcl⟩ isSubtype_stop (bV ⟨rfl,?_⟩));exact JB (s:=s) (t':=s.toks) I hf λb o hb q=>by
    simp only[bB,not_or]at hb;exact kp b o hb.1 hb.2.2.1 (by rw[<- eC];exact hb.2.2.2) q
 self:=λ_ i s Q E st h=>wpAny_pyIter_zip st.zz h
end Zp
namespace Mi
def tW:D->Rs (List D)
 |.lst ds=>.ok ds
 |.tup ds=>.ok ds
 |_=>.no
def A4(a b c:E):I:=λe=>(a e).bind λx=>(b e).bind λy=>(c e).bind λz=>(tW x).bind λds=>(tW y).bind λes=>(tW z).bind λfs=>.ok (gU ds es fs)
end Mi
namespace Zp
open PySem PySem.Spec PyProof.Rows L2 A
open Mi (D W Rs Fin aA)
variable[Tb:A.bS]
theorem gO.same{H H':Hp}{s:Bool×ai}{xs:List V}(h:cL H H')(q:gO H s xs):gO H' s xs:=by
 obtain⟨k,a⟩:=s;cases k
 ·exact h _ _ q
 ·exact Lst.same (a:=a) h q
theorem sZ{H H':Hp}{S:List (Bool×ai)}{xss:List (List V)}(h:cL H H')(q:j7 H S xss):j7 H' S xss:=q.imp λ_ _ x=>x.same h
def Jb(dss:List (List D))(dz:List D):Prop:=(∀i,i<dz.length->∃us,dz[i]? = ab (.tup us)/\P2 (λ(ds:List D) u=>ds[i]? = ab u) dss us)/\∃ds∈dss,ds.length=dz.length
theorem picks{Hv:Hp}{i:Nat}:∀{dss:List (List D)} {xss:List (List V)} {us:List D} {ws:List V},P2 (P2 (Rep Hv)) dss xss->P2 (λ(ds:List D) u=>ds[i]? = ab u) dss us->P2 (λ(xs:List V) x=>xs[i]? = ab x) xss ws->P2 (Rep Hv) us ws
 |_,_,_,_,.nil,.nil,.nil=>.nil
 |_,_,_,_,.cons a r,.cons b s,.cons c t=>.cons (a.get b c) (picks r s t)
theorem DW{α β:Type}{F:α->β->Prop}:∀{l:List α} {m:List β} {b:β},P2 F l m->b∈m->∃a∈l,F a b
 |_,_,_,.cons x t,h=>by
  rcases bB.mp h with rfl|h
  ·exact⟨_,cJ ..,x⟩
  ·obtain⟨a,ha,q⟩:=DW t h;exact⟨a,dR _ ha,q⟩
theorem Bz{α β:Type}{F:α->β->Prop}:∀{l:List α} {m:List β} {a:α},P2 F l m->a∈l->∃b∈m,F a b
 |_,_,_,.cons x t,h=>by
  rcases bB.mp h with rfl|h
  ·exact⟨_,cJ ..,x⟩
  ·obtain⟨a,ha,q⟩:=Bz t h;exact⟨a,dR _ ha,q⟩
def ZP(S:List (Bool×ai))(dss:List (List D))(xss:List (List V))(_ Hv:Hp):Prop:=j7 Hv S xss/\P2 (P2 (Rep Hv)) dss xss
theorem Lq{S:List (Bool×ai)}{dss:List (List D)}{xss:List (List V)}{dz:List D}(hz:Jb dss dz):rq (tQ S) (ZP S dss xss) dz:=by
 refine⟨λi H Hv p v hi=>?_,λi H Hv x H' p v hi y=>?_,λH Hv p v=>?_⟩
 ·obtain⟨us,_,hu⟩:=hz.1 i hi;refine⟨xss,sZ v.sub p.1,λxs hx=>?_⟩;obtain⟨ds,hd,r⟩:=DW p.2 hx;obtain⟨u,_,e⟩:=Bz hu hd;have:=(cv.mp e).1;rw[<- r.len];exact this
 ·obtain⟨us,hd,hu⟩:=hz.1 i hi;obtain⟨q,ws,hw,hq,rfl,rfl⟩:=y;have r:=picks p.2 hu (hw xss (sZ v.sub p.1));obtain⟨g,k⟩:=wM v r hq;exact⟨_,.tup us,g,hd,k⟩
 ·obtain⟨ds,hd,e⟩:=hz.2;obtain⟨xs,hx,r⟩:=Bz p.2 hd;exact⟨xss,sZ v.sub p.1,xs,hx,by rw[<- r.len];omega⟩
theorem Js:∀ds es fs:List D,Jb [ds,es,fs] (Mi.gU ds es fs)
 |[],es,fs=>⟨λi h=>absurd h (by simp[Mi.gU]),[],by simp,by simp[Mi.gU]⟩
 |d::r,[],fs=>⟨λi h=>absurd h (by simp[Mi.gU]),[],by simp,by simp[Mi.gU]⟩
 |d::r,e::s,[]=>⟨λi h=>absurd h (by simp[Mi.gU]),[],by simp,by simp[Mi.gU]⟩
 |d::r,e::s,f::t=>by
  obtain⟨h1,ds,hd,hl⟩:=Js r s t;refine⟨λi hi=>?_,?_⟩
  ·cases i with
   |zero=>exact⟨[d,e,f],rfl,.cons rfl (.cons rfl (.cons rfl .nil))⟩
   |succ i=>
    obtain⟨us,a,b⟩:=h1 i (by simpa [Mi.gU]using hi);refine⟨us,by simpa [Mi.gU]using a,?_⟩;cases b with
    |cons x t=>
     cases t with
     |cons y t=>
      cases t with
      |cons z t=>cases t;exact .cons (by simpa using x) (.cons (by simpa using y) (.cons (by simpa using z) .nil))
  ·rcases bB.mp hd with rfl|hd
   ·exact⟨d::ds,by simp,by simp[Mi.gU,hl]⟩
   rcases bB.mp hd with rfl|hd
   ·exact⟨e::ds,by simp,by simp[Mi.gU,hl]⟩
   ·obtain rfl:=bQ.mp hd;exact⟨f::ds,by simp,by simp[Mi.gU,hl]⟩
theorem v7{x:D}{k:List D->Prop}(h:Fin (Mi.tW x) k):∃ds,(x=.lst ds\/x=.tup ds)/\k ds:=by
 cases x with
 |lst b=>exact⟨b,.inl rfl,h⟩
 |tup b=>exact⟨b,.inr rfl,h⟩
 |_=>exact h.elim
theorem vO{H:Hp}{x:D}{ds:List D}{v:V}(h:x=.lst ds\/x=.tup ds)(r:Rep H x v):∃k a xs,v=.ref a/\gO H (k,a) xs/\P2 (Rep H) ds xs:=by
 rcases h with rfl|rfl
 ·obtain⟨a,xs,e,l,r⟩:=iS.mp r;exact⟨true,a,xs,e,l,r⟩
 ·obtain⟨a,xs,e,l,r⟩:=jM.mp r;exact⟨false,a,xs,e,l,r⟩
section
variable{X:Cx}{elts:List a9}{k1:Nat}{tpos:Pos}{M:Nat->Bool}
theorem kD{a b:Nat}(h:a≠b):@Ne ai a b:=h
theorem Oz{n:Nat}:∀{b:Nat},b∈([n+5,n+3,n+4,n,n+1,n+2]:List Nat)->n<=b:=λ{b} h=>by simp at h;omega
theorem Lv(n:Nat)(k k' k'':Bool)(l l' l'':ai):FR (n+5) (n+3) (n+4) [(k,n,l),(k',n+1,l'),(k'',n+2,l'')]:=
 ⟨kD (by omega),kD (by omega),kD (by omega),by show([n,n+1,n+2]:List Nat).Nodup;simp,λq hq=>by
  rcases bB.mp hq with rfl|hq
  ·exact⟨kD (show n≠n+5 by omega),kD (show n≠n+3 by omega),kD (show n≠n+4 by omega)⟩
  rcases bB.mp hq with rfl|hq
  ·exact⟨kD (show n+1≠n+5 by omega),kD (show n+1≠n+3 by omega),kD (show n+1≠n+4 by omega)⟩
  ·obtain rfl:=bQ.mp hq;exact⟨kD (show n+2≠n+5 by omega),kD (show n+2≠n+3 by omega),kD (show n+2≠n+4 by omega)⟩⟩
def GS(ta tb tc:TE):TI:=λσ H R=>ta σ H λx H1=>tb σ H1 λy H2=>tc σ H2 λz H3=>∃S xss,[x,y,z]=S.map (λs:Bool×ai=>V.ref s.2)/\S.length=3/\j7 H3 S xss/\R (tQ S) H3
theorem Ow{a b c:a9}{ta tb tc:TE}{p pos:Pos}(hg:Gl X "zip")(hm:X.mg "zip" = ae)(ha:PE X a ta)(hb:PE X b tb)(hc:PE X c tc)(hs0:starEach [a,b,c] X.env=(false,eval a X.env)::starEach [b,c] X.env:=by rfl)(hs1:starEach [b,c] X.env=(false,eval b X.env)::starEach [c] X.env:=by rfl)(hs2:starEach [c] X.env=(false,eval c X.env)::starEach [] X.env:=by rfl)(hpl:(backTo pos (starEach [b,c] X.env)).any (·.1)=false:=by rfl) :
 PI X (.Tuple elts k1 tpos) (.Call (.Name "zip" p) [a,b,c] [] pos) (GS ta tb tc):=by
 intro ah s σ H R I h;refine Call_ (o1 I hg hm boot_zip (vD (bb (au ha (au hb (au hc bj hs2) hs1) hs0 pos ah s σ H (λvs H1=>∃S xss,vs=S.map (λs:Bool×ai=>V.ref s.2)/\S.length=3/\j7 H1 S xss/\R (tQ S) H1) I ?_) λus s1 ⟨vs,H1,I1,r1,q1⟩=>?_) hs0 hpl))
 ·exact h
 ·obtain⟨S,xss,e,hl,hS,q⟩:=q1;obtain⟨⟨k,l⟩,⟨k',l'⟩,⟨k'',l''⟩,rfl⟩ : ∃x y z,S=[x,y,z]:=by
   match S,hl with
   |[x,y,z],_=>exact⟨x,y,z,rfl⟩
  subst e;cases hS with
  |cons s1' t=>
  cases t with
  |cons s2' t=>
  cases t with
  |cons s3' t=>
  cases t;cases r1 with
  |cons u1 r1=>
  cases r1 with
  |cons u2 r1=>
  cases r1 with
  |cons u3 r1=>
  cases r1;cases u1;cases u2;cases u3;obtain⟨i1,_,a1⟩:=s1'.at I1;obtain⟨i2,_,a2⟩:=s2'.at I1;obtain⟨i3,_,a3⟩:=s3'.at I1;refine iG a1 a2 a3 λh' hZ hk=>wpAny_pyIter_zip hZ.zz ?_;have I2:Inv X ah σ H1 { s1 with heap:=h' }:=I1.kept (t':=s1.toks) λb o e=>hk b o e;refine⟨_,_,_,_,H1,rfl,I2,TB (z:=s1.heap.objs.size+5) (TI:=s1.heap.objs.size+3) (TO:=s1.heap.objs.size+4) (Lv _ k k' k'' l l' l'') (by simp) (by simp),hZ,λb hb=>?_,q⟩;have hb:s1.heap.objs.size<=b:=Oz hb;exact I1.jd hb (I1.hok.fresh hb)
theorem Nv{ta tb tc:TE}{a b c:Mi.E}(ha:AE M qV ta a)(hb:AE M qV tb b)(hc:AE M qV tc c):iu M (GS ta tb tc) (Mi.A4 a b c):=λe σ H Hv R I h=>
 ha e σ H Hv _ I ((aA.mp h).mono λx hx v H1 Hv1 g1 rx=>hb e σ H1 Hv1 _ (I.grow g1) ((aA.mp hx).mono λy hy u H2 Hv2 g2 ry=>hc e σ H2 Hv2 _ ((I.grow g1).grow g2) ((aA.mp hy).mono λz hz t H3 Hv3 g3 rz=>by
  obtain⟨ds,hd,hk⟩:=v7 (aA.mp hz);obtain⟨es,he,hk⟩:=v7 (aA.mp hk);obtain⟨fs,hf,hk⟩:=v7 (aA.mp hk);obtain⟨k,a,xs,rfl,s1,r1⟩:=vO hd (iw g3.vis (iw g2.vis (show Rep Hv1 x v from rx)));obtain⟨k',a',ys,rfl,s2,r2⟩:=vO he (iw g3.vis (show Rep Hv2 y u from ry));obtain⟨k'',a'',zs,rfl,s3,r3⟩:=vO hf (show Rep Hv3 z t from rz);have S2:j7 Hv3 [(k,a),(k',a'),(k'',a'')] [xs,ys,zs]:=.cons s1 (.cons s2 (.cons s3 .nil));exact⟨[(k,a),(k',a'),(k'',a'')],[xs,ys,zs],rfl,rfl,sZ g3.vw.sub S2,hk (tQ [(k,a),(k',a'),(k'',a'')]) H3 Hv3 (ZP [(k,a),(k',a'),(k'',a'')] [ds,es,fs] [xs,ys,zs]) (g1.trans (g2.trans g3)) (Lq (Js ds es fs)) ⟨S2,.cons r1 (.cons r2 (.cons r3 .nil))⟩ λ_ _ _ _ z s _=>⟨sZ s z.1,z.2.imp λ_ _ q=>fL s q⟩⟩)))
end
end Zp
namespace Zp
end Zp
namespace Mi
def sd(a:E):I:=λe=>(a e).bind λx=>(tW x).bind λds=>.ok (lQ 0 ds)
end Mi
namespace Zp
open PySem PySem.Spec PyProof.Rows L2 A
open Mi (D W Rs Fin aA)
open AutoSeq1 (wpAny_loadPart')
variable[Tb:A.bS]
abbrev eO(c:ai):Obj:={ cls:=.type "enumerate", data:=.fields #[.none,.bool false,.ref c,rawInt 0,.none,.none] }
theorem LX(l:ai)(us:Array aj)(n:Nat)(dd:Option ai)(sl:Array (Option aj)) :
 Meets (Builtin.«enumerate.__new__» ⟨[.type "enumerate",.ref l],[]⟩) (λ_ R s=>s.heap.get? l=ab { cls:=.type "tuple", dict:=dd,data:=.seq us n,slots:=sl } /\
  ∀h1:aZ,h1=s.heap.push (j9 false l)->R (.ok (.ret (.ref h1.objs.size))) { s with heap:=h1.push (eO s.heap.objs.size) }):=
 .of_wp λprog w A R s h=>by
  obtain⟨hp,g,d,tk,os⟩:=s;obtain⟨ht,h⟩:=h;have hsub:=sub_enumerate;have hQ:fS false (yC ⟨hp,g,d,tk,os⟩) l us:=⟨_,ht,rfl,n,rfl⟩
  wp_walk using yi ht
  refine wpAny_stack_any λst=>bV ?_;split
  ·rename_i c _ _ _ _ _;cases(c==CP "enumerate")
   ·wp_walk using yi ht,q0 hQ
    exact⟨_,rfl,h _ rfl⟩
   ·wp_walk using yi ht,q0 hQ
    exact⟨_,rfl,h _ rfl⟩
  ·wp_walk using yi ht,q0 hQ
   exact⟨_,rfl,h _ rfl⟩
theorem P4{P:bG}{w:bi}{B:b9}{E':aj->aB->Prop}{s:aB}{k:Bool}{l:ai}{us:Array aj}{R:aj->aB->Prop}(hQ:fS k s.heap l us)
 (h:∀h',IsEnum h' (s.heap.objs.size+1) s.heap.objs.size 0 .none->jt k h' s.heap.objs.size l 0->(∀b o,s.heap.get? b=ab o->h'.get? b=ab o)->R (.ref (s.heap.objs.size+1)) { s with heap:=h' }) :
 wpAny (model P w) B (call (.type "enumerate") [.ref l]) R E' s:=by
 cases k
 ·obtain⟨⟨c,dd,dt,sl⟩,hl,hc,n,hd⟩:=hQ;replace hc:c=.type "tuple" := hc;replace hd:dt=.seq us n:=hd;subst hc hd;refine callType_new F.called_enumerate (by decide) (F.typeCall_enumerate_1 _) (F.newCall_enumerate_1 _) (λobj=>F.args_object_init_2 obj _) F.entry_enumerate_new (LX l us n dd sl) ⟨hl,?_⟩;intro h1 e1;have z1:h1.objs.size=s.heap.objs.size+1:=by rw[e1];exact qr ..
  have g1:h1.get? s.heap.objs.size=ab (j9 false l):=by rw[e1];exact dS _ rfl
  have g2:(h1.push (eO s.heap.objs.size)).get? h1.objs.size=ab (eO s.heap.objs.size):=dS _ rfl;show _/\_;refine⟨⟨_,g2,rfl⟩,?_⟩;rw[z1]at g2 ⊢;exact h _ g2 ⟨_,cM _ g1,rfl,rfl⟩ λb o x=>cM _ (by rw[e1];exact cM _ x)
 ·exact call_enumerate_list hQ λh' a b _ d=>h h' a b d
def tp(q:Bool×ai):It:=⟨λi H=>∃xs x,gO H q xs/\xs[i]? = ab x,λi H v H'=>∃p x,(∀xs,gO H q xs->xs[i]? = ab x)/\H p=ae/\v=.ref p/\H'=upd H p (.tup [.int i,x]),λi H=>∃xs,gO H q xs/\xs.length=i⟩
theorem LS{P:bG}{w:bi}{K:aU}{elts:List a9}{k1:Nat}{pos:Pos}(k:Bool)(a e it:ai)(hne:e≠it):Turn P w K (.Tuple elts k1 pos) (tp (k,a)) [e,it] e (λi h=>(∃old,IsEnum h e it i old)/\jt k h it a i) where
 mem:=by simp
 obj:=λi h st b hb=>by
  obtain⟨⟨old,he⟩,hi⟩:=st;rcases bB.mp hb with rfl|hb
  ·exact⟨_,he,λv z=>by cases z⟩
  ·have e1:b=it:=by simpa using hb
   subst e1;exact hi.cell
 keep:=λi h h' st kk=>⟨let ⟨old,he⟩:=st.1;⟨old,kk e (by simp) _ he⟩,st.2.at λo q=>kk it (by simp) o q⟩
 item:=by
  intro X hP hw hK hc i ah s σ H E I hf st hg;subst hP hw hK;obtain⟨xs,x,hq,hx⟩:=hg;obtain⟨av,rv,p⟩:=hq.at I;obtain⟨u,hu,ru⟩:=rv.get hx;obtain⟨⟨old,he⟩,hli⟩:=st;have hlt:i<av.toArray.size:=by rw[dH];exact(cv.mp hu).1
  have hai:a≠it:=λz=>hq.nn (by show H a=ae;rw[z];exact(hf it (by simp)).1);have hea:e≠a:=λz=>hq.nn (by show H a=ae;rw[<- z];exact(hf e (by simp)).1);refine wpAny_pyNext_enum_itemD (GW (by first|exact I.ok.hd hc|(simp;exact I.ok.hd hc)) k it a hai av.toArray) he ⟨hli,p⟩ hlt hne (by simp[hne,hea]) λy h' tk hy ho hs' hT hsz hk=>?_;have hy:y=u:=by
   have hu':av.toArray[i]? = ab u:=by simpa using hu
   rw[hu']at hy;exact(iq hy).symm
  subst hy;refine⟨_,rfl,wpAny_letOwnedTupleGo_enum ho λh2 he2 hs2=>?_⟩;have kk:∀b o,b∉[e,it]->s.heap.get? b=ab o->h2.get? b=ab o:=λb o hb q=>by
   simp at hb;exact(hs2.2 b hb.1).trans (hk b o hb.1 hb.2 q)
  have hTn:s.heap.objs.size≠e:=λz=>absurd (cG he) (by rw[z];exact kL _);refine⟨.ref s.heap.objs.size,upd H s.heap.objs.size (.tup [.int i,x]),Ir (s:=s) (t':=tk+1) I hf kk (bK _) ?_,rfl,⟨_,x,λys hy=>by rw[hy.inj hq];exact hx,I.hok.fresh (bK _),rfl,rfl⟩,⟨⟨_,he2⟩,?_⟩,λb hb=>?_⟩
  ·exact⟨by simp only[cx,f7];rw[eK];decide,[.int i tk,y],.cons ⟨_,rfl⟩ (.cons ru .nil),⟨_,(hs2.2 _ hTn).trans hT,rfl,rfl,_,rfl⟩⟩
  ·exact hs'.1.at λo q=>(hs2.2 it (fJ hne)).trans q
  ·have:b≠s.heap.objs.size:=λz=>by
    subst z;rcases bB.mp hb with z|z
    ·exact hTn z
    ·have z:s.heap.objs.size=it:=by simpa using z
     obtain⟨o,ho,_⟩:=hli;exact absurd (cG ho) (by rw[<- z];exact kL _)
   rw[aS this];exact(hf b hb).1
 done:=by
  intro X hP hw hK hc i ah s σ H E I hf st hg;subst hP hw hK;obtain⟨xs,hq,hx⟩:=hg;obtain⟨av,rv,p⟩:=hq.at I;obtain⟨⟨old,he⟩,hli⟩:=st;have hl:=rv.length;have hai:a≠it:=λz=>hq.nn (by show H a=ae;rw[z];exact(hf it (by simp)).1);subst hx;have D:=GW (P:=X.prog) (w:=X.w) (B:=X.A.in1) (by first|exact I.ok.hd hc|(simp;exact I.ok.hd hc)) k it a hai av.toArray;have hn:av.toArray.size=xs.length:=by simp;omega
  rw[hn]at D;exact wpAny_pyNext_enum_endD D he ⟨hli,p⟩ λh' hx=>⟨rfl,JB (s:=s) (t':=s.toks) I hf λb o hb q=>hx b o (λz=>hb (by simp[z])) q⟩
 self:=λ_ i s Q E st h=>let ⟨⟨old,he⟩,_⟩:=st;wpAny_pyIter_enum he h
section
variable{X:Cx}{elts:List a9}{k1:Nat}{tpos:Pos}{M:Nat->Bool}
def GP(tl:TE):TI:=λσ H R=>tl σ H λx H1=>∃k a,[x]=[V.ref a]/\(∃xs,gO H1 (k,a) xs)/\R (tp (k,a)) H1
theorem IM{a:a9}{ta:TE}{p pos:Pos}(hg:Gl X "enumerate")(hm:X.mg "enumerate" = ae)(ha:PE X a ta)(hs:starEach [a] X.env=[(false,eval a X.env)]:=by rfl)(hs0:starEach [a] X.env=(false,eval a X.env)::starEach [] X.env:=by rfl) :
 PI X (.Tuple elts k1 tpos) (.Call (.Name "enumerate" p) [a] [] pos) (GP ta):=by
 intro ah s σ H R I h;refine Call_ (o1 I hg hm boot_enumerate (vD (bb (au ha bj hs0 pos ah s σ H (λvs H1=>∃k l,vs=[.ref l]/\(∃xs,gO H1 (k,l) xs)/\R (tp (k,l)) H1) I ?_) λus s1 ⟨vs,H1,I1,r1,q1⟩=>?_) hs rfl))
 ·exact h
 ·obtain⟨k,l,e,⟨xs,hq⟩,q⟩:=q1;subst e;obtain⟨u,rfl,ru⟩:=vals1 r1;cases ru;obtain⟨av,rv,pl⟩:=hq.at I1;refine P4 pl λh' hE hI hk=>?_;refine wpAny_pyIter_enum hE ?_;have I2:Inv X ah σ H1 { s1 with heap:=h' }:=I1.kept (t':=s1.toks) λb o e=>hk b o e;refine⟨_,[s1.heap.objs.size+1,s1.heap.objs.size],_,_,H1,rfl,I2,LS k l (s1.heap.objs.size+1) s1.heap.objs.size (vB (CH _)),⟨⟨_,hE⟩,hI⟩,λb hb=>?_,q⟩;have hb:s1.heap.objs.size<=b:=by
   rcases bB.mp hb with z|z
   ·rw[z];exact Nat.le_succ _
   ·have z:b=s1.heap.objs.size:=by simpa using z
    rw[z];exact bK _
  exact I1.jd hb (I1.hok.fresh hb)
theorem Qw{q:Bool×ai}{ds:List D}{P:Hp->Hp->Prop}(ok:∀H Hv,P H Hv->Vw H Hv->∃xs,gO H q xs/\P2 (Rep Hv) ds xs):rq (tp q) P (Mi.lQ 0 ds):=by
 refine⟨λi H Hv p v hi=>?_,λi H Hv x H' p v hi y=>?_,λH Hv p v=>?_⟩
 ·obtain⟨xs,l,r⟩:=ok H Hv p v;rw[xg]at hi;obtain⟨x,hx,_⟩:=r.getL (i:=i) (a:=ds[i]) (by simp[hi]);exact⟨xs,x,l,hx⟩
 ·obtain⟨xs,l,r⟩:=ok H Hv p v;rw[xg]at hi;obtain⟨q,z,hz,hq,rfl,rfl⟩:=y;obtain⟨x,hx,rx⟩:=r.getL (i:=i) (a:=ds[i]) (by simp[hi]);rw[hz xs l]at hx;cases hx;obtain⟨g,k⟩:=wM v (ds:=[.int i,ds[i]]) (xs:=[.int i,z]) (.cons (uK.mpr rfl) (.cons rx .nil)) hq;refine⟨_,.tup [.int i,ds[i]],g,?_,k⟩;rw[FH (i:=i) (d:=ds[i]) (by simp[hi])];simp
 ·obtain⟨xs,l,r⟩:=ok H Hv p v;exact⟨xs,l,by rw[xg,r.len]⟩
theorem Jk{ta:TE}{a:Mi.E}(ha:AE M qV ta a):iu M (GP ta) (Mi.sd a):=λe σ H Hv R I h=>
 ha e σ H Hv _ I ((aA.mp h).mono λx hx v H1 Hv1 g1 rx=>by
  obtain⟨ds,hd,hk⟩:=v7 (aA.mp hx);obtain⟨k,p,xs,rfl,l,r⟩:=vO hd (show Rep Hv1 x v from rx);exact⟨k,p,rfl,⟨xs,l.same g1.vw.sub⟩,hk (tp (k,p)) H1 Hv1 (λH Hv=>gO Hv (k,p) xs/\P2 (Rep Hv) ds xs) g1 (Qw λH Hv z v=>⟨xs,z.1.same v.sub,z.2⟩) ⟨l,r⟩ λH1 Hv1 H2 Hv2 z s v=>⟨z.1.same s,fL s z.2⟩⟩)
end
end Zp
namespace Mi
def Ff(k v:E):EW:=λe=>(k e).bind λd=>(v e).bind λx=>(c6 (ox d)).bind λy=>.ok (.dk [(y,x)])
end Mi
namespace Zp
open PySem PySem.Spec PyProof.Rows L2 A
open Mi (D W Rs Fin aA)
variable[Tb:A.bS]
section
variable{X:Cx}{M:Nat->Bool}{κ:Kd}
theorem Oy{k v:a9}{tk tv:TE}{pos:Pos}(hk:PE X k tk)(hv:PE X v tv):PE X (.Dict [ab k] [v] pos) (zA [(tk,tv)]):=Qg (SX hk hv OA) rfl rfl (by simp) (by simp)
theorem Sd{tk tv:TE}{k v:Mi.E}(hk:AE M qV tk k)(hv:AE M qV tv v):AW M qN (zA [(tk,tv)]) (Mi.Ff k v):=λe σ H Hv Q I h p hp=>by
 have g0:br H Hv (upd H p (.dK [])) Hv:=.pj I.vw trivial hp;refine hk e σ _ Hv _ (I.grow g0) ((aA.mp h).mono λd hd x H1 Hv1 g1 rx=>hv e σ H1 Hv1 _ ((I.grow g0).grow g1) ((aA.mp hd).mono λc hc y H2 Hv2 g2 ry=>?_));obtain⟨z,hz,hq⟩:=iP (aA.mp hc);have hx:=wL hz (show Rep Hv1 d x from rx);subst hx;have hp2:H2 p=ab (.dK []):=g2.old.at (g1.old.at bN);have n1:Hv1 p=ae:=g1.hid p _ bN (oC I.vw hp);have n2:Hv2 p=ae:=g2.hid p _ (g1.old.at bN) n1;have G:=g0.trans (g1.trans g2);refine⟨hp2,[(z,y)],rfl,by simp,hq (.ref p) (upd H2 p (.dK [(z,y)])) Hv2 ⟨G.old.put hp hp2,g1.vis.trans g2.vis,⟨λb u q=>?_,λb xs q=>?_,λb o u q=>?_,g2.vw.cd.put hp2 trivial trivial,g2.vw.nv⟩,G.hid⟩ ⟨p,.dK [(z,y)],rfl,hp,bN,n2,.cons ⟨rfl,show Rep Hv2 c y from ry⟩ .nil⟩⟩
 ·have hb:b≠p:=dX q n2;rw[aS hb];exact g2.vw.sub _ _ q
 ·by_cases hb:b=p
  ·subst hb;rw[bN]at q;cases q
  ·rw[aS hb]at q;exact g2.vw.tup _ _ q
 ·by_cases hb:b=p
  ·subst hb;rw[bN]at q;cases q
  ·rw[aS hb]at q;exact g2.vw.frz _ _ _ q
end
end Zp
namespace Mi
abbrev SN:=List D->List D->Env->Rs Out
end Mi
namespace Zp
open PySem PySem.Spec PyProof.Rows L2 A
open Mi (D W Rs Fin aA Out)
variable[Tb:A.bS]
end Zp
namespace A
end A
namespace A
end A
namespace Mi
open PySem
def ux(x:D)(lo hi:Option Int):Rs D:=match x with
 |.lst ds=>.ok (.lst (iK ds lo hi))
 | .tup ds=>match lo,hi with
  |some a,ae=>bp (1<=a/\a<=(ds.length:Int)/\ds.length<=16777216) (.ok (.tup (ds.drop a.toNat)))
  |_,_=>.no
 |_=>.no
def R3(xs ys:List Str):Bool:=xs.all (λx=>decide (x∈ys))&&ys.all (λy=>decide (y∈xs))
end Mi
namespace A
end A
namespace A
open PySem L2 PyProof.Rows
open Mi (D W Rs Fin aA Out Tg met)
variable[Tb:bS]
section
variable{X:Cx}{K:aU}{M:Nat->Bool}{te ta tb:TE}{a b:Mi.E}
def GI(K:aU):V->Option Int->Option Int->Hp->VK->Prop:=λx lo hi H Q=>∃p xs a,x=.ref p/\fK K H p xs/\lo=ab a/\hi=ae/\1<=a/\a<=(xs.length:Int)/\xs.length<=sizeLine/\∀q,H q=ae->Q (.ref q) (upd H q (.tup (xs.drop a.toNat)))
theorem SV:l9 X (GI X.K):=by
 intro ah s σ H x v vl vu lo hi sl Q I rx hs pl pu h;obtain⟨p,xs,a,rfl,hx,rfl,rfl,h1,h2,hz,q⟩:=h;cases rx;obtain⟨av,r,ht,_⟩:=I.tuple hx;have hl:=r.length;refine⟨"tuple", _,slot_tuple_getitem.lookup,ht.typeIs,?_⟩;cases pl with
 |int _ t=>
 cases pu;obtain⟨n,rfl⟩ : ∃n:Nat,a=n:=⟨a.toNat,by omega⟩;refine getItem_tuple_from ht hs (by omega) (by rw[dH];omega) ?_ (by rw[dH];omega);rw[show(av.toArray.toList.drop n)=av.drop n by simp];have q:=q _ (I.hok.fresh (bK _));rw[kM]at q;exact⟨.ref s.heap.objs.size,_,I.laid (t':=s.toks) (o:=.tup (xs.drop n)) (λb ob q=>cM _ q) (bK _) ⟨by rw[kH];omega,_,r.drop n,⟨_,dS _ rfl,rfl,rfl,0,rfl⟩⟩,rfl,q⟩
def IY(K:aU):V->Option Int->Option Int->Hp->VK->Prop:=λx lo hi H Q=>AU K x lo hi H Q\/GI K x lo hi H Q
theorem OB:l9 X (IY X.K):=HR.or SV
theorem Mz:BS qV (IY K) Mi.ux:=λx lo hi v H Hv Q vw rx h=>by
 cases x with
 |lst ds=>
  obtain⟨p,xs,rfl,l1,r1⟩:=RD.lst vw rx;refine .inl ⟨p,xs,rfl,l1.sq,λa ha=>?_⟩;obtain⟨g,k⟩:=yY vw (Em r1 lo hi) ha;exact h _ _ _ g k
 |tup ds=>
  obtain⟨p,xs,rfl,l1,_,r1⟩:=RD.tup vw rx;cases lo with
  |none=>exact h.elim
  | some a=>cases hi with
   |some c=>exact h.elim
   |none=>
    obtain⟨⟨z1,z2,z3⟩,h⟩:=Mi.cW h;refine .inr ⟨p,xs,a,rfl,.inl (.inl l1),rfl,rfl,z1,by rw[<- r1.len];exact z2,by rw[<- r1.len,eK];exact z3,λc hc=>?_⟩;obtain⟨g,k⟩:=wM vw (r1.drop a.toNat) hc;exact h _ _ _ g k
 |_=>exact h.elim
end
end A
namespace So
end So
namespace So
end So
namespace So
end So
namespace L2
open PySem PySem.Spec PyProof.Rows
abbrev rK(qual:Str)(scope:fg)(s:aB)(f c':ai)(cl:List (Str×ai)):Env:=PySem.W.envX qual scope s.heap.objs.size f (.ref c') cl
end L2
namespace So
end So
namespace L2
open PySem PySem.Spec PyProof.Rows A So
variable[Tb:bS]
def Tab(T:ai)(q:Str)(H H':Hp):Prop:=H'=H\/∃ps ps' c,H T=ab (.tbl q ps)/\H c=ae/\c≠T/\H'=upd (upd H T (.tbl q ps')) c (.ext (iz c q))/\iL H'
theorem NS{c:aj}{p:Pos}:∀{l:List aj},sI l->sI (l++[rawInt p.line,rawInt p.col,c]):=λ{l} h=>by
 fun_induction sI l with
 |case1=>exact trivial
 |case2 a b c' d e rest ih=>exact ih h
 |case3 _ _=>exact h.elim
theorem Mq{c v:aj}{p p2:Pos}:∀{l:List aj},sI l->codeAmong p2 (l++[rawInt p.line,rawInt p.col,c])=ab v->codeAmong p2 l=ab v\/v=c:=λ{l} h e=>by
 fun_induction sI l with
 |case1=>
  simp only[mj,codeAmong,rawInt]at e;split at e
  ·exact .inr (by cases e;rfl)
  ·cases e
 |case2 a b c' d e' rest ih=>
  simp only[qk,codeAmong]at e ⊢;split at e
  ·rename_i q;rw[bc q];exact .inl e
  ·rename_i q;rw[a8 q];exact ih h e
 |case3 _ _=>exact h.elim
def BM(mg:Str->Option aj)(base:aZ):Prop:=∃bm o,mg "__builtins__" = ab (.ref bm)/\bm≠builtinsNs/\bm≠mainGlobals/\base.get? bm=ab o/\o.cls=.type "module" /\ o.dict=ab builtinsNs/\o.data=.plain
section
variable{X:Cx}{ah:List (ai×Obj)}{σ:St}{H:Hp}{s:aB}{qual x:Str}{ps:sH}{body:a9}{sc:fg}{cl:List (Str×ai)}{c T:ai}{pos:Pos}
theorem Tp(c:ai)(q:Str):∀h1 h2:aZ,iz c q h1->(∀o,h1.get? c=ab o->h2.get? c=ab o)->iz c q h2:=λh1 h2 ⟨o,vs,t,e,d,r⟩ k=>⟨o,vs,t,k o e,d,r⟩
theorem MK{Q:aj->aB->Prop}{E:aj->aB->Prop}(I:Inv X ah σ H s)(hc:X.env.code=.ref c)(C:jX X.base c T)(k:iL H){tps:Array aj}(hT:H T=ab (.tbl qual tps))(hB:BM X.mg X.base)
 (hdef:defaultsOf ps X.env=([],[])) (hq:X.env.qual ++ "<lambda>" = qual) (hcl:closureFor sc X.env=pure cl)
 (h:∀f c' ctv pm s' H',Tab T qual H H'->H' c'=ab (.ext (iz c' qual))->s'.heap.get? f=ab (sC "<lambda>" qual ps body sc cl pm c' ctv)->Inv X ah σ H' s'->iQ X ah H' f->Q (.ref f) s') :
 wpAny (model X.prog X.w) X.A (eval (.Lambda ps body sc pos) X.env) Q E s:=by
 obtain⟨ok1,ok2⟩:=k.cd T qual tps hT;have hP:s.heap.get? T=ab (xY tps):=I.hok T _ hT;have hg:s.heap.Ns mainGlobals X.mg:=I.mod.glob.keeps I.bk;have C':jX s.heap c T:=C.keeps I.bk;obtain⟨bm,bo,b1,b2,b3,b4,b5,b6,b7⟩:=hB;have nT:∀b o,X.base.get? b=ab o->b≠T:=λb o e z=>by
  have:=(I.bs b o e).2;rw[z,hT]at this;cases this
 have hb:s.heap.BuiltinsAt X.mg T:=⟨bm,bo,b1,b2,b3,nT _ _ b4,I.bk _ _ b4,b5,b6,b7⟩;have hgT:mainGlobals≠T:=by obtain⟨o,es,ep,e,_⟩:=I.mod.glob;exact nT _ _ e
 refine PySem.W.kla_eval hdef ?_;rw[hq];cases hf:codeAmong pos tps.toList with
 |some v=>
  obtain⟨c',rfl,hc'⟩:=ok2 pos v hf;refine PySem.W.kla_makeFunctionHit hcl I.ok.glob hg hc C' hP ok1 hf hb λctv h' tk kp sz=>?_;have I':Inv X ah σ H { s with heap:=h'.push _,toks:=tk }:=I.kept (h':=h'.push (sC "<lambda>" qual ps body sc cl ((X.mg "__name__").getD .none) c' ctv)) λb o e=>cM _ (kp b o e);exact h _ c' ctv _ _ H (.inl rfl) hc' (dS _ rfl) I' (I.jd sz (I.hok.fresh sz))
 |none=>
  refine PySem.W.kla_makeFunction hcl I.ok.glob hg hc C' hP ok1 hf hgT hb λc' ctv h' tk kp h1 h2 hrec htb=>?_;have nc:H c'=ae:=I.hok.fresh h1;have cT:c'≠T:=λz=>by rw[z,hT]at nc;cases nc
  have hx:iz c' qual h':=by obtain⟨c2,o,vs,t,e,r⟩:=hrec;cases e;exact⟨o,vs,t,r⟩
  obtain⟨oc,hoc⟩ : ∃o,h'.get? c'=ab o:=let ⟨o,_,_,e,_⟩:=hx;⟨o,e⟩;have u1:Un X.fs [] H (upd H T (.tbl qual (tps ++ #[rawInt pos.line,rawInt pos.col,.ref c']))) s.heap h':=by
   have nn:∀b,H b=ae->b≠T:=λb n z=>by rw[z,hT]at n;cases n
   refine⟨λb o e n _ _=>kp b o (nn b n) e,λb o e n _ _=>⟨o.slots,kp b o (nn b n) e⟩,λb o e n _=>by rw[aS (nn b n)];exact n,λb o e _=>?_,λb xs e=>?_,λb o u e=>?_,λb w ps e=>?_⟩
   ·by_cases z:b=T
    ·rw[z];exact⟨_,htb⟩
    ·exact⟨o,kp b o z e⟩
   ·rw[aS (λz=>by rw[z,hT]at e;cases e)];exact e
   ·rw[aS (λz=>by rw[z,hT]at e;cases e)];exact e
   ·by_cases z:b=T
    ·subst z;rw[hT]at e;cases e;exact⟨_,bN⟩
    ·exact⟨#[],by rw[aS z,e];simp⟩
  have TK:dy X.prog X.w (upd H T (.tbl qual (tps ++ #[rawInt pos.line,rawInt pos.col,.ref c']))) h':=λb u e=>by
   by_cases z:b=T
   ·subst z;rw[bN]at e;cases e;exact htb
   ·rw[aS z]at e;refine(I.hok b u e).stay (λy v hy q=>kp y v ?_ q) (λy q=>by rw[aS (λw=>by rw[w,hT]at q;cases q)];exact q) λy xs q=>by rw[aS (λw=>by rw[w,hT]at q;cases q)];exact q
    rcases hy with w|w
    ·rw[w];exact z
    ·exactλw2=>by rw[w2,hT]at w;cases w
  have I1:Inv X ah σ (upd H T (.tbl qual (tps ++ #[rawInt pos.line,rawInt pos.col,.ref c']))) { s with heap:=h',toks:=tk }:=I.un u1 TK;have nc1:upd H T (.tbl qual (tps ++ #[rawInt pos.line,rawInt pos.col,.ref c'])) c'=ae:=by rw[aS cT];exact nc
  have I2:Inv X ah σ (upd (upd H T (.tbl qual (tps ++ #[rawInt pos.line,rawInt pos.col,.ref c']))) c' (.ext (iz c' qual))) { s with heap:=h',toks:=tk }:=by
   have F:iQ X ah (upd H T (.tbl qual (tps ++ #[rawInt pos.line,rawInt pos.col,.ref c']))) c':=⟨nc1,(I.jd (H':=H) h1 nc).2⟩;have vJ:∀b u,(upd H T (.tbl qual (tps ++ #[rawInt pos.line,rawInt pos.col,.ref c']))) b=ab u->b≠c':=λb u e=>dX e nc1;refine I1.call' (s':={ s with heap:=h',toks:=tk }) (ch:=[c']) rfl ⟨λb u e _ _ _=>e,λb u e _ _ _=>⟨u.slots,e⟩,λb u e n hb=>?_,λb u e hb=>⟨u,e⟩,λb xs e=>by rw[aS (vJ _ _ e)];exact e,λb q u e=>by rw[aS (vJ _ _ e)];exact e,λb w ps e=>⟨#[],by rw[aS (vJ _ _ e),e];simp⟩⟩ ?_ I.bare
    λb hb=>by
     obtain rfl:b=c':=by simpa using hb
     exact⟨F.2.2.2.1,F.2.1,F.2.2.2.2.1,F.2.2.2.2.2⟩
   ·rw[aS (λz=>hb (by simp[z]))];exact n
   ·intro b u e;by_cases z:b=c'
    ·subst z;rw[bN]at e;cases e;exact⟨hx,⟨oc,hoc⟩,Tp b qual⟩
    ·rw[aS z]at e;exact(I1.hok b u e).stay (λy v hy q=>q) (λy q=>by rw[aS (vJ _ _ q)];exact q) λy xs q=>by rw[aS (vJ _ _ q)];exact q
  have TL:∀b o,h'.get? b=ab o->(h'.push (sC "<lambda>" qual ps body sc cl ((X.mg "__name__").getD .none) c' ctv)).get? b=ab o:=λb o e=>cM _ e;have I3:=I2.kept (t':=tk) TL;have szs:s.heap.objs.size<=h'.objs.size:=cU h1 (yt h2);have ck:iL (upd (upd H T (.tbl qual (tps ++ #[rawInt pos.line,rawInt pos.col,.ref c']))) c' (.ext (iz c' qual))):=by
   have nT':∀{b:ai} {o:HO},H b=ab o->NT o->upd (upd H T (.tbl qual (tps ++ #[rawInt pos.line,rawInt pos.col,.ref c']))) c' (.ext (iz c' qual)) b=ab o:=λ{b o} e n=>by
    rw[aS (dX e nc),aS (λz=>by rw[z,hT]at e;cases e;exact n)];exact e
   refine⟨λr hr=>?_,λT2 q2 ps2 e=>?_,λa2 q2 xs2 e=>?_⟩
   rotate_left 2
   ·by_cases z:a2=c'
    ·subst z;rw[bN]at e;cases e
    ·rw[aS z]at e;by_cases z2:a2=T
     ·subst z2;rw[bN]at e;cases e
     ·rw[aS z2]at e;exact k.fz a2 q2 xs2 e
   ·obtain⟨p0,e0⟩:=k.has r hr;by_cases z:r.1=T
    ·rw[z,hT]at e0;have:qual=r.2:=by injection e0 with e0;injection e0
     exact⟨_,by rw[aS (by rw[z];exact fJ cT),z,bN,this]⟩
    ·exact⟨p0,by rw[aS (dX e0 nc),aS z];exact e0⟩
   ·by_cases z:T2=c'
    ·subst z;rw[bN]at e;cases e
    ·rw[aS z]at e;by_cases z2:T2=T
     ·subst z2;rw[bN]at e;have e1:qual=q2:=by injection e with e;injection e
      have e2:tps ++ #[rawInt pos.line,rawInt pos.col,.ref c']=ps2:=by injection e with e;injection e
      subst e1 e2;refine⟨by rw[yz];exact NS ok1,λp2 v hv=>?_⟩;rw[yz]at hv;rcases Mq ok1 hv with q|q
      ·obtain⟨y,y1,y2⟩:=ok2 p2 v q;exact⟨y,y1,nT' y2 trivial⟩
      ·exact⟨c',q,bN⟩
     ·rw[aS z2]at e;obtain⟨t1,t2⟩:=k.cd T2 q2 ps2 e;refine⟨t1,λp2 v hv=>?_⟩;obtain⟨y,y1,y2⟩:=t2 p2 v hv;exact⟨y,y1,nT' y2 trivial⟩
  refine h h'.objs.size c' ctv _ _ _ (.inr ⟨tps,_,c',hT,nc,cT,rfl,ck⟩) bN (dS _ rfl) I3 ?_;refine I.jd szs ?_;rw[aS (vB h2),aS (λz=>?_)]
  ·exact I.hok.fresh szs
  ·have:=I.hok.fresh szs;rw[z,hT]at this;cases this
end
end L2
namespace L2
end L2
namespace Mi
open PySem
end Mi
namespace A
end A
namespace So
open PySem
end So
namespace A
open PySem L2 PyProof.Rows So
open Mi (D W Rs Fin aA Out Tg)
variable[Tb:bS]
theorem LK{T:ai}{q:Str}{H H' Hv:Hp}(v:Vw H Hv)(t:Tab T q H H'):br H Hv H' Hv:=by
 rcases t with rfl|⟨ps,ps',c,hT,hc,ne,rfl,ck⟩
 ·exact .refl v
 ·have get:∀{a o},H a=ab o->NT o->upd (upd H T (.tbl q ps')) c (.ext (iz c q)) a=ab o:=λ{a o} e n=>by
   rw[aS (dX e hc),aS (λz=>by rw[z,hT]at e;cases e;exact n)];exact e
  have back:∀{a o},upd (upd H T (.tbl q ps')) c (.ext (iz c q)) a=ab o->(∀w ps,o≠.tbl w ps)->(∀φ,o≠.ext φ)->H a=ab o:=λ{a o} e n1 n2=>by
   by_cases z:a=c
   ·subst z;rw[bN]at e;cases e;exact absurd rfl (n2 _)
   ·rw[aS z]at e;by_cases z2:a=T
    ·subst z2;rw[bN]at e;cases e;exact absurd rfl (n1 _ _)
    ·rw[aS z2]at e;exact e
  refine⟨⟨λa o e n=>get e n,λa e=>?_,λa w p0 e=>?_⟩,cL.refl _,⟨λa o e=>get (v.sub a o e) (v.nv a o e),λa xs e=>v.tup a xs (back e (λ_ _ z=>by cases z) (λ_ z=>by cases z)),λa o u e=>v.frz a o u (back e (λ_ _ z=>by cases z) (λ_ z=>by cases z)),ck,v.nv⟩,λ_ _ _ n=>n⟩
  ·by_cases z:a=c
   ·subst z;exact hc
   ·rw[aS z]at e;by_cases z2:a=T
    ·subst z2;rw[bN]at e;cases e
    ·rw[aS z2]at e;exact e
  ·by_cases z2:a=T
   ·subst z2;rw[hT]at e;cases e;exact⟨ps',by rw[aS (fJ ne),bN]⟩
   ·exact⟨p0,by rw[aS (dX e hc),aS z2];exact e⟩
end A
namespace L2
open PySem PySem.Spec PyProof.Rows A So
structure u8(K:aU)(x qual:Str)(st:bC)(c f:ai)(fd:bJ):Prop where
 ex:∃(oc:aj) (od:Option ai) (kV doc pm:aj) (an:Option ai) (ct:aj) (osl:Array (Option aj)),
  fd=lp x qual (mQ st) (jj st) (bE st) .none kV doc pm an (.ref c) ct/\K.lookup f=ab ⟨oc,od,.func fd,osl⟩/\sD K (.ref c) qual=true
section
variable{P:bG}{w:bi}{K:aU}{mg:Str->Option aj}{base:aZ}
theorem u8.ok{x qual:Str}{st:bC}{c f:ai}{fd:bJ}{N ps:List Str}{k:Nat}{sp:Sp}(F:u8 K x qual st c f fd)(S:cn N ps (bE st))(len:∀vs H Q E,sp vs H Q E->vs.length=ps.length)
 (hbody:∀(A:b9) (outer:List Env) (s:aB) (H:Hp) (vs:List V) (Q:VK) (E:XK),dw k (A.deeper (envOfC qual (bE st) s.heap.objs.size f (.ref c)))->sp vs H Q E ->
  ∃t,io (lN aF P w K mg base N qual (bE st) f (.ref c) A outer s H E).lV (jj st) t/\t { nx:=λ_ H'=>Q .non H',rt:=Q } (start N vs) H):bH P w K mg base aF (k+1) f fd ps sp:=by
 obtain⟨oc,od,kV,doc,pm,an,ct,osl,rfl,lk,hcd⟩:=F.ex;refine Fg lk hcd S len λA outer s H vs Q E hr hsp=>?_;obtain⟨t,h,q⟩:=hbody A outer s H vs Q E hr hsp;exact⟨t,h.lV,q⟩
end
structure xF(K:aU)(mg:Str->Option aj)(x:Str)(st:bC)(ps:List Str)(c:ai):Prop where
 ex:∃(f:ai) (fd:bJ),mg x=ab (.ref f)/\mq K (.ref f)=true/\Binds K fd ps []/\u8 K x x st c f fd
theorem Sj{K:aU}{h:aZ}{mg:Str->Option aj}{x:Str}{st:bC}{ps:List Str}{f c:ai}{oc:aj}{od an:Option ai}{osl:Array (Option aj)}{kV doc pm ct:aj}(X:K.In h)(G:h.Ns mainGlobals mg)
 (hb:∀(kV doc pm:aj) (an:Option ai) (cdv ct:aj) (us:List aj),us.length=ps.length->bindArgs (lp x x (mQ st) (jj st) (bE st) .none kV doc pm an cdv ct) ⟨us,[]⟩=pure (ps.zip us))
 (a:f8 K mainGlobals x=ab (ab (.ref f))) (l:K.lookup f=ab ⟨oc,od,.func (lp x x (mQ st) (jj st) (bE st) .none kV doc pm an (.ref c) ct),osl⟩)
 (cc:sD K (.ref c) x=true) (k:mq K (.ref f)=true):xF K mg x st ps c:=by
 have F:=Gb (st:=st) l cc k;exact⟨f,_,x5 X G a,k,F.binds hb,⟨oc,od,kV,doc,pm,an,ct,osl,rfl,l,cc⟩⟩
theorem xF.cal{P:bG}{w:bi}{K:aU}{mg:Str->Option aj}{base:aZ}{CX:ic}{k:Nat}{x:Str}{st:bC}{ps:List Str}{c:ai}{sp:Sp}(F:xF K mg x st ps c)(h:∀f fd,u8 K x x st c f fd->bH P w K mg base CX k f fd ps sp) :
 bF P w K mg base CX k x ps sp:=by
 obtain⟨f,fd,h1,h2,h3,h4⟩:=F.ex;exact⟨f,fd,h1,h2,h3,h f fd h4⟩
section
variable[Tb:bS]
theorem Ob{P:bG}{w:bi}{K:aU}{mg mb:Str->Option aj}{k:Nat}{fa a c T:ai}{q:Str}{fd:bJ}{x:Str}{s₁:aB}{vs:List aj}{ns:List Int}(hTb:Tb.l=[(T,q)])
 (KX:K.In s₁.heap) (hns:s₁.heap.Ns mainGlobals mg) (hb:s₁.heap.Ns builtinsNs mb) (hbb:∀x:Str,x ≠ "__name__" -> mb x=bootBuiltins x) (hlim:s₁.heap.NoLimit) (hg:s₁.gens = #[])
 (ha:s₁.heap.get? a=ab { cls:=.type "list", data:=.seq vs.toArray }) (hi:IntsAre vs ns) (hl:ns.length<=63) (hr:dw k callerA)
 (hKa:K.lookup a=ae) (hKT:K.lookup T=ae) (C:jX s₁.heap c T) (hT:s₁.heap.get? T=ab (xY #[])) (hB:BM mg s₁.heap)
 (F:∀base:aZ,K.In base->base.Ns mainGlobals mg->BM mg base->jX base c T->bH P w K mg base aF k fa fd [x] uR) (hbind:∀(s:aB) (u:aj),nC s fd ⟨[u],[]⟩ [(x,u)]) :
 codeAny (model P w) callerA (.call (.ref fa) ⟨[.ref a],[]⟩) (λr s'=>r=.ok (.ret (.bool true))/\OldK s₁.heap s'.heap/\s'.os=s₁.os/\oO s'.gens) s₁:=by
 have rv:=HQ hi;have lenV:=hi.length;have aT:a≠T:=λz=>by rw[z,hT]at ha;cases ha
 let H:Hp:=λb=>if b=a then ab (.frz { cls:=.type "list",data:=.seq vs.toArray } (.lst (ns.map V.int)))else if b=T then ab (.tbl q #[])else ae;have Ha:H a=ab (.frz { cls:=.type "list", data:=.seq vs.toArray } (.lst (ns.map V.int))):=bc rfl;have HT:H T=ab (.tbl q #[]):=by show(if T=a then _ else _)=_;rw[a8 (fJ aT),bc rfl]
 have Hn:∀b,b≠a->b≠T->H b=ae:=λb h1 h2=>by show(if b=a then _ else _)=_;rw[a8 h1,a8 h2]
 have Hd:∀{b u},H b=ab u->(b=a/\u=.frz { cls:=.type "list", data:=.seq vs.toArray } (.lst (ns.map V.int)))\/(b=T/\u=.tbl q #[]):=λ{b u} e=>by
  by_cases h1:b=a
  ·subst h1;rw[Ha]at e;cases e;exact .inl ⟨rfl,rfl⟩
  ·by_cases h2:b=T
   ·subst h2;rw[HT]at e;cases e;exact .inr ⟨rfl,rfl⟩
   ·rw[Hn b h1 h2]at e;cases e
 have hok:dy P w H s₁.heap:=λb u e=>by
  rcases Hd e with ⟨rfl,rfl⟩|⟨rfl,rfl⟩
  ·exact⟨ha,by rw[aO,eK];omega,vs,_,rv,ha⟩
  ·exact hT
 have free:∀{b:ai} {o:Obj},s₁.heap.get? b=ab o->o.cls≠.type "list" -> o≠xY #[]->H b=ae:=λ{b o} e h1 h2=>by
  refine Hn b (λz=>?_) λz=>?_
  ·rw[z,ha]at e;cases e;exact h1 rfl
  ·rw[z,hT]at e;cases e;exact h2 rfl
 have yG:∀{b:ai} {o:Obj},s₁.heap.get? b=ab o->H b=ae->(kS s₁.heap H).get? b=ab o:=λe n=>O8 e n;have nsK:∀{b:ai} {m:Str->Option aj},s₁.heap.Ns b m->(kS s₁.heap H).Ns b m:=λ{b m} ⟨o,es,ep,e,d,r⟩=>⟨o,es,ep,yG e (Hn b (λz=>by rw[z,ha]at e;cases e;cases d) λz=>by rw[z,hT]at e;cases e;cases d),d,r⟩;have hKb:K.In (kS s₁.heap H):=λb o e=>yG (KX b o e) (Hn b (λz=>by rw[z,hKa]at e;cases e) λz=>by rw[z,hKT]at e;cases e);have hM:Mod K mg (kS s₁.heap H):=⟨hKb,nsK hns,⟨mb,nsK hb,hbb⟩,let ⟨mc,h1,h2⟩:=hlim;⟨mc,nsK h1,h2⟩⟩;have e0:ot P w K mg (kS s₁.heap H) callerA [] s₁ H:=⟨rfl,hM,λb o e=>Mb e,Nat.le_of_eq (S7 _ _),trivial,λb hb=>absurd (show b∈([]:List ai)from hb) (by simp),hok,.of_eq hg⟩;have hB':BM mg (kS s₁.heap H):=by obtain⟨bm,bo,b1,b2,b3,b4,b5,b6,b7⟩:=hB;exact⟨bm,bo,b1,b2,b3,yG b4 (free b4 (by rw[b5];decide) (λz=>by rw[z]at b5;cases b5)),b5,b6,b7⟩
 have C':jX (kS s₁.heap H) c T:=by obtain⟨o,vs2,file,tf,flags,tg,inF,text,tt,e,h1,r⟩:=C;exact⟨o,vs2,file,tf,flags,tg,inF,text,tt,yG e (free e (by rw[h1];decide) (λz=>by rw[z]at h1;cases h1)),h1,r⟩
 have ck:iL H:=⟨λr hr=>by
  rw[hTb]at hr;obtain rfl:r=(T,q):=by simpa using hr
  exact⟨#[],HT⟩,λT2 q2 ps e=>by
  rcases Hd e with ⟨_,z⟩|⟨_,z⟩
  ·cases z
  ·cases z;exact⟨trivial,λpos v hv=>by cases hv⟩,λb o xs e=>by
  rcases Hd e with ⟨_,z⟩|⟨_,z⟩
  ·cases z;intro x hx;obtain⟨i,_,rfl⟩:=ce.mp hx;exact⟨i,rfl⟩
  ·cases z⟩
 refine ym ((F _ hKb (nsK hns) hB' C').run callerA [] s₁ H ⟨[.ref a],[]⟩ [.ref a] [.ref a] (λv _=>v=.bl true) (λ_ _ _=>False) hr e0 (hbind s₁ (.ref a)) (.cons rfl .nil) ⟨a,ns,rfl,.inr ⟨_,Ha⟩,hl,ck,λ_=>rfl⟩) λr s' h=>?_;cases r with
 |error e=>exact h.elim
 |ok fl=>
  cases fl with
  |next=>exact iW h
  |brk=>exact iW h
  |cont=>exact iW h
  |ret u=>
   obtain⟨v,H',os,bare,un,hok',r',q'⟩:=h;have q':v=.bl true:=q';subst q';obtain rfl:u=iV true:=r';have old:∀b o,s₁.heap.get? b=ab o->asItWas s₁.heap s'.heap b o:=λb o e=>by
    by_cases h1:b=a
    ·subst h1;have z2:=un.mD b _ _ Ha;obtain⟨e2,_⟩:=hok' b _ z2;rw[ha]at e;cases e;exact .inl e2
    ·by_cases h2:b=T
     ·subst h2;obtain⟨more,z2⟩:=un.mE b _ _ HT;have e2:s'.heap.get? b=ab (xY (#[]++more)):=hok' b _ z2;rw[hT]at e;cases e;obtain⟨oc,vs2,_,_,_,_,_,_,_,f1,f2,f3,f4,_⟩:=C;exact .inr (.inl ⟨⟨c,oc,vs2,f1,f2,f3,f4⟩,rfl,#[],more,rfl,e2⟩)
     ·exact .inl (un.keep b o e (Hn b h1 h2) (by intro z;exact absurd (show b∈([]:List ai)from z) (by simp)) (by simp))
   exact⟨rfl,⟨old,λb o e=>un.there b o e (by simp)⟩,os,bare⟩
theorem SJ{l:Cw}{k:Nat}{q:bG}{loose:List Str}{XP:(Str->Option aj)->aZ->Prop}{YP:bi->aZ->Prop}{d:DefRec}{K:Params->aU}{x dn:Str}{c T:ai}{qn:Str}(hTb:Tb.l=[(T,qn)])
 (hn:l.most=ab 63) (hdf:d.params.defaults=[]) (hr:dw k callerA)
 (hY:∀(w:bi) (h:aZ),YP w h->(K w.params).In h) (hL:∀w:bi,∀a o,(K w.params).lookup a=ab o->o.cls≠.type "list") (hK:∀w:bi,(K w.params).lookup T=ae)
 (hrec:∃d,(recsOf q).find? (λe=>e.name==dn)=ab d) (htab:∀w:bi,PySem.W.tabIn (K w.params) dn=ab (c,T))
 (F:∀(w:bi) (mg:Str->Option aj) (fa:ai) (h:aZ),(K w.params).In h->h.Ns mainGlobals mg->mg d.name=ab (.ref fa) ->
  ∃fd:bJ,(∀(s:aB) (u:aj),nC s fd ⟨[u],[]⟩ [(x,u)]) /\
   ∀base:aZ,(K w.params).In base->base.Ns mainGlobals mg->BM mg base->jX base c T->bH l.prog w (K w.params) mg base aF k fa fd [x] uR) :
 PySem.W.WalkO q loose XP YP l.row.toRowW d [] (λf vs=>CC f vs):=by
 refine Att.Tf hn hdf λw s₀ s₁ mg mb fa o pm cd doc a vs ns G Y ho hd hcd hmg hobj hints hlen hg=>?_;have KX:=hY w _ Y;obtain⟨fd,hb,hF⟩:=F w mg fa _ KX G.T.g hmg;obtain⟨dd,hdd⟩:=hrec;obtain⟨C,hT⟩:=PySem.W.tab_of G.T KX hdd (htab w);have hB:BM mg s₁.heap:=by obtain⟨bm,ob,b1,b2,b3,b4,b5,b6⟩:=G.T.bmain;refine⟨bm,ob,b1,b2,λz=>?_,b3,b4,b5,b6⟩;obtain⟨o2,es,ep,e,d2,_⟩:=G.T.g;rw[z,e]at b3;cases b3;rw[d2]at b6;cases b6
 have hKa:(K w.params).lookup a=ae:=by
  cases z:(K w.params).lookup a with
  |none=>rfl
  |some o2=>
   have e:=KX a o2 z;rw[hobj]at e;cases e;exact absurd rfl (hL w a _ z)
 exact Ob hTb KX G.T.g G.T.b G.T.builtins G.T.nolimit hg hobj hints hlen hr hKa (hK w) C hT hB hF hb
end
end L2
namespace A
open PySem L2 PyProof.Rows So
open Mi (D W Rs Fin aA Out Tg)
variable[Tb:bS]
end A
namespace Mi
end Mi
namespace A
open PySem L2 PyProof.Rows So
open Mi (D W Rs Fin aA Out Tg)
variable[Tb:bS]
end A
namespace L2
end L2
namespace L2
end L2
namespace L2
end L2
namespace Mi
open PySem
def pW{α:Type}(r:Rs α)(k:α->Prop)(x:nq->Prop):Prop:=match r with
 |.ok a=>k a
 |.ex z=>x z
 |.no=>False
theorem w6{α β:Type}{r:Rs α}{f:α->Rs β}{k:β->Prop}{x:nq->Prop}:pW (r.bind f) k x↔pW r (λa=>pW (f a) k x) x:=by cases r<;>exact Iff.rfl
end Mi
namespace A
open PySem L2 PyProof.Rows So
open Mi (D W Rs Fin pW aA w6 Out Tg nq)
variable[Tb:bS]
end A
namespace L2
end L2
namespace L2
end L2
namespace L2
open PySem PySem.Spec PyProof.Rows
end L2
namespace Mi
open PySem
end Mi
namespace A
open PySem L2 PyProof.Rows So
open Mi (D W Rs Fin pW aA w6 Out Tg nq)
variable[Tb:bS]
end A
namespace PySem.W
end PySem.W
namespace L2
open PySem PySem.Spec PyProof.Rows
open A (EK)
end L2
namespace Mi
open PySem
end Mi
namespace A
open PySem L2 PyProof.Rows So
open Mi (D W Rs Fin pW aA w6 Out Tg nq)
variable[Tb:bS]
end A
namespace Mi
open PySem
def jA(x:Str):Str:=⟨PySem.placed x λ_ c=>Unicode.upperOf c⟩
end Mi
namespace L2
open PySem PySem.Spec PyProof.Rows
end L2
namespace A
open PySem L2 PyProof.Rows So
open Mi (D W Rs Fin aA)
variable[Tb:bS]
end A
namespace Mi
def uX(m:S):S:=λe=>match m e with
 |.ok (.rt w)=>.ok (.rt w)
 |_=>.no
end Mi
namespace A
open PySem L2 PyProof.Rows So
open Mi (D W Rs Fin aA Out Tg)
variable[Tb:bS]
section
variable{M:Nat->Bool}{κ:Kd}{t:TS}{m:Mi.S}
theorem HY(y:Nat)(hy:M y=true)(h:AS (λj=>M j && !(j==y)) κ t m):AS M κ t (Mi.uX m):=λH0 Hv0 e σ H Hv D I f=>by
 have nb:∀{j:Nat},(M j && !(j==y))=false->M j=false\/j=y:=λ{j} z=>by
  cases q:M j with
  |false=>exact .inl rfl
  |true=>rw[q]at z;exact .inr (by simpa using z)
 have nt:∀{j:Nat},(M j && !(j==y))=true->M j=true/\j≠y:=λ{j} z=>by simpa using z
 have fin:∀Hv',br H0 Hv0 H Hv'->R0 (λj=>M j && !(j==y)) e σ H Hv'->t D σ H:=λHv' gw R=>by
  refine h H0 Hv0 e σ H Hv' D ⟨R,gw,λi w a q1 q2 q3=>I.fresh i w a q1 (nt q2).1 q3,λi j w w' a b hij q1 q2 q3 q4 q5 q6=>I.sep i j w w' a b hij q1 q2 (nt q3).1 (nt q4).1 q5 q6⟩ ?_;unfold Mi.uX at f;cases hm:m e with
  |no=>rw[hm]at f;exact f.elim
  |ex z=>rw[hm]at f;exact f.elim
  |ok o=>
   rw[hm]at f;cases o with
   |rt w=>exact f
   |nx e2=>exact f.elim
   |bk e2=>exact f.elim
   |ct e2=>exact f.elim
 have other:(∀w0,e[y]?≠ab (ab w0))->t D σ H:=λae=>fin Hv I.gw ⟨I.vw,I.len,λj w' z q=>by
  rcases nb q with q|rfl
  ·exact I.nob j w' z q
  ·exact absurd z (ae w'),λj w' z q=>I.own j w' z (nt q).1⟩
 cases he:e[y]? with
 |none=>exact other λw0 z=>by rw[he]at z;cases z
 |some ow=>
  cases ow with
  |none=>exact other λw0 z=>by rw[he]at z;cases z
  |some w0=>
   obtain⟨p,Hv',q,I',s,r⟩:=I.O1 hy he;refine fin Hv' I'.gw ⟨I'.vw,I.len,λj w' z q2=>?_,λj w' z q2=>?_⟩
   ·by_cases hj:j=y
    ·subst hj;rw[he]at z;cases z;exact⟨_,q,r⟩
    ·exact I'.nob j w' (by rw[fI (fJ hj)];exact z) ((nb q2).resolve_right hj)
   ·obtain⟨m1,hj⟩:=nt q2;exact I'.own j w' (by rw[fI (fJ hj)];exact z) m1
end
end A
namespace Mi
open PySem
end Mi
namespace L2
open PySem PySem.Spec PyProof.Rows
end L2
namespace A
open PySem L2 PyProof.Rows So
open Mi (D W Rs Fin aA)
variable[Tb:bS]
end A
namespace Mi
open PySem
end Mi
namespace A
open PySem L2 PyProof.Rows So
open Mi (D W Rs Fin pW aA w6 Out Tg nq)
variable[Tb:bS]
end A
namespace L2
open PySem PySem.Spec PyProof.Rows
section
variable{pr:bG}{wo:bi}{Ar:b9}{Ex:aj->aB->Prop}
theorem Gn{it l:ai}{zs:Array aj}(ne:l≠it):∀(k j:Nat) (z:aB) (R:List aj->aB->Prop),z.heap.IsListIter it l j->z.heap.IsList l zs->j+k<=zs.size ->
 (∀g,g.IsListIter it l (j+k)->oM it z.heap g->R ((zs.toList.drop j).take k) { z with heap:=g })->wpAny (model pr wo) Ar (draw (.ref it) k) R Ex z
 |0,j,z,R,a,_,_,q=>by
  show wpAny _ _ (pure []) R Ex z;refine bV ?_;have:=q z.heap a (Heap.SameBut.refl ..);simpa using this
 |k+1,j,z,R,a,b,c,q=>by
  have lt:j<zs.size:=by omega
  show wpAny _ _ (pyNext (.ref it) >>= _) R Ex z;refine aR (JV a b (x:=zs[j]) (by simp[lt]) λg1 a1 b1=>aR (sF ?_));refine Gn ne k (j+1) _ _ a1 (b.extBut b1.extBut ne) (by omega) λg2 a2 b2=>bV ?_;have e:zs.toList.drop j=zs[j]::zs.toList.drop (j+1):=by simp[sx,lt]
  have r:=q g2 (by rw[show j+(k+1)=j+1+k by omega];exact a2) (b1.trans b2);rw[e,List.take_succ_cons]at r;exact r
theorem LL{l:ai}{zs:Array aj}{z:aB}{R:List aj->aB->Prop}(h0:Ar.handled=ae)(b:z.heap.IsList l zs)(q:∀g,yo z.heap.objs.size z.heap g->R zs.toList { z with heap:=g }) :
 wpAny (model pr wo) Ar (unpackItems (.ref l) zs.size ae) R Ex z:=by
 have ne:l≠z.heap.objs.size:=by obtain⟨o,ho,_⟩:=b;exact gQ (cG ho)
 unfold unpackItems notIterableAtAll;refine aR (aR (yf b.typeIs PySem.F.slot_list_iter.lookup (bV ?_)));simp only[sJ,j8];refine aR (sF (vx b ?_));refine aR (sF (Gn ne zs.size 0 _ _ ⟨_,dS _ rfl,rfl,rfl⟩ (b.push _) (by omega) λg1 a1 b1=>?_));rw[show List.take zs.size (List.drop 0 zs.toList)=zs.toList by rw[qp];exact qh (by simp),a8 (by simp)];have c1:g1.IsList l zs:=(b.push _).extBut b1.extBut ne;refine aR (sF (wpAny_pyNext_list_end h0 a1 c1 (by simp) λg2 b2=>?_));simp only[Option.isSome_none,sJ,j8];exact bV (q g2 λd o hd e=>b2 d o hd (b1.extBut d o hd (cM _ e)))
end
end L2
namespace Mi
open PySem
def wZ(is:List Nat)(a:E):S:=λe=>(a e).bind λd=>match d with
 |.lst ds=>(nV is ds e).bind λe'=>.ok (.nx e')
 |_=>.no
end Mi
namespace A
open PySem L2 PyProof.Rows So
open Mi (D W Rs Fin aA Out Tg)
variable[Tb:bS]
section
variable{X:Cx}{pos:Pos}
def Ed(n:Nat)(t:ji):TG:=λv σ H Q=>∃a xs,v=.ref a/\Lst H a xs/\xs.length=n/\t xs σ H Q
theorem Tl{es:List a9}{k:Nat}{t:ji}{n:Nat}(hc:X.calm=true)(h:L2.uw X es t)(hn:(assignEach es X.env).length=n:=by rfl)(hst:(assignEach es X.env).findIdx? (·.1)=ae:=by rfl):L2.PG X (.Tuple es k pos) (Ed n t):=by
 intro ah s σ H v u Q I r hw;obtain⟨a,xs,e1,hq,hl,hw⟩:=hw;subst e1;cases r;obtain⟨av,n0,rv,hz,ho⟩:=xC I hq;have hli:=rv.length;rw[assign_Tuple];refine aR (CD ?_);unfold unpack;rw[hn,hst];have sz:n=av.toArray.size:=by rw[dH];omega
 rw[sz];refine aR (sF (LL (I.ok.hd hc) ⟨_,ho,rfl,_,rfl⟩ λg hx=>?_));have I1:Inv X ah σ H { s with heap:=g }:=I.kept (t':=s.toks) λb o e=>hx b o (gQ (cG e)) e;exact h ah _ σ H xs _ Q I1 (by simpa using rv) hw
end
section
variable{M:Nat->Bool}{κ:Kd}{te:TE}{a:Mi.E}
theorem PP(is:List Nat)(hm:∀i∈is,M i=false)(ha:AE M qV te a):AS M κ (jg te (Ed is.length (w5 is))) (Mi.wZ is a):=λH0 Hv0 e σ H Hv D I h=>
 ha e σ H Hv _ I.toR0 ((aA.mp h).mono λd hd v H1 Hv1 g1 r=>by
  cases d with
  |lst ds=>
   obtain⟨p,xs,rfl,l,rr⟩:=iS.mp r;have hd:=aA.mp (show Fin (Rs.bind (Mi.nV is ds e) _) _ from hd);have I2:=I.grow g1;refine⟨p,xs,rfl,l.same g1.vw.sub,by rw[<- rr.len];exact yZ hd,?_⟩;exact BF (P:=λe1 σ1=>R1 M H0 Hv0 e1 σ1 H1 Hv1) (λi hi e1 σ1 d1 v1 p1 r1=>p1.set (hm i hi) r1) I2 rr (hd.mono λe' h' σ' p'=>h' σ' H1 Hv1 p' g1.vis)
  |_=>exact hd.elim)
end
end A
namespace Mi
open PySem
end Mi
namespace L2
open PySem PySem.Spec PyProof.Rows
end L2
namespace A
open PySem L2 PyProof.Rows
open Mi (D W Rs Fin aA)
variable[Tb:bS]
end A
namespace Mi
open PySem
end Mi
namespace L2
open PySem PySem.Spec PyProof.Rows
end L2
namespace A
open PySem L2 PyProof.Rows
open Mi (D W Rs Fin aA)
variable[Tb:bS]
end A
namespace Mi
open PySem
end Mi
namespace A
open PySem L2 PyProof.Rows So
open Mi (D W Rs Fin aA Out Tg)
variable[Tb:bS]
end A
namespace L2
open PySem PySem.Spec PyProof.Rows
def qU(h:aZ)(d:ai)(es:Array DictEntry)(ep:Nat):Prop:=∃o,h.get? d=ab o/\o.ExactDict/\o.data=.dict es ep
theorem qU.ty{s:aB}{d:ai}{es:Array DictEntry}{ep:Nat}(x:qU s.heap d es ep):s.TypeIs (.ref d) "dict" := let ⟨o,e,c,_⟩:=x;⟨o,e,c.1⟩
section
variable{P:bG}{w:bi}{A:b9}{E:aj->aB->Prop}{s:aB}{d it:ai}{es:Array DictEntry}{ep i:Nat}
theorem R4{Q:aj->aB->Prop}(nd:(d==sysModules)=false)(x:qU s.heap d es ep)
 (q:Q (.ref s.heap.objs.size) { s with heap:=s.heap.push { cls:=.type "dict_keyiterator", data:=.fields #[.ref d,.int 0 0,.int es.size 0,.int ep 0] } }):wpAny (model P w) A (pyIter (.ref d)) Q E s:=by
 obtain⟨o,e,c,dt⟩:=id x;have ty:=x.ty;refine wpAny_pyIter_slot ty F.slot_dict_iter (oH F.slot_dict_iter ty F.entry_dict_iter ?_ (F.args_dict_iter_1 _));unfold Builtin.«dict.__iter__» Builtin.Dict.dictSlotNone;refine aR (aR (wpAny_notOrdered_dict ty ?_));show wpAny _ _ (pure (eA d)) _ _ s;refine bV ?_;show wpAny _ _ (Kg d >>= _) _ _ s;unfold Kg;rw[a8 (by rw[nd];exact cZ)];refine aR (bV (aR (CA e dt (aR (CB e dt ?_)))));refine aR (vy (bV ⟨_,rfl, "dict_keyiterator", _,⟨_,dS _ rfl,rfl⟩,vC.lookup,?_⟩));simpa [rawInt]using q
theorem Qd{Q:Option aj->aB->Prop}(hI:s.heap.IsKeyIter it d i es.size ep)(x:qU s.heap d es ep)(lt:i<es.size)
 (q:∀h',h'.IsKeyIter it d (i+1) es.size ep->oM it s.heap h'->Q (ab es[i].key) { s with heap:=h' }):wpAny (model P w) A (pyNext (.ref it)) Q E s:=by
 obtain⟨oi,ei,ci,di⟩:=id hI;obtain⟨o,e,c,dt⟩:=id x;unfold pyNext;refine aR (yl (sE (name:=sL "__next__") hI.typeIs vC (oH vC hI.typeIs J0 ?_ (JZ _))));refine aR (bV (aR (aR ?_)))
 first|refine aR (x6 hI.typeIs (bV ?_))|refine aR (x9 hI.typeIs (bV ?_))
 refine aR (wpAny_fieldsOf ei di ?_);simp only[show Ke "dict_keyiterator" = false by decide,sJ,j8];show wpAny _ _ (if(eA d==kN)=true then _ else _) _ _ s;rw[a8 (by exact cZ)];refine aR (bV (aR (CA e dt ?_)));rw[a8 (by simp)];refine aR (bV (aR (CB e dt ?_)));rw[a8 (by simp)];refine bV ?_;simp only[show¬ ((i:Int)<0)from by omega,j8,kM,J8 lt];refine aR ?_
 first|refine aR (x6 hI.typeIs (bV ?_))|refine aR (x9 hI.typeIs (bV ?_))
 refine aR (wpAny_isOneOf_keyiter hI.typeIs ?_);show wpAny _ _ (setField (.ref it) 1 (rawInt ((i:Int)+1)) >>= _) _ _ s;refine aR (yk ei di (by simp) ?_);have hJ:(s.heap.update it (Obj.mapFields (·.setIfInBounds 1 (rawInt ((i:Int)+1))))).IsKeyIter it d (i+1) es.size ep:=
  ⟨_,CF _ ei (Kc (yB di _)),(Obj.cls_mapFields ..).trans ci,by rw[yB di];simp[rawInt]⟩
 refine aR (sF (aR (wpAny_isOneOf_keyiter (s:={ s with heap:=s.heap.update it (Obj.mapFields (·.setIfInBounds 1 (rawInt ((i:Int)+1)))) }) hJ.typeIs ?_)));show wpAny _ _ (pure es[i].key) _ _ _;exact bV (bV ⟨_,rfl,bV (q _ hJ (vE ..))⟩)
theorem MM{Q:Option aj->aB->Prop}(hh:A.handled=ae)(hI:s.heap.IsKeyIter it d i es.size ep)(x:qU s.heap d es ep)(ge:es.size<=i)
 (q:∀h',yo it s.heap h'->Q ae { s with heap:=h' }):wpAny (model P w) A (pyNext (.ref it)) Q E s:=by
 obtain⟨oi,ei,ci,di⟩:=id hI;obtain⟨o,e,c,dt⟩:=id x;unfold pyNext;refine aR (yl (sE (name:=sL "__next__") hI.typeIs vC (oH vC hI.typeIs J0 ?_ (JZ _))));refine aR (bV (aR (aR ?_)))
 first|refine aR (x6 hI.typeIs (bV ?_))|refine aR (x9 hI.typeIs (bV ?_))
 refine aR (wpAny_fieldsOf ei di ?_);simp only[show Ke "dict_keyiterator" = false by decide,sJ,j8];show wpAny _ _ (if(eA d==kN)=true then _ else _) _ _ s;rw[a8 (by exact cZ)];refine aR (bV (aR (CA e dt ?_)));rw[a8 (by simp)];refine aR (bV (aR (CB e dt ?_)));rw[a8 (by simp)];refine bV ?_;simp only[show¬ ((i:Int)<0)from by omega,j8,kM,Array.getElem?_eq_none ge];refine aR ?_
 first|refine aR (x6 hI.typeIs (bV ?_))|refine aR (x9 hI.typeIs (bV ?_))
 show wpAny _ _ (setField (.ref it) 0 .none >>= _) _ _ s;refine aR (yk ei di (by simp) ?_);show wpAny _ _ (newExc (.type "StopIteration") [] >>= _) _ _ _;refine aR ?_;simp only[newExc,newTuple];refine aR (vy ?_ (by size_fits));refine aR (m:=firstArgMember _ _) (wpAny_of_eq (a:=kN) (by first|rfl|(simp only[firstArgMember];rfl)) (vy ?_ (by size_fits)));simp only[raiseNew];refine aR (wpAny_handled ?_);rw[show A.in1.handled=ae from hh];refine aR (bV (wpAny_throw ?_));exact aR (wpAny_isInstance (b:=true) (T := "StopIteration") ⟨_,dS _ rfl,rfl⟩ isSubtype_stop (bV (q _ (((vE ..).extBut.push _).push _))))
end
end L2
namespace So
end So
namespace Mi
open PySem
def wX:Ky->D
 |.inl i=>.bl i
 |.inr x=>.str x
def Am:W->Rs W
 |.dt ao=>.ok (.df ao)
 |_=>.no
def rY(m:EW):EW:=λe=>(m e).bind Am
def qT(i:Nat):I:=λe=>(wV i e).bind λw=>match w with
 |.df ao=>.ok (ao.map λkv=>.tup (kv.1.map wX))
 |_=>.no
end Mi
namespace L2
open PySem PySem.Spec PyProof.Rows
theorem Inv.PN{X:Cx}{ah:List (ai×Obj)}{σ:St}{H:Hp}{s:aB}{a:ai}{kv:List (List Key×V)}(I:Inv X ah σ H s)(h:H a=ab (.dT kv)):∃ob,Inv X ah σ (upd H a (.frz ob (.dT kv))) s:=by
 obtain⟨z1,z2,xs,r,ob,es,ep,e,c⟩:=(show dD X.prog X.w H s.heap a (.dT kv)from I.hok a _ h);have ne:∀b u,H b=ab u->u≠.dT kv->b≠a:=λb u q n z=>by subst z;rw[h]at q;exact n (iq q).symm
 have st:∀b u,dD X.prog X.w H s.heap b u->dD X.prog X.w (upd H a (.frz ob (.dT kv))) s.heap b u:=λb u q=>
  q.stay (λ_ _ _ q=>q) (λc q=>by rw[aS (ne c _ q (by simp))];exact q) λc xs q=>by rw[aS (ne c _ q (by simp))];exact q
 refine⟨ob,I.un (t':=s.toks) ⟨λb o q _ _ _=>q,λb o q _ _ _=>⟨o.slots,q⟩,λb o q n _=>by rw[aS (λz=>by subst z;rw[h]at n;cases n)];exact n,λb o q _=>⟨o,q⟩,
  λb xs q=>by rw[aS (ne b _ q (by simp))];exact q,λb o u q=>by rw[aS (ne b _ q (by simp))];exact q,λb w ps q=>⟨#[],by rw[aS (ne b _ q (by simp)),q];simp⟩⟩ λb u q=>?_⟩
 by_cases hb:b=a
 ·subst hb;rw[bN]at q;cases q;exact⟨e,st b _ (I.hok b _ h)⟩
 ·rw[aS hb]at q;exact st b u (I.hok b u q)
def E5(te:TE):TE:=λσ H Q=>te σ H λv H1=>∃a kv,v=.ref a/\H1 a=ab (.dT kv)/\∀ob,Q v (upd H1 a (.frz ob (.dT kv)))
theorem PF{X:Cx}{e:a9}{te:TE}(h:PE X e te):PE X e (E5 te):=λah s σ H Q I q=>
 bb (h ah s σ H _ I q) λv s1 ⟨x,H1,I1,r1,a,kv,e,q1,q2⟩=>by
  obtain⟨ob,I2⟩:=I1.PN q1;exact⟨x,_,I2,r1,q2 ob⟩
def BU(a:ai)(ob:Obj)(kv:List (List Key×V)):It:=⟨λi H=>H a=ab (.frz ob (.dT kv))/\i<kv.length,λi H x H'=>H'=H/\∃b k v,kv[i]? = ab (k,v)/\x=.ref b/\H b=ab (.tup (k.map kV)),λi H=>H a=ab (.frz ob (.dT kv))/\kv.length<=i⟩
theorem Ig{α β:Type}{F:α->β->Prop}:∀{l:List α} {m:List β} {i:Nat} {x:α},oK F l m->l[i]? = ab x->∃y,m[i]? = ab y/\F x y
 |_,_,_,_,.nil,e=>by simp at e
 |_,_,0,_,.cons r _,e=>by simp at e;subst e;exact⟨_,rfl,r⟩
 |_,_,i+1,x,.cons _ t,e=>by
  obtain⟨u,h1,h2⟩:=Ig (i:=i) (x:=x) t (by simpa using e);exact⟨u,by simpa using h1,h2⟩
theorem zg{X:Cx}{ah:List (ai×Obj)}{σ:St}{H:Hp}{s:aB}{a:ai}{ob:Obj}{kv:List (List Key×V)}(I:Inv X ah σ H s)(q:H a=ab (.frz ob (.dT kv))) :
 (a==sysModules)=false/\kv.length<=sizeLine/\∃es ep,ob.data=.dict es ep/\qU s.heap a es ep/\es.size=kv.length/\∀i k v,kv[i]? = ab (k,v)->∃(lt:i<es.size) (b:ai),es[i].key=.ref b/\H b=ab (.tup (k.map kV))/\RelV v es[i].val:=by
 obtain⟨e,z1,z2,xs,r,ob',es,ep,e',c1,c2,c3,c4⟩:=(show dD X.prog X.w H s.heap a (.frz ob (.dT kv))from I.hok a _ q);rw[e]at e';cases e';have hl:es.size=xs.length:=size_of_entries c3;have hl2:kv.length=xs.length:=vG r;refine⟨z2,z1,es,ep,c2,⟨ob,e,c1,c2⟩,by omega,λi k v hk=>?_⟩;obtain⟨x,hx,h1,h2,h3⟩:=Ig r hk;have lt:i<es.size:=by rw[hl];exact(cv.mp hx).1
 have he:=entry_at c3 i;rw[hx,Option.map_some,J8 lt]at he;have he:=iq he;refine⟨lt,x.2.1,by rw[he];rfl,h2,by rw[he];exact h3⟩
theorem R5{P:bG}{w:bi}{K:aU}{tg:a9}(a it:ai)(ob:Obj)(es:Array DictEntry)(ep:Nat)(kv:List (List Key×V))(hd:ob.data=.dict es ep) :
 Turn P w K tg (BU a ob kv) [it] it (λi h=>h.IsKeyIter it a i es.size ep) where
 mem:=bQ.mpr rfl
 obj:=λi h st b hb=>by
  cases bQ.mp hb;obtain⟨o,e,c,d⟩:=st;exact⟨o,e,λv z=>by rw[d]at z;cases z⟩
 keep:=λi h h' st k=>st.at λo e=>k it (bQ.mpr rfl) o e
 item:=by intro X hP hw hK hc i ah s σ H E I hf st hg;subst hP hw hK;obtain⟨q,lt⟩:=hg;obtain⟨_,_,es',ep',d',R,hl,at_⟩:=zg I q;rw[hd]at d';cases d';obtain⟨f0,f1,f2,f3,f4,f5⟩:=hf it (bQ.mpr rfl);obtain⟨⟨k,v⟩,hk⟩ : ∃p,kv[i]? = ab p:=⟨kv[i],by simp[lt]⟩;obtain⟨lt',b,ek,hb,_⟩:=at_ i k v hk;refine Qd st R lt' λh' st' sb=>?_;have I1:Inv X ah σ H { s with heap:=h' }:=I.turned (t':=s.toks) (λb o hb e=>(sb.2 b hb).trans e) f0 f1 f3 f4 f5;obtain⟨o,e,c,d⟩:=id st';exact⟨_,rfl,ui (s:={ s with heap:=h' }) e c d (by decide) ⟨.ref b,H,I1,ek,⟨rfl,b,k,v,hk,rfl,hb⟩,st',λb hb=>(hf b hb).1⟩⟩
 done:=by intro X hP hw hK hc i ah s σ H E I hf st hg;subst hP hw hK;obtain⟨q,ge⟩:=hg;obtain⟨_,_,es',ep',d',R,hl,at_⟩:=zg I q;rw[hd]at d';cases d';obtain⟨f0,f1,f2,f3,f4,f5⟩:=hf it (bQ.mpr rfl);exact MM (I.ok.hd hc) st R (by omega) λh' eb=>⟨rfl,I.turned (t':=s.toks) (λb o hb e=>eb b o hb e) f0 f1 f3 f4 f5⟩
 self:=λ_ _ _ _ _ st h=>wpAny_pyIter_keyiter st h
def qT(tl:TE):TI:=λσ H R=>tl σ H λx H1=>∃a ob kv,x=.ref a/\H1 a=ab (.frz ob (.dT kv))/\R (BU a ob kv) H1
theorem Pn{X:Cx}{tg l:a9}{tl:TE}(hl:PE X l tl):PI X tg l (qT tl):=by intro ah s σ H R I h;refine bb (hl ah s σ H _ I h) λv s1 ⟨x,H1,I1,r1,a,ob,kv,e,hq,q⟩=>?_;subst e;cases r1;obtain⟨nd,_,es,ep,d,Rw,hn,_⟩:=zg I1 hq;refine R4 nd Rw ⟨s1.heap.objs.size,[s1.heap.objs.size],_,_,H1,rfl,I1.kept (t':=s1.toks) λb o e=>cM _ e,R5 a _ ob es ep kv d,⟨_,dS _ rfl,rfl,rfl⟩,λb hb=>?_,q⟩;cases bQ.mp hb;exact I1.jd (bK _) (I1.hok.fresh (bK _))
end L2
namespace A
open PySem L2 PyProof.Rows
open Mi (D W Rs Fin aA)
variable[Tb:bS]{M:Nat->Bool}
theorem AY{H:Hp}:∀(k:List Key),P2 (Rep H) (k.map Mi.wX) (k.map kV)
 |[]=>.nil
 |.inl i::r=>.cons (se.mpr rfl) (AY r)
 |.inr x::r=>.cons (ng.mpr rfl) (AY r)
theorem Qv{H Hv H' Hv':Hp}(g:br H Hv H' Hv'){a:ai}{kv:List (List Key×V)}{ao:List (List Mi.Ky×D)}(n:H a=ae)(q:H' a=ab (.dT kv))(nv:Hv' a=ae)(c:fG Hv' ao kv)(ob:Obj) :
 ∃hV,br H Hv (upd H' a (.frz ob (.dT kv))) hV/\gE hV (.df ao) (.ref a):=by
 have ne:∀b u,H b=ab u->b≠a:=λb u e z=>by subst z;rw[n]at e;cases e
 have sm:cL Hv' (upd Hv' a (.frz ob (.dT kv))):=uL nv;refine⟨upd Hv' a (.frz ob (.dT kv)),⟨?_,g.vis.trans sm,⟨λb u e=>?_,λb xs e=>?_,λb o u e=>?_,g.vw.cd.put q trivial trivial,λb u e=>?_⟩,λb u e m=>?_⟩,a,ob,kv,rfl,bN,c.same sm⟩
 ·exact g.old.put n q
 ·by_cases hb:b=a
  ·subst hb;rw[bN]at e ⊢;exact e
  ·rw[aS hb]at e ⊢;exact g.vw.sub b u e
 ·by_cases hb:b=a
  ·subst hb;rw[bN]at e;cases e
  ·rw[aS hb]at e ⊢;exact g.vw.tup b xs e
 ·by_cases hb:b=a
  ·subst hb;rw[bN]at e ⊢;exact e
  ·rw[aS hb]at e ⊢;exact g.vw.frz b o u e
 ·by_cases hb:b=a
  ·subst hb;rw[bN]at e;cases e;trivial
  ·rw[aS hb]at e;exact g.vw.nv b u e
 ·rw[aS (ne b u e)];exact g.hid b u e m
theorem PD{t:TE}{m:Mi.EW}(h:AW M qN t m):AW M qV (E5 t) (Mi.rY m):=λe σ H Hv Q I q=>
 h e σ H Hv _ I ((aA.mp q).mono λw z v H' Hv' g k=>by
  obtain⟨a,o,rfl,n,q1,nv,c⟩:=k;cases w with
  | dt ao=>cases o with
   |dT kv=>
    refine⟨a,kv,rfl,q1,λob=>?_⟩;obtain⟨hV,g',r⟩:=Qv g n q1 nv c ob;exact z (.ref a) _ hV g' r
   |_=>exact c.elim
  |_=>exact z.elim)
theorem NM(i:Nat)(hm:M i=false):iu M (qT (fk i)) (Mi.qT i):=λe σ H Hv R I h=>by
 obtain⟨w,he,h⟩:=qa (aA.mp h);obtain⟨v,hv,r⟩:=I.nob i w he hm;cases w with
 |df ao=>
  obtain⟨a,ob,kv,rfl,q,c⟩:=r;refine⟨.ref a,hv,a,ob,kv,rfl,I.vw.sub _ _ q,h (BU a ob kv) H Hv (λH Hv=>Hv a=ab (.frz ob (.dT kv))/\fG Hv ao kv) (.refl I.vw) ⟨λi H Hv p v hi=>?_,λi H Hv x H' p v hi y=>?_,λH Hv p v=>?_⟩ ⟨q,c⟩ λH1 Hv1 H2 Hv2 z s v=>⟨s _ _ z.1,z.2.same s⟩⟩
  ·exact⟨v.sub _ _ p.1,by rw[<- P2.len p.2];simpa using hi⟩
  ·obtain⟨rfl,b,k,v',hk,rfl,hb⟩:=y;obtain⟨kd,hkd,e1,_⟩:=P2.y7 p.2 hk;refine⟨Hv,.tup (kd.1.map Mi.wX),.refl v,by rw[cS,hkd];rfl,jM.mpr ⟨b,_,rfl,v.tup _ _ hb,?_⟩⟩;have e1:kd.1=k:=e1;rw[e1];exact AY k
  ·exact⟨v.sub _ _ p.1,by rw[<- P2.len p.2];simp⟩
 |_=>exact h.elim
end A
namespace L2
end L2
namespace A
end A
namespace L2
end L2
namespace Rv
end Rv
namespace L2
end L2
namespace A
end A
namespace So
end So
namespace L2
end L2
namespace A
end A
namespace Mi
open PySem
end Mi
namespace L2
open PySem PySem.Spec PyProof.Rows
open PySem.Builtin PySem.Builtin.Str
end L2
namespace A
open PySem L2 PyProof.Rows So
open Mi (D W Rs Fin aA)
variable[Tb:bS]
end A
namespace Mi
open PySem
def Na(ys:List Str):Str:=ys.foldl (· ++ ·) oQ
end Mi
namespace L2
open PySem PySem.Spec PyProof.Rows
end L2
namespace A
open PySem L2 PyProof.Rows So
open Mi (D W Rs Fin aA)
variable[Tb:bS]
end A
namespace Mi
end Mi
namespace A
open PySem L2 PyProof.Rows
open Mi (D W Rs Fin aA)
variable[Tb:bS]
end A
namespace Mi
end Mi
namespace A
open PySem L2 PyProof.Rows
open Mi (D W Rs Fin aA)
variable[Tb:bS]{M:Nat->Bool}{κ:Kd}{tr:TA}{a b:Mi.E}
end A
namespace A
open PySem L2 PyProof.Rows
section
variable[Tb:bS]
def tv(Hv:Hp):Hp:=λa=>match Hv a with
 |some (.tup xs)=>ab (.tup xs)
 |some (.frz o u)=>ab (.frz o u)
 |_=>ae
theorem rM{Hv:Hp}{a:ai}{o:HO}(h:tv Hv a=ab o):Hv a=ab o:=by
 unfold tv at h;cases q:Hv a with
 |none=>rw[q]at h;cases h
 |some u=>
  rw[q]at h;cases u<;>first|exact h|cases h
theorem vS{Hv:Hp}{a:ai}{xs:List V}(h:Hv a=ab (.tup xs)):tv Hv a=ab (.tup xs):=by unfold tv;rw[h]
theorem AF{Hv:Hp}{a:ai}{o:Obj}{u:HO}(h:Hv a=ab (.frz o u)):tv Hv a=ab (.frz o u):=by unfold tv;rw[h]
theorem Aq{Hv:Hp}{a:ai}{o:HO}(h:tv Hv a=ab o):(∃xs,o=.tup xs)\/∃b u,o=.frz b u:=by
 unfold tv at h;cases q:Hv a with
 |none=>rw[q]at h;cases h
 |some u=>
  rw[q]at h;cases u<;>first|(cases h;exact .inl ⟨_,rfl⟩)|(cases h;exact .inr ⟨_,_,rfl⟩)|cases h
theorem Vw.tv{H Hv:Hp}(v:Vw H Hv):Vw H (tv Hv):=⟨λa o h=>v.sub a o (rM h),λa xs h=>vS (v.tup a xs h),λa o u h=>AF (v.frz a o u h),v.cd,λa o h=>v.nv a o (rM h)⟩
def jn(Hv Hv':Hp):Hp:=λa=>match Hv a with
 |some o=>ab o
 |none=>Hv' a
theorem qG{Hv Hv':Hp}{a:ai}{o:HO}(h:Hv a=ab o):jn Hv Hv' a=ab o:=by unfold jn;rw[h]
theorem rV{Hv Hv':Hp}{a:ai}(h:Hv a=ae):jn Hv Hv' a=Hv' a:=by unfold jn;rw[h]
end
end A
namespace A
open PySem L2 PyProof.Rows
open Mi (D)
mutual
def ir:D->Bool
 |.lst _=>false
 |.tup ds=>iI ds
 |_=>true
def iI:List D->Bool
 |[]=>true
 |d::r=>ir d&&iI r
end
section
variable[Tb:bS]
mutual
theorem vZ{Hv:Hp}:∀{d:D} {v:V},ir d=true->Rep Hv d v->Rep (tv Hv) d v
 |.non,v,_,h=>by rw[Rep]at h ⊢;exact h
 |.bl b,v,_,h=>by rw[Rep]at h ⊢;exact h
 |.int i,v,_,h=>by rw[Rep]at h ⊢;exact h
 |.str x,v,_,h=>by rw[Rep]at h ⊢;exact h
 |.lst ds,v,n,h=>by rw[ir]at n;cases n
 |.tup ds,v,n,h=>by
  rw[Rep]at h ⊢;rw[ir]at n;obtain⟨a,xs,e,q,r⟩:=h;exact⟨a,xs,e,vS q,Ga n r⟩
theorem Ga{Hv:Hp}:∀{ds:List D} {vs:List V},iI ds=true->bD Hv ds vs->bD (tv Hv) ds vs
 |[],vs,_,h=>by rw[bD]at h ⊢;exact h
 |d::ds,vs,n,h=>by
  rw[bD]at h ⊢;rw[iI,gZ]at n;obtain⟨v,r,e,p,q⟩:=h;exact⟨v,r,e,vZ n.1 p,Ga n.2 q⟩
end
def kp(Hv H:Hp):Hp:=λa=>match Hv a with
 |some o=>ab o
 |none=>tv H a
theorem uG{Hv H:Hp}{a:ai}{o:HO}(h:Hv a=ab o):kp Hv H a=ab o:=by unfold kp;rw[h]
theorem tz{Hv H:Hp}{a:ai}(h:Hv a=ae):kp Hv H a=tv H a:=by unfold kp;rw[h]
def om(H H1 H2:Hp):Prop:=∀a,H2 a=H1 a\/(H a=ae/\(∃xs,H1 a=ab (.lst xs))/\∃ys,H2 a=ab (.lst ys))
theorem om.refl{H H1:Hp}:om H H1 H1:=λ_=>.inl rfl
theorem om.put{H H1 H2:Hp}(e:om H H1 H2){p:ai}{xs ys:List V}(h:H p=ae)(q:H2 p=ab (.lst xs)):om H H1 (upd H2 p (.lst ys)):=λa=>by
 by_cases z:a=p
 ·subst z;refine .inr ⟨h,?_,_,bN⟩;rcases e a with k|⟨_,k,_⟩
  ·exact⟨xs,by rw[<- k];exact q⟩
  ·exact k
 ·rw[aS z];exact e a
theorem br.emptied{H Hv H1 Hv1 H2:Hp}(v:Vw H Hv)(g:br H Hv H1 Hv1)(e:om H H1 H2):br H Hv H2 (kp Hv H2):=by
 have keep:∀{a o},H a=ab o->H2 a=H1 a:=λ{a o} h=>by
  rcases e a with k|⟨k,_⟩
  ·exact k
  ·rw[h]at k;cases k
 have same:∀{a o},H1 a=ab o->(∀xs,o≠.lst xs)->H2 a=ab o:=λ{a o} h n=>by
  rcases e a with k|⟨_,⟨xs,k⟩,_⟩
  ·rw[k];exact h
  ·rw[h]at k;cases k;exact absurd rfl (n xs)
 have back:∀{a o},H2 a=ab o->(∀xs,o≠.lst xs)->H1 a=ab o:=λ{a o} h n=>by
  rcases e a with k|⟨_,_,ys,k⟩
  ·rw[<- k];exact h
  ·rw[h]at k;cases k;exact absurd rfl (n ys)
 have up:∀{a o},Hv a=ab o->H2 a=ab o:=λ{a o} h=>by
  rw[keep (v.sub a o h)];exact g.old.nt a o (v.sub a o h) (v.nv a o h)
 refine⟨⟨λa o h n=>?_,λa h=>?_,λa w ps h=>?_⟩,λa o h=>uG h,⟨λa o h=>?_,λa xs h=>?_,λa o u h=>?_,⟨λr hr=>?_,λT q ps h=>?_,λa o xs h=>?_⟩,λa o h=>?_⟩,λa o h n=>?_⟩
 ·rw[keep h];exact g.old.nt a o h n
 ·rcases e a with k|⟨k,_⟩
  ·rw[k]at h;exact g.old.dom a h
  ·exact k
 ·rw[keep h];exact g.old.tb a w ps h
 ·cases q:Hv a with
  |none=>rw[tz q]at h;exact rM h
  |some u=>rw[uG q]at h;cases h;exact up q
 ·cases q:Hv a with
  |none=>rw[tz q];exact vS h
  |some u=>rw[uG q];have:=up q;rw[h]at this;exact this.symm
 ·cases q:Hv a with
  |none=>rw[tz q];exact AF h
  |some w=>rw[uG q];have:=up q;rw[h]at this;exact this.symm
 ·obtain⟨ps,k⟩:=g.vw.cd.has r hr;exact⟨ps,same k (λ_ z=>by cases z)⟩
 ·obtain⟨t,k⟩:=g.vw.cd.cd T q ps (back h (λ_ z=>by cases z));refine⟨t,λpos x z=>?_⟩;obtain⟨c,c1,c2⟩:=k pos x z;exact⟨c,c1,same c2 (λ_ z=>by cases z)⟩
 ·exact g.vw.cd.fz a o xs (back h (λ_ z=>by cases z))
 ·cases q:Hv a with
  |none=>
   rw[tz q]at h;rcases Aq h with ⟨_,k⟩|⟨_,_,k⟩<;>subst k<;>trivial
  |some u=>rw[uG q]at h;cases h;exact v.nv a o q
 ·rw[tz n];cases z:tv H2 a with
  |none=>rfl
  |some u=>
   exfalso;have e1:=rM z;rw[keep h]at e1;rcases Aq z with ⟨xs,k⟩|⟨b,w,k⟩
   ·subst k;by_cases t:NT o
    ·have:=g.old.nt a o h t;rw[e1]at this;cases this;rw[v.tup a xs h]at n;cases n
    ·cases o<;>first|exact t trivial|skip
     obtain⟨_,y⟩:=g.old.tb a _ _ h;rw[e1]at y;cases y
   ·subst k;by_cases t:NT o
    ·have:=g.old.nt a o h t;rw[e1]at this;cases this;rw[v.frz a b w h]at n;cases n
    ·cases o<;>first|exact t trivial|skip
     obtain⟨_,y⟩:=g.old.tb a _ _ h;rw[e1]at y;cases y
end
end A
namespace A
end A
namespace Mi
def Ht:Option W->Option W
 |some (.d d)=>if A.ir d=true then ab (.d d)else ae
 |_=>ae
theorem OQ:∀{o:Option W} {w:W},Ht o=ab w->∃d,w=.d d/\A.ir d=true/\o=ab (.d d):=λ{o w} h=>by
 cases o with
 |none=>cases h
 |some u=>
  cases u with
  |d x=>
   by_cases z:A.ir x=true
   ·have h':(if A.ir x=true then ab (W.d x)else ae)=ab w:=h;rw[bc z]at h';injection h' with h';exact⟨x,h'.symm,z,rfl⟩
   ·have h':(if A.ir x=true then ab (W.d x)else ae)=ab w:=h;rw[a8 z]at h';cases h'
  |_=>cases h
def nP(ks:List Nat):Nat->Env->Env
 |_,[]=>[]
 |n,o::r=>(if n∈ks then Ht o else ae)::nP ks (n+1) r
def qe(ks:List Nat)(e:Env):Env:=nP ks 0 e
theorem y4(ks:List Nat):∀(n:Nat) (e:Env),(nP ks n e).length=e.length
 |_,[]=>rfl
 |n,o::r=>by rw[nP,cx,cx,y4 ks (n+1) r]
theorem uk(ks:List Nat):∀(n:Nat) (e:Env) {k:Nat} {w:W},(nP ks n e)[k]? = ab (ab w)->n+k∈ks/\∃d,w=.d d/\A.ir d=true/\e[k]? = ab (ab (.d d))
 |_,[],k,w,h=>by rw[nP]at h;cases h
 |n,o::r,0,w,h=>by
  rw[nP,jU]at h;by_cases c:n∈ks
  ·rw[bc c]at h;injection h with h;obtain⟨d,e1,e2,e3⟩:=OQ h;exact⟨c,d,e1,e2,by rw[jU,e3]⟩
  ·rw[a8 c]at h;cases h
 |n,o::r,k+1,w,h=>by
  rw[nP,jq]at h;obtain⟨h1,h2⟩:=uk ks (n+1) r h;exact⟨by rw[show n+(k+1)=n+1+k by omega];exact h1,by rw[jq];exact h2⟩
end Mi
namespace A
open PySem L2 PyProof.Rows
open Mi (D W Rs Fin aA Out)
section
variable[Tb:bS]{M:Nat->Bool}{κ:Kd}
theorem R0.qe{e:Mi.Env}{σ:L2.St}{H Hv:Hp}(I:R0 M e σ H Hv){ks:List Nat}(hk:∀k∈ks,M k=false):R0 M (Mi.qe ks e) σ H (tv Hv):=by
 refine⟨I.vw.tv,by rw[I.len];exact(Mi.y4 ks 0 e).symm,λk w h m=>?_,λk w h m=>?_⟩
 ·obtain⟨_,d,rfl,n,h⟩:=Mi.uk ks 0 e h;obtain⟨v,q,z⟩:=I.nob k _ h m;exact⟨v,q,vZ n z⟩
 ·obtain⟨h1,_⟩:=Mi.uk ks 0 e h;rw[da]at h1;rw[hk k h1]at m;cases m
end
end A
namespace A
end A
namespace L2
open PySem PySem.Spec PyProof.Rows A So
variable[Tb:bS]
def uf(P:bG)(w:bi)(K:aU)(mg:Str->Option aj)(base:aZ)(A:b9)(N':List Str)(env:Env)(s:aB)(H:Hp)(outer:List Env):Cx:={ prog:=P,w:=w,K:=K,mg:=mg,base:=base,A:=A.deeper env,N:=N',s₀:=s,H₀:=H,env:=env,outer:=outer,stack:=env::outer,ex:=[],fn:=λ_=>false,calm:=true,pn:=[],xe:=λ_ _=>False }
def Kept(us:List (ai×Obj))(outer:List Env)(H:Hp)(h:aZ):Prop:=∀p∈us,h.get? p.1=ab p.2/\H p.1=ae/\p.1∉frs outer
structure BL(x:Str)(ys:List Str)(gs:List V)(sc:fg)(cl:List (Str×ai))(us:List (ai×Obj)):Prop where
 kind:sc.kind=.function
 co:sc.isCoroutine=false
 gen:sc.isGenerator=false
 nF:∀y∈sc.names,y.2≠.cell
 par:sc.names.lookup x=ab .local
 has:∀y,sc.names.lookup y=ab .free->∃c,cl.lookup y=ab c
 inj:∀y z c,cl.lookup y=ab c->cl.lookup z=ab c->y=z
 len:ys.length=gs.length
 cell:∀y c,cl.lookup y=ab c->∃o v,(c,o)∈us/\o.data=.cell v
 val:∀(i:Nat) y g,ys[i]? = ab y->gs[i]? = ab g->sc.names.lookup y=ab .free/\∃c o u,cl.lookup y=ab c/\(c,o)∈us/\o.data=.cell (ab u)/\RelV g u
section
variable{P:bG}{w:bi}{K:aU}{mg:Str->Option aj}{base:aZ}{outer:List Env}{H:Hp}{s:aB}{A:b9}{k:Nat}{qual x:Str}{ps:sH}{body:a9}{sc:fg}{cl:List (Str×ai)}{pm ctv:aj}{f c':ai}{ys:List Str}{gs:List V}{us:List (ai×Obj)}
theorem Nx{h1:aZ}{tk:Nat}{v:V}{u:aj}(e0:ot P w K mg base A outer s H)(hd:A.handled=ae)(S:BL x ys gs sc cl us)(kp:Kept us outer H s.heap)(rv:RelV v u)
 (hns:h1.Ns s.heap.objs.size λy=>[(x,u)].reverse.lookup y) (hk:∀b o,s.heap.get? b=ab o->h1.get? b=ab o) :
 Inv (uf P w K mg base A (x::ys) (rK qual sc s f c' cl) s H outer) [] (ab v::gs.map ab) H { s with heap:=h1,toks:=tk }:=by
 have noA:∀b:ai,b∉([]:List ai):=λb z=>absurd z (by simp);refine⟨⟨e0.mod,S.kind,rfl,rfl,bK _,S.inj,λy hy=>?_,λy c z=>(nomatch z),λ_=>hd,Km e0.frames,.inr ⟨rfl,rfl⟩,λb z=>absurd z (noA b),e0.bs,e0.bsz,λb _ _=>noA b,λb z=>absurd z (noA b),e0.jG,e0.frf⟩,
  rfl,e0.bare,Un.kept hk,⟨_,hns,λi y w h2 h3 h4=>?_⟩,λy c e=>?_,e0.hok.fresh (bK _),λy c e=>?_,λp hp=>absurd (show p∈([]:List (ai×Obj))from hp) (by simp),e0.hok.kept hk,?_⟩
 ·have hy:sc.names.lookup y=ab .cell\/sc.names.lookup y=ab .free:=hy;rcases hy with hy|hy
  ·exact absurd rfl (S.nF _ (nB hy))
  ·exact S.has y hy
 ·have h2:(x::ys)[i]? = ab y:=h2;cases i with
  |zero=>
   have e:x=y:=by simpa using h2
   subst e;have e2:v=w:=by simpa using h3
   subst e2;exact⟨u,rv,.inl ⟨S.par,by simp⟩⟩
  |succ i=>
   have hy:ys[i]? = ab y:=by simpa using h2
   have h3:(gs.map ab)[i]? = ab (ab w):=by simpa using h3
   rw[cS]at h3;obtain⟨g,hg,e⟩:=gR.mp h3;cases e;obtain⟨n1,c,o,u2,n2,n3,n4,n5⟩:=S.val i y w hy hg;exact⟨u2,n5,.inr ⟨.inr n1,c,n2,o,hk _ _ (kp _ n3).1,n4⟩⟩
 ·obtain⟨o,v2,n1,n2⟩:=S.cell y c e;exact⟨v2,o,hk _ _ (kp _ n1).1,n2⟩
 ·obtain⟨o,v2,n1,n2⟩:=S.cell y c e;exact(kp _ n1).2.1
 ·show(ab v::gs.map ab).length=(x::ys).length;simp[S.len]
theorem Py{u:aj}{v:V}{tb:TE}{Q:VK}(e0:ot P w K mg base A outer s H)(hr:dw (k+1) A)(S:BL x ys gs sc cl us)(kp:Kept us outer H s.heap)
 (ho:(f,sC "<lambda>" qual ps body sc cl pm c' ctv)∈us) (hcd:s.heap.CodeRec (.ref c') qual)
 (hbind:bindArgs (xZ "<lambda>" qual ps body sc cl pm (.ref c') ctv) ⟨[u],[]⟩=pure [(x,u)]) (rv:RelV v u)
 (hb:∀env:Env,dw k (A.deeper env)->env=rK qual sc s f c' cl->PE (uf P w K mg base A (x::ys) env s H outer) body tb) (h:tb (ab v::gs.map ab) H Q) :
 wpAny (model P w) A (call (.ref f) [u]) (CE outer P w H s Q) (λ_ _=>False) s:=by
 refine wpAny_call (PySem.W.kla_callFunE hr.depth (kp _ ho).1 rfl S.co S.gen rfl hcd ?_);rw[hbind];have lim:s.heap.NoLimit:=e0.mod.nolimit.keeps λb o e=>(e0.bs b o e).1;refine bV (wpAny_newFunctionEnv S.nF (λy hy=>by
  have e:y=(x,u):=by simpa using hy
  rw[e];exact S.par) (λh1 hns hsb=>⟨lim.fresh _ hsb,?_⟩) S.kind)
 show codeAny _ _ (.expr body (rK qual sc s f c' cl)) _ _;have hk:∀b o,s.heap.get? b=ab o->h1.get? b=ab o:=λb o e=>hsb.extBut b o (gQ (cG e)) (cM _ e);have J:=Nx (tk:=s.toks+[(x,u)].length) (qual:=qual) (f:=f) (c':=c') e0 hr.hd S kp rv hns hk;refine PySem.W.kla_codeExpr (jY (hb _ (hr.deeper _) rfl [] _ (ab v::gs.map ab) H Q J h) (λk' s' hq=>?_) λ_ _ z=>z.elim);obtain⟨v2,H2,I2,r2,q⟩:=hq;exact⟨v2,H2,I2.os,I2.bare,I2.base,I2.hok,r2,q⟩
end
structure xk(P:bG)(w:bi)(K:aU)(mg:Str->Option aj)(base:aZ)(k:Nat)(f:ai)(us:List (ai×Obj))(c':ai)(q:Str)(sp:V->Hp->VK->Prop):Prop where
 fn:∃oc od fd sl,(f,(⟨oc,od,.func fd,sl⟩ : Obj))∈us
 run:∀(A:b9) (outer:List Env) (s:aB) (H:Hp) (u:aj) (v:V) (Q:VK),dw k A->ot P w K mg base A outer s H->Kept us outer H s.heap->H c'=ab (.ext (iz c' q))->RelV v u->sp v H Q ->
  wpAny (model P w) A (call (.ref f) [u]) (CE outer P w H s Q) (λ_ _=>False) s
section
variable{X:Cx}{x:Str}{e:a9}{p pos:Pos}{k i:Nat}{f c':ai}{q:Str}{us:List (ai×Obj)}{te:TE}{sp:V->Hp->VK->Prop}
theorem Kept.inv{ah:List (ai×Obj)}{σ:St}{H:Hp}{s:aB}(I:Inv X ah σ H s)(hx:X.ex=[])(kp:Kept us X.outer X.H₀ X.s₀.heap):Kept us X.stack H s.heap:=λp hp=>by
 obtain⟨h1,h2,h3⟩:=kp p hp;have nx:p.1∉X.ex:=by rw[hx];simp
 refine⟨I.base.keep _ _ h1 h2 h3 nx,I.base.free _ _ h1 h2 nx,λz=>?_⟩;rcases bB.mp (I.tw p.1 z)with y|y
 ·have:=cG h1;have:=I.ok.above;rw[y]at *;exact absurd (g7 ‹_› this) (kL _)
 ·exact h3 y
def Im(i:Nat)(f c':ai)(q:Str)(te:TE)(sp:V->Hp->VK->Prop):TE:=λσ H Q=>σ[i]? = ab (ab (.ref f))/\te σ H λv H1=>H1 c'=ab (.ext (iz c' q))/\sp v H1 Q
theorem M6(L:xk X.prog X.w X.K X.mg X.base k f us c' q sp)(kp:Kept us X.outer X.H₀ X.s₀.heap)(hx:X.ex=[])(hr:dw k X.A)(hv:PE X (.Name x p) (fk i))(he:PE X e te)
 (hs:starEach [e] X.env=(false,eval e X.env)::starEach [] X.env:=by rfl) (hpl:(backTo pos (starEach [] X.env)).any (·.1)=false:=by rfl) :
 PE X (.Call (.Name x p) [e] [] pos) (Im i f c' q te sp):=by
 intro ah s σ H Q I ⟨h1,h2⟩;have fnAt:∀{ah:List (ai×Obj)} {σ:St} {H:Hp} {s:aB},Inv X ah σ H s->PySem.W.FnAt f s.heap:=λI=>by
  obtain⟨oc,od,fd,sl,m⟩:=L.fn;exact⟨oc,od,fd,sl,((kp.inv I hx) _ m).1⟩
 refine vv (bb (hv ah s σ H (λv H1=>v=.ref f/\te σ H1 λv H1=>H1 c'=ab (.ext (iz c' q))/\sp v H1 Q) I ⟨_,h1,rfl,h2⟩) λu s1 ⟨v,H1,I1,r,e1,q1⟩=>?_);subst e1;cases r;refine PySem.W.callWith_F (fnAt I1) ?_ hs hpl;rw[hs];show wpAny _ _ (spliced ((false,eval e X.env)::backTo pos (starEach [] X.env))) _ _ s1;refine yA (bb (he ah s1 σ H1 _ I1 q1) λu2 s2 ⟨v2,H2,I2,r2,q2,q3⟩=>CU ⟨fnAt I2,?_⟩);refine jY (L.run X.A X.stack s2 H2 u2 v2 Q hr I2.env0 (kp.inv I2 hx) q2 r2 q3) (λk' s' hq=>I2.after hq) λ_ _ z=>z.elim
end
open Mi (Kp)
abbrev _root_.Mi.Kp.vs(κ:Kp):List V:=κ.ga.map V.ref
structure t9(P:bG)(w:bi)(K:aU)(mg:Str->Option aj)(base:aZ)(k:Nat)(f:ai)(fd:bJ)(ps:List Str)(kl:Nat)(spl:List V->V->Hp->VK->Prop)(sp:Kp->Sp):Prop where
 len:∀κ vs H Q E,sp κ vs H Q E->vs.length=ps.length
 run:∀(A:b9) (outer:List Env) (s:aB) (H:Hp) (args:Args) (us:List aj) (vs:List V) (Q:VK) (κ:Kp) (us':List (ai×Obj)),dw k A->ot P w K mg base A outer s H->nC s fd args (ps.zip us)->Vals vs us ->
  xk P w K mg base kl κ.a us' κ.c κ.q (spl κ.vs)->Kept us' outer H s.heap->sp κ vs H Q E0->codeAny (model P w) A (.call (.ref f) args) (CR aF outer P w H s Q E0) s
theorem MP{P:bG}{w:bi}{K:aU}{mg:Str->Option aj}{base:aZ}{k kl:Nat}{f:ai}{x qual:Str}{st:bC}{fd:bJ}{N ps:List Str}{spl:List V->V->Hp->VK->Prop}{sp:Kp->Sp}(F:bX K x qual st f fd)(S:cn N ps (bE st))
 (len:∀κ vs H Q E,sp κ vs H Q E->vs.length=ps.length)
 (hbody:∀(cdv:aj) (A:b9) (outer:List Env) (s:aB) (H:Hp) (vs:List V) (Q:VK) (κ:Kp) (us':List (ai×Obj)),dw k (A.deeper (envOfC qual (bE st) s.heap.objs.size f cdv)) ->
  xk P w K mg base kl κ.a us' κ.c κ.q (spl κ.vs)->Kept us' outer H s.heap->sp κ vs H Q E0 ->
  ∃t,io (lN aF P w K mg base N qual (bE st) f cdv A outer s H E0).lV (jj st) t/\t { nx:=λ_ H'=>Q .non H',rt:=Q } (start N vs) H) :
 t9 P w K mg base (k+1) f fd ps kl spl sp:=by
 obtain⟨oc,od,kV,doc,pm,an,cdv,ct,osl,rfl,lk,hcd⟩:=F.ex;refine⟨len,λA outer s H args us vs Q κ us' hr e0 hb r L kp h=>?_⟩;obtain⟨t,ht,hq⟩:=hbody cdv A outer s H vs Q κ us' (hr.deeper _) L kp h;have old:∀b o,base.get? b=ab o->s.heap.get? b=ab o:=λb o e=>(e0.bs b o e).1;have kx:K.In s.heap:=e0.mod.kin.keeps old;refine codeAny_call_function hr.depth (kx _ _ lk) rfl S.co S.gen rfl (JP kx hcd) (hb _ _ _ _ (JU S.kind (λy hy=>?_) λenv he s1 x1=>?_))
 ·rcases S.par y.1 (xV (a:=y.1) (b:=y.2) hy).1 with z|z
  ·exact .inl z
  ·exact .inr ⟨z,Ct _ _ _ (.inl z)⟩
 ·subst he;refine⟨(e0.mod.nolimit.keeps old).keeps x1.toInCall.keep,codeAny_func ?_⟩;refine jY (ht.lV [] s1 (start N vs) H _ (FW S hr.hd e0 (len _ _ _ _ _ h) r x1) hq) (λfl s' hs=>?_) λe s' hs=>hs;cases fl with
  |ret u=>obtain⟨v,σ',H',J,rv,q⟩:=hs;exact⟨v,H',J.os,J.bare,J.base,J.hok,rv,q⟩
  |next=>obtain⟨σ',H',J,q⟩:=hs;exact⟨.non,H',J.os,J.bare,J.base,J.hok,rfl,q⟩
  |brk=>obtain⟨_,_,_,q⟩:=hs;exact iW q
  |cont=>obtain⟨_,_,_,q⟩:=hs;exact iW q
structure rG(X:Cx)(x:Str)(ρ:List Nat)(ys:List Str)(sc:fg)(cl:List (Str×ai)):Prop where
 kind:sc.kind=.function
 co:sc.isCoroutine=false
 gen:sc.isGenerator=false
 nF:∀y∈sc.names,y.2≠.cell
 par:sc.names.lookup x=ab .local
 clo:∀p∈cl,X.env.cells.lookup p.1=ab p.2
 has:∀y,sc.names.lookup y=ab .free->∃c,cl.lookup y=ab c
 len:ys.length = ρ.length
 ix:∀(i j:Nat) y,ρ[i]? = ab j->ys[i]? = ab y->X.N[j]? = ab y/\sc.names.lookup y=ab .free/\(X.env.kindOf y=ab .cell\/X.env.kindOf y=ab .free)
section
variable{X:Cx}{fx lx qual:Str}{e:a9}{ps:sH}{body:a9}{sc:fg}{cl:List (Str×ai)}{c T fa:ai}{p pos iX:Pos}{k kl:Nat}{ρ:List Nat}{ys pps:List Str}{te tb:TE}{fd:bJ}{spl:List V->V->Hp->VK->Prop}{sp:Kp->Sp}
def yP(T:ai)(q:Str)(ρ:List Nat)(te:TE)(sp:Kp->Sp):TE:=λσ H Q=>te σ H λv H1=>∃(tps:Array aj) (ga:List ai),H1 T=ab (.tbl q tps)/\iL H1/\(∀(i:Nat) (j:Nat),ρ[i]? = ab j->∃a:ai,ga[i]? = ab a/\σ[j]? = ab (ab (V.ref a)))/\ga.length = ρ.length /\
 ∀H2 f c',Tab T q H1 H2->H2 c'=ab (.ext (iz c' q))->H2 f=ae->sp ⟨f,c',q,ga⟩ [v,.ref f] H2 Q E0
theorem Nd{ah:List (ai×Obj)}{σ:St}{H:Hp}{s:aB}{f c':ai}{pm ctv:aj}{ga:List ai}(I:Inv X ah σ H s)(hfn:∀x,X.fn x=true)(S:rG X lx ρ ys sc cl)(hf:s.heap.get? f=ab (sC "<lambda>" qual ps body sc cl pm c' ctv))(fp:iQ X ah H f)
 (hga:∀(i:Nat) (j:Nat),ρ[i]? = ab j->∃a:ai,ga[i]? = ab a/\σ[j]? = ab (ab (V.ref a))) (hgl:ga.length = ρ.length)
 (hbind:∀(pm:aj) (c':ai) (ctv u:aj),bindArgs (xZ "<lambda>" qual ps body sc cl pm (.ref c') ctv) ⟨[u],[]⟩=pure [(lx,u)])
 (hb:∀(A:b9) (f c':ai) (s:aB) (H:Hp) (env:Env) (outer:List Env),dw kl (A.deeper env)->env=rK qual sc s f c' cl->PE (uf X.prog X.w X.K X.mg X.base A (lx::ys) env s H outer) body tb)
 (hsp:∀gs v H Q,spl gs v H Q->tb (ab v::gs.map ab) H Q) :
 ∃us,xk X.prog X.w X.K X.mg X.base (kl+1) f us c' qual (spl (ga.map V.ref))/\Kept us X.stack H s.heap:=by
 have Ks:∀b,b≠X.env.locals->b∉X.fs->b∉frs X.stack:=λb h1 h2 z=>by
  rcases bB.mp (I.tw b z)with y|y
  ·exact h1 y
  ·exact h2 y
 have cfs:∀y c,X.env.cells.lookup y=ab c->c∉X.fs:=λy c e z=>by
  obtain⟨_,o,ho,_⟩:=I.ok.jG.mem z;exact absurd (g7 (cG ho) (I.ok.cab y c (hfn y) e)) (kL _)
 let us:List (ai×Obj):=(f,sC "<lambda>" qual ps body sc cl pm c' ctv)::cl.filterMap λyc=>(s.heap.get? yc.2).map λo=>(yc.2,o);have mem:∀y c o,cl.lookup y=ab c->s.heap.get? c=ab o->(c,o)∈us:=λy c o h1 h2=>by
  refine dR _ (xQ.mpr ⟨(y,c),nB h1,?_⟩);simp[h2]
 have kp:Kept us X.stack H s.heap:=λp hp=>by
  rcases bB.mp hp with rfl|hp
  ·exact⟨hf,fp.1,Ks f fp.2.1 fp.2.2.1⟩
  ·obtain⟨⟨y,c2⟩,h1,h2⟩:=xQ.mp hp;obtain⟨o,h3,rfl⟩:=gR.mp h2;have hc:X.env.cells.lookup y=ab c2:=S.clo _ h1;exact⟨h3,I.kO y c2 hc,Ks c2 (I.oa y c2 hc) (cfs y c2 hc)⟩
 have clo:∀y c,cl.lookup y=ab c->X.env.cells.lookup y=ab c:=λy c e=>S.clo (y,c) (nB e);have SC:BL lx ys (ga.map V.ref) sc cl us:=by
  refine⟨S.kind,S.co,S.gen,S.nF,S.par,S.has,λy z c h1 h2=>I.ok.inj y z c (clo y c h1) (clo z c h2),by rw[S.len,aO,hgl],λy c e=>?_,λi y g h1 h2=>?_⟩
  ·obtain⟨v,o,ho,hd⟩:=I.cell y c (clo y c e);exact⟨o,v,mem y c o e ho,hd⟩
  ·have hi:i < ρ.length:=by rw[<- S.len];exact(cv.mp h1).1
   have hj:ρ[i]? = ab ρ[i]:=by simp[hi]
   obtain⟨n1,n2,n3⟩:=S.ix i _ y hj h1;obtain⟨a,h3,h4⟩:=hga i _ hj;rw[cS,h3]at h2;cases h2;obtain⟨m,hm,hl⟩:=I.loc;have vis:uc X.env.scope y:=by
    rcases n3 with z|z
    ·exact .inr (.inl z)
    ·exact .inr (.inr z)
   obtain⟨u2,r2,lk⟩:=hl _ y _ n1 h4 vis;obtain⟨c2,hc2⟩:=S.has y n2;refine⟨n2,?_⟩;rcases lk with ⟨z,_⟩|⟨_,c3,e3,o,ho,hd⟩
   ·rcases n3 with y1|y1
    ·rw[z]at y1;cases y1
    ·rw[z]at y1;cases y1
   ·rw[clo y c2 hc2]at e3;cases e3;exact⟨c2,o,u2,hc2,mem y c2 o hc2 ho,hd,r2⟩
 refine⟨us,⟨⟨_,_,_,_,cJ⟩,λA outer s3 H3 u v Q hr e0 kp3 hc3 rv h=>?_⟩,kp⟩;have hrec:s3.heap.CodeRec (.ref c') qual:=by obtain⟨⟨o,vs,t,e1,e2,e3⟩,_⟩:=e0.hok c' _ hc3;exact⟨c',o,vs,t,rfl,e1,e2,e3⟩
 exact Py e0 hr SC kp3 cJ hrec (hbind pm c' ctv u) rv (λenv h1 h2=>hb A f c' s3 H3 env outer h1 h2) (hsp _ _ _ _ h)
theorem NJ(F:t9 X.prog X.w X.K X.mg X.base k fa fd pps (kl+1) spl sp)(hr:dw k X.A)(hg:Gl X fx)(hm:X.mg fx=ab (.ref fa))(hkp:mq X.K (.ref fa)=true)(hbd:Binds X.K fd pps [])(he:PE X e te)
 (hc:X.env.code=.ref c) (C:jX X.base c T) (hB:BM X.mg X.base) (hdef:defaultsOf ps X.env=([],[])) (hq:X.env.qual ++ "<lambda>" = qual) (hcl:closureFor sc X.env=pure cl) (hfn:∀x,X.fn x=true) (S:rG X lx ρ ys sc cl)
 (hbind:∀(pm:aj) (c':ai) (ctv u:aj),bindArgs (xZ "<lambda>" qual ps body sc cl pm (.ref c') ctv) ⟨[u],[]⟩=pure [(lx,u)])
 (hb:∀(A:b9) (f c':ai) (s:aB) (H:Hp) (env:Env) (outer:List Env),dw kl (A.deeper env)->env=rK qual sc s f c' cl->PE (uf X.prog X.w X.K X.mg X.base A (lx::ys) env s H outer) body tb)
 (hsp:∀gs v H Q,spl gs v H Q->tb (ab v::gs.map ab) H Q)
 (hdb:(fx==("__debug__" : Str))=false:=by decide) (hs1:starEach [e,.Lambda ps body sc iX] X.env=(false,eval e X.env)::starEach [.Lambda ps body sc iX] X.env:=by rfl)
 (hs2:starEach [.Lambda ps body sc iX] X.env=(false,eval (.Lambda ps body sc iX) X.env)::starEach [] X.env:=by rfl) (hpl:(backTo pos (starEach [.Lambda ps body sc iX] X.env)).any (·.1)=false:=by rfl) :
 PE X (.Call (.Name fx p) [e,.Lambda ps body sc iX] [] pos) (yP T qual ρ te sp):=by
 intro ah s σ H Q I h;refine vv (A2 I hg hm ?_ hdb);refine JO (h₀:=X.base) I.ok.mod.kin hkp ?_ hs1 hpl;rw[hs1];show wpAny _ _ (spliced ((false,eval e X.env)::backTo pos (starEach [.Lambda ps body sc iX] X.env))) _ _ s;refine yA (bb (he ah s σ H _ I h) λu s1 ⟨v,H1,I1,r1,q1⟩=>?_);obtain⟨tps,ga,hT,ck,hga,hgl,q2⟩:=q1;rw[hs2];show wpAny _ _ (spliced ((false,eval (.Lambda ps body sc iX) X.env)::backTo pos (starEach [] X.env))) _ _ s1;refine yA (MK I1 hc C ck hT hB hdef hq hcl λf c' ctv pm s2 H2 tab hc' hf I2 fpf=>CU ⟨I2.gC,?_⟩);obtain⟨us,L,kp⟩:=Nd (spl:=spl) (qual:=qual) I2 hfn S hf fpf hga hgl hbind hb hsp;have q3:=q2 H2 f c' tab hc' fpf.1;have r2:Vals [v,.ref f] ([u,.ref f]++[]):=.cons r1 (.cons rfl .nil);have hl:([u,.ref f]++[]:List aj).length=pps.length:=by rw[<- r2.length];exact F.len _ _ _ _ _ q3
 show wpAny _ _ (call (.ref fa) [u,.ref f]) _ _ s2;refine wpAny_call (ym (F.run X.A X.stack s2 H2 ⟨[u,.ref f],[]⟩ _ _ Q ⟨f,c',qual,ga⟩ us hr I2.env0 (hbd s2 [u,.ref f] I2.gC hl) r2 L kp q3) λr s' hq=>?_);cases r with
 |error e=>exact hq.elim
 |ok fl=>
  cases fl with
  |ret u=>exact I2.after hq
  |next=>exact iW hq
  |brk=>exact iW hq
  |cont=>exact iW hq
end
end L2
namespace Mi
def pJ(κ:Kp)(i:Nat)(f:Fn)(a:E):E:=λe=>match e[i]? with
 |some (ab (.fn κ' aM))=>if κ' = κ then(a e).bind λx=>(f (.d x::aM.map W.d)).bind ma else .no
 |_=>.no
def isRef:D->Bool
 |.lst _=>true
 |.tup _=>true
 |_=>false
def vQ:List Nat->Env->Rs (List D)
 |[],_=>.ok []
 | j::r,e=>match e[j]? with
  |some (ab (.d d))=>if isRef d=true then(vQ r e).bind λds=>.ok (d::ds)else .no
  |_=>.no
def GL:W->Rs W
 |.dt ao=>if kj (ao.map (·.2))=true then .ok (.dt ao)else .no
 |_=>.no
def yN(F:D->List D->Rs W)(ρ:List Nat)(a:E):EW:=λe=>(a e).bind λx=>(vQ ρ e).bind λaM=>(F x aM).bind GL
def HV(a:E):Fn:=λws=>(a (ws.map ab)).bind λd=>.ok (.d d)
def v6(a:E):E:=λe=>(dQ a e).bind λc=>.ok (.bl (!c))
end Mi
namespace A
open PySem L2 PyProof.Rows So
open Mi (D W Rs Fin aA Out Kp)
variable[Tb:bS]
section
variable{M:Nat->Bool}{te:TE}{a:Mi.E}{fn:Mi.Fn}{κ:Kp}{i:Nat}{ρ:List Nat}{T:ai}{q:Str}{F:Kp->Mi.Fn}{F0:D->List D->Rs W}
def xG(fn:Mi.Fn)(gs:List V)(v:V)(H:Hp)(Q:VK):Prop:=aG fn (v::gs) H Q E0
theorem FA{H:Hp}:∀{aM:List D} {ga:List ai},P2 (λd a=>Rep H d (.ref a)) aM ga->P2 (gE H) (aM.map W.d) (ga.map V.ref)
 |_,_,.nil=>.nil
 |_,_,.cons h t=>.cons h (FA t)
theorem Op(hM:M i=false)(ha:AE M qV te a):AE M qV (Im i κ.a κ.c κ.q te (xG fn κ.vs)) (Mi.pJ κ i fn a):=λe σ H Hv Q I h=>by
 unfold Mi.pJ at h;cases he:e[i]? with
 |none=>rw[he]at h;exact h.elim
 |some o=>
  cases o with
  |none=>rw[he]at h;exact h.elim
  |some w=>
   cases w with
   |fn κ' aM=>
    rw[he]at h;by_cases hk:κ' = κ
    ·subst hk;simp only[l8]at h;obtain⟨v,q,rfl,hc,rc⟩:=I.nob i _ he hM;refine⟨q,ha e σ H Hv _ I ((aA.mp h).mono λx hx v H1 Hv1 g1 rx=>⟨g1.vw.sub _ _ (g1.vis _ _ hc),Hv1,_,g1.vw,.cons rx (FA (rc.imp λ_ _ z=>iw g1.vis z)),(aA.mp hx).mono λw hw v2 H2 Hv2 g2 k=>?_⟩)⟩;cases w with
     |d y=>exact hw v2 H2 Hv2 (g1.trans g2) (KM.mono (κ:=qV) g1.old k)
     |_=>exact hw.elim
    ·simp only[hk,j8]at h;exact h.elim
   |_=>rw[he]at h;exact h.elim
theorem Jy{e:Mi.Env}{σ:L2.St}{H Hv:Hp}(I:R0 M e σ H Hv):∀{ρ:List Nat} (_:∀j∈ρ,M j=false) {Q:List D->Prop},Fin (Mi.vQ ρ e) Q->∃aM ga,P2 (λd a=>Rep Hv d (V.ref a)) aM ga/\(∀(i j:Nat),ρ[i]? = ab j->∃a:ai,ga[i]? = ab a/\σ[j]? = ab (ab (V.ref a)))/\ga.length = ρ.length/\Q aM
 |[],_,Q,h=>⟨[],[],.nil,λi j z=>by simp at z,rfl,h⟩
 |j::r,hM,Q,h=>by
  unfold Mi.vQ at h;cases he:e[j]? with
  |none=>rw[he]at h;exact h.elim
  |some o=>
   cases o with
   |none=>rw[he]at h;exact h.elim
   |some w=>
    cases w with
    |d d=>
     rw[he]at h;by_cases hd:Mi.isRef d=true
     ·simp only[hd,l8]at h;obtain⟨aM,ga,h1,h2,h3,h4⟩:=Jy I (λk hk=>hM k (dR _ hk)) (aA.mp h);obtain⟨v,hv,rv⟩:=I.nob j _ he (hM j cJ);have rv:Rep Hv d v:=rv;obtain⟨b,rfl⟩ : ∃b,v=V.ref b:=by
       cases d with
       |lst ds=>obtain⟨b,_,e,_⟩:=iS.mp rv;exact⟨b,e⟩
       |tup ds=>obtain⟨b,_,e,_⟩:=jM.mp rv;exact⟨b,e⟩
       |_=>cases hd
      refine⟨d::aM,b::ga,.cons rv h1,λi k hk=>?_,by simp[h3],h4⟩;cases i with
      |zero=>
       have:j=k:=by simpa using hk
       subst this;exact⟨b,rfl,hv⟩
      |succ i=>exact h2 i k (by simpa using hk)
     ·simp only[hd,j8]at h;exact h.elim
    |_=>rw[he]at h;exact h.elim
theorem RJ{H Hv H' Hv':Hp}{b:ai}{kv:List (List Key×V)}(v:Vw H Hv)(g:br H Hv H' Hv')(hn:H b=ae)(ho:H' b=ab (.dT kv)):br H Hv H' (λc=>if c=b then ae else Hv' c):=by
 have ne:∀{c o},Hv c=ab o->c≠b:=λ{c o} e z=>by subst z;have:=v.sub _ _ e;rw[hn]at this;cases this
 have get:∀{c o},(if c=b then ae else Hv' c)=ab o->Hv' c=ab o:=λ{c o} e=>by
  split at e
  ·cases e
  ·exact e
 refine⟨g.old,λc o e=>?_,⟨λc o e=>g.vw.sub c o (get e),λc xs e=>?_,λc q u e=>?_,g.vw.cd,λc o e=>g.vw.nv c o (get e)⟩,λc o e n=>?_⟩
 ·show(if c=b then ae else Hv' c)=ab o;rw[a8 (ne e)];exact g.vis c o e
 ·show(if c=b then ae else Hv' c)=_;rw[a8 (λz=>by subst z;rw[ho]at e;cases e)];exact g.vw.tup c xs e
 ·show(if c=b then ae else Hv' c)=_;rw[a8 (λz=>by subst z;rw[ho]at e;cases e)];exact g.vw.frz c q u e
 ·show(if c=b then ae else Hv' c)=ae;split
  ·rfl
  ·exact g.hid c o e n
theorem Fo{H H':Hp}(t:∀a xs,H a=ab (.tup xs)->H' a=ab (.tup xs)):∀{ao:List (List Key×D)} {kv:List (List Key×V)},Mi.kj (ao.map (·.2))=true->fG H ao kv->fG H' ao kv
 |_,_,_,.nil=>.nil
 |p::r,_,hi,.cons h k=>by
  rw[cP,Mi.kj,gZ]at hi;exact .cons ⟨h.1,Hz t hi.1 h.2⟩ (Fo t hi.2 k)
theorem Ry(hM:∀j∈ρ,M j=false)(hTb:(T,q)∈Tb.l)(TM:∀(κ:Kp) (x:D) (aM:List D),F κ [.d x,.fn κ aM]=F0 x aM)(ha:AE M qP te a):AW M qN (yP T q ρ te λκ=>bW (F κ)) (Mi.yN F0 ρ a):=λe σ H Hv Q I h=>
 ha e σ H Hv _ I ((aA.mp h).mono λx hx v H1 Hv1 g1 rx=>by
  have I1:=I.grow g1;obtain⟨aM,ga,rc,hga,hgl,hq⟩:=Jy I1 hM (aA.mp hx);obtain⟨tps,hT⟩:=g1.vw.cd.has (T,q) hTb;refine⟨tps,ga,hT,g1.vw.cd,hga,hgl,λH2 f c' tab hc' hf=>?_⟩;have g2:=LK g1.vw tab;have rx2:qP H H2 Hv1 (.d x) v:=KG.go g2 rx;have full:cL Hv1 (jz H2):=λb o z=>kW (g2.vw.sub b o z) (g2.vw.nv b o z);refine⟨jz H2,[.d x,.fn ⟨f,c',q,ga⟩ aM],.all g2.vw.cd,.cons (RB.OC g2.vw rx2) (.cons ⟨rfl,kW hc' trivial,rc.imp λ_ _ z=>iw full z⟩ .nil),?_⟩;show Fin (F ⟨f,c',q,ga⟩ [.d x,.fn ⟨f,c',q,ga⟩ aM]) _;rw[TM];refine(aA.mp hq).mono λw hd v3 H3 Hv3 g3 k=>?_;cases w with
  |dt ao=>
   have hd:Fin (if Mi.kj (ao.map (·.2))=true then Rs.ok (W.dt ao)else Rs.no) _:=hd;by_cases hi:Mi.kj (ao.map (·.2))=true
   ·rw[bc hi]at hd;obtain⟨b,o,rfl,n,q3,nv,c⟩:=k;cases o with
    |dT kv=>
     have g4:=RJ g2.vw (MF g2.vw g3.old g3.vw.cd) n q3;have c:fG Hv3 ao kv:=c;refine hd (.ref b) H3 _ (g1.trans (g2.trans g4)) ⟨b,.dT kv,rfl,g1.old.free (g2.old.free n),q3,bc rfl,?_⟩;exact Fo g4.vw.tup hi (c.same g3.vw.sub)
    |_=>exact c.elim
   ·rw[a8 hi]at hd;exact hd.elim
  |_=>exact hd.elim)
end
theorem Q1{X:Cx}{a:a9}{ta:TE}{pos:Pos}(ha:PE X a ta):PE X (.UnaryOp .Not a pos) (λσ H Q=>ta σ H λx H'=>∃k,vd X.K x H' k/\Q (.bl (!k)) H'):=by intro ah s σ H Q I h;refine UnaryOp_ (bb (ha ah s σ H _ I h) λv s1 ⟨x,H1,I1,r1,q1⟩=>?_);exact not_of (bb (H9 ah s1 σ H1 x v (λk H'=>Q (.bl (!k)) H') I1 r1 q1) λc s2 ⟨H2,I2,q2⟩=>⟨.bl (!c),H2,I2,rfl,q2⟩)
theorem L9{K:aU}{M:Nat->Bool}{ta:TE}{a:Mi.E}(ha:AE M qP ta a):AE M qV (λσ H Q=>ta σ H λx H'=>∃k,vd K x H' k/\Q (.bl (!k)) H') (Mi.v6 a):=λe σ H Hv Q I h=>
 nX ha e σ H Hv (λk H'=>Q (.bl (!k)) H') I ((aA.mp h).mono λk hk H1 Hv1 g1=>hk _ H1 Hv1 g1 fB)
end A
namespace L2
open PySem PySem.Spec PyProof.Rows A So
theorem rG.of{X:Cx}{x:Str}{ρ:List Nat}{ys:List Str}{sc:fg}{cl:List (Str×ai)}(kind:sc.kind=.function)(co:sc.isCoroutine=false)(gen:sc.isGenerator=false)(par:sc.names.lookup x=ab .local)(nF:∀y∈sc.names,y.2≠.cell)
 (clo:∀p∈cl,X.env.cells.lookup p.1=ab p.2) (has:sc.names.all (λp=>!(decide (p.2=.free))||(cl.map (·.1)).contains p.1)=true) (len:ys.length = ρ.length)
 (ix:(cu ρ.length).all (λi=>match ρ[i]?,ys[i]? with
  |some j,ab y=>decide (X.N[j]? = ab y)&&(decide (sc.names.lookup y=ab .free)&&decide (X.env.kindOf y=ab .cell))
  |_,_=>false)=true):rG X x ρ ys sc cl:=by
 refine⟨kind,co,gen,nF,par,clo,λy hy=>?_,len,λi j y h1 h2=>?_⟩
 ·have:=kI.mp has _ (nB hy);simp only[decide_true,CG,yq,List.contains_iff_mem]at this;obtain⟨⟨z,c⟩,hm,e⟩:=ce.mp this;have e:z=y:=e;subst e;cases q:cl.lookup z with
  |some c2=>exact⟨c2,rfl⟩
  |none=>
   have key:∀l:List (Str×ai),(z,c)∈l->l.lookup z≠ae:=λl=>by
    induction l with
    |nil=>intro h;cases h
    |cons p r ih=>
     obtain⟨u,v⟩:=p;intro h;rw[Cr];split
     ·exactλz=>by cases z
     ·rename_i hb;rcases bB.mp h with w|w
      ·cases w;rw[u9]at hb;cases hb
      ·exact ih w
   exact absurd q (key cl hm)
 ·have hi:i < ρ.length:=(cv.mp h1).1;have:=kI.mp ix i (gz.mpr hi);rw[h1,h2]at this;simp only[gZ,rT]at this;exact⟨this.1,this.2.1,.inl this.2.2⟩
theorem Mj{cs:List (Str×ai)}{y z:Str}{c d:ai}(h1:cs.lookup y=ab c)(h2:cs.lookup z=ab d):∀p∈[(y,c),(z,d)],cs.lookup p.1=ab p.2:=λp hp=>by
 rcases bB.mp hp with rfl|hp
 ·exact h1
 ·rw[bQ.mp hp];exact h2
end L2
namespace A
open PySem L2 PyProof.Rows So
open Mi (D W Rs Fin aA Out Kp)
variable[Tb:bS]
theorem O0{tb:TE}{a:Mi.E}(ha:AE (λ_=>false) qV tb a):∀(gs:List V) (v:V) (H:Hp) (Q:VK),xG (Mi.HV a) gs v H Q->tb (ab v::gs.map ab) H Q:=λgs v H Q ⟨Hv,ws,vw,p,h⟩=>by
 have get:∀(i:Nat) (w:W),(ws.map ab)[i]? = ab (ab w)->ws[i]? = ab w:=λi w e=>by
  rw[cS]at e;obtain⟨z,e1,e2⟩:=gR.mp e;cases e2;exact e1
 have:=ha (ws.map ab) ((v::gs).map ab) H Hv Q ⟨vw,by rw[aO,aO,p.len],λi w e _=>?_,λi w e z=>by cases z⟩ ((aA.mp h).mono λd z v H' Hv' g k=>z v H' Hv' g k)
 ·exact this
 ·obtain⟨u,h1,h2⟩:=p.getL (get i w e);exact⟨u,by rw[cS,h1];rfl,h2⟩
end A
namespace L2
open PySem PySem.Spec PyProof.Rows A So
variable[Tb:bS]
structure zU(P:bG)(w:bi)(K:aU)(mg:Str->Option aj)(base:aZ)(k:Nat)(x:Str)(ps:List Str)(kl:Nat)(spl:List V->V->Hp->VK->Prop)(sp:Mi.Kp->Sp):Prop where
 ex:∃(f:ai) (fd:bJ),mg x=ab (.ref f)/\mq K (.ref f)=true/\Binds K fd ps []/\t9 P w K mg base k f fd ps kl spl sp
theorem cr.M7{K:aU}{mg:Str->Option aj}{k kl:Nat}{x:Str}{st:bC}{ps:List Str}{spl:List V->V->Hp->VK->Prop}{sp:Mi.Kp->Sp}(F:cr K mg x st ps)(P:bG)(w:bi)(base:aZ)
 (h:∀f fd,bX K x x st f fd->t9 P w K mg base k f fd ps kl spl sp):zU P w K mg base k x ps kl spl sp:=by
 obtain⟨f,fd,h1,h2,h3,_,h4⟩:=F.ex;exact⟨f,fd,h1,h2,h3,h f fd h4⟩
theorem MH{X:Cx}{fx lx qual:Str}{e:a9}{ps:sH}{body:a9}{sc:fg}{cl:List (Str×ai)}{c T:ai}{p pos iX:Pos}{k kl:Nat}{ρ:List Nat}{ys pps:List Str}{te tb:TE}{spl:List V->V->Hp->VK->Prop}{sp:Mi.Kp->Sp}
 (C':zU X.prog X.w X.K X.mg X.base k fx pps (kl+1) spl sp) (hr:dw k X.A) (hg:Gl X fx) (he:PE X e te)
 (hc:X.env.code=.ref c) (C:jX X.base c T) (hB:BM X.mg X.base) (hdef:defaultsOf ps X.env=([],[])) (hq:X.env.qual ++ "<lambda>" = qual) (hcl:closureFor sc X.env=pure cl) (hfn:∀x,X.fn x=true) (S:rG X lx ρ ys sc cl)
 (hbind:∀(pm:aj) (c':ai) (ctv u:aj),bindArgs (xZ "<lambda>" qual ps body sc cl pm (.ref c') ctv) ⟨[u],[]⟩=pure [(lx,u)])
 (hb:∀(A:b9) (f c':ai) (s:aB) (H:Hp) (env:Env) (outer:List Env),dw kl (A.deeper env)->env=rK qual sc s f c' cl->PE (uf X.prog X.w X.K X.mg X.base A (lx::ys) env s H outer) body tb)
 (hsp:∀gs v H Q,spl gs v H Q->tb (ab v::gs.map ab) H Q)
 (hdb:(fx==("__debug__" : Str))=false:=by decide) (hs1:starEach [e,.Lambda ps body sc iX] X.env=(false,eval e X.env)::starEach [.Lambda ps body sc iX] X.env:=by rfl)
 (hs2:starEach [.Lambda ps body sc iX] X.env=(false,eval (.Lambda ps body sc iX) X.env)::starEach [] X.env:=by rfl) (hpl:(backTo pos (starEach [.Lambda ps body sc iX] X.env)).any (·.1)=false:=by rfl) :
 PE X (.Call (.Name fx p) [e,.Lambda ps body sc iX] [] pos) (yP T qual ρ te sp):=by
 obtain⟨f,fd,h1,h2,h3,F⟩:=C'.ex;exact NJ F hr hg h1 h2 h3 he hc C hB hdef hq hcl hfn S hbind hb hsp hdb hs1 hs2 hpl
end L2
namespace Mi
end Mi
namespace L2
open PySem PySem.Spec PyProof.Rows
end L2
namespace A
open PySem L2 PyProof.Rows
open Mi (D W Rs Fin aA Tg)
variable[Tb:bS]{M:Nat->Bool}{κ:Kd}{K:aU}
end A
namespace Mi
def LY(b:Bool):Int:=if b=true then 1 else 0
end Mi
namespace So
open PySem PySem.W PyProof.Rows
open Mi (LY)
end So
namespace L2
end L2
namespace A
end A
namespace L2
end L2
namespace Mi
def Gr:D->Rs D
 |.lst ds=>bp (ds.length<=1000) (.ok (.lst ds.reverse))
 |_=>.no
end Mi
namespace L2
open PySem PySem.Spec PyProof.Rows A
variable[Tb:bS]
end L2
namespace A
open PySem L2 PyProof.Rows
open Mi (D W Rs Fin aA)
variable[Tb:bS]{M:Nat->Bool}
end A
namespace A
end A
namespace Mi
def B7:D->Bool
 |.tup _=>true
 |_=>false
def Hx:Out->Rs Out
 |.rt w=>.ok (.rt w)
 |_=>.no
end Mi
namespace A
open PySem L2 PyProof.Rows
open Mi (D W Rs Fin aA Out)
section
variable[Tb:bS]{M:Nat->Bool}{κ:Kd}
theorem Ml{H0 Hv0:Hp}{Dn Dm:Ends}{Hv Hv':Hp}{r:Rs Out}(h:Fin (r.bind Mi.Hx) (i0 M κ H0 Hv0 Dn Hv))(e:Dm.rt=Dn.rt):Fin r (i0 M κ H0 Hv0 Dm Hv'):=(aA.mp h).mono λo ho=>by
 cases o with
 |rt w=>exactλv H' Hv' g q=>by rw[e];exact ho v H' Hv' g q
 |_=>exact ho.elim
end
end A
namespace Mi
end Mi
namespace L2
open PySem PySem.Spec PyProof.Rows
variable{X:Cx}
end L2
namespace A
open PySem L2 PyProof.Rows
variable[Tb:bS]
end A
namespace Mi
end Mi
namespace A
open PySem L2 PyProof.Rows
open Mi (D W Rs Fin aA Out Tg)
section
variable[Tb:bS]{M:Nat->Bool}{κ:Kd}
def pU(H Hv:Hp)(x:V):Prop:=∃q ys,x=.ref q/\Hv q=ab (.lst ys)/\H q=ae
theorem pU.same{H Hv Hv':Hp}(s:cL Hv Hv'){x:V}(h:pU H Hv x):pU H Hv' x:=by obtain⟨q,ys,e,h1,h2⟩:=h;exact⟨q,ys,e,s _ _ h1,h2⟩
def qL:Kd:=λH H' Hv' w v=>∃a xs,v=.ref a/\H a=ae/\H' a=ab (.lst xs)/\Hv' a=ae/\eF Hv' w (.lst xs)/\∀x∈xs,pU H Hv' x
end
end A
namespace Mi
def BG:D->Bool
 |.lst ds=>ds.all λy=>match y with|.lst es=>A.iI es|_=>false
 |_=>false
def lX(ks:List Nat)(h:Nat)(d0:D)(e:Env):Env:=(qe ks e).set h (ab (.d d0))
def Bh(d:D):Option (Option W)->Rs Out
 |some (ab (.d (.bl b)))=>if b=true then bp (B7 d=true) (.ok (.rt (.d (.bl b))))else .ok (.rt (.d (.bl b)))
 |_=>.no
def Jm(g:Nat)(d:D):Out->Rs Out
 |.nx e3=>Bh d e3[g]?
 |.rt w=>.ok (.rt w)
 |_=>.no
def zF(ks:List Nat)(h i g:Nat)(a:E)(fn:Fn)(ws:List EW)(c1:C)(f1 mid:S):S:=λe=>
 (a e).bind λd0=>bp (BG d0=true/\h<e.length/\i<e.length)
  ((dm ws (lX ks h d0 (e.set h (ab (.d d0))))).bind λvs=>(fn vs).bind λw=>(ma w).bind λd=>
   (c1 ((e.set h (ab (.d d0))).set i (ab (.d d)))).bind λb1=>if b1=true then(f1 ((e.set h (ab (.d d0))).set i (ab (.d d)))).bind Hx else
    (mid ((e.set h (ab (.d d0))).set i (ab (.d d)))).bind (Jm g d))
def qE(a:E):E:=λe=>(a e).bind λd=>match d with
 |.lst (.str s::r)=>.ok (.lst (.str s::r))
 |_=>.no
end Mi
namespace A
open PySem L2 PyProof.Rows
open Mi (D W Rs Fin aA Out Tg)
section
variable[Tb:bS]{M:Nat->Bool}{κ:Kd}
theorem AG{H Hv H' Hv':Hp}(g:br H Hv H' Hv'){d:D}{v:V}(h:qN H H' Hv' (.d d) v):∃hV,br H Hv H' hV/\Rep hV d v/\pU H hV v:=by
 obtain⟨hV,g',r⟩:=BJ g h;obtain⟨q,o,rfl,hn,hq,_,hcell⟩:=h;refine⟨hV,g',r,?_⟩;cases d with
 |lst dl=>
  cases o with
  |lst xs=>
   obtain⟨q',ys,e2,lq,_⟩:=iS.mp (show Rep hV (.lst dl) (.ref q)from r);cases e2;refine⟨q,ys,rfl,?_,hn⟩;rcases lq with lq|⟨ob,lq⟩
   ·exact lq
   ·have:=g'.vw.sub _ _ lq;rw[hq]at this;cases this
  |_=>exact(show False from hcell).elim
 |_=>cases o<;>exact(show False from hcell).elim
theorem LP{ta tb:TE}{a b:Mi.E}(ha:AE M qN ta a)(hb:AE M qN tb b):AE M qL (zM (fU ta (fU tb iE))) (Mi.mN Mi.bx [a,b]):=λe σ H Hv Q I h=>by
 refine ha e σ H Hv _ I ((aA.mp (aA.mp h)).mono λd1 h1 v1 H1 yH g1' k1=>?_);obtain⟨Hv1,g1,r1,n1⟩:=AG g1' k1;refine hb e σ H1 Hv1 _ (I.grow g1) ((aA.mp (show Fin ((b e).bind _) _ from aA.mp h1)).mono λd2 h2 v2 H2 Uf g2' k2=>?_);obtain⟨Hv2,g2,r2,n2⟩:=AG g2' k2;obtain⟨hz,h2⟩:=Mi.cW (show Fin (Mi.bx [d1,d2]) (λd=>∀v H' Hv',br H Hv H' Hv'->qL H H' Hv' (.d d) v->Q v H')from h2);refine⟨by rw[eK];exact yr rfl,λp hp=>?_⟩;have g3:br H2 Hv2 (upd H2 p (.lst [v1,v2])) Hv2:=.pj g2.vw trivial hp;refine h2 _ _ _ ((g1.trans g2).trans g3) ⟨p,[v1,v2],rfl,(g1.old.trans g2.old).free hp,bN,oC g2.vw hp,?_,λx hx=>?_⟩
 ·show P2 (Rep Hv2) [d1,d2] [v1,v2];exact .cons (iw g2.vis r1) (.cons r2 .nil)
 ·rcases bB.mp hx with e|hx
  ·rw[e];exact n1.same g2.vis
  ·rw[bQ.mp hx];obtain⟨q,ys,e,h3,h4⟩:=n2;exact⟨q,ys,e,h3,g1.old.free h4⟩
def h9(H Hv:Hp):Hp:=λa=>match H a with
 |none=>Hv a
 |some _=>tv Hv a
theorem zR{H Hv:Hp}{a:ai}{o:HO}(h:h9 H Hv a=ab o):Hv a=ab o:=by
 unfold h9 at h;cases q:H a with
 |none=>rw[q]at h;exact h
 |some u=>rw[q]at h;exact rM h
theorem D7{H Hv:Hp}{a:ai}(h:H a=ae):h9 H Hv a=Hv a:=by unfold h9;rw[h]
theorem xc{H Hv:Hp}{a:ai}{o:HO}(h:tv Hv a=ab o):h9 H Hv a=ab o:=by
 unfold h9;cases q:H a with
 |none=>exact rM h
 |some u=>exact h
theorem PU{H Hv:Hp}{a:ai}{xs:List V}(h:h9 H Hv a=ab (.lst xs)):H a=ae:=by
 cases q:H a with
 |none=>rfl
 |some u=>
  unfold h9 at h;rw[q]at h;rcases Aq h with ⟨_,k⟩|⟨_,_,k⟩<;>cases k
theorem Vw.h9{H H1 Hv:Hp}(v:Vw H1 Hv):Vw H1 (h9 H Hv):=⟨λa o h=>v.sub a o (zR h),λa xs h=>xc (vS (v.tup a xs h)),λa o u h=>xc (AF (v.frz a o u h)),v.cd,λa o h=>v.nv a o (zR h)⟩
theorem br.joinR{H Hv Hr H' Hv':Hp}(v:Vw H Hv)(s:cL Hr Hv)(g:br H Hr H' Hv'):br H Hv H' (jn Hv Hv'):=by
 have up:∀{a o},Hv a=ab o->H' a=ab o:=λ{a o} h=>g.old.nt a o (v.sub a o h) (v.nv a o h);refine⟨g.old,λa o h=>qG h,⟨λa o h=>?_,λa xs h=>?_,λa o u h=>?_,g.vw.cd,λa o h=>?_⟩,λa o h n=>?_⟩
 ·cases q:Hv a with
  |none=>rw[rV q]at h;exact g.vw.sub a o h
  |some u=>rw[qG q]at h;cases h;exact up q
 ·cases q:Hv a with
  |none=>rw[rV q];exact g.vw.tup a xs h
  |some u=>rw[qG q];have:=up q;rw[h]at this;exact this.symm
 ·cases q:Hv a with
  |none=>rw[rV q];exact g.vw.frz a o u h
  |some w=>rw[qG q];have:=up q;rw[h]at this;exact this.symm
 ·cases q:Hv a with
  |none=>rw[rV q]at h;exact g.vw.nv a o h
  |some u=>rw[qG q]at h;cases h;exact v.nv a o q
 ·rw[rV n];refine g.hid a o h ?_;cases z:Hr a with
  |none=>rfl
  |some u=>have:=s a u z;rw[n]at this;cases this
theorem SF{H Hv Hr H' Hv':Hp}(v:Vw H Hv)(g:br H Hr H' Hv'):cL Hv' (jn Hv Hv'):=λa o h=>by
 cases q:Hv a with
 |none=>rw[rV q];exact h
 |some u=>
  rw[qG q];have:=g.old.nt a u (v.sub a u q) (v.nv a u q);rw[g.vw.sub a o h]at this;exact this.symm
theorem OS{H H1 Hv:Hp}(v:Vw H1 Hv){d0:D}(ok:Mi.BG d0=true){l:ai}{xs:List V}(hl:H l=ae)(hx:Hv l=ab (.lst xs))(hn:∀x∈xs,pU H Hv x)(r:Rep Hv d0 (.ref l)):Rep (h9 H Hv) d0 (.ref l):=by
 cases d0 with
 |lst ds=>
  obtain⟨l',xs',e,lq,p⟩:=iS.mp r;cases e;have exs:xs'=xs:=by
   rcases lq with lq|⟨ob,lq⟩
   ·rw[hx]at lq;cases lq;rfl
   ·rw[hx]at lq;cases lq
  subst exs;refine iS.mpr ⟨l,xs',rfl,.inl (by rw[D7 hl];exact hx),?_⟩;have ok':∀y∈ds,∃es,y=.lst es/\iI es=true:=λy hy=>by
   have:=kI.mp (show ds.all _=true from ok) y hy;cases y with
   |lst es=>exact⟨es,rfl,this⟩
   |_=>cases this
  clear r lq hx ok
  revert hn ok'
  induction p with
  |nil=>exactλ_ _=>.nil
  | @cons d x ds xs p1 p2 ih=>
   intro hn ok;refine .cons ?_ (ih (λx hx=>hn x (dR _ hx)) λy hy=>ok y (dR _ hy));obtain⟨es,rfl,no⟩:=ok d cJ;obtain⟨q,ys,e,hq,hqn⟩:=hn x cJ;subst e;obtain⟨q',ys',e,lq,p⟩:=iS.mp p1;cases e;have eys:ys'=ys:=by
    rcases lq with lq|⟨ob,lq⟩
    ·rw[hq]at lq;cases lq;rfl
    ·rw[hq]at lq;cases lq
   subst eys;refine iS.mpr ⟨q,ys',rfl,.inl (by rw[D7 hqn];exact hq),?_⟩;have go:∀{es:List D} {ys:List V},iI es=true->P2 (Rep Hv) es ys->P2 (Rep (h9 H Hv)) es ys:=λ{es ys} n p=>by
    induction p with
    |nil=>exact .nil
    | @cons d x es ys p1 _ ih=>
     rw[iI,gZ]at n;exact .cons (iw (λa o z=>xc z) (vZ n.1 p1)) (ih n.2)
   exact go no p
 |_=>cases ok
theorem R0.lX{e:Mi.Env}{σ:L2.St}{H H1 Hv:Hp}(I:R0 M e σ H1 Hv){ks:List Nat}{h:Nat}{d0:D}{v:V}(hk:∀k∈ks,M k=false)(hm:M h=false)(hv:σ[h]? = ab (ab v))(hr:Rep (h9 H Hv) d0 v):R0 M (Mi.lX ks h d0 e) σ H1 (h9 H Hv):=by
 have I':=I.qe hk;have len:(Mi.lX ks h d0 e).length=e.length:=by unfold Mi.lX Mi.qe;rw[kJ];exact Mi.y4 ks 0 e
 refine⟨I.vw.h9,by rw[len];exact I.len,λk w q m=>?_,λk w q m=>?_⟩
 ·by_cases e1:k=h
  ·subst e1;unfold Mi.lX at q;have kl:k<(Mi.qe ks e).length:=by
    rcases Nat.lt_or_ge k (Mi.qe ks e).length with z|z
    ·exact z
    ·rw[Cc (by rw[kJ];exact z)]at q;cases q
   rw[lg kl]at q;cases q;exact⟨v,hv,hr⟩
  ·unfold Mi.lX at q;rw[fI (fJ e1)]at q;obtain⟨_,d,rfl,n,q⟩:=Mi.uk ks 0 e q;obtain⟨v,q,z⟩:=I.nob k _ q m;exact⟨v,q,iw (λa o z=>xc z) (vZ n z)⟩
 ·exfalso;by_cases e1:k=h
  ·rw[e1,hm]at m;cases m
  ·unfold Mi.lX at q;rw[fI (fJ e1)]at q;obtain⟨h1,_⟩:=Mi.uk ks 0 e q;rw[da]at h1;rw[hk k h1]at m;cases m
def Bt(i:Nat)(σ0:L2.St)(M:Nat->Bool)(κ:Kd)(H0 Hv0:Hp)(D:Ends)(Hv:Hp):Out->Prop
 |.nx e=>∀σ H' Hv',R1 M H0 Hv0 e σ H' Hv'->cL Hv Hv'->σ[i]? = σ0[i]?->D.nx σ H'
 |.rt w=>∀v H' Hv',br H0 Hv0 H' Hv'->κ H0 H' Hv' w v->D.rt v H'
 |_=>False
def nI(i:Nat)(M:Nat->Bool)(κ:Kd)(t:TS)(m:Mi.S):Prop:=∀H0 Hv0 e σ H Hv D,R1 M H0 Hv0 e σ H Hv->Fin (m e) (Bt i σ M κ H0 Hv0 D Hv)->t D σ H
theorem tP{i:Nat}{te:TE}{a:Mi.E}(k:Nat)(ik:k≠i)(hm:M k=false)(ha:AE M qV te a):nI i M κ (jg te (gK k)) (Mi.bh k a):=λH0 Hv0 e σ H Hv D I h=>
 ha e σ H Hv _ I.toR0 ((aA.mp h).mono λd hd v H1 Hv1 g1 r=>hd _ H1 Hv1 ((I.grow g1).set hm r) g1.vis (fI ik))
theorem Aj{i:Nat}{t u:TS}{m n:Mi.S}(h1:nI i M κ t m)(h2:nI i M κ u n):nI i M κ (nR t u) (Mi.aE m n):=λH0 Hv0 e σ H Hv D I h=>
 h1 H0 Hv0 e σ H Hv _ I ((aA.mp h).mono λo ho=>by
  cases o with
  |nx e'=>exactλσ' H' Hv' I' s q=>h2 H0 Hv0 e' σ' H' Hv' D I' (Fin.mono ho λo z=>by
   cases o with
   |nx e2=>exactλσ2 H2 Hv2 I2 s2 q2=>z σ2 H2 Hv2 I2 (s.trans s2) (q2.trans q)
   |rt w=>exact z
   |bk e2=>exact z
   |ct e2=>exact z)
  |rt w=>exact ho
  |bk e'=>exact ho
  |ct e'=>exact ho)
theorem LW{i:Nat}{tt:TT}{c:Mi.C}{t u:TS}{m n:Mi.S}(hc:AT M tt c)(h1:nI i M κ t m)(h2:nI i M κ u n):nI i M κ (uJ tt t u) (Mi.bu c m n):=λH0 Hv0 e σ H Hv D I h=>
 hc e σ H Hv _ I.toR0 ((aA.mp h).mono λb hb H1 Hv1 g1=>by
  have up:∀o,Bt i σ M κ H0 Hv0 D Hv o->Bt i σ M κ H0 Hv0 D Hv1 o:=λo z=>by
   cases o with
   |nx e2=>exactλσ2 H2 Hv2 I2 s2 q=>z σ2 H2 Hv2 I2 (g1.vis.trans s2) q
   |rt w=>exact z
   |bk e2=>exact z
   |ct e2=>exact z
  cases b with
  |true=>exact lS (h1 H0 Hv0 e σ H1 Hv1 D (I.grow g1) (Fin.mono (Mi.lW hb) up))
  |false=>exact lK (h2 H0 Hv0 e σ H1 Hv1 D (I.grow g1) (Fin.mono (Mi.lI hb) up)))
def qW:Kd:=λH H' Hv' w v=>qV H H' Hv' w v/\∀ds,w=.d (.tup ds)->∃p x b ys,v=.ref p/\Hv' p=ab (.tup [x,.ref b])/\Hv' b=ab (.lst ys)
def uj(f:Mi.Fn):Sp:=λvs H Q _=>∃Hv ws,Vw H Hv/\P2 (gE Hv) ws vs/\Fin (f ws) (λw=>∀v H' Hv',br H Hv H' Hv'->qW H H' Hv' w v->Q v H')
theorem RZ{f:Mi.S}{k n:Nat}{vs:List V}{H:Hp}{Q:VK}{E:XK}(h:uj (Mi.du k n f) vs H Q E):vs.length=k:=by obtain⟨Hv,ws,_,p,q⟩:=h;rw[<- p.len];exact(Mi.cW q).1
theorem P5{N:List Str}{k:Nat}{t:TS}{m:Mi.S}(hA:AS M qW t m)(hM:∀i,i<k->M i=false){vs:List V}{H:Hp}{Q:VK}{E:XK}(h:uj (Mi.du k N.length m) vs H Q E) :
 t { nx:=λ_ H'=>Q .non H',rt:=Q } (start N vs) H:=by
 obtain⟨Hv,ws,vw,p,q⟩:=h;obtain⟨hk,q⟩:=Mi.cW q;refine hA H Hv _ _ H Hv _ (zT vw p hk hM) ((aA.mp q).mono λo ho=>?_);cases o with
 |nx e=>exactλσ H' Hv' I s=>ho _ H' Hv' I.gw ⟨Bb,λds z=>by cases z⟩
 |rt w=>exactλv H' Hv' g r=>ho v H' Hv' g r
 |bk e=>exact ho.elim
 |ct e=>exact ho.elim
theorem Eo{H0 Hv0 H Hv:Hp}{Dn:Ends}{s:Str}{d:D}{b:ai}{ys:List V}{H1 Hv1:Hp}(gw:br H0 Hv0 H Hv)(g1:br H Hv H1 Hv1)(hb:Hv1 b=ab (.lst ys))(r:Rep Hv1 d (.ref b))(h:Fin (Mi.dTup [.str s,d]) (λd=>i0 M qW H0 Hv0 Dn Hv (.rt (.d d)))):[V.str s,V.ref b].length<=sizeLine/\∀p,H1 p=ae->Dn.rt (.ref p) (upd H1 p (.tup [.str s,.ref b])):=by obtain⟨hz,h⟩:=Mi.cW h;refine⟨by rw[eK];exact yr rfl,λp hp=>?_⟩;have g4:br H1 Hv1 (upd H1 p (.tup [.str s,.ref b])) (upd Hv1 p (.tup [.str s,.ref b])):=.new g1.vw hp;refine h (.ref p) _ _ ((gw.trans g1).trans g4) ⟨jM.mpr ⟨p,_,rfl,bN,fL g4.vis (.cons (ng.mpr rfl) (.cons r .nil))⟩,λ_ _=>⟨p,.str s,b,ys,rfl,bN,g4.vis _ _ hb⟩⟩
theorem NG{s:Str}{te:TE}{a:Mi.E}(ha:AE M qN te a):AS M qW (pB (wJ (fU (tC (.str s)) (fU te iE)))) (Mi.bw (Mi.wD (Mi.mN Mi.dTup [Mi.mC (.str s),a]))):=λH0 Hv0 e σ H Hv Dn I h=>by
 have h:=aA.mp (aA.mp (aA.mp h));refine ha e σ H Hv _ I.toR0 ((aA.mp (show Fin ((a e).bind λx=>.ok [x]) _ from aA.mp (show Fin ((Rs.ok (D.str s)).bind λx=>(Mi.gy [a] e).bind λxs=>.ok (x::xs)) _ from h))).mono λd hd v H1 yH g1' k=>?_);obtain⟨Hv1,g1,r,q,ys,rfl,hq,_⟩:=AG g1' k;exact Eo (M:=M) I.gw g1 hq r hd
theorem Nf{s:Str}{te:TE}{a:Mi.E}(ha:AE M qV te a):AS M qW (pB (wJ (fU (tC (.str s)) (fU te iE)))) (Mi.bw (Mi.wD (Mi.mN Mi.dTup [Mi.mC (.str s),Mi.qE a]))):=λH0 Hv0 e σ H Hv Dn I h=>by
 have h:=aA.mp (aA.mp (aA.mp h));have h:=aA.mp (show Fin ((Mi.qE a e).bind λx=>.ok [x]) _ from aA.mp (show Fin ((Rs.ok (D.str s)).bind λx=>(Mi.gy [Mi.qE a] e).bind λxs=>.ok (x::xs)) _ from h));refine ha e σ H Hv _ I.toR0 ((aA.mp h).mono λd hd v H1 Hv1 g1 k=>?_);cases d with
 |lst ds=>
  cases ds with
  |nil=>exact hd.elim
  |cons x r=>
   cases x with
   |str z=>
    obtain⟨q,ys,rfl,lq,pq⟩:=iS.mp (show Rep Hv1 (.lst (.str z::r)) v from k);have hq:Hv1 q=ab (.lst ys):=by
     rcases lq with lq|⟨ob,lq⟩
     ·exact lq
     ·exfalso;cases pq with
      |cons q1 q2=>
       rw[ng]at q1;subst q1;obtain⟨t,ht⟩:=g1.vw.cd.fz q ob _ (g1.vw.sub _ _ lq) _ (cJ ..);cases ht
    exact Eo (M:=M) I.gw g1 hq k hd
   |_=>exact hd.elim
 |_=>exact hd.elim
theorem Qz{K:aU}{fn:Mi.Fn}{E:XK}{tl:TE}{a:Mi.E}{tr:TA}{ws:List Mi.EW}{tc1 tg:TT}{c1:Mi.C}{tf1 Kt:TS}{f1 mid:Mi.S}(ks:List Nat)(h i g:Nat)(hi:h≠i)(hk:∀k∈ks,M k=false)(hmh:M h=false)(hmi:M i=false)(hmg:M g=false)(hM:∀k,M k=false)
 (ha:AE M qL tl a) (hw:AAW M qV tr (Mi.dm ws)) (h1:AT M tc1 c1) (hf1:AS M qV tf1 f1) (hmid:nI i M qV Kt mid) (hg:AT M tg (Mi.dQ (Mi.mV g))) :
 AS M qV (nR (jg tl (gK h)) (nR (jg (oh (uj fn) [] E tr) (gK i)) (nR (uJ tc1 tf1 wP) (nR Kt (nR (uJ tg (oU (xr K "list" Jf (pZ (wq K) (fk i) (tC (.int 1))))) wP) (pB (fk g))))))) (Mi.zF ks h i g a fn ws c1 f1 mid):=λH0 Hv0 e σ H Hv Dn I hh=>by
 refine ha e σ H Hv _ I.toR0 ((aA.mp hh).mono λd0 hd v H1 yH g1' k=>?_);obtain⟨⟨ok,hhl,hil⟩,hd⟩:=Mi.cW hd;obtain⟨l,xs,rfl,hl,hlq,hlz,hcell,hnew⟩:=k;obtain⟨vw1,sm⟩:=g1'.vw.show hlq hlz trivial;have g1:br H Hv H1 (upd yH l (.lst xs)):=⟨g1'.old,g1'.vis.trans sm,vw1,λc o z n=>by
  rw[aS (λy=>by subst y;rw[hl]at z;cases z)];exact g1'.hid c o z n⟩
 obtain⟨Hv1,yI⟩ : ∃Hv1,Hv1=upd yH l (.lst xs):=⟨_,rfl⟩;rw[<- yI]at g1;have hlv:Hv1 l=ab (.lst xs):=by rw[yI,bN]
 have hnew:∀x∈xs,pU H Hv1 x:=λx hx=>by rw[yI];exact(hnew x hx).same sm
 have rep0:Rep Hv1 d0 (.ref l):=by rw[yI];exact tR (w:=.d d0) bN (hcell.same sm)
 have I1:=(I.grow g1).set hmh (show gE Hv1 (.d d0) (.ref l)from rep0);have sh:(σ.set h (ab (.ref l)))[h]? = ab (ab (.ref l)):=lg (by rw[I.len];exact hhl);have R:=I1.toR0.lX (ks:=ks) hk hmh sh (OS (H:=H) g1.vw ok hl hlv hnew rep0);refine hw _ _ H1 (h9 H Hv1) _ R ((aA.mp hd).mono λwv hd vs H2 Hv2 g2 rx=>?_);rw[qo];refine⟨Hv2,wv,g2.vw,rx,(aA.mp hd).mono λw hd v H3 Hv3 g3 kw=>?_⟩;obtain⟨d,rfl,hdd⟩:=G4 (aA.mp hd);have gr:=g2.trans g3;have gj:=br.joinR g1.vw (λa o z=>zR z) gr;have js:=SF g1.vw gr;have I3:=(I1.grow gj).set hmi (oS js kw.1);have g13:=g1.trans gj;have si:((σ.set h (ab (.ref l))).set i (ab v))[i]? = ab (ab v):=lg (by rw[kJ,I.len];exact hil);refine h1 _ _ _ _ _ I3.toR0 ((aA.mp hdd).mono λb1 hb H4 Hv4 g4=>?_);have g14:=g13.trans g4;cases b1 with
 |true=>exact hf1 H0 Hv0 _ _ H4 Hv4 _ (I3.grow g4) (Ml (Dn:=Dn) (Mi.lW hb) rfl)
 |false=>
  have hb:=aA.mp (Mi.lI hb);refine hmid H Hv _ _ H4 Hv4 _ ⟨(I3.grow g4).toR0,g14,(λk w a q m z=>by rw[hM k]at m;cases m),(λk k' w w' a b n q q' m=>by rw[hM k]at m;cases m)⟩ (hb.mono λo ho=>?_);cases o with
  |rt w=>exactλv' H' Hv' gv kv=>ho v' H' Hv' (I.gw.trans gv) kv
  |bk e5=>exact ho.elim
  |ct e5=>exact ho.elim
  |nx e5=>
   intro σ5 H5 Hv5 I5 s5 q5;have ho:Fin (Mi.Bh d (e5[g]?)) (i0 M qV H0 Hv0 Dn Hv):=ho;cases hge:e5[g]? with
   |none=>rw[hge]at ho;exact ho.elim
   |some og=>
    cases og with
    |none=>rw[hge]at ho;exact ho.elim
    |some wg=>
     cases wg with
     |d dg=>
      cases dg with
      |bl b=>
       rw[hge]at ho;have ev:Mi.dQ (Mi.mV g) e5=.ok b:=by unfold Mi.dQ Mi.mV;rw[hge];rfl
       refine hg e5 σ5 H5 Hv5 _ I5.toR0 (by
        rw[ev];intro H6 Hv6 g6;have I6:=I5.grow g6;obtain⟨vg,hvg,rg⟩:=I6.nob g _ hge hmg;have eg:vg=.bl b:=by have rg:Rep Hv6 (.bl b) vg:=rg;rw[Rep]at rg;exact rg
        subst eg;cases b with
        |false=>
         refine⟨.bl false,hvg,?_⟩;exact ho (.bl false) H6 Hv6 (I.gw.trans I6.gw) fB
        |true=>
         obtain⟨ht,ho⟩:=Mi.cW ho;cases d with
         |tup ds=>
          obtain⟨p,x,b2,ys,rfl,hp,hb2⟩:=kw.2 ds rfl;have up6:∀{a:ai} {o:HO},Hv3 a=ab o->H6 a=ab o:=λ{a o} z=>I6.vw.sub _ _ (g6.vis _ _ (s5 _ _ (g4.vis _ _ (js _ _ z))));have bn:H b2=ae:=by
           cases q:H b2 with
           |none=>rfl
           |some u=>
            exfalso;obtain⟨u1,q1⟩:=g1.old.some q;cases z:h9 H Hv1 b2 with
            |none=>rw[gr.hid b2 u1 q1 z]at hb2;cases hb2
            |some u2=>
             have e:=gr.vis b2 u2 z;rw[hb2]at e;cases e;rw[PU z]at q;cases q
          have b6:=up6 hb2;have p6:=up6 hp;have i1:dM [x,V.ref b2] 1=ab (.ref b2):=rfl;have s6:σ5[i]? = ab (ab (.ref p)):=by rw[q5];exact si
          refine⟨.ref p,s6,.inr (.inl ⟨p,_,1,.ref b2,rfl,rfl,.inl (.inl p6),i1,?_⟩)⟩;refine⟨.inl ⟨rfl,ys,.inl (.inl b6)⟩,b2,ys,rfl,rfl,b6,?_⟩;have em:om H H6 (upd H6 b2 (.lst [])):=om.refl.put bn b6;have gk:=br.emptied I.vw I6.gw em;refine⟨.bl true,hvg,?_⟩;exact ho (.bl true) _ _ (I.gw.trans gk) fB
         |_=>cases ht)
      |_=>rw[hge]at ho;exact ho.elim
     |_=>rw[hge]at ho;exact ho.elim
end
end A
namespace Mi
end Mi
namespace Zp
open PySem PySem.Spec PyProof.Rows L2 A
open Mi (D W Rs Fin aA Out)
variable[Tb:A.bS]{M:Nat->Bool}{i:Nat}{u s1:TS}{r m:Mi.SN}
end Zp
namespace Mr
open PySem Mi
def GU:S:=
 (cQ (bv (mV 1)) (.n 2)
 (bu (cB (m2 cF (mV 2) (mV 0)))
 tX
 bI))
def fV:Fn:=du 2 3 GU
def EX:S:=
 (aE (ej (aL fV [(wD (m2 az (mV 0) (mC (.int 0)))),(wD (mN bx [(mV 1)]))]))
 (bw (wD (mN oj [(b8 [ab 1,ae,ae] (bv (m2 az (mV 0) (mC (.int 1)))) (.t [1,2]) (cB (m2 cy (mV 2) (mV 0))) (mV 1))]))))
def ud:Fn:=du 2 2 EX
def HW:S:=
 (aE (bh 2 (mC (.str "etaoinshrdlucmfwypvbgkqjxz")))
 (aE (bu (cB (m2 gt (m2 bY (mV 0) (mC (.int 4))) (mC (.int 2))))
 (aE (bh 3 (m2 xw (mC (.str "")) (b8 [ab 2,ab 0,ae] (iA (mC (.int 8))) (.n 2) dc (m2 az (mV 0) (m2 bY (m2 dP (mV 1) (m2 ba (mC (.int 4)) (m2 cI (mC (.int 3)) (mV 2)))) (mC (.int 26)))))))
 (aE (bu (cB (m2 cy (m2 bY (mV 0) (mC (.int 4))) (mC (.int 0))))
 (bw (wD (b8 [ab 3,ae] (iA (mV 1)) (.n 1) dc (d3 fW (mV 0) ae (ab (m2 ba (mV 1) (mC (.int 1))))))))
 bI)
 (bw (wD (b8 [ab 3,ae] (iA (mV 1)) (.n 1) dc (d3 fW (mV 0) (ab (m2 gF (mC (.int 7)) (mV 1))) ae))))))
 bI)
 (aE (bh 4 (m2 bY (m2 dP (mV 0) (mC (.int 4))) (mC (.int 8))))
 (aE (bh 5 (m2 xw (mC (.str "")) (b8 [ab 2,ab 0,ae] (iA (mV 4)) (.n 2) dc (m2 az (mV 0) (m2 bY (m2 ba (m2 ba (m2 dP (mV 1) (mC (.int 32))) (m2 cI (mC (.int 5)) (mV 2))) (m2 cI (mV 2) (mV 2))) (mC (.int 26)))))))
 (aE (bh 6 (m2 bY (m2 dP (mV 0) (mC (.int 256))) (m2 ba (mV 4) (mC (.int 1)))))
 (bw (wD (b8 [ab 5,ab 2,ab 6,ab 0,ae] (iA (mV 1)) (.n 4) dc (m2 ba (m2 ba (d3 fW (mV 0) ae (ab (mV 2))) (m2 az (mV 1) (m2 bY (m2 ba (m2 dP (mV 3) (mC (.int 7))) (m2 cI (mC (.int 5)) (mV 4))) (mC (.int 26))))) (d3 fW (mV 0) (ab (mV 2)) ae))))))))))
def u0:Fn:=eh 2 7 HW
def AR:S:=
 (aE (ki 3 (Ff (mV 2) (mC (.bl true))))
 (aE (bh 4 (mN bx [(mV 2)]))
 (aE (jk 20 (dQ (mV 4))
 (aE (tU 5 4)
 (cQ (bv (mV 1)) (.t [6,7])
 (bu (cE (cB (m2 cy (mV 6) (mV 5))) (cB (gV 3 (mV 7))))
 (aE (dA 3 (mV 7) (mC (.bl true)))
 (cH 4 (mV 7)))
 bI))))
 (bw (wD (b8 [ab 3,ae] (bv (mV 0)) (.n 1) (cB (nM 0 (mV 1))) (mV 1)))))))
def na:Fn:=eh 3 8 AR
def HG:S:=
 (aE (ej (aL fV [(wD (m2 az (mV 0) (mC (.int 0)))),(wD (mN bx [(mV 1)]))]))
 (bw (wD (aL na [(wD (m2 az (mV 0) (mC (.int 0)))),(wD (m2 az (mV 0) (mC (.int 1)))),(wD (mV 1))]))))
def uz:Fn:=eh 2 2 HG
def Jn:S:=
 (aE (ki 1 (λ_=>.ok (.dk [])))
 (cQ (bv (mV 0)) (.n 2)
 (aE (bu (cB (nM 1 (mV 2)))
 tX
 bI)
 (dA 1 (mV 2) (mC (.bl true))))))
def sW:Fn:=du 1 3 Jn
def Iy:S:=
 (aE (ej (aL fV [(wD (m2 az (mV 0) (mC (.int 0)))),(wD (mV 1))]))
 (aE (bh 2 (mN bx []))
 (aE (cQ (A4 (mV 1) (d3 fW (mV 1) (ab (mC (.int 1))) ae) (d3 fW (mV 1) (ab (mC (.int 2))) ae)) (.t [3,4,5])
 (bu (cE (cB (m2 bz (mN dTup [(mV 3),(mV 4)]) (m2 az (mV 0) (mC (.int 1))))) (cB (m2 bz (mN dTup [(mV 5),(mV 4)]) (m2 az (mV 0) (mC (.int 1))))))
 (cH 2 (mV 4))
 bI))
 (bw (wV 2)))))
def pH:Fn:=eh 2 6 Iy
def Hj:S:=(bw (wD (mN zY [(b8 [ab 2,ae] (bv (aL uz [(wD (mV 0)),(wD (mV 1))])) (.n 1) dc (m2 bz (mV 1) (mV 0)))])))
def m4:Fn:=du 3 3 Hj
def El:S:=
 (aE (bu (cB (m2 gt (mV 1) (mN d6 [(mV 0)])))
 (bw (wD (m2 az (mV 0) (mV 1))))
 bI)
 (aE (bh 2 (m2 ba (mC (.int 30011)) (m2 cI (m2 cI (mC (.int 709)) (mV 1)) (mV 1))))
 (aE (bu (cB (m2 l0 (mN d6 [(mV 0)]) (mC (.int 0))))
 (bh 2 (m2 ba (mV 2) (m2 cI (m2 bY (m2 az (mV 0) (mC (.int 0))) (mC (.int 99991))) (m2 ba (m2 ba (m2 cI (mV 1) (mV 1)) (m2 cI (mC (.int 2)) (mV 1))) (mC (.int 5))))))
 bI)
 (bw (wD (mV 2))))))
def ii:Fn:=du 2 3 El
def DY:S:=
 (aE (bh 2 (b8 [ae] (iA (mV 1)) (.n 0) dc (mV 0)))
 (aE (bh 3 (mN bx []))
 (aE (bh 4 (m2 bY (mV 0) (mC (.int 2147483647))))
 (aE (cQ (iA (mV 1)) (.n 5)
 (aE (bh 4 (m2 bY (m2 ba (m2 ba (m2 cI (mV 4) (mC (.int 48271))) (m2 cI (mC (.int 7)) (mV 5))) (mC (.int 1))) (mC (.int 2147483647))))
 (xJ 3 2 (m2 bY (m2 dP (mV 4) (mC (.int 32))) (mN d6 [(mV 2)])))))
 (bw (wV 3))))))
def t5:Fn:=eh 2 6 DY
def Gj:S:=
 (aE (bh 2 (m2 ba (mC (.int 1)) (m2 bY (aL ii [(wD (mV 0)),(wD (mC (.int 0)))]) (mV 1))))
 (aE (bh 3 (aL u0 [(wD (aL ii [(wD (mV 0)),(wD (mC (.int 1)))])),(wD (mV 2))]))
 (aE (bh 4 (aL t5 [(wD (aL ii [(wD (mV 0)),(wD (mC (.int 2)))])),(wD (mV 2))]))
 (aE (bh 5 (m2 az (mN bx [(mC (.int 4)),(mC (.int 1)),(mC (.int 2)),(mC (.int 3)),(mC (.int 2)),(mC (.int 3))]) (m2 bY (aL ii [(wD (mV 0)),(wD (mC (.int 3)))]) (mC (.int 6)))))
 (aE (bh 6 (mN bx []))
 (aE (cQ (iA (mV 2)) (.n 7)
 (cQ (iA (mV 2)) (.n 8)
 (aE (bh 9 (aL ii [(wD (mV 0)),(wD (m2 ba (m2 ba (mC (.int 4)) (m2 dP (m2 cI (mN jP [(mV 7),(mV 8)]) (m2 gF (mN jP [(mV 7),(mV 8)]) (mC (.int 1)))) (mC (.int 2)))) (mN n6 [(mV 7),(mV 8)])))]))
 (bu (cE (cB (m2 gt (m2 az (mV 4) (mV 7)) (m2 az (mV 4) (mV 8)))) (cB (m2 gt (m2 bY (m2 dP (m2 bY (m2 cI (mV 9) (mC (.int 48271))) (mC (.int 2147483647))) (mC (.int 16))) (mC (.int 4))) (mV 5))))
 (cH 6 (mN dTup [(m2 az (mV 3) (mV 7)),(m2 az (mV 3) (mV 8))]))
 bI))))
 (bw (wD (mN dTup [(mN oj [(mV 3)]),(mN oj [(mV 6)])])))))))))
def qY:Fn:=du 2 10 Gj
def Fi:S:=(bw (wD (jE (m2 bz (mN dTup [(mV 1),(mV 2)]) (m2 az (mV 0) (mC (.int 1)))) (m2 bz (mN dTup [(mV 2),(mV 1)]) (m2 az (mV 0) (mC (.int 1)))))))
def pi:Fn:=du 3 3 Fi
def Il:S:=
 (aE (ej (aL fV [(wD (m2 az (mV 0) (mC (.int 0)))),(wD (mN bx [(mV 1),(mV 2)]))]))
 (bw (wD (jE (m2 bz (mN dTup [(mV 1),(mV 2)]) (m2 az (mV 0) (mC (.int 1)))) (m2 bz (mN dTup [(mV 2),(mV 1)]) (m2 az (mV 0) (mC (.int 1))))))))
def pP:Fn:=du 3 3 Il
def GN:S:=
 (aE (bh 1 (mN bx []))
 (aE (cQ (sd (mV 0)) (.t [2,3])
 (lb 1 (b8 [ab 3,ae] (bv (d3 ux (mV 0) (ab (m2 ba (mV 2) (mC (.int 1)))) ae)) (.n 1) dc (mN dTup [(mV 0),(mV 1)]))))
 (bw (wV 1))))
def uD:Fn:=eh 1 4 GN
def FY:S:=(bw (wD (ko (xx rp rp (mC (.int 1)) (mN d6 [(mV 0)]) (mC (.int 8))) (mN oZ [(b8 [ae] (bv (mV 0)) (.n 0) dc (m2 bz (mV 0) (mC (.str "abcdefghijklmnopqrstuvwxyz"))))]))))
def vc:Fn:=du 1 1 FY
def Jx:S:=
 (aE (ej (aL fV [(wD (m2 az (mV 0) (mC (.int 0)))),(wD (mN bx [(mV 1)]))]))
 (bw (wD (mN oj [(b8 [ab 1,ae,ae] (bv (m2 az (mV 0) (mC (.int 1)))) (.t [1,2]) (cB (m2 cy (mV 1) (mV 0))) (mV 2))]))))
def oy:Fn:=du 2 2 Jx
def EQ:S:=
 (aE (bh 2 (mN eP [(mV 1)]))
 (aE (cQ (iA (mN d6 [(m2 az (mV 0) (mC (.int 0)))])) (.n 3)
 (cQ (bv (m2 az (mV 0) (mC (.int 1)))) (.t [4,5])
 (bu (cE (cB (m2 bz (mV 5) (mV 2))) (cB (m2 cF (mV 4) (mV 2))))
 (cH 2 (mV 4))
 bI)))
 (bw (wV 2))))
def pL:Fn:=eh 2 6 EQ
def HS:S:=
 (aE (bh 4 (aL pL [(wD (mV 0)),(wD (m2 ba (mN bx [(mV 1),(mV 2)]) (mN eP [(mV 3)])))]))
 (aE (ki 5 (λ_=>.ok (.dk [])))
 (aE (cQ (bv (mV 4)) (.n 6)
 (dA 5 (mV 6) (m2 ba (mN bx [(mV 6)]) (b8 [ab 6,ae,ae] (bv (m2 az (mV 0) (mC (.int 1)))) (.t [1,2]) (cB (m2 cy (mV 2) (mV 0))) (mV 1)))))
 (aE (bh 7 (mN bx [(mV 1)]))
 (aE (cQ (iA (mN d6 [(mV 4)])) (.n 8)
 (cQ (bv (mV 4)) (.n 6)
 (aE (bh 9 (b8 [ab 7,ae] (bv (hW 5 (mV 6))) (.n 1) (cB (m2 bz (mV 1) (mV 0))) (mV 1)))
 (bu (cB (m2 l0 (mN d6 [(mV 9)]) (mC (.int 0))))
 (bh 7 (m2 ba (mV 7) (b8 [ab 7,ab 3,ae] (bv (hW 5 (mV 6))) (.n 2) (cE (cB (m2 cF (mV 2) (mV 0))) (cB (m2 cF (mV 2) (mV 1)))) (mV 2))))
 bI))))
 (bw (wD (m2 cF (mV 2) (mV 7)))))))))
def rE:Fn:=du 4 10 HS
def Gw:S:=
 (aE (ej (aL fV [(wD (mV 0)),(wD (mV 1))]))
 (ej (aL sW [(wD (mV 1))])))
def kz:Fn:=du 2 2 Gw
def Hs:S:=
 (aE (ej (aL kz [(wD (m2 az (mV 0) (mC (.int 0)))),(wD (m2 ba (mN eP [(mV 1)]) (mN eP [(mV 2)])))]))
 (bw (wD (mN oj [(b8 [ab 1,ab 2,ae] (bv (m2 az (mV 0) (mC (.int 0)))) (.n 2) (cE (cB (m2 cF (mV 2) (mV 0))) (cB (m2 cF (mV 2) (mV 1)))) (mV 2))]))))
def pO:Fn:=du 3 3 Hs
def Fe:S:=(bw (wD (b8 [ae] (bv (aL oy [(wD (mV 0)),(wD (mV 1))])) (.n 0) dc (mN dTup [(mV 0),(mC (.bl true))]))))
def mY:Fn:=eh 2 2 Fe
def IZ:S:=(bw (wD (b8 [ae] (bv (aL ud [(wD (mV 0)),(wD (mV 1))])) (.n 0) dc (mN dTup [(mV 0),(mC (.bl false))]))))
def mM:Fn:=eh 2 2 IZ
def GX:S:=
 (aE (Aw (.t [3,4]) (mV 1))
 (aE (bh 5 (m2 cF (mV 3) (mV 2)))
 (aE (bh 6 (jN (dQ (mV 4)) (aL m4 [(wD (mV 0)),(wD (mV 3)),(wD (mV 2))]) (mV 5)))
 (aE (bh 7 (jN (dQ (mV 5)) (aL mY [(wD (mV 0)),(wD (mV 3))]) (mN bx [])))
 (aE (bh 8 (jN (dQ (mV 6)) (aL mM [(wD (mV 0)),(wD (mV 3))]) (mN bx [])))
 (bw (wD (m2 ba (mV 7) (mV 8)))))))))
def rN:Fn:=du 3 9 GX
def v5:Fn:=HV (aL rN [(wD (mV 1)),(wD (mV 0)),(wD (mV 2))])
def Av(κ:Kp):S:=
 (aE (ki 2 (λ_=>.ok (.dt [])))
 (aE (bh 3 (mN bx []))
 (aE (cQ (bv (mV 0)) (.n 4)
 (aE (dA 2 (mV 4) (mC .non))
 (cH 3 (mV 4))))
 (aE (jk 40 (dQ (mV 3))
 (aE (nZ 5 3 (mC (.int 0)))
 (cQ (bv (pJ κ 1 v5 (mV 5))) (.n 4)
 (bu (cB (gV 2 (mV 4)))
 (aE (dA 2 (mV 4) (mV 5))
 (cH 3 (mV 4)))
 bI))))
 (bw (wV 2))))))
def xH(κ:Kp):Fn:=eh 2 6 (Av κ)
def uY(x:D)(aM:List D):Rs W:=xH ⟨0,0, "",[]⟩ [.d x,.fn ⟨0,0, "", []⟩ aM]
def Jh:S:=
 (aE (bh 3 (m2 ba (aL mY [(wD (mV 0)),(wD (mV 1))]) (aL mM [(wD (mV 0)),(wD (mV 1))])))
 (bw (yN uY [0,2] (mV 3))))
def lf:Fn:=eh 3 4 Jh
def EB:S:=(bw (wD (b8 [ab 0,ae] (qT 1) (.n 1) (cB (m2 cy (m2 az (mV 1) (mC (.int 0))) (mV 0))) (mV 1))))
def n9:Fn:=eh 2 2 EB
def Fs:S:=
 (aE (ej (aL fV [(wD (m2 az (mV 0) (mC (.int 0)))),(wD (mN bx [(mV 1)]))]))
 (bw (wD (aL na [(wD (m2 az (mV 0) (mC (.int 0)))),(wD (b8 [ae,ae] (bv (m2 az (mV 0) (mC (.int 1)))) (.t [0,1]) dc (mN dTup [(mV 1),(mV 0)]))),(wD (mV 1))]))))
def qZ:Fn:=eh 2 2 Fs
def Iv:S:=
 (aE (bh 2 (mN bx []))
 (aE (cQ (bv (mV 1)) (.n 3)
 (lb 2 (aL qZ [(wD (mV 0)),(wD (mV 3))])))
 (bw (wV 2))))
def lL:Fn:=eh 2 4 Iv
def GR:S:=
 (aE (bh 5 (aL lL [(wD (mV 0)),(wD (m2 ba (mN bx [(mV 3),(mV 4)]) (mN eP [(mV 2)])))]))
 (bw (wD (b8 [ab 5,ab 3,ab 4,ae] (bv (mV 1)) (.n 3) (cE (cB (m2 bz (mV 3) (mV 0))) (cB (m2 cF (mV 3) (mN dTup [(mV 1),(mV 2)])))) (mV 3)))))
def lP:Fn:=eh 5 6 GR
def IP:S:=
 (aE (ej (aL kz [(wD (m2 az (mV 0) (mC (.int 0)))),(wD (m2 ba (mN bx [(mV 1),(mV 2)]) (mN eP [(mV 3)])))]))
 (bw (wD (v6 (aL n9 [(wD (mV 2)),(rY (ie lf [(wD (mV 0)),(wD (mV 1)),(wD (mV 3))]))])))))
def ph:Fn:=du 4 4 IP
def IU:S:=(bw (wD (xq (aL ph [(wD (mV 0)),(wD (mV 3)),(wD (mV 4)),(wD (m2 ba (aL lP [(wD (mV 0)),(wD (mV 1)),(wD (mV 2)),(wD (mV 3)),(wD (mV 4))]) (mN eP [(mV 2)])))]))))
def kA:Fn:=du 5 5 IU
def F7:S:=(bw (wD (jN (cB (m2 bz (mV 2) (aL lL [(wD (mV 0)),(wD (m2 ba (mN bx [(mV 3)]) (mN eP [(mV 1)])))]))) (mC (.str "tail")) (mC (.str "head")))))
def me:Fn:=du 4 4 F7
def FX:S:=
 (aE (bh 3 (aL pO [(wD (mV 0)),(wD (mV 1)),(wD (mV 2))]))
 (aE (bh 4 (mN bx []))
 (aE (cQ (bv (aL uD [(wD (mV 3))])) (.t [5,6])
 (bu (cB (aL kA [(wD (mV 0)),(wD (mV 3)),(wD (mV 2)),(wD (mV 5)),(wD (mV 6))]))
 (cH 4 (mN dTup [(mV 5),(mV 6),(aL me [(wD (mV 0)),(wD (mV 2)),(wD (mV 5)),(wD (mV 6))]),(aL me [(wD (mV 0)),(wD (mV 2)),(wD (mV 6)),(wD (mV 5))])]))
 bI))
 (bw (wD (mN dTup [(mV 3),(mN oj [(mV 4)])]))))))
def tH:Fn:=du 3 7 FX
def DV:S:=
 (aE (bh 2 (mN bx []))
 (aE (bh 3 (mN bx []))
 (aE (cQ (sd (m2 az (mV 0) (mC (.int 0)))) (.t [4,5])
 (aE (bh 6 (m2 bY (m2 dP (m2 bY (m2 cI (mV 1) (m2 ba (mC (.int 48271)) (m2 cI (m2 cI (mC (.int 614)) (mV 4)) (mV 4)))) (mC (.int 2147483647))) (mC (.int 16))) (m2 az (mN bx [(mC (.int 5)),(mC (.int 4)),(mC (.int 9))]) (m2 bY (mV 1) (mC (.int 3))))))
 (aE (bu (cB (m2 cy (mV 6) (mC (.int 0))))
 (cH 2 (mV 5))
 bI)
 (bu (cB (m2 cy (mV 6) (mC (.int 1))))
 (cH 3 (mV 5))
 bI))))
 (aE (bu (cB (m2 cy (m2 bY (m2 dP (mV 1) (mC (.int 3))) (mC (.int 2))) (mC (.int 1))))
 (z0 2)
 bI)
 (uX (uX (bw (wD (mN bx [(mV 2),(mV 3)])))))))))
def qR:Fn:=eh 2 7 DV
def FO:S:=
 (aE (bh 2 (mN bx []))
 (aE (jk 40 (cB (m2 xD (mV 0) (mC .non)))
 (aE (cH 2 (m2 az (mV 0) (mC (.int 0))))
 (bh 0 (hW 1 (mV 0)))))
 (bw (wD (m1 Gr (mV 2))))))
def wQ:Fn:=eh 2 3 FO
def Hm:S:=
 (aE (bh 3 (mN bx [(mV 1)]))
 (aE (jk 20 (cB (m2 cF (m2 az (mV 3) (m1 gW (mC (.int 1)))) (mV 2)))
 (aE (bh 4 (b8 [ab 0,ab 2,ae] (bv (aL oy [(wD (mV 0)),(wD (m2 az (mV 3) (m1 gW (mC (.int 1)))))])) (.n 2) (cB (aL m4 [(wD (mV 0)),(wD (mV 2)),(wD (mV 1))])) (mV 2)))
 (cH 3 (m2 az (mV 4) (mC (.int 0))))))
 (bw (wV 3))))
def rm:Fn:=eh 3 5 Hm
def G6:S:=
 (aE (ej (aL kz [(wD (m2 az (mV 0) (mC (.int 0)))),(wD (m2 ba (mN bx [(mV 1),(mV 2)]) (mN eP [(mV 3)])))]))
 (aE (ki 4 (rY (ie lf [(wD (mV 0)),(wD (mV 1)),(wD (mV 3))])))
 (aE (bh 5 (aL n9 [(wD (mV 2)),(wV 4)]))
 (aE (bu (fZ (dQ (mV 5)))
 (bw (wD (mC .non)))
 bI)
 (aE (bh 6 (m2 dCat (mN bx [(mV 1)]) (aL wQ [(wD (m2 az (mV 5) (mC (.int 0)))),(wV 4)])))
 (bw (wD (mN dTup [(mV 6),(b8 [ab 0,ab 3,ae] (bv (aL pH [(wD (mV 0)),(wD (mV 6))])) (.n 2) dc (aL rm [(wD (mV 0)),(wD (mV 2)),(wD (mV 1))]))]))))))))
def GO:Fn:=du 4 7 G6
def DZ:S:=
 (aE (ki 1 (λ_=>.ok (.dk [])))
 (aE (cQ (bv (m2 az (mV 0) (mC (.int 0)))) (.n 2)
 (dA 1 (mV 2) (b8 [ab 0,ab 2,ae] (bv (m2 az (mV 0) (mC (.int 0)))) (.n 2) (cB (aL pP [(wD (mV 0)),(wD (mV 1)),(wD (mV 2))])) (mV 2))))
 (bw (wV 1))))
def oW:Fn:=eh 1 3 DZ
def EU(F:Fn):S:=
 (aE (bu (cB (m2 cy (m2 az (mV 1) (m1 gW (mC (.int 1)))) (mV 2)))
 (bw (wD (mN bx [(mV 1)])))
 bI)
 (aE (bh 3 (mN bx []))
 (aE (cQ (bv (hW 0 (m2 az (mV 1) (m1 gW (mC (.int 1)))))) (.n 4)
 (bu (cB (m2 cF (mV 4) (mV 1)))
 (lb 3 (aL F [(wV 0),(wD (m2 ba (mV 1) (mN bx [(mV 4)]))),(wD (mV 2))]))
 bI))
 (bw (wV 3)))))
def lc:Nat->Fn
 |0=>Ey
 |n+1=>eh 3 5 (EU (lc n))
def FV:S:=
 (aE (ej (aL kz [(wD (m2 az (mV 0) (mC (.int 0)))),(wD (mN bx [(mV 1),(mV 2)]))]))
 (bw (wD (aL (lc 8) [(ie oW [(wD (mV 0))]),(wD (mN bx [(mV 1)])),(wD (mV 2))]))))
def q8:Fn:=eh 3 3 FV
def FK:S:=
 (aE (bh 4 (aL pH [(wD (mV 0)),(wD (mV 1))]))
 (bw (wD (mN oZ [(b8 [ab 4,ab 3,ab 2,ae] (bv (d3 fW (mV 1) (ab (mC (.int 1))) (ab (m1 gW (mC (.int 1)))))) (.n 3) dc (jN (cB (m2 bz (mV 3) (mV 0))) (m2 bz (mV 3) (mV 1)) (m2 bz (mV 3) (mV 2))))]))))
def sw:Fn:=du 4 5 FK
def D1:S:=
 (aE (bh 5 (aL pO [(wD (mV 0)),(wD (mV 1)),(wD (mV 2))]))
 (aE (ej (aL kz [(wD (mV 5)),(wD (mN bx [(mV 3),(mV 4)]))]))
 (aE (bu (cB (aL kA [(wD (mV 0)),(wD (mV 5)),(wD (mV 2)),(wD (mV 3)),(wD (mV 4))]))
 (aE (bh 6 (aL lL [(wD (mV 0)),(wD (m2 ba (mN bx [(mV 3),(mV 4)]) (mN eP [(mV 2)])))]))
 (aE (bh 7 (b8 [ab 0,ab 1,ab 6,ae] (bv (aL q8 [(wD (mV 0)),(wD (mV 3)),(wD (mV 4))])) (.n 3) (cB (aL sw [(wD (mV 0)),(wD (mV 3)),(wD (mV 1)),(wD (mV 2))])) (mV 3)))
 (bw (wD (mN dTup [(mC (.str "road")),(qE (m2 az (mV 7) (mC (.int 0))))])))))
 bI)
 (bw (wD (mN dTup [(mC (.str "list")),(aL lP [(wD (mV 0)),(wD (mV 5)),(wD (mV 2)),(wD (mV 3)),(wD (mV 4))])]))))))
def uS:Fn:=du 5 8 D1
def Ei:S:=
 (aE (bu (gA (fZ (cB (m1 (lJ ["list"]) (mV 1)))) (gA (cB (m2 gt (mN d6 [(mV 1)]) (mC (.int 2)))) (gA (cB (m2 ib (m2 az (mV 1) (mC (.int 0))) (mV 2))) (cB (m2 ib (m2 az (mV 1) (m1 gW (mC (.int 1)))) (mV 3))))))
 (bw (wD (mC (.bl false))))
 bI)
 (aE (cQ (iA (mN d6 [(mV 1)])) (.n 6)
 (aE (bu (gA (fZ (cB (m1 (lJ ["str"]) (m2 az (mV 1) (mV 6))))) (gA (cB (m2 cF (m2 az (mV 1) (mV 6)) (m2 az (mV 0) (mC (.int 0))))) (cB (m2 bz (m2 az (mV 1) (mV 6)) (d3 fW (mV 1) ae (ab (mV 6)))))))
 (bw (wD (mC (.bl false))))
 bI)
 (bu (cE (cB (m2 l0 (mV 6) (mC (.int 0)))) (fZ (cB (aL pi [(wD (mV 0)),(wD (m2 az (mV 1) (m2 gF (mV 6) (mC (.int 1))))),(wD (m2 az (mV 1) (mV 6)))]))))
 (bw (wD (mC (.bl false))))
 bI)))
 (aE (cQ (uW (mC (.int 1)) (m2 gF (mN d6 [(mV 1)]) (mC (.int 1)))) (.n 6)
 (bu (cE (cB (m2 bz (mN dTup [(m2 az (mV 1) (m2 gF (mV 6) (mC (.int 1)))),(m2 az (mV 1) (mV 6))]) (m2 az (mV 0) (mC (.int 1))))) (cB (m2 bz (mN dTup [(m2 az (mV 1) (m2 ba (mV 6) (mC (.int 1)))),(m2 az (mV 1) (mV 6))]) (m2 az (mV 0) (mC (.int 1))))))
 (bu (cB (m2 cF (m2 az (mV 1) (mV 6)) (mV 5)))
 (bw (wD (mC (.bl false))))
 bI)
 (bu (cB (m2 cF (m2 az (mV 1) (mV 6)) (mV 4)))
 (bw (wD (mC (.bl false))))
 bI)))
 (bw (wD (mC (.bl true)))))))
def sg:Fn:=du 6 7 Ei
def I9:S:=
 (aE (Aw (.t [5,6]) (mV 3))
 (aE (bh 7 (aL pL [(wD (mV 0)),(wD (m2 ba (mN bx [(mV 5),(mV 6)]) (mV 2)))]))
 (zF [0,5,6] 8 9 10 (mN bx [(mN eP [(mV 1)]),(mN eP [(mV 2)])]) uS [(wD (mV 0)),(wD (m2 az (mV 8) (mC (.int 0)))),(wD (m2 az (mV 8) (mC (.int 1)))),(wD (mV 5)),(wD (mV 6))]
 (gA (fZ (cB (m1 (lJ ["tuple"]) (mV 9)))) (gA (cB (m2 ib (mN d6 [(mV 9)]) (mC (.int 2)))) (cB (m2 ib (mV 8) (mN bx [(mV 1),(mV 2)]))))) (bw (wD (mC (.bl false))))
 (bu (dQ (mV 4))
 (bh 10 (ko (m2 cy (m2 az (mV 9) (mC (.int 0))) (mC (.str "road"))) (aL sg [(wD (mV 0)),(wD (m2 az (mV 9) (mC (.int 1)))),(wD (mV 5)),(wD (mV 6)),(wD (mV 1)),(wD (mV 7))])))
 (aE (bh 11 (m2 ba (m2 ba (mV 1) (mV 2)) (mN bx [(mV 5),(mV 6)])))
 (aE (bh 12 (b8 [ab 7,ab 11,ae] (bv (m2 az (mV 0) (mC (.int 0)))) (.n 2) (cE (cB (m2 bz (mV 2) (mV 0))) (cB (m2 cF (mV 2) (mV 1)))) (mV 2)))
 (aE (bh 10 (ko (m2 cy (m2 az (mV 9) (mC (.int 0))) (mC (.str "list"))) (ko (m1 (lJ ["list"]) (m2 az (mV 9) (mC (.int 1)))) (m2 cy (m2 az (mV 9) (mC (.int 1))) (mV 12)))))
 (bh 10 (ko (mV 10) (aL rE [(wD (mV 0)),(wD (mV 5)),(wD (mV 6)),(wD (m2 ba (mV 12) (mV 2)))]))))))))))
def nr:Fn:=du 5 13 I9
def Ef:S:=
 (aE (bh 1 (aL qY [(wD (mV 0)),(wD (mC (.int 7)))]))
 (aE (wZ [2,3] (aL qR [(wD (mV 1)),(wD (aL ii [(wD (mV 0)),(wD (mC (.int 33)))]))]))
 (aE (bh 4 (aL tH [(wD (mV 1)),(wD (mV 2)),(wD (mV 3))]))
 (aE (bh 5 (b8 [ae] (bv (m2 az (mV 4) (mC (.int 1)))) (.n 0) dc (mN dTup [(m2 az (mV 0) (mC (.int 0))),(m2 az (mV 0) (mC (.int 1)))])))
 (aE (cQ (bv (m2 az (mV 4) (mC (.int 0)))) (.n 6)
 (cQ (bv (m2 az (mV 4) (mC (.int 0)))) (.n 7)
 (bu (cB (m2 ib (mV 6) (mV 7)))
 (aE (bh 8 (jE (m2 bz (mN dTup [(mV 6),(mV 7)]) (mV 5)) (m2 bz (mN dTup [(mV 7),(mV 6)]) (mV 5))))
 (bu (fZ (cB (aL nr [(wD (mV 1)),(wD (mV 2)),(wD (mV 3)),(wD (mN dTup [(mV 6),(mV 7)])),(wD (mV 8))])))
 (bw (wD (mC (.bl false))))
 bI))
 bI)))
 (bw (wD (mC (.bl true)))))))))
def At:Fn:=du 1 9 Ef
end Mr
namespace Hp2
open Mi
def ER(κ κ':Kp)(aM:List D)(e e':Mi.Env):Prop:=e[1]? = ab (ab (.fn κ aM))/\e'=e.set 1 (ab (.fn κ' aM))
section
variable{κ κ':Kp}{aM:List D}{e e':Mi.Env}
theorem ER.get(h:ER κ κ' aM e e'){i:Nat}(hi:1≠i):e'[i]? = e[i]?:=by rw[h.2,fI hi]
theorem ER.one(h:ER κ κ' aM e e'):e'[1]? = ab (ab (.fn κ' aM)):=by rw[h.2,lg (cv.mp h.1).1]
theorem ER.set(h:ER κ κ' aM e e'){i:Nat}(hi:1≠i)(w:Option W):ER κ κ' aM (e.set i w) (e'.set i w):=⟨by rw[fI (fJ hi)];exact h.1,by rw[h.2,List.set_comm _ _ hi]⟩
end
variable(κ κ':Kp)(aM:List D)
inductive OR:Rs Out->Rs Out->Prop
 |nx {e e':Mi.Env}:ER κ κ' aM e e'->OR (.ok (.nx e)) (.ok (.nx e'))
 |ct {e e':Mi.Env}:ER κ κ' aM e e'->OR (.ok (.ct e)) (.ok (.ct e'))
 |bk {e e':Mi.Env}:ER κ κ' aM e e'->OR (.ok (.bk e)) (.ok (.bk e'))
 |rt (w:W):OR (.ok (.rt w)) (.ok (.rt w))
 |ex (x:nq):OR (.ex x) (.ex x)
 |no:OR .no .no
def Sr(s s':S):Prop:=∀e e',ER κ κ' aM e e'->OR κ κ' aM (s e) (s' e')
def Ar{α:Type}(a a':Mi.Env->Rs α):Prop:=∀e e',ER κ κ' aM e e'->a' e'=a e
variable{κ κ' aM}
theorem iF{α:Type}{r:Rs α}{f g:α->Rs Out}(h:∀x,r=.ok x->OR κ κ' aM (f x) (g x)):OR κ κ' aM (r.bind f) (r.bind g):=by
 cases r with
 |ok x=>exact h x rfl
 |ex x=>exact .ex x
 |no=>exact .no
theorem pI{s s' t t':S}(h:Sr κ κ' aM s s')(k:Sr κ κ' aM t t'):Sr κ κ' aM (aE s t) (aE s' t'):=λe e' r=>by
 unfold aE;have q:=h e e' r;generalize s e=a at q ⊢;generalize s' e'=b at q ⊢;cases q with
 |nx z=>exact k _ _ z
 |ct z=>exact .ct z
 |bk z=>exact .bk z
 |rt w=>exact .rt w
 |ex x=>exact .ex x
 |no=>exact .no
theorem IG{it it':I}{i:Nat}{s s':S}(hi:1≠i)(ha:Ar κ κ' aM it it')(h:Sr κ κ' aM s s'):Sr κ κ' aM (cQ it (.n i) s) (cQ it' (.n i) s'):=λe e' r=>by
 unfold cQ;rw[ha e e' r];refine iF λxs hxs=>?_;clear hxs
 induction xs generalizing e e' with
 |nil=>exact .nx r
 |cons x t ih=>
  show OR κ κ' aM ((s (e.set i (ab (.d x)))).bind _) ((s' (e'.set i (ab (.d x)))).bind _);have q:=h _ _ (r.set hi (ab (.d x)));generalize s (e.set i (ab (.d x)))=a at q ⊢;generalize s' (e'.set i (ab (.d x)))=b at q ⊢;cases q with
  |nx z=>exact ih _ _ z
  |ct z=>exact ih _ _ z
  |bk z=>exact .nx z
  |rt w=>exact .rt w
  |ex x=>exact .ex x
  |no=>exact .no
theorem ON{c c':C}{n:Nat}{s s':S}(ha:Ar κ κ' aM c c')(h:Sr κ κ' aM s s'):Sr κ κ' aM (jk n c s) (jk n c' s'):=by
 unfold jk
 induction n with
 |zero=>exactλe e' r=>.no
 |succ n ih=>
  intro e e' r;unfold gJ;rw[ha e e' r];refine iF λb _=>?_;cases b with
  |false=>exact .nx r
  |true=>
   simp only[l8];have q:=h _ _ r;generalize s e=a at q ⊢;generalize s' e'=b at q ⊢;cases q with
   |nx z=>exact ih _ _ z
   |ct z=>exact ih _ _ z
   |bk z=>exact .nx z
   |rt w=>exact .rt w
   |ex x=>exact .ex x
   |no=>exact .no
theorem Ql{c c':C}{s s' t t':S}(ha:Ar κ κ' aM c c')(h:Sr κ κ' aM s s')(k:Sr κ κ' aM t t'):Sr κ κ' aM (bu c s t) (bu c' s' t'):=λe e' r=>by
 unfold bu;rw[ha e e' r];refine iF λb _=>?_;cases b with
 |true=>exact h _ _ r
 |false=>exact k _ _ r
theorem QP:Sr κ κ' aM bI bI:=λe e' r=>.nx r
theorem O7{a a':EW}(ha:Ar κ κ' aM a a'):Sr κ κ' aM (bw a) (bw a'):=λe e' r=>by
 unfold bw;rw[ha e e' r];exact iF λw _=>.rt w
theorem Tw{i:Nat}{a a':EW}(hi:1≠i)(ha:Ar κ κ' aM a a'):Sr κ κ' aM (ki i a) (ki i a'):=λe e' r=>by
 unfold ki;rw[ha e e' r];exact iF λw _=>.nx (r.set hi _)
theorem SS{i:Nat}{a a':E}(hi:1≠i)(ha:Ar κ κ' aM a a'):Sr κ κ' aM (bh i a) (bh i a'):=λe e' r=>by
 unfold bh;rw[ha e e' r];exact iF λw _=>.nx (r.set hi _)
theorem mZ{i:Nat}(hi:1≠i):Ar κ κ' aM (mV i) (mV i):=λe e' r=>by unfold mV;rw[r.get hi]
theorem B0{i:Nat}(hi:1≠i):Ar κ κ' aM (wV i) (wV i):=λe e' r=>by unfold wV;rw[r.get hi]
theorem Je{i:Nat}(hi:1≠i):Ar κ κ' aM (λe=>getL e i) (λe=>getL e i):=λe e' r=>by show getL e' i=getL e i;unfold getL;rw[r.get hi]
theorem xB{α:Type}{x:Rs α}:Ar κ κ' aM (λ_=>x) (λ_=>x):=λe e' r=>rfl
theorem wS{α β:Type}{a a':Mi.Env->Rs α}{f:α->Rs β}(ha:Ar κ κ' aM a a'):Ar κ κ' aM (λe=>(a e).bind f) (λe=>(a' e).bind f):=λe e' r=>by
 show(a' e').bind f=(a e).bind f;rw[ha e e' r]
theorem E1{i:Nat}{a a' b b':E}(hi:1≠i)(ha:Ar κ κ' aM a a')(hb:Ar κ κ' aM b b'):Sr κ κ' aM (dA i a b) (dA i a' b'):=λe e' r=>by
 unfold dA;rw[hb e e' r,ha e e' r,B0 hi e e' r];exact iF λx _=>iF λy _=>iF λz _=>iF λw _=>.nx (r.set hi _)
theorem RY{p:Prop}[Decidable p]{x y:Rs Out}(h:OR κ κ' aM x y):OR κ κ' aM (bp p x) (bp p y):=by
 unfold bp;split
 ·exact h
 ·exact .no
theorem DT{i:Nat}{a a':E}(hi:1≠i)(ha:Ar κ κ' aM a a'):Sr κ κ' aM (cH i a) (cH i a'):=λe e' r=>by
 unfold cH;rw[ha e e' r,show getL e' i=getL e i from Je hi e e' r];exact iF λx _=>iF λy _=>RY (.nx (r.set hi _))
theorem Pz{i j:Nat}{a a':E}(hi:1≠i)(hj:1≠j)(ha:Ar κ κ' aM a a'):Sr κ κ' aM (nZ i j a) (nZ i j a'):=λe e' r=>by
 unfold nZ;rw[ha e e' r,show getL e' j=getL e j from Je hj e e' r];exact iF λx _=>iF λy _=>iF λz _=>iF λw _=>.nx ((r.set hj _).set hi _)
theorem PY{i:Nat}{a a':E}(hi:1≠i)(ha:Ar κ κ' aM a a'):Ar κ κ' aM (gV i a) (gV i a'):=λe e' r=>by
 unfold gV;rw[ha e e' r,B0 hi e e' r]
theorem Pr{f:Fn}{a a':E}(ha:Ar κ κ' aM a a'):Ar κ κ' aM (pJ κ 1 f a) (pJ κ' 1 f a'):=λe e' r=>by
 unfold pJ;rw[r.1,r.one,ha e e' r];simp
theorem QM{a b:Rs Out}(h:OR κ κ' aM a b):a.bind ku=b.bind ku:=by cases h<;>rfl
theorem _root_.Mr.MS(κ:Kp)(x:D)(aM:List D):Mr.xH κ [.d x,.fn κ aM]=Mr.uY x aM:=by
 have h:Sr κ ⟨0,0, "",[]⟩ aM (Mr.Av κ) (Mr.Av ⟨0,0, "", []⟩):=by refine pI (Tw (by decide) xB) (pI (SS (by decide) xB) (pI (IG (by decide) (wS (mZ (by decide))) (pI (E1 (by decide) (mZ (by decide)) xB) (DT (by decide) (mZ (by decide))))) (pI (ON (wS (mZ (by decide))) (pI (Pz (by decide) (by decide) xB) (IG (by decide) (wS (Pr (mZ (by decide)))) (Ql (wS (PY (by decide) (mZ (by decide)))) (pI (E1 (by decide) (mZ (by decide)) (mZ (by decide))) (DT (by decide) (mZ (by decide)))) QP)))) (O7 (B0 (by decide))))))
 have r:ER κ ⟨0,0, "",[]⟩ aM [ab (.d x),ab (.fn κ aM),ae,ae,ae,ae] [ab (.d x),ab (.fn ⟨0,0, "", []⟩ aM),ae,ae,ae,ae]:=⟨rfl,rfl⟩;have q:=h _ _ r;exact congrArg (bp ((2:Nat)=2)) (QM q)
end Hp2
namespace A
open PySem L2 PyProof.Rows
section
variable{P:bG}{w:bi}{K:aU}{mg:Str->Option aj}{base:aZ}[Tb:bS]
variable{x qual:Str}{st:bC}{f:ai}{fd:bJ}{N ps:List Str}{k:Nat}{m:Mi.S}
theorem f6(M:Nat->Bool)(F:bX K x qual st f fd)(S:cn N ps (bE st))
 (hb:∀(cdv:aj) (A:b9) (outer:List Env) (s:aB) (H:Hp) (E:XK),dw k (A.deeper (envOfC qual (bE st) s.heap.objs.size f cdv))->N.Nodup->(A.deeper (envOfC qual (bE st) s.heap.objs.size f cdv)).units+1<cLine->(A.deeper (envOfC qual (bE st) s.heap.objs.size f cdv)).units+64<cLine ->
  ∃t,io (lN aF P w K mg base N qual (bE st) f cdv A outer s H E).lV (jj st) t/\AS M qV t m)
 (hM:∀i,i<ps.length->M i=false:=by decide):bH P w K mg base aF (k+1) f fd ps (aG (Mi.du ps.length N.length m)):=
 F.ok S (λvs H Q E h=>Oj h) λcdv A outer s H vs Q E hr h=>
  let ⟨t,a,b⟩:=hb cdv A outer s H E hr S.nd (qH hr) hr.units
  ⟨t,a,Q3 b hM h⟩
theorem okN(M:Nat->Bool)(F:bX K x qual st f fd)(S:cn N ps (bE st))
 (hb:∀(cdv:aj) (A:b9) (outer:List Env) (s:aB) (H:Hp) (E:XK),dw k (A.deeper (envOfC qual (bE st) s.heap.objs.size f cdv))->N.Nodup->(A.deeper (envOfC qual (bE st) s.heap.objs.size f cdv)).units+1<cLine->(A.deeper (envOfC qual (bE st) s.heap.objs.size f cdv)).units+64<cLine ->
  ∃t,io (lN aF P w K mg base N qual (bE st) f cdv A outer s H E).lV (jj st) t/\AS M qN t m)
 (hM:∀i,i<ps.length->M i=false:=by decide):bH P w K mg base aF (k+1) f fd ps (bW (Mi.eh ps.length N.length m)):=
 F.ok S (λvs H Q E h=>wU h) λcdv A outer s H vs Q E hr h=>
  let ⟨t,a,b⟩:=hb cdv A outer s H E hr S.nd (qH hr) hr.units
  ⟨t,a,runN b hM h⟩
end
theorem cO{N P:List Str}{sc:fg}(a:sc.kind=.function:=by rfl)(b:sc.isCoroutine=false:=by rfl)(c:sc.isGenerator=false:=by rfl)(d:N.Nodup:=by decide +kernel)(e:N.take P.length=P:=by rfl)
 (f:∀x∈P,sc.names.lookup x=ab .local\/sc.names.lookup x=ab .cell:=by decide +kernel) (g:∀y∈sc.names,y.2≠.free:=by decide +kernel):cn N P sc:=⟨a,b,c,d,e,f,g⟩
section
variable{M:Nat->Bool}[Tb:bS]
theorem aW(i:Nat)(hm:M i=false:=by rfl):AE M qV (fk i) (Mi.mV i):=Fy i hm
theorem aP(i:Nat)(hm:M i=false:=by rfl):AW M qV (fk i) (Mi.wD (Mi.mV i)):=AE.w (Fy i hm)
end
section
variable{X:Cx}{e:a9}{te:TE}{pos pos':Pos}{x:Str}
theorem pS(i:Nat)(he:PE X e te)(hN:X.N.Nodup:=by assumption)(hi:X.N[i]? = ab x:=by rfl)(hx:Loc X.env.scope x:=by exact cV rfl)(hs:swapsWith e (ab (.Name x pos')) pos.line X.env=pure false:=by rfl)
 (hf:X.fn x=true\/X.env.scope.names.lookup x=ab .local:=by first|exact .inl rfl|exact .inr rfl|assumption):PS X (.Assign [.Name x pos'] e pos) (jg te (gK i)):=jF hN hi hx he hs hf
theorem pG(i:Nat)(hN:X.N.Nodup:=by assumption)(hi:X.N[i]? = ab x:=by rfl)(hx:Loc X.env.scope x:=by exact cV rfl)
 (hf:X.fn x=true\/X.env.scope.names.lookup x=ab .local:=by first|exact .inl rfl|exact .inr rfl|assumption):L2.PG X (.Name x pos) (gK i):=dC hN hi hx hf
theorem uy{a:Str}:[a].Nodup:=iU.mpr ⟨(λh=>nomatch h),List.nodup_nil⟩
theorem kZ{a b:Str}(h:a≠b:=by decide):[a,b].Nodup:=iU.mpr ⟨λz=>h (bQ.mp z),uy⟩
theorem pC{k k':Nat}{ps:List Str}{sp:Sp}{es:List a9}{t:TA}(C:bF X.prog X.w X.K X.mg X.base aF k x ps sp)(hr:dw k' X.A)(ha:PA X (e::es) t)(hle:k<=k':=by decide)(hg:Gl X x:=by rfl)
 (hdb:(x==("__debug__" : Str))=false:=by decide) (he:starEach (e::es) X.env=(false,eval e X.env)::starEach es X.env:=by rfl) (hpl:(backTo pos (starEach es X.env)).any (·.1)=false:=by rfl) :
 PE X (.Call (.Name x pos') (e::es) [] pos) (oh sp [] E0 t):=xh C (hr.mono hle) hg wE ha hdb he hpl
theorem aV(i:Nat)(hN:X.N[i]? = ab x:=by rfl)(hv:uc X.env.scope x:=by first|exact cV rfl|exact fO (cV rfl)|exact fO (fO rfl))(hd:(x==("__debug__" : Str))=false:=by decide)
 (hcd:(x==("__classdict__" : Str))=false:=by decide) (hs:starEach [Expr.Name x pos] X.env=(false,eval (.Name x pos) X.env)::starEach [] X.env:=by rfl):PA X [.Name x pos] (fU (fk i) iE):=au (pv i hN hv hd hcd) bj hs
theorem pX{a b:a9}{ta tb:TE}(ha:PE X a ta)(hb:PE X b tb)(hs:EL b:=by exactλ_ _=>rfl):PE X (.Subscript a b pos) (pZ (wq X.K) ta tb):=G0 GF ha hb hs
end
end A
namespace qy
open PySem L2 PyProof.Rows A
open Mr
def wR(x:Str):Str:=x ++ ".<locals>." ++ "<lambda>"
def top(i:Nat):bC:=PySem.Challenge.pw_arrowfind_k71_join_papers_walked.main.body.getD i (.Pass ⟨0,0,0,0⟩)
structure Txt(mg:Str->Option aj):Prop where
 fT:mg "len" = ae
 j3:mg "range" = ae
 uU:mg "max" = ae
 AC:mg "min" = ae
 i6:mg "tuple" = ae
 eW:mg "list" = ae
 yJ:mg "isinstance" = ae
 AL:mg "all" = ae
 Be:mg "any" = ae
 Ug:mg "bool" = ae
 TN:mg "str" = ae
 Uh:mg "int" = ae
 TQ:mg "zip" = ae
 Ku:mg "enumerate" = ae
 Ui:mg "sorted" = ae
 Uj:mg "reversed" = ae
 Uk:mg "set" = ae
 TR:∃t,mg "TAIL" = ab (.str "tail" t)
 TU:∃t,mg "HEAD" = ab (.str "head" t)
section
variable{P:bG}{w:bi}{K:aU}{mg:Str->Option aj}{base:aZ}[Tb:bS]
abbrev A1:bC:=top 29
theorem LJ:cn ["names","pairs","place","one"] ["names"] (bE A1):=cO
theorem Pt{f:ai}{fd:bJ}(F:bX K "pairs_of" "pairs_of" A1 f fd)(T:Txt mg):bH P w K mg base aF 1 f fd ["names"] (bW uD):=
 okN (Mo [1]) F LJ (λcdv A outer s H E hr nd hu be=>by
  exact⟨_,(aY (pS 1 (c7 bj))
 (aY (fj eV rfl (Zp.IM rfl T.Ku (pv 0)) (kr rfl (eE (pG 2) (eE (dC (i:=3) nd rfl (fO rfl)) jB)))
 (a5 (eG (h6 hG CL CM zX (pv 1) (au (gc (N':=["one","other"]) (ρ:=[ab 3,ae]) rfl (dU.of rfl (by kernel_rfl)) (dI (mP OB (pv 0) (md (bg dj (pv 2) aI)) nJ)) (λ_ _ _ _ _=>(dC (i:=1) kZ rfl (cV rfl))) (fR rfl) (λ_ _ _ _ _=>jL) (λ_ _ _ _ _=>(fF (au (pv 0) (aV 1))))) bj)))))
 (a5 (cg (pv 1))))),
  (a6 (jK 1 rfl (de bf))
 (a6 (fm (K:=K) (tg:=(.t [2,3])) (Zp.Jk (aW 0)) (by decide)
 (BX 1 rfl (AE.nv (eX (K:=K) (tg:=(.n 1)) (gX (AE.p (mK Mz (aq 0) (lG (AE.p (aw dh (aq 2) (AE.p aJ)))) nW))) (by decide) jC (fP (aQ (aW 0) (aQ (aW 1) bf)))))))
 (nQ 1 rfl)))⟩)
abbrev Bm:bC:=top 10
theorem Tc:cn ["names","asked","name"] ["names","asked"] (bE Bm):=cO
theorem Mu{f:ai}{fd:bJ}(F:bX K "refuse_strangers" "refuse_strangers" Bm f fd)(T:Txt mg):bH P w K mg base aF 1 f fd ["names","asked"] (aG fV):=
 f6 (Mo []) F Tc (λcdv A outer s H E hr nd hu be=>by
  exact⟨_,(a5 (fj eV rfl (dI (pv 1)) (pG 2)
 (a5 (dY (cA (iZ be) (pv 2) (pv 0) rfl)
 (a5 EH)
 d9)))),
  (fm (K:=K) (tg:=(.n 2)) (ja (aW 1)) (by decide)
 (eI (cz (AE.p (aw i8 (aq 2) (aq 0))))
 Jv
 eR))⟩)
abbrev BE:bC:=top 11
theorem Q8:cn ["asked","stood","name"] ["asked"] (bE BE):=cO
theorem Ts{f:ai}{fd:bJ}(F:bX K "refuse_repeats" "refuse_repeats" BE f fd)(T:Txt mg):bH P w K mg base aF 1 f fd ["asked"] (aG sW):=
 f6 (Mo [1]) F Q8 (λcdv A outer s H E hr nd hu be=>by
  exact⟨_,(aY (pS 1 Aa)
 (a5 (fj eV rfl (dI (pv 0)) (pG 2)
 (aY (dY (xM (Gz hu (pv 2) (pv 1)) rfl)
 (a5 EH)
 d9)
 (a5 (q9 hu (pv 1) (pv 2) je rfl)))))),
  (a6 (tu 1 rfl Az)
 (fm (K:=K) (tg:=(.n 2)) (ja (aW 0)) (by decide)
 (a6 (eI (jc (AE.p (Fw 1 (aW 2))))
 Jv
 eR)
 (rD 1 rfl (aW 2) i5))))⟩)
abbrev y8:bC:=top 12
theorem Qx:cn ["names","asked"] ["names","asked"] (bE y8):=cO
theorem Oq{f:ai}{fd:bJ}(F:bX K "refuse_wrong_asks" "refuse_wrong_asks" y8 f fd)(T:Txt mg)(f9:bF P w K mg base aF 1 "refuse_strangers" ["names","asked"] (aG fV))(CV:bF P w K mg base aF 1 "refuse_repeats" ["asked"] (aG sW)):bH P w K mg base aF 2 f fd ["names","asked"] (aG kz):=
 f6 (Mo []) F Qx (λcdv A outer s H E hr nd hu be=>by
  exact⟨_,(aY (eG (pC f9 hr (au (pv 0) (aV 1))))
 (a5 (eG (pC CV hr (aV 1))))),
  (a6 (j6 (AE.p (c9 (aD (aP 0) (aD (aP 1) bM)))))
 (j6 (AE.p (c9 (aD (aP 1) bM)))))⟩)
abbrev zE:bC:=top 35
theorem S0:cn ["net","hidden","held"] ["net","hidden","held"] (bE zE):=cO
theorem TC{f:ai}{fd:bJ}(F:bX K "names_left" "names_left" zE f fd)(T:Txt mg)(kP:bF P w K mg base aF 2 "refuse_wrong_asks" ["names","asked"] (aG kz)):bH P w K mg base aF 3 f fd ["net","hidden","held"] (aG pO):=
 f6 (Mo []) F S0 (λcdv A outer s H E hr nd hu be=>by
  exact⟨_,(aY (eG (pC kP hr (au (pX (pv 0) aI) (au (bg dj (hX kT rfl T.eW j2 (aV 1)) (hX kT rfl T.eW j2 (aV 2))) bj))))
 (a5 (cg (hX ri rfl T.i6 qw (au (gc (N':=["hidden","held","name"]) (ρ:=[ab 1,ab 2,ae]) rfl (dU.of rfl (by kernel_rfl)) (dI (pX (pv 0) aI)) (λ_ _ _ _ _=>(dC (i:=2) (by show(["hidden","held","name"]:List Str).Nodup;decide +kernel) rfl (cV rfl))) (fR rfl) (λ_ _ _ _ _=>(j4 (PW.pt (pw_and (cA (iZ be) (pv 2) (pv 0) rfl) (pw_and1 (cA (iZ be) (pv 2) (pv 1) rfl)))))) (λ_ _ _ _ _=>(pv 2))) bj))))),
  (a6 (j6 (AE.p (c9 (aD (AE.w (aw bA (aq 0) (AE.p aJ))) (aD (AE.w (aw dh (AE.np (dO eW (aQ (aq 1) bf))) (AE.np (dO eW (aQ (aq 2) bf))))) bM)))))
 (fc (AE.w (dO i6 (aQ (AE.np (eX (K:=K) (tg:=(.n 2)) (gX (AE.p (aw bA (aq 0) (AE.p aJ)))) (by decide) (lR (cz (AE.p (aw i8 (aq 2) (aq 0)))) (cz (AE.p (aw i8 (aq 2) (aq 1))))) (aW 2))) bf)))))⟩)
abbrev Al:bC:=top 13
theorem S4:cn ["names","steps","name","found","waiting","here","start","end"] ["names","steps","name"] (bE Al):=cO
theorem Lu{f:ai}{fd:bJ}(F:bX K "names_along" "names_along" Al f fd)(T:Txt mg):bH P w K mg base aF 1 f fd ["names","steps","name"] (bW na):=
 okN (Mo [3,4]) F S4 (λcdv A outer s H E hr nd hu be=>by
  exact⟨_,(aY (jF (i:=3) nd rfl (fO rfl) (Zp.Oy (pv 2) je))
 (aY (pS 4 (c7 (aV 2)))
 (aY (F5 eV (pN (pv 4) (by intro _;rfl))
 (aY (pS 5 (Bu hG CN CO NH (pv 4)))
 (a5 (fj eV rfl (dI (pv 1)) (kr rfl (eE (pG 6) (eE (pG 7) jB)))
 (a5 (dY (PW.pt (pw_and (cA (jJ be) (pv 6) (pv 5) (eQ _)) (pw_and1 (xM (Gq hu (pv 7) (pv 3)) rfl))))
 (aY (q9 hu (pv 3) (pv 7) je rfl)
 (a5 (eG (h6 hG mz mB lO (pv 4) (aV 7)))))
 d9))))))
 (a5 (cg (gc (N':=["found","each"]) (ρ:=[ab 3,ae]) rfl (dU.of rfl (by kernel_rfl)) (dI (pv 0)) (λ_ _ _ _ _=>(dC (i:=1) kZ rfl (cV rfl))) (fR rfl) (λ_ _ _ _ _=>(j4 (xM (Gz hu (pv 1) (pv 0)) rfl))) (λ_ _ _ _ _=>(pv 1)))))))),
  (a6 (tu 3 rfl (Zp.Sd (aW 2) i5))
 (a6 (jK 4 rfl (de (aQ (aW 2) bf)))
 (a6 (HF 20 (nX (aq 4))
 (a6 (LG 5 4 rfl rfl)
 (fm (K:=K) (tg:=(.t [6,7])) (ja (aW 1)) (by decide)
 (eI (lR (cz (AE.p (aw jy (aq 6) (aq 5)))) (jc (AE.p (E4 3 (aW 7)))))
 (a6 (rD 3 rfl (aW 7) i5)
 (m9 4 rfl (aW 7)))
 eR))))
 (jf (AE.w (eX (K:=K) (tg:=(.n 1)) (gX (aq 0)) (by decide) (jc (AE.p (Fw 0 (aW 1)))) (aW 1)))))))⟩)
abbrev B4:bC:=top 9
theorem RL:cn ["net","name"] ["net","name"] (bE B4):=cO
theorem MT{f:ai}{fd:bJ}(F:bX K "names_below" "names_below" B4 f fd)(T:Txt mg)(f9:bF P w K mg base aF 1 "refuse_strangers" ["names","asked"] (aG fV))(sO:bF P w K mg base aF 1 "names_along" ["names","steps","name"] (bW na)):bH P w K mg base aF 2 f fd ["net","name"] (bW uz):=
 okN (Mo []) F RL (λcdv A outer s H E hr nd hu be=>by
  exact⟨_,(aY (eG (pC f9 hr (au (pX (pv 0) aI) (au (c7 (aV 1)) bj))))
 (a5 (cg (pC sO hr (au (pX (pv 0) aI) (au (pX (pv 0) aI) (aV 1))))))),
  (a6 (j6 (AE.p (c9 (aD (AE.w (aw bA (aq 0) (AE.p aJ))) (aD (AW.nv (AE.w (de (aQ (aW 1) bf)))) bM)))))
 (jf (AE.w (fo (aD (AE.w (aw bA (aq 0) (AE.p aJ))) (aD (AE.w (aw bA (aq 0) (AE.p aJ))) (aD (aP 1) bM)))))))⟩)
abbrev BB:bC:=top 19
theorem To:cn ["net","name","held"] ["net","name","held"] (bE BB):=cO
theorem N8{f:ai}{fd:bJ}(F:bX K "has_held_below" "has_held_below" BB f fd)(T:Txt mg)(CW:bF P w K mg base aF 2 "names_below" ["net","name"] (bW uz)):bH P w K mg base aF 3 f fd ["net","name","held"] (aG m4):=
 f6 (Mo []) F To (λcdv A outer s H E hr nd hu be=>by
  exact⟨_,(a5 (cg (gH (Qh rfl) rfl T.Be boot_any (au (gc (N':=["held","below"]) (ρ:=[ab 2,ae]) rfl (dU.of rfl (by kernel_rfl)) (dI (pC CW hr (au (pv 0) (aV 1)))) (λ_ _ _ _ _=>(dC (i:=1) kZ rfl (cV rfl))) (fR rfl) (λ_ _ _ _ _=>jL) (λ_ _ _ _ _=>(jb (gf be) (pv 1) (pv 0) rfl))) bj)))),
  (fc (AE.w (dO Be (aQ (AE.np (eX (K:=K) (tg:=(.n 1)) (gX (AE.np (fo (aD (aP 0) (aD (aP 1) bM))))) (by decide) jC (aw gp (aq 1) (aq 0)))) bf))))⟩)
abbrev Ao:bC:=top 6
theorem Sa:cn ["net","name"] ["net","name"] (bE Ao):=cO
theorem SH{f:ai}{fd:bJ}(F:bX K "heirs_of" "heirs_of" Ao f fd)(T:Txt mg)(f9:bF P w K mg base aF 1 "refuse_strangers" ["names","asked"] (aG fV)):bH P w K mg base aF 2 f fd ["net","name"] (aG oy):=
 f6 (Mo []) F Sa (λcdv A outer s H E hr nd hu be=>by
  exact⟨_,(aY (eG (pC f9 hr (au (pX (pv 0) aI) (au (c7 (aV 1)) bj))))
 (a5 (cg (hX ri rfl T.i6 qw (au (gc (N':=["name","tail","head"]) (ρ:=[ab 1,ae,ae]) rfl (dU.of rfl (by kernel_rfl)) (dI (pX (pv 0) aI)) (λ_ _ _ _ _=>(kr rfl (eE (dC (i:=1) (by show(["name","tail","head"]:List Str).Nodup;decide +kernel) rfl (cV rfl)) (eE (dC (i:=2) (by show(["name","tail","head"]:List Str).Nodup;decide +kernel) rfl (cV rfl)) jB)))) (wj (oq rfl (oq rfl wB oB) (wc oB))) (λ_ _ _ _ _=>(j4 (cA (jJ be) (pv 1) (pv 0) (eQ _)))) (λ_ _ _ _ _=>(pv 2))) bj))))),
  (a6 (j6 (AE.p (c9 (aD (AE.w (aw bA (aq 0) (AE.p aJ))) (aD (AW.nv (AE.w (de (aQ (aW 1) bf)))) bM)))))
 (fc (AE.w (dO i6 (aQ (AE.np (eX (K:=K) (tg:=(.t [1,2])) (gX (AE.p (aw bA (aq 0) (AE.p aJ)))) (by decide) (cz (AE.p (aw jy (aq 1) (aq 0)))) (aW 2))) bf)))))⟩)
abbrev z8:bC:=top 25
theorem Te:cn ["net","name"] ["net","name"] (bE z8):=cO
theorem QU{f:ai}{fd:bJ}(F:bX K "heir_spots" "heir_spots" z8 f fd)(T:Txt mg)(CY:bF P w K mg base aF 2 "heirs_of" ["net","name"] (aG oy)):bH P w K mg base aF 3 f fd ["net","name"] (bW mY):=
 okN (Mo []) F Te (λcdv A outer s H E hr nd hu be=>by
  exact⟨_,(a5 (cg (gc (N':=["heir"]) (ρ:=[ae]) rfl (dU.of rfl (by kernel_rfl)) (dI (pC CY hr (au (pv 0) (aV 1)))) (λ_ _ _ _ _=>(dC (i:=0) uy rfl (cV rfl))) (fR rfl) (λ_ _ _ _ _=>jL) (λ_ _ _ _ _=>(fF (au (pv 0) (au je bj))))))),
  (jf (AE.w (eX (K:=K) (tg:=(.n 0)) (gX (AE.p (c9 (aD (aP 0) (aD (aP 1) bM))))) (by decide) jC (fP (aQ (aW 0) (aQ i5 bf))))))⟩)
abbrev yU:bC:=top 5
theorem Mg:cn ["net","name"] ["net","name"] (bE yU):=cO
theorem Np{f:ai}{fd:bJ}(F:bX K "elders_of" "elders_of" yU f fd)(T:Txt mg)(f9:bF P w K mg base aF 1 "refuse_strangers" ["names","asked"] (aG fV)):bH P w K mg base aF 2 f fd ["net","name"] (aG ud):=
 f6 (Mo []) F Mg (λcdv A outer s H E hr nd hu be=>by
  exact⟨_,(aY (eG (pC f9 hr (au (pX (pv 0) aI) (au (c7 (aV 1)) bj))))
 (a5 (cg (hX ri rfl T.i6 qw (au (gc (N':=["name","tail","head"]) (ρ:=[ab 1,ae,ae]) rfl (dU.of rfl (by kernel_rfl)) (dI (pX (pv 0) aI)) (λ_ _ _ _ _=>(kr rfl (eE (dC (i:=1) (by show(["name","tail","head"]:List Str).Nodup;decide +kernel) rfl (cV rfl)) (eE (dC (i:=2) (by show(["name","tail","head"]:List Str).Nodup;decide +kernel) rfl (cV rfl)) jB)))) (wj (oq rfl (oq rfl wB oB) (wc oB))) (λ_ _ _ _ _=>(j4 (cA (jJ be) (pv 2) (pv 0) (eQ _)))) (λ_ _ _ _ _=>(pv 1))) bj))))),
  (a6 (j6 (AE.p (c9 (aD (AE.w (aw bA (aq 0) (AE.p aJ))) (aD (AW.nv (AE.w (de (aQ (aW 1) bf)))) bM)))))
 (fc (AE.w (dO i6 (aQ (AE.np (eX (K:=K) (tg:=(.t [1,2])) (gX (AE.p (aw bA (aq 0) (AE.p aJ)))) (by decide) (cz (AE.p (aw jy (aq 2) (aq 0)))) (aW 1))) bf)))))⟩)
abbrev zf:bC:=top 26
theorem OK:cn ["net","name"] ["net","name"] (bE zf):=cO
theorem N5{f:ai}{fd:bJ}(F:bX K "elder_spots" "elder_spots" zf f fd)(T:Txt mg)(CZ:bF P w K mg base aF 2 "elders_of" ["net","name"] (aG ud)):bH P w K mg base aF 3 f fd ["net","name"] (bW mM):=
 okN (Mo []) F OK (λcdv A outer s H E hr nd hu be=>by
  exact⟨_,(a5 (cg (gc (N':=["elder"]) (ρ:=[ae]) rfl (dU.of rfl (by kernel_rfl)) (dI (pC CZ hr (au (pv 0) (aV 1)))) (λ_ _ _ _ _=>(dC (i:=0) uy rfl (cV rfl))) (fR rfl) (λ_ _ _ _ _=>jL) (λ_ _ _ _ _=>(fF (au (pv 0) (au je bj))))))),
  (jf (AE.w (eX (K:=K) (tg:=(.n 0)) (gX (AE.p (c9 (aD (aP 0) (aD (aP 1) bM))))) (by decide) jC (fP (aQ (aW 0) (aQ i5 bf))))))⟩)
abbrev Ay:bC:=top 24
theorem Se:cn ["net","spot","held","name","came_down","passes","goes_up","downs","ups"] ["net","spot","held"] (bE Ay):=cO
theorem NN{f:ai}{fd:bJ}(F:bX K "spots_from" "spots_from" Ay f fd)(T:Txt mg)(C0:bF P w K mg base aF 3 "has_held_below" ["net","name","held"] (aG m4))(sP:bF P w K mg base aF 3 "heir_spots" ["net","name"] (bW mY))(sQ:bF P w K mg base aF 3 "elder_spots" ["net","name"] (bW mM)):bH P w K mg base aF 4 f fd ["net","spot","held"] (aG rN):=
 f6 (Mo []) F Se (λcdv A outer s H E hr nd hu be=>by
  exact⟨_,(aY (Bc (pv 1) (kr rfl (eE (pG 3) (eE (pG 4) jB))))
 (aY (pS 5 (jb (iZ be) (pv 3) (pv 2) rfl))
 (aY (pS 6 (vj (pN (pv 4) (by intro _;rfl)) (pC C0 hr (au (pv 0) (au (pv 3) (aV 2)))) (pv 5)))
 (aY (pS 7 (vj (pN (pv 5) (by intro _;rfl)) (pC sP hr (au (pv 0) (aV 3))) (c7 bj)))
 (aY (pS 8 (vj (pN (pv 6) (by intro _;rfl)) (pC sQ hr (au (pv 0) (aV 3))) (c7 bj)))
 (a5 (cg (bg dj (pv 7) (pv 8))))))))),
  (a6 (F6 (K:=K) (.t [3,4]) (by decide) (aW 1))
 (a6 (dr 5 rfl (aw i8 (aq 3) (aq 2)))
 (a6 (dr 6 rfl (uT (nX (aq 4)) (c9 (aD (aP 0) (aD (aP 3) (aD (aP 2) bM)))) (aW 5)))
 (a6 (dr 7 rfl (uT (nX (aq 5)) (AE.nv (fo (aD (aP 0) (aD (aP 3) bM)))) (AE.nv (de bf))))
 (a6 (dr 8 rfl (uT (nX (aq 6)) (AE.nv (fo (aD (aP 0) (aD (aP 3) bM)))) (AE.nv (de bf))))
 (fc (AE.w (aw dh (aq 7) (aq 8)))))))))⟩)
abbrev BR:bC:=top 23
theorem FZ:cn ["starts","onward","before","waiting","spot","here"] ["starts","onward"] (bE BR):=cO
theorem Rz{f:ai}{fd:bJ}(F:bX K "spots_walked" "spots_walked" BR f fd)(T:Txt mg):t9 P w K mg base 6 f fd ["starts","onward"] 5 (xG v5) (λκ=>bW (xH κ)):=
 MP F FZ (λκ vs H Q E h=>wU h) (λcdv A outer s H vs Q κ us hr L kp h=>by
  have nd:=FZ.nd;have hu:=qH hr;have be:=hr.units;exact⟨_,(aY (pS 2 NL)
 (aY (pS 3 (c7 bj))
 (aY (fj eV rfl (dI (pv 0)) (pG 4)
 (aY (q9 hu (pv 2) (pv 4) Mc rfl)
 (a5 (eG (h6 hG mz mB lO (pv 3) (aV 4))))))
 (aY (F5 eV (pN (pv 3) (by intro _;rfl))
 (aY (pS 5 (h6 hG CN CO Ev (pv 3) (au aI bj)))
 (a5 (fj eV rfl (dI (M6 L kp rfl (hr.mono (by decide)) (pv 1) (pv 5))) (pG 4)
 (a5 (dY (xM (Gq hu (pv 4) (pv 2)) rfl)
 (aY (q9 hu (pv 2) (pv 4) (pv 5) rfl)
 (a5 (eG (h6 hG mz mB lO (pv 3) (aV 4)))))
 d9))))))
 (a5 (cg (pv 2))))))),
  _root_.A.runN (N:=["starts","onward","before","waiting","spot","here"]) (M:=Mo [2,3]) (a6 (tu 2 rfl RG)
 (a6 (jK 3 rfl (de bf))
 (a6 (fm (K:=K) (tg:=(.n 4)) (ja (aW 0)) (by decide)
 (a6 (rD 2 rfl (aW 4) Oe)
 (m9 3 rfl (aW 4))))
 (a6 (HF 40 (nX (aq 3))
 (a6 (Sk 5 3 rfl rfl (AE.p aJ))
 (fm (K:=K) (tg:=(.n 4)) (ja (Op rfl (aW 5))) (by decide)
 (eI (jc (AE.p (E4 2 (aW 4))))
 (a6 (rD 2 rfl (aW 4) (aW 5))
 (m9 3 rfl (aW 4)))
 eR))))
 (nQ 2 rfl))))) (by decide) h⟩)
abbrev Bx:bC:=top 22
theorem Jp:cn ["net","one","held","starts"] ["net","one","held"] (bE Bx):=cO
theorem N1{f:ai}{fd:bJ}{cc TT:ai}(F:u8 K "spots_before" "spots_before" Bx cc f fd)(T:Txt mg)(hB:BM mg base)(hC:jX base cc TT)(hTb:(TT,wR "spots_before")∈Tb.l)(C1:zU P w K mg base 6 "spots_walked" ["starts","onward"] 5 (xG v5) (λκ=>bW (xH κ)))(C2:bF P w K mg base aF 4 "spots_from" ["net","spot","held"] (aG rN))(sP:bF P w K mg base aF 3 "heir_spots" ["net","name"] (bW mY))(sQ:bF P w K mg base aF 3 "elder_spots" ["net","name"] (bW mM)):bH P w K mg base aF 10 f fd ["net","one","held"] (bW lf):=
 F.ok Jp (λvs H Q E h=>wU h) (λA outer s H vs Q E hr h=>by
  have nd:=Jp.nd;have hu:=qH hr;have be:=hr.units;have TV:=hr.mono (show 6<=_ by decide);have Kv:=hr.mono (show 4<=_ by decide);exact⟨_,(aY (pS 3 (bg dj (pC sP hr (au (pv 0) (aV 1))) (pC sQ hr (au (pv 0) (aV 1)))))
 (a5 (cg (MH (lx := "spot") (ρ:=[0,2]) (ys:=["net","held"]) (kl:=4) (qual:=wR "spots_before") C1 TV rfl (pv 3) rfl hC hB rfl rfl rfl (λ_=>rfl) (rG.of rfl rfl rfl rfl (by decide +kernel) (Mj rfl rfl) (by kernel_rfl) rfl (by kernel_rfl)) (λpm c' ctv u=>rfl) (λA f c' s H env outer hrl he=>by subst he;have Kv:=hrl.mono (show 4<=_ by decide);exact(xh C2 Kv rfl wE (au (pv 1) (au (pv 0) (aV 2))))) (O0 (c9 (aD (aP 1) (aD (aP 0) (aD (aP 2) bM))))))))),
  _root_.A.runN (N:=["net","one","held","starts"]) (M:=Mo []) (a6 (dr 3 rfl (aw dh (AE.np (fo (aD (aP 0) (aD (aP 1) bM)))) (AE.np (fo (aD (aP 0) (aD (aP 1) bM))))))
 (jf (Ry (by decide) hTb MS (aq 3)))) (by decide) h⟩)
abbrev BV:bC:=top 27
theorem Td:cn ["name","before"] ["name","before"] (bE BV):=cO
theorem NP{f:ai}{fd:bJ}(F:bX K "spots_of" "spots_of" BV f fd)(T:Txt mg):bH P w K mg base aF 1 f fd ["name","before"] (bW n9):=
 okN (Mo []) F Td (λcdv A outer s H E hr nd hu be=>by
  exact⟨_,(a5 (cg (gc (N':=["name","spot"]) (ρ:=[ab 0,ae]) rfl (dU.of rfl (by kernel_rfl)) (Pn (pv 1)) (λ_ _ _ _ _=>(dC (i:=1) kZ rfl (cV rfl))) (fR rfl) (λ_ _ _ _ _=>(j4 (cA (jJ be) (pX (pv 1) aI) (pv 0) (eQ _)))) (λ_ _ _ _ _=>(pv 1))))),
  (jf (AE.w (eX (K:=K) (tg:=(.n 1)) (iu.c (NM 1 rfl)) (by decide) (cz (AE.p (aw jy (AE.p (aw bA (aq 1) (AE.p aJ))) (aq 0)))) (aW 1))))⟩)
abbrev zG:bC:=top 21
theorem Oi:cn ["net","one","other","held"] ["net","one","other","held"] (bE zG):=cO
theorem OU{f:ai}{fd:bJ}(F:bX K "are_parted" "are_parted" zG f fd)(T:Txt mg)(kP:bF P w K mg base aF 2 "refuse_wrong_asks" ["names","asked"] (aG kz))(C3:bF P w K mg base aF 10 "spots_before" ["net","one","held"] (bW lf))(C4:bF P w K mg base aF 1 "spots_of" ["name","before"] (bW n9)):bH P w K mg base aF 11 f fd ["net","one","other","held"] (aG ph):=
 f6 (Mo []) F Oi (λcdv A outer s H E hr nd hu be=>by
  exact⟨_,(aY (eG (pC kP hr (au (pX (pv 0) aI) (au (bg dj (c7 (au (pv 1) (aV 2))) (hX kT rfl T.eW j2 (aV 3))) bj))))
 (a5 (cg (Q1 (pC C4 hr (au (pv 2) (au (PF (pC C3 hr (au (pv 0) (au (pv 1) (aV 3))))) bj))))))),
  (a6 (j6 (AE.p (c9 (aD (AE.w (aw bA (aq 0) (AE.p aJ))) (aD (AE.w (aw dh (AE.np (de (aQ (aW 1) (aQ (aW 2) bf)))) (AE.np (dO eW (aQ (aq 3) bf))))) bM)))))
 (fc (AE.w (L9 (AE.np (fo (aD (aP 2) (aD (PD (AJ (aD (aP 0) (aD (aP 1) (aD (aP 3) bM))))) bM))))))))⟩)
abbrev yO:bC:=top 8
theorem Rq:cn ["net","name"] ["net","name"] (bE yO):=cO
theorem NA{f:ai}{fd:bJ}(F:bX K "names_above" "names_above" yO f fd)(T:Txt mg)(f9:bF P w K mg base aF 1 "refuse_strangers" ["names","asked"] (aG fV))(sO:bF P w K mg base aF 1 "names_along" ["names","steps","name"] (bW na)):bH P w K mg base aF 2 f fd ["net","name"] (bW qZ):=
 okN (Mo []) F Rq (λcdv A outer s H E hr nd hu be=>by
  exact⟨_,(aY (eG (pC f9 hr (au (pX (pv 0) aI) (au (c7 (aV 1)) bj))))
 (a5 (cg (pC sO hr (au (pX (pv 0) aI) (au (gc (N':=["tail","head"]) (ρ:=[ae,ae]) rfl (dU.of rfl (by kernel_rfl)) (dI (pX (pv 0) aI)) (λ_ _ _ _ _=>(kr rfl (eE (dC (i:=0) kZ rfl (cV rfl)) (eE (dC (i:=1) kZ rfl (cV rfl)) jB)))) (wj (oq rfl (oq rfl wB oB) (wc oB))) (λ_ _ _ _ _=>jL) (λ_ _ _ _ _=>(fF (au (pv 1) (aV 0))))) (aV 1))))))),
  (a6 (j6 (AE.p (c9 (aD (AE.w (aw bA (aq 0) (AE.p aJ))) (aD (AW.nv (AE.w (de (aQ (aW 1) bf)))) bM)))))
 (jf (AE.w (fo (aD (AE.w (aw bA (aq 0) (AE.p aJ))) (aD (AW.nv (AE.w (eX (K:=K) (tg:=(.t [0,1])) (gX (AE.p (aw bA (aq 0) (AE.p aJ)))) (by decide) jC (fP (aQ (aW 1) (aQ (aW 0) bf)))))) (aD (aP 1) bM)))))))⟩)
abbrev B5:bC:=top 38
theorem Mv:cn ["net","some","uppers","name"] ["net","some"] (bE B5):=cO
theorem MD{f:ai}{fd:bJ}(F:bX K "names_over" "names_over" B5 f fd)(T:Txt mg)(C5:bF P w K mg base aF 2 "names_above" ["net","name"] (bW qZ)):bH P w K mg base aF 3 f fd ["net","some"] (bW lL):=
 okN (Mo [2]) F Mv (λcdv A outer s H E hr nd hu be=>by
  exact⟨_,(aY (pS 2 (c7 bj))
 (aY (fj eV rfl (dI (pv 1)) (pG 3)
 (a5 (eG (h6 hG CL CM zX (pv 2) (au (pC C5 hr (au (pv 0) (aV 3))) bj)))))
 (a5 (cg (pv 2))))),
  (a6 (jK 2 rfl (de bf))
 (a6 (fm (K:=K) (tg:=(.n 3)) (ja (aW 1)) (by decide)
 (BX 2 rfl (AE.nv (fo (aD (aP 0) (aD (aP 3) bM))))))
 (nQ 2 rfl)))⟩)
abbrev zJ:bC:=top 37
theorem Mx:cn ["net","names","held","one","other","uppers"] ["net","names","held","one","other"] (bE zJ):=cO
theorem Sf{f:ai}{fd:bJ}(F:bX K "list_between" "list_between" zJ f fd)(T:Txt mg)(nG:bF P w K mg base aF 3 "names_over" ["net","some"] (bW lL)):bH P w K mg base aF 4 f fd ["net","names","held","one","other"] (bW lP):=
 okN (Mo []) F Mx (λcdv A outer s H E hr nd hu be=>by
  exact⟨_,(aY (jF (i:=5) nd rfl (fO rfl) (pC nG hr (au (pv 0) (au (bg dj (c7 (au (pv 3) (aV 4))) (hX kT rfl T.eW j2 (aV 2))) bj))))
 (a5 (cg (gc (N':=["uppers","one","other","name"]) (ρ:=[ab 5,ab 3,ab 4,ae]) rfl (dU.of rfl (by kernel_rfl)) (dI (pv 1)) (λ_ _ _ _ _=>(dC (i:=3) (by show(["uppers","one","other","name"]:List Str).Nodup;decide +kernel) rfl (cV rfl))) (fR rfl) (λ_ _ _ _ _=>(j4 (PW.pt (pw_and (cA (gf be) (pv 3) (pv 0) rfl) (pw_and1 (cA (iZ be) (pv 3) (fF (au (pv 1) (aV 2))) rfl)))))) (λ_ _ _ _ _=>(pv 3)))))),
  (a6 (dr 5 rfl (AE.nv (fo (aD (aP 0) (aD (AE.w (aw dh (AE.np (de (aQ (aW 3) (aQ (aW 4) bf)))) (AE.np (dO eW (aQ (aq 2) bf))))) bM)))))
 (jf (AE.w (eX (K:=K) (tg:=(.n 3)) (gX (aq 1)) (by decide) (lR (cz (AE.p (aw gp (aq 3) (aq 0)))) (cz (AE.p (aw i8 (aq 3) (AE.p (fP (aQ (aW 1) (aQ (aW 2) bf)))))))) (aW 3)))))⟩)
abbrev B6:bC:=top 36
theorem L8:cn ["net","names","held","one","other"] ["net","names","held","one","other"] (bE B6):=cO
theorem Rf{f:ai}{fd:bJ}(F:bX K "are_joined" "are_joined" B6 f fd)(T:Txt mg)(C6:bF P w K mg base aF 11 "are_parted" ["net","one","other","held"] (aG ph))(sR:bF P w K mg base aF 4 "list_between" ["net","names","held","one","other"] (bW lP)):bH P w K mg base aF 12 f fd ["net","names","held","one","other"] (aG kA):=
 f6 (Mo []) F L8 (λcdv A outer s H E hr nd hu be=>by
  exact⟨_,(a5 (cg (Sx (pC C6 hr (au (pv 0) (au (pv 3) (au (pv 4) (au (bg dj (pC sR hr (au (pv 0) (au (pv 1) (au (pv 2) (au (pv 3) (aV 4)))))) (hX kT rfl T.eW j2 (aV 2))) bj)))))))),
  (fc (AE.w (Lw (AE.p (c9 (aD (aP 0) (aD (aP 3) (aD (aP 4) (aD (AE.w (aw dh (AE.np (fo (aD (aP 0) (aD (aP 1) (aD (aP 2) (aD (aP 3) (aD (aP 4) bM))))))) (AE.np (dO eW (aQ (aq 2) bf))))) bM)))))))))⟩)
abbrev Bo:bC:=top 39
theorem L5:cn ["net","held","name","beyond"] ["net","held","name","beyond"] (bE Bo):=cO
theorem Qa{f:ai}{fd:bJ}(F:bX K "end_at" "end_at" Bo f fd)(T:Txt mg)(nG:bF P w K mg base aF 3 "names_over" ["net","some"] (bW lL)):bH P w K mg base aF 4 f fd ["net","held","name","beyond"] (aG me):=
 f6 (Mo []) F L5 (λcdv A outer s H E hr nd hu be=>by
  obtain⟨_,TW⟩:=T.TR;obtain⟨_,TX⟩:=T.TU;exact⟨_,(a5 (cg (vj (cA (gf be) (pv 2) (pC nG hr (au (pv 0) (au (bg dj (c7 (aV 3)) (hX kT rfl T.eW j2 (aV 1))) bj))) rfl) (E3 (v:=(.str "tail")) rfl TW ⟨_,rfl⟩) (E3 (v:=(.str "head")) rfl TX ⟨_,rfl⟩)))),
  (fc (AE.w (uT (cz (AE.p (aw gp (aq 2) (AE.np (fo (aD (aP 0) (aD (AE.w (aw dh (AE.np (de (aQ (aW 3) bf))) (AE.np (dO eW (aQ (aq 1) bf))))) bM))))))) pM pM)))⟩)
abbrev zK:bC:=top 33
theorem S3:cn ["net","hidden","held","names","joins","one","other"] ["net","hidden","held"] (bE zK):=cO
theorem Tv{f:ai}{fd:bJ}(F:bX K "veil_of" "veil_of" zK f fd)(T:Txt mg)(C7:bF P w K mg base aF 1 "pairs_of" ["names"] (bW uD))(sS:bF P w K mg base aF 3 "names_left" ["net","hidden","held"] (aG pO))(sT:bF P w K mg base aF 12 "are_joined" ["net","names","held","one","other"] (aG kA))(yK:bF P w K mg base aF 4 "end_at" ["net","held","name","beyond"] (aG me)):bH P w K mg base aF 13 f fd ["net","hidden","held"] (aG tH):=
 f6 (Mo [4]) F S3 (λcdv A outer s H E hr nd hu be=>by
  exact⟨_,(aY (pS 3 (pC sS hr (au (pv 0) (au (pv 1) (aV 2)))))
 (aY (pS 4 (c7 bj))
 (aY (fj eV rfl (dI (pC C7 hr (aV 3))) (kr rfl (eE (pG 5) (eE (pG 6) jB)))
 (a5 (dY (mT (pC sT hr (au (pv 0) (au (pv 3) (au (pv 2) (au (pv 5) (aV 6)))))))
 (a5 (eG (h6 hG mz mB lO (pv 4) (au (fF (au (pv 5) (au (pv 6) (au (pC yK hr (au (pv 0) (au (pv 2) (au (pv 5) (aV 6))))) (au (pC yK hr (au (pv 0) (au (pv 2) (au (pv 6) (aV 5))))) bj))))) bj))))
 d9)))
 (a5 (cg (fF (au (pv 3) (au (hX ri rfl T.i6 qw (aV 4)) bj)))))))),
  (a6 (dr 3 rfl (c9 (aD (aP 0) (aD (aP 1) (aD (aP 2) bM)))))
 (a6 (jK 4 rfl (de bf))
 (a6 (fm (K:=K) (tg:=(.t [5,6])) (ja (AE.nv (fo (aD (aP 3) bM)))) (by decide)
 (eI (jc (AE.p (c9 (aD (aP 0) (aD (aP 3) (aD (aP 2) (aD (aP 5) (aD (aP 6) bM))))))))
 (m9 4 rfl (fP (aQ (aW 5) (aQ (aW 6) (aQ (c9 (aD (aP 0) (aD (aP 2) (aD (aP 5) (aD (aP 6) bM))))) (aQ (c9 (aD (aP 0) (aD (aP 2) (aD (aP 6) (aD (aP 5) bM))))) bf))))))
 eR))
 (fc (AE.w (fP (aQ (aW 3) (aQ (dO i6 (aQ (aq 4) bf)) bf))))))))⟩)
abbrev Ax:bC:=top 42
theorem Pj:cn ["_law_script","_law_k","_law_spare"] ["_law_script","_law_k"] (bE Ax):=cO
theorem Ru{f:ai}{fd:bJ}(F:bX K "_law_cell" "_law_cell" Ax f fd)(T:Txt mg):bH P w K mg base aF 1 f fd ["_law_script","_law_k"] (aG ii):=
 f6 (Mo []) F Pj (λcdv A outer s H E hr nd hu be=>by
  exact⟨_,(aY (dY (cA tT (pv 1) (gH lY rfl T.fT mr (aV 0)) (eQ _))
 (a5 (cg (pX (pv 0) (pv 1))))
 d9)
 (aY (pS 2 (bg dj aI (bg iB (bg iB aI (pv 1)) (pv 1))))
 (aY (dY (cA yT (gH lY rfl T.fT mr (aV 0)) aI (eQ _))
 (a5 (pS 2 (bg dj (pv 2) (bg iB (bg gL (pX (pv 0) aI) aI) (bg dj (bg dj (bg iB (pv 1) (pv 1)) (bg iB aI (pv 1))) aI)))))
 d9)
 (a5 (cg (pv 2)))))),
  (a6 (eI (cz (AE.p (aw ug (aq 1) (AE.p (dO fT (aQ (aq 0) bf))))))
 (fc (AE.w (aw bA (aq 0) (aq 1))))
 eR)
 (a6 (dr 2 rfl (aw dh (AE.p aJ) (AE.p (aw iH (AE.p (aw iH (AE.p aJ) (aq 1))) (aq 1)))))
 (a6 (eI (cz (AE.p (aw zH (AE.p (dO fT (aQ (aq 0) bf))) (AE.p aJ))))
 (dr 2 rfl (aw dh (aq 2) (AE.p (aw iH (AE.p (aw gG (AE.p (aw bA (aq 0) (AE.p aJ))) (AE.p aJ))) (AE.p (aw dh (AE.p (aw dh (AE.p (aw iH (aq 1) (aq 1))) (AE.p (aw iH (AE.p aJ) (aq 1))))) (AE.p aJ)))))))
 eR)
 (fc (aP 2)))))⟩)
abbrev zP:bC:=top 43
theorem Ro:cn ["_law_cell_here","_law_many","_law_letters","_law_long","_law_size","_law_stem","_law_at"] ["_law_cell_here","_law_many"] (bE zP):=cO
theorem L7{f:ai}{fd:bJ}(F:bX K "_law_words" "_law_words" zP f fd)(T:Txt mg):bH P w K mg base aF 1 f fd ["_law_cell_here","_law_many"] (bW u0):=
 okN (Mo []) F Ro (λcdv A outer s H E hr nd hu be=>by
  exact⟨_,(aY (jF (i:=2) nd rfl (fO rfl) qc)
 (aY (dY (cA tT (bg gL (pv 0) aI) aI (eQ _))
 (aY (jF (i:=3) nd rfl (fO rfl) (h6 J1 J2 J3 Ft qc (au (gc (N':=["_law_letters","_law_cell_here","_law_k"]) (ρ:=[ab 2,ab 0,ae]) rfl (dU.of rfl (by kernel_rfl)) (ke rfl T.j3 (au aI bj)) (λ_ _ _ _ _=>(dC (i:=2) (by show(["_law_letters","_law_cell_here","_law_k"]:List Str).Nodup;decide +kernel) rfl (cV rfl))) (fR rfl) (λ_ _ _ _ _=>jL) (λ_ _ _ _ _=>(pX (pv 0) (bg gL (bg l5 (pv 1) (bg dj aI (bg iB aI (pv 2)))) aI)))) bj)))
 (aY (dY (cA (jJ be) (bg gL (pv 0) aI) aI (eQ _))
 (a5 (cg (gc (N':=["_law_long","_law_k"]) (ρ:=[ab 3,ae]) rfl (dU.of rfl (by kernel_rfl)) (ke rfl T.j3 (aV 1)) (λ_ _ _ _ _=>(dC (i:=1) kZ rfl (cV rfl))) (fR rfl) (λ_ _ _ _ _=>jL) (λ_ _ _ _ _=>(mP nY (pv 0) nJ (md (bg dj (pv 1) aI)))))))
 d9)
 (a5 (cg (gc (N':=["_law_long","_law_k"]) (ρ:=[ab 3,ae]) rfl (dU.of rfl (by kernel_rfl)) (ke rfl T.j3 (aV 1)) (λ_ _ _ _ _=>(dC (i:=1) kZ rfl (cV rfl))) (fR rfl) (λ_ _ _ _ _=>jL) (λ_ _ _ _ _=>(mP nY (pv 0) (md (bg tJ aI (pv 1))) nJ)))))))
 d9)
 (aY (pS 4 (bg gL (bg l5 (pv 0) aI) aI))
 (aY (jF (i:=5) nd rfl (fO rfl) (h6 J1 J2 J3 Ft qc (au (gc (N':=["_law_letters","_law_cell_here","_law_k"]) (ρ:=[ab 2,ab 0,ae]) rfl (dU.of rfl (by kernel_rfl)) (ke rfl T.j3 (aV 4)) (λ_ _ _ _ _=>(dC (i:=2) (by show(["_law_letters","_law_cell_here","_law_k"]:List Str).Nodup;decide +kernel) rfl (cV rfl))) (fR rfl) (λ_ _ _ _ _=>jL) (λ_ _ _ _ _=>(pX (pv 0) (bg gL (bg dj (bg dj (bg l5 (pv 1) aI) (bg iB aI (pv 2))) (bg iB (pv 2) (pv 2))) aI)))) bj)))
 (aY (jF (i:=6) nd rfl (fO rfl) (bg gL (bg l5 (pv 0) aI) (bg dj (pv 4) aI)))
 (a5 (cg (gc (N':=["_law_stem","_law_letters","_law_at","_law_cell_here","_law_k"]) (ρ:=[ab 5,ab 2,ab 6,ab 0,ae]) rfl (dU.of rfl (by kernel_rfl)) (ke rfl T.j3 (aV 1)) (λ_ _ _ _ _=>(dC (i:=4) (by show(["_law_stem","_law_letters","_law_at","_law_cell_here","_law_k"]:List Str).Nodup;decide +kernel) rfl (cV rfl))) (fR rfl) (λ_ _ _ _ _=>jL) (λ_ _ _ _ _=>(bg dj (bg dj (mP nY (pv 0) nJ (md (pv 2))) (pX (pv 1) (bg gL (bg dj (bg l5 (pv 3) aI) (bg iB aI (pv 4))) aI))) (mP nY (pv 0) (md (pv 2)) nJ))))))))))),
  (a6 (dr 2 rfl pM)
 (a6 (eI (cz (AE.p (aw ug (AE.p (aw gG (aq 0) (AE.p aJ))) (AE.p aJ))))
 (a6 (dr 3 rfl (Ij (AE.p pM) (AE.np (eX (K:=K) (tg:=(.n 2)) (iu.c (kC (AE.p aJ))) (by decide) jC (aw bA (aq 0) (AE.p (aw gG (AE.p (aw lF (aq 1) (AE.p (aw dh (AE.p aJ) (AE.p (aw iH (AE.p aJ) (aq 2))))))) (AE.p aJ))))))))
 (a6 (eI (cz (AE.p (aw jy (AE.p (aw gG (aq 0) (AE.p aJ))) (AE.p aJ))))
 (jf (AE.w (eX (K:=K) (tg:=(.n 1)) (iu.c (kC (aq 1))) (by decide) jC (mK nH (aq 0) nW (lG (AE.p (aw dh (aq 1) (AE.p aJ))))))))
 eR)
 (jf (AE.w (eX (K:=K) (tg:=(.n 1)) (iu.c (kC (aq 1))) (by decide) jC (mK nH (aq 0) (lG (AE.p (aw uI (AE.p aJ) (aq 1)))) nW))))))
 eR)
 (a6 (dr 4 rfl (aw gG (AE.p (aw lF (aq 0) (AE.p aJ))) (AE.p aJ)))
 (a6 (dr 5 rfl (Ij (AE.p pM) (AE.np (eX (K:=K) (tg:=(.n 2)) (iu.c (kC (aq 4))) (by decide) jC (aw bA (aq 0) (AE.p (aw gG (AE.p (aw dh (AE.p (aw dh (AE.p (aw lF (aq 1) (AE.p aJ))) (AE.p (aw iH (AE.p aJ) (aq 2))))) (AE.p (aw iH (aq 2) (aq 2))))) (AE.p aJ))))))))
 (a6 (dr 6 rfl (aw gG (AE.p (aw lF (aq 0) (AE.p aJ))) (AE.p (aw dh (aq 4) (AE.p aJ)))))
 (jf (AE.w (eX (K:=K) (tg:=(.n 4)) (iu.c (kC (aq 1))) (by decide) jC (aw dh (AE.p (aw dh (AE.p (mK nH (aq 0) nW (lG (aq 2)))) (AE.p (aw bA (aq 1) (AE.p (aw gG (AE.p (aw dh (AE.p (aw lF (aq 3) (AE.p aJ))) (AE.p (aw iH (AE.p aJ) (aq 4))))) (AE.p aJ))))))) (AE.p (mK nH (aq 0) (lG (aq 2)) nW)))))))))))⟩)
abbrev Bs:bC:=top 44
theorem Pk:cn ["_law_cell_here","_law_many","_law_left","_law_ranks_here","_law_draw","_law_k"] ["_law_cell_here","_law_many"] (bE Bs):=cO
theorem QE{f:ai}{fd:bJ}(F:bX K "_law_ranks" "_law_ranks" Bs f fd)(T:Txt mg):bH P w K mg base aF 1 f fd ["_law_cell_here","_law_many"] (bW t5):=
 okN (Mo [2,3]) F Pk (λcdv A outer s H E hr nd hu be=>by
  exact⟨_,(aY (t7 (i:=2) (N':=["_law_k"]) (ρ:=[ae]) rfl nd rfl (cV rfl) (dU.of rfl (by kernel_rfl)) (ke rfl T.j3 (aV 1)) (λ_ _ _ _ _=>(dC (i:=0) uy rfl (cV rfl))) (fR rfl) (λ_ _ _ _ _=>jL) (λ_ _ _ _ _=>(pv 0)))
 (aY (pS 3 (c7 bj))
 (aY (pS 4 (bg gL (pv 0) aI))
 (aY (fj eV rfl (ke rfl T.j3 (aV 1)) (pG 5)
 (aY (pS 4 (bg gL (bg dj (bg dj (bg iB (pv 4) aI) (bg iB aI (pv 5))) aI) aI))
 (a5 (eG (h6 hG mz mB lO (pv 3) (au (h6 hG CN CO Ev (pv 2) (au (bg gL (bg l5 (pv 4) aI) (gH lY rfl T.fT mr (aV 2))) bj)) bj))))))
 (a5 (cg (pv 3))))))),
  (a6 (jK 2 rfl (eX (K:=K) (tg:=(.n 0)) (iu.c (kC (aq 1))) (by decide) jC (aW 0)))
 (a6 (jK 3 rfl (de bf))
 (a6 (dr 4 rfl (aw gG (aq 0) (AE.p aJ)))
 (a6 (fm (K:=K) (tg:=(.n 5)) (kC (aq 1)) (by decide)
 (a6 (dr 4 rfl (aw gG (AE.p (aw dh (AE.p (aw dh (AE.p (aw iH (aq 4) (AE.p aJ))) (AE.p (aw iH (AE.p aJ) (aq 5))))) (AE.p aJ))) (AE.p aJ)))
 (N9 3 2 (by decide) rfl rfl (AE.p (aw gG (AE.p (aw lF (aq 4) (AE.p aJ))) (AE.p (dO fT (aQ (aq 2) bf))))))))
 (nQ 3 rfl)))))⟩)
abbrev za:bC:=top 45
theorem NR:cn ["_law_script","_law_most","_law_many","_law_names","_law_ranks_here","_law_thick","_law_arrows","_law_j","_law_k","_law_cell_here"] ["_law_script","_law_most"] (bE za):=cO
theorem QH{f:ai}{fd:bJ}(F:bX K "_law_net" "_law_net" za f fd)(T:Txt mg)(mG:bF P w K mg base aF 1 "_law_cell" ["_law_script","_law_k"] (aG ii))(C8:bF P w K mg base aF 1 "_law_words" ["_law_cell_here","_law_many"] (bW u0))(C9:bF P w K mg base aF 1 "_law_ranks" ["_law_cell_here","_law_many"] (bW t5)):bH P w K mg base aF 2 f fd ["_law_script","_law_most"] (aG qY):=
 f6 (Mo [6]) F NR (λcdv A outer s H E hr nd hu be=>by
  exact⟨_,(aY (pS 2 (bg dj aI (bg gL (pC mG hr (au (pv 0) (au aI bj))) (pv 1))))
 (aY (pS 3 (pC C8 hr (au (pC mG hr (au (pv 0) (au aI bj))) (aV 2))))
 (aY (pS 4 (pC C9 hr (au (pC mG hr (au (pv 0) (au aI bj))) (aV 2))))
 (aY (pS 5 (G0 GF (c7 (au aI (au aI (au aI (au aI (au aI (au aI bj))))))) (bg gL (pC mG hr (au (pv 0) (au aI bj))) aI) (λ_ _=>rfl)))
 (aY (pS 6 (c7 bj))
 (aY (fj eV rfl (ke rfl T.j3 (aV 2)) (pG 7)
 (a5 (fj eV rfl (ke rfl T.j3 (aV 2)) (pG 8)
 (aY (pS 9 (pC mG hr (au (pv 0) (au (bg dj (bg dj aI (bg l5 (bg iB (gH (HB rfl) rfl T.uU boot_max (au (pv 7) (aV 8))) (bg tJ (gH (HB rfl) rfl T.uU boot_max (au (pv 7) (aV 8))) aI)) aI)) (gH (Sv rfl) rfl T.AC boot_min (au (pv 7) (aV 8)))) bj))))
 (a5 (dY (PW.pt (pw_and (cA tT (pX (pv 4) (pv 7)) (pX (pv 4) (pv 8)) (eQ _)) (pw_and1 (cA tT (bg gL (bg l5 (bg gL (bg iB (pv 9) aI) aI) aI) aI) (pv 5) (eQ _)))))
 (a5 (eG (h6 hG mz mB lO (pv 6) (au (fF (au (pX (pv 3) (pv 7)) (au (pX (pv 3) (pv 8)) bj))) bj))))
 d9))))))
 (a5 (cg (fF (au (hX ri rfl T.i6 qw (aV 3)) (au (hX ri rfl T.i6 qw (aV 6)) bj))))))))))),
  (a6 (dr 2 rfl (aw dh (AE.p aJ) (AE.p (aw gG (AE.p (c9 (aD (aP 0) (aD (AE.w aJ) bM)))) (aq 1)))))
 (a6 (dr 3 rfl (AE.nv (fo (aD (AE.w (c9 (aD (aP 0) (aD (AE.w aJ) bM)))) (aD (aP 2) bM)))))
 (a6 (dr 4 rfl (AE.nv (fo (aD (AE.w (c9 (aD (aP 0) (aD (AE.w aJ) bM)))) (aD (aP 2) bM)))))
 (a6 (dr 5 rfl (aw bA (AE.np (de (aQ aJ (aQ aJ (aQ aJ (aQ aJ (aQ aJ (aQ aJ bf)))))))) (AE.p (aw gG (AE.p (c9 (aD (aP 0) (aD (AE.w aJ) bM)))) (AE.p aJ)))))
 (a6 (jK 6 rfl (de bf))
 (a6 (fm (K:=K) (tg:=(.n 7)) (kC (aq 2)) (by decide)
 (fm (K:=K) (tg:=(.n 8)) (kC (aq 2)) (by decide)
 (a6 (dr 9 rfl (c9 (aD (aP 0) (aD (AE.w (aw dh (AE.p (aw dh (AE.p aJ) (AE.p (aw lF (AE.p (aw iH (AE.p (dO uU (aQ (aq 7) (aQ (aq 8) bf)))) (AE.p (aw uI (AE.p (dO uU (aQ (aq 7) (aQ (aq 8) bf)))) (AE.p aJ))))) (AE.p aJ))))) (AE.p (dO AC (aQ (aq 7) (aQ (aq 8) bf)))))) bM))))
 (eI (lR (cz (AE.p (aw ug (AE.p (aw bA (aq 4) (aq 7))) (AE.p (aw bA (aq 4) (aq 8)))))) (cz (AE.p (aw ug (AE.p (aw gG (AE.p (aw lF (AE.p (aw gG (AE.p (aw iH (aq 9) (AE.p aJ))) (AE.p aJ))) (AE.p aJ))) (AE.p aJ))) (aq 5)))))
 (m9 6 rfl (fP (aQ (aw bA (aq 3) (aq 7)) (aQ (aw bA (aq 3) (aq 8)) bf))))
 eR))))
 (fc (AE.w (fP (aQ (dO i6 (aQ (aq 3) bf)) (aQ (dO i6 (aQ (aq 6) bf)) bf)))))))))))⟩)
abbrev BO:bC:=top 49
theorem Ni:cn ["_law_net_here","_law_cell_here","_law_hidden","_law_held","_law_k","_law_name","_law_way"] ["_law_net_here","_law_cell_here"] (bE BO):=cO
theorem Q2{f:ai}{fd:bJ}(F:bX K "_law_split" "_law_split" BO f fd)(T:Txt mg):bH P w K mg base aF 1 f fd ["_law_net_here","_law_cell_here"] (bW qR):=
 okN (Mo [2,3]) F Ni (λcdv A outer s H E hr nd hu be=>by
  exact⟨_,(aY (pS 2 (c7 bj))
 (aY (pS 3 (c7 bj))
 (aY (fj eV rfl (Zp.IM rfl T.Ku (pX (pv 0) aI)) (kr rfl (eE (pG 4) (eE (pG 5) jB)))
 (aY (pS 6 (bg gL (bg l5 (bg gL (bg iB (pv 1) (bg dj aI (bg iB (bg iB aI (pv 4)) (pv 4)))) aI) aI) (pX (c7 (au aI (au aI (au aI bj)))) (bg gL (pv 1) aI))))
 (aY (dY (cA (jJ be) (pv 6) aI (eQ _))
 (a5 (eG (h6 hG mz mB lO (pv 2) (aV 5))))
 d9)
 (a5 (dY (cA (jJ be) (pv 6) aI (eQ _))
 (a5 (eG (h6 hG mz mB lO (pv 3) (aV 5))))
 d9)))))
 (aY (dY (cA (jJ be) (bg gL (bg l5 (pv 1) aI) aI) aI (eQ _))
 (a5 (eG (Bu hG PySem.F.slot_list_reverse PySem.F.type_list_reverse S6 (pv 2))))
 d9)
 (a5 (cg (c7 (au (pv 2) (aV 3))))))))),
  (a6 (jK 2 rfl (de bf))
 (a6 (jK 3 rfl (de bf))
 (a6 (fm (K:=K) (tg:=(.t [4,5])) (Zp.Jk (aw bA (aq 0) (AE.p aJ))) (by decide)
 (a6 (dr 6 rfl (aw gG (AE.p (aw lF (AE.p (aw gG (AE.p (aw iH (aq 1) (AE.p (aw dh (AE.p aJ) (AE.p (aw iH (AE.p (aw iH (AE.p aJ) (aq 4))) (aq 4))))))) (AE.p aJ))) (AE.p aJ))) (AE.p (aw bA (AE.np (de (aQ aJ (aQ aJ (aQ aJ bf))))) (AE.p (aw gG (aq 1) (AE.p aJ)))))))
 (a6 (eI (cz (AE.p (aw jy (aq 6) (AE.p aJ))))
 (m9 2 rfl (aW 5))
 eR)
 (eI (cz (AE.p (aw jy (aq 6) (AE.p aJ))))
 (m9 3 rfl (aW 5))
 eR))))
 (a6 (eI (cz (AE.p (aw jy (AE.p (aw gG (AE.p (aw lF (aq 1) (AE.p aJ))) (AE.p aJ))) (AE.p aJ))))
 (Rr 2 rfl)
 eR)
 (HY 2 rfl (HY 3 rfl (jf (AE.w (de (aQ (aW 2) (aQ (aW 3) bf)))))))))))⟩)
abbrev Bj:bC:=top 7
theorem Po:cn ["net","one","other"] ["net","one","other"] (bE Bj):=cO
theorem S1{f:ai}{fd:bJ}(F:bX K "are_tied" "are_tied" Bj f fd)(T:Txt mg)(f9:bF P w K mg base aF 1 "refuse_strangers" ["names","asked"] (aG fV)):bH P w K mg base aF 2 f fd ["net","one","other"] (aG pP):=
 f6 (Mo []) F Po (λcdv A outer s H E hr nd hu be=>by
  exact⟨_,(aY (eG (pC f9 hr (au (pX (pv 0) aI) (au (c7 (au (pv 1) (aV 2))) bj))))
 (a5 (cg (zZ (jb (gf be) (fF (au (pv 1) (aV 2))) (pX (pv 0) aI) rfl) (rZ (jb (gf be) (fF (au (pv 2) (aV 1))) (pX (pv 0) aI) rfl)))))),
  (a6 (j6 (AE.p (c9 (aD (AE.w (aw bA (aq 0) (AE.p aJ))) (aD (AW.nv (AE.w (de (aQ (aW 1) (aQ (aW 2) bf))))) bM)))))
 (fc (AE.w (BZ (AE.p (aw gp (AE.p (fP (aQ (aW 1) (aQ (aW 2) bf)))) (AE.p (aw bA (aq 0) (AE.p aJ))))) (aw gp (AE.p (fP (aQ (aW 2) (aQ (aW 1) bf)))) (AE.p (aw bA (aq 0) (AE.p aJ))))))))⟩)
abbrev A8:bC:=top 17
theorem Ot:cn ["net","neighbours","name"] ["net"] (bE A8):=cO
theorem QX{f:ai}{fd:bJ}(F:bX K "neighbours_in" "neighbours_in" A8 f fd)(T:Txt mg)(Db:bF P w K mg base aF 2 "are_tied" ["net","one","other"] (aG pP)):bH P w K mg base aF 3 f fd ["net"] (bW oW):=
 okN (Mo [1]) F Ot (λcdv A outer s H E hr nd hu be=>by
  exact⟨_,(aY (pS 1 Aa)
 (aY (fj eV rfl (dI (pX (pv 0) aI)) (dC (i:=2) nd rfl (fO rfl))
 (a5 (q9 hu (pv 1) (pv 2) (gc (N':=["net","name","near"]) (ρ:=[ab 0,ab 2,ae]) rfl (dU.of rfl (by kernel_rfl)) (dI (pX (pv 0) aI)) (λ_ _ _ _ _=>(dC (i:=2) (by show(["net","name","near"]:List Str).Nodup;decide +kernel) rfl (cV rfl))) (fR rfl) (λ_ _ _ _ _=>(j4 (mT (pC Db hr (au (pv 0) (au (pv 1) (aV 2))))))) (λ_ _ _ _ _=>(pv 2))) rfl)))
 (a5 (cg (pv 1))))),
  (a6 (tu 1 rfl Az)
 (a6 (fm (K:=K) (tg:=(.n 2)) (ja (aw bA (aq 0) (AE.p aJ))) (by decide)
 (rD 1 rfl (aW 2) (AE.nv (eX (K:=K) (tg:=(.n 2)) (gX (AE.p (aw bA (aq 0) (AE.p aJ)))) (by decide) (jc (AE.p (c9 (aD (aP 0) (aD (aP 1) (aD (aP 2) bM)))))) (aW 2)))))
 (nQ 1 rfl)))⟩)
abbrev zC:bC:=top 18
theorem Gp:cn ["neighbours","begun","other","roads","name"] ["neighbours","begun","other"] (bE zC):=cO
theorem Jj{f:ai}{fd:bJ}(F:bX K "roads_begun" "roads_begun" zC f fd)(T:Txt mg)  (self:∀n,bH P w K mg base aF (n+1) f fd ["neighbours","begun","other"] (bW (lc n))->bF P w K mg base aF (n+1) "roads_begun" ["neighbours","begun","other"] (bW (lc n))):∀n,bH P w K mg base aF (n+1) f fd ["neighbours","begun","other"] (bW (lc n))
 |0=>QO
 |n+1=>F.ok Gp (λvs H Q E h=>wU h) (λcdv A outer s H vs Q E hr h=>by
  have qz:∀m:Nat,m=n->bF P w K mg base aF (m+1) "roads_begun" ["neighbours","begun","other"] (bW (lc m)):=λm e=>by subst e;exact self m (Jj F T  self m)
  have qz:=λm:Nat=>(qz n rfl:bF P w K mg base aF (n+1) "roads_begun" ["neighbours","begun","other"] (bW (lc n)));have nd:=Gp.nd;have hu:=qH hr;have be:=hr.units;have Dd:=hr.mono (show(n+1)<=_ by omega);exact⟨_,(aY (dY (cA (jJ be) (pX (pv 1) (vX xL aI)) (pv 2) (eQ _))
 (a5 (cg (c7 (aV 1))))
 d9)
 (aY (pS 3 (c7 bj))
 (aY (fj eV rfl (dI (z9 hu (pv 0) (pX (pv 1) (vX xL aI)) (λ_ _=>rfl))) (pG 4)
 (a5 (dY (cA (iZ be) (pv 4) (pv 1) rfl)
 (a5 (eG (h6 hG CL CM zX (pv 3) (au (xh (qz n) Dd rfl wE (au (pv 0) (au (bg dj (pv 1) (c7 (aV 4))) (aV 2)))) bj))))
 d9)))
 (a5 (cg (pv 3)))))),
  _root_.A.runN (N:=["neighbours","begun","other","roads","name"]) (M:=Mo [3]) (a6 (eI (cz (AE.p (aw jy (AE.p (aw bA (aq 1) (AE.p (wz xK (AE.p aJ))))) (aq 2))))
 (jf (AE.w (de (aQ (aW 1) bf))))
 eR)
 (a6 (jK 3 rfl (de bf))
 (a6 (fm (K:=K) (tg:=(.n 4)) (ja (Br 0 (aw bA (aq 1) (AE.p (wz xK (AE.p aJ)))))) (by decide)
 (eI (cz (AE.p (aw i8 (aq 4) (aq 1))))
 (BX 3 rfl (AE.nv (fo (aD (Tn 0 rfl) (aD (AE.w (aw dh (aq 1) (AE.np (de (aQ (aW 4) bf))))) (aD (aP 2) bM))))))
 eR))
 (nQ 3 rfl)))) (by decide) h⟩)
abbrev zc:bC:=top 15
theorem RR:cn ["net","one","other"] ["net","one","other"] (bE zc):=cO
theorem QK{f:ai}{fd:bJ}(F:bX K "all_roads" "all_roads" zc f fd)(T:Txt mg)(kP:bF P w K mg base aF 2 "refuse_wrong_asks" ["names","asked"] (aG kz))(De:bF P w K mg base aF 3 "neighbours_in" ["net"] (bW oW))(qz:∀n,bF P w K mg base aF (n+1) "roads_begun" ["neighbours","begun","other"] (bW (lc n))):bH P w K mg base aF 10 f fd ["net","one","other"] (bW q8):=
 okN (Mo []) F RR (λcdv A outer s H E hr nd hu be=>by
  have Dd:=hr.mono (show(8+1)<=_ by decide);exact⟨_,(aY (eG (pC kP hr (au (pX (pv 0) aI) (au (c7 (au (pv 1) (aV 2))) bj))))
 (a5 (cg (xh (qz 8) Dd rfl wE (au (pC De hr (aV 0)) (au (c7 (aV 1)) (aV 2))))))),
  (a6 (j6 (AE.p (c9 (aD (AE.w (aw bA (aq 0) (AE.p aJ))) (aD (AW.nv (AE.w (de (aQ (aW 1) (aQ (aW 2) bf))))) bM)))))
 (jf (AE.w (fo (aD (AW.nv (AJ (aD (aP 0) bM))) (aD (AW.nv (AE.w (de (aQ (aW 1) bf)))) (aD (aP 2) bM)))))))⟩)
abbrev zI:bC:=top 16
theorem Qe:cn ["net","road","meetings","before","name","behind"] ["net","road"] (bE zI):=cO
theorem Sy{f:ai}{fd:bJ}(F:bX K "meetings_of" "meetings_of" zI f fd)(T:Txt mg)(f9:bF P w K mg base aF 1 "refuse_strangers" ["names","asked"] (aG fV)):bH P w K mg base aF 2 f fd ["net","road"] (bW pH):=
 okN (Mo [2]) F Qe (λcdv A outer s H E hr nd hu be=>by
  exact⟨_,(aY (eG (pC f9 hr (au (pX (pv 0) aI) (aV 1))))
 (aY (pS 2 (c7 bj))
 (aY (fj eV rfl (Zp.Ow rfl T.TQ (pv 1) (mP nY (pv 1) (md aI) nJ) (mP nY (pv 1) (md aI) nJ)) (kr rfl (eE (pG 3) (eE (pG 4) (eE (pG 5) jB))))
 (a5 (dY (PW.pt (pw_and (cA (gf be) (fF (au (pv 3) (aV 4))) (pX (pv 0) aI) rfl) (pw_and1 (cA (gf be) (fF (au (pv 5) (aV 4))) (pX (pv 0) aI) rfl))))
 (a5 (eG (h6 hG mz mB lO (pv 2) (aV 4))))
 d9)))
 (a5 (cg (pv 2)))))),
  (a6 (j6 (AE.p (c9 (aD (AE.w (aw bA (aq 0) (AE.p aJ))) (aD (aP 1) bM)))))
 (a6 (jK 2 rfl (de bf))
 (a6 (fm (K:=K) (tg:=(.t [3,4,5])) (Zp.Nv (aW 1) (mK nH (aq 1) (lG (AE.p aJ)) nW) (mK nH (aq 1) (lG (AE.p aJ)) nW)) (by decide)
 (eI (lR (cz (AE.p (aw gp (AE.p (fP (aQ (aW 3) (aQ (aW 4) bf)))) (AE.p (aw bA (aq 0) (AE.p aJ)))))) (cz (AE.p (aw gp (AE.p (fP (aQ (aW 5) (aQ (aW 4) bf)))) (AE.p (aw bA (aq 0) (AE.p aJ)))))))
 (m9 2 rfl (aW 4))
 eR))
 (nQ 2 rfl))))⟩)
abbrev Ad:bC:=top 40
theorem OV:cn ["net","road","hidden","uppers","meetings"] ["net","road","hidden","uppers"] (bE Ad):=cO
theorem Sb{f:ai}{fd:bJ}(F:bX K "bears_join" "bears_join" Ad f fd)(T:Txt mg)(Df:bF P w K mg base aF 2 "meetings_of" ["net","road"] (bW pH)):bH P w K mg base aF 3 f fd ["net","road","hidden","uppers"] (aG sw):=
 f6 (Mo []) F OV (λcdv A outer s H E hr nd hu be=>by
  exact⟨_,(aY (jF (i:=4) nd rfl (fO rfl) (pC Df hr (au (pv 0) (aV 1))))
 (a5 (cg (gH (Tx rfl) rfl T.AL boot_all (au (gc (N':=["meetings","uppers","hidden","name"]) (ρ:=[ab 4,ab 3,ab 2,ae]) rfl (dU.of rfl (by kernel_rfl)) (dI (mP nY (pv 1) (md aI) (md (vX xL aI)))) (λ_ _ _ _ _=>(dC (i:=3) (by show(["meetings","uppers","hidden","name"]:List Str).Nodup;decide +kernel) rfl (cV rfl))) (fR rfl) (λ_ _ _ _ _=>jL) (λ_ _ _ _ _=>(vj (cA (gf be) (pv 3) (pv 0) rfl) (jb (gf be) (pv 3) (pv 1) rfl) (jb (gf be) (pv 3) (pv 2) rfl)))) bj))))),
  (a6 (dr 4 rfl (AE.nv (fo (aD (aP 0) (aD (aP 1) bM)))))
 (fc (AE.w (dO AL (aQ (AE.np (eX (K:=K) (tg:=(.n 3)) (gX (AE.p (mK nH (aq 1) (lG (AE.p aJ)) (lG (AE.p (wz xK (AE.p aJ))))))) (by decide) jC (uT (cz (AE.p (aw gp (aq 3) (aq 0)))) (aw gp (aq 3) (aq 1)) (aw gp (aq 3) (aq 2))))) bf)))))⟩)
abbrev zv:bC:=top 34
theorem Gx:cn ["net","hidden","held","one","other","names","uppers","roads"] ["net","hidden","held","one","other"] (bE zv):=cO
theorem RV{f:ai}{fd:bJ}(F:bX K "join_paper" "join_paper" zv f fd)(T:Txt mg)(kP:bF P w K mg base aF 2 "refuse_wrong_asks" ["names","asked"] (aG kz))(Dg:bF P w K mg base aF 10 "all_roads" ["net","one","other"] (bW q8))(sS:bF P w K mg base aF 3 "names_left" ["net","hidden","held"] (aG pO))(sT:bF P w K mg base aF 12 "are_joined" ["net","names","held","one","other"] (aG kA))(sR:bF P w K mg base aF 4 "list_between" ["net","names","held","one","other"] (bW lP))(nG:bF P w K mg base aF 3 "names_over" ["net","some"] (bW lL))(Dh:bF P w K mg base aF 3 "bears_join" ["net","road","hidden","uppers"] (aG sw)):bH P w K mg base aF 13 f fd ["net","hidden","held","one","other"] (uj uS):=
 F.ok Gx (λvs H Q E h=>RZ h) (λcdv A outer s H vs Q E hr h=>by
  have nd:=Gx.nd;have hu:=qH hr;have be:=hr.units;exact⟨_,(aY (pS 5 (pC sS hr (au (pv 0) (au (pv 1) (aV 2)))))
 (aY (eG (pC kP hr (au (pv 5) (au (c7 (au (pv 3) (aV 4))) bj))))
 (aY (dY (mT (pC sT hr (au (pv 0) (au (pv 5) (au (pv 2) (au (pv 3) (aV 4)))))))
 (aY (jF (i:=6) nd rfl (fO rfl) (pC nG hr (au (pv 0) (au (bg dj (c7 (au (pv 3) (aV 4))) (hX kT rfl T.eW j2 (aV 2))) bj))))
 (aY (t7 (i:=7) (N':=["net","hidden","uppers","road"]) (ρ:=[ab 0,ab 1,ab 6,ae]) rfl nd rfl (cV rfl) (dU.of rfl (by kernel_rfl)) (dI (pC Dg hr (au (pv 0) (au (pv 3) (aV 4))))) (λ_ _ _ _ _=>(dC (i:=3) (by show(["net","hidden","uppers","road"]:List Str).Nodup;decide +kernel) rfl (cV rfl))) (fR rfl) (λ_ _ _ _ _=>(j4 (mT (pC Dh hr (au (pv 0) (au (pv 3) (au (pv 1) (aV 2)))))))) (λ_ _ _ _ _=>(pv 3)))
 (a5 (cg (fF (au qc (au (pX (pv 7) aI) bj)))))))
 d9)
 (a5 (cg (fF (au qc (au (pC sR hr (au (pv 0) (au (pv 5) (au (pv 2) (au (pv 3) (aV 4)))))) bj)))))))),
  _root_.A.P5 (N:=["net","hidden","held","one","other","names","uppers","roads"]) (M:=Mo []) (a6 (dr 5 rfl (c9 (aD (aP 0) (aD (aP 1) (aD (aP 2) bM)))))
 (a6 (j6 (AE.p (c9 (aD (aP 5) (aD (AW.nv (AE.w (de (aQ (aW 3) (aQ (aW 4) bf))))) bM)))))
 (a6 (eI (jc (AE.p (c9 (aD (aP 0) (aD (aP 5) (aD (aP 2) (aD (aP 3) (aD (aP 4) bM))))))))
 (a6 (dr 6 rfl (AE.nv (fo (aD (aP 0) (aD (AE.w (aw dh (AE.np (de (aQ (aW 3) (aQ (aW 4) bf)))) (AE.np (dO eW (aQ (aq 2) bf))))) bM)))))
 (a6 (dr 7 rfl (AE.nv (eX (K:=K) (tg:=(.n 3)) (gX (AE.np (fo (aD (aP 0) (aD (aP 3) (aD (aP 4) bM)))))) (by decide) (jc (AE.p (c9 (aD (aP 0) (aD (aP 3) (aD (aP 1) (aD (aP 2) bM))))))) (aW 3))))
 (Nf (aw bA (aq 7) (AE.p aJ)))))
 eR)
 (NG (fo (aD (aP 0) (aD (aP 5) (aD (aP 2) (aD (aP 3) (aD (aP 4) bM)))))))))) (by decide) h⟩)
abbrev yV:bC:=top 47
theorem Sw:cn ["_law_net_here","_law_some","_law_met","_law_turn","_law_tail","_law_head"] ["_law_net_here","_law_some"] (bE yV):=cO
theorem MX{f:ai}{fd:bJ}(F:bX K "_law_high" "_law_high" yV f fd)(T:Txt mg):bH P w K mg base aF 1 f fd ["_law_net_here","_law_some"] (bW pL):=
 okN (Mo [2]) F Sw (λcdv A outer s H E hr nd hu be=>by
  exact⟨_,(aY (pS 2 (hX kT rfl T.eW j2 (aV 1)))
 (aY (fj eV rfl (ke rfl T.j3 (au (gH lY rfl T.fT mr (au (pX (pv 0) aI) bj)) bj)) (pG 3)
 (a5 (fj eV rfl (dI (pX (pv 0) aI)) (kr rfl (eE (pG 4) (eE (pG 5) jB)))
 (a5 (dY (PW.pt (pw_and (cA (gf be) (pv 5) (pv 2) rfl) (pw_and1 (cA (iZ be) (pv 4) (pv 2) rfl))))
 (a5 (eG (h6 hG mz mB lO (pv 2) (aV 4))))
 d9)))))
 (a5 (cg (pv 2))))),
  (a6 (jK 2 rfl (dO eW (aQ (aq 1) bf)))
 (a6 (fm (K:=K) (tg:=(.n 3)) (kC (AE.p (dO fT (aQ (AE.p (aw bA (aq 0) (AE.p aJ))) bf)))) (by decide)
 (fm (K:=K) (tg:=(.t [4,5])) (ja (aw bA (aq 0) (AE.p aJ))) (by decide)
 (eI (lR (cz (AE.p (aw gp (aq 5) (aq 2)))) (cz (AE.p (aw i8 (aq 4) (aq 2)))))
 (m9 2 rfl (aW 4))
 eR)))
 (nQ 2 rfl)))⟩)
abbrev yS:bC:=top 48
theorem N6:cn ["_law_net_here","_law_one","_law_other","_law_held","_law_high_here","_law_family","_law_name","_law_met","_law_turn","_law_some"] ["_law_net_here","_law_one","_law_other","_law_held"] (bE yS):=cO
theorem RT{f:ai}{fd:bJ}(F:bX K "_law_parted" "_law_parted" yS f fd)(T:Txt mg)(sU:bF P w K mg base aF 1 "_law_high" ["_law_net_here","_law_some"] (bW pL)):bH P w K mg base aF 2 f fd ["_law_net_here","_law_one","_law_other","_law_held"] (aG rE):=
 f6 (Mo [5]) F N6 (λcdv A outer s H E hr nd hu be=>by
  exact⟨_,(aY (pS 4 (pC sU hr (au (pv 0) (au (bg dj (c7 (au (pv 1) (aV 2))) (hX kT rfl T.eW j2 (aV 3))) bj))))
 (aY (pS 5 Aa)
 (aY (fj eV rfl (dI (pv 4)) (dC (i:=6) nd rfl (fO rfl))
 (a5 (q9 hu (pv 5) (pv 6) (bg dj (c7 (aV 6)) (gc (N':=["_law_name","_law_tail","_law_head"]) (ρ:=[ab 6,ae,ae]) rfl (dU.of rfl (by kernel_rfl)) (dI (pX (pv 0) aI)) (λ_ _ _ _ _=>(kr rfl (eE (dC (i:=1) (by show(["_law_name","_law_tail","_law_head"]:List Str).Nodup;decide +kernel) rfl (cV rfl)) (eE (dC (i:=2) (by show(["_law_name","_law_tail","_law_head"]:List Str).Nodup;decide +kernel) rfl (cV rfl)) jB)))) (wj (oq rfl (oq rfl wB oB) (wc oB))) (λ_ _ _ _ _=>(j4 (cA (jJ be) (pv 2) (pv 0) (eQ _)))) (λ_ _ _ _ _=>(pv 1)))) rfl)))
 (aY (jF (i:=7) nd rfl (fO rfl) (c7 (aV 1)))
 (aY (fj eV rfl (ke rfl T.j3 (au (gH lY rfl T.fT mr (aV 4)) bj)) (pG 8)
 (a5 (fj eV rfl (dI (pv 4)) (dC (i:=6) nd rfl (fO rfl))
 (aY (t7 (i:=9) (N':=["_law_met","_law_here"]) (ρ:=[ab 7,ae]) rfl nd rfl (cV rfl) (dU.of rfl (by kernel_rfl)) (dI (z9 hu (pv 5) (pv 6) (λ_ _=>rfl))) (λ_ _ _ _ _=>(dC (i:=1) kZ rfl (cV rfl))) (fR rfl) (λ_ _ _ _ _=>(j4 (cA (gf be) (pv 1) (pv 0) rfl))) (λ_ _ _ _ _=>(pv 1)))
 (a5 (dY (cA yT (gH lY rfl T.fT mr (aV 9)) aI (eQ _))
 (a5 (jF (i:=7) nd rfl (fO rfl) (bg dj (pv 7) (gc (N':=["_law_met","_law_held","_law_here"]) (ρ:=[ab 7,ab 3,ae]) rfl (dU.of rfl (by kernel_rfl)) (dI (z9 hu (pv 5) (pv 6) (λ_ _=>rfl))) (λ_ _ _ _ _=>(dC (i:=2) (by show(["_law_met","_law_held","_law_here"]:List Str).Nodup;decide +kernel) rfl (cV rfl))) (fR rfl) (λ_ _ _ _ _=>(j4 (PW.pt (pw_and (cA (iZ be) (pv 2) (pv 0) rfl) (pw_and1 (cA (iZ be) (pv 2) (pv 1) rfl)))))) (λ_ _ _ _ _=>(pv 2))))))
 d9))))))
 (a5 (cg (jb (iZ be) (pv 2) (pv 7) rfl)))))))),
  (a6 (dr 4 rfl (AE.nv (fo (aD (aP 0) (aD (AE.w (aw dh (AE.np (de (aQ (aW 1) (aQ (aW 2) bf)))) (AE.np (dO eW (aQ (aq 3) bf))))) bM)))))
 (a6 (tu 5 rfl Az)
 (a6 (fm (K:=K) (tg:=(.n 6)) (ja (aW 4)) (by decide)
 (rD 5 rfl (aW 6) (aw dh (AE.np (de (aQ (aW 6) bf))) (AE.np (eX (K:=K) (tg:=(.t [1,2])) (gX (AE.p (aw bA (aq 0) (AE.p aJ)))) (by decide) (cz (AE.p (aw jy (aq 2) (aq 0)))) (aW 1))))))
 (a6 (dr 7 rfl (AE.nv (de (aQ (aW 1) bf))))
 (a6 (fm (K:=K) (tg:=(.n 8)) (kC (AE.p (dO fT (aQ (aq 4) bf)))) (by decide)
 (fm (K:=K) (tg:=(.n 6)) (ja (aW 4)) (by decide)
 (a6 (dr 9 rfl (AE.nv (eX (K:=K) (tg:=(.n 1)) (gX (AE.p (Br 5 (aW 6)))) (by decide) (cz (AE.p (aw gp (aq 1) (aq 0)))) (aW 1))))
 (eI (cz (AE.p (aw zH (AE.p (dO fT (aQ (aq 9) bf))) (AE.p aJ))))
 (dr 7 rfl (aw dh (aq 7) (AE.np (eX (K:=K) (tg:=(.n 2)) (gX (AE.p (Br 5 (aW 6)))) (by decide) (lR (cz (AE.p (aw i8 (aq 2) (aq 0)))) (cz (AE.p (aw i8 (aq 2) (aq 1))))) (aW 2)))))
 eR))))
 (fc (AE.w (aw i8 (aq 2) (aq 7)))))))))⟩)
abbrev zu:bC:=top 46
theorem L3:cn ["_law_net_here","_law_one","_law_other"] ["_law_net_here","_law_one","_law_other"] (bE zu):=cO
theorem SU{f:ai}{fd:bJ}(F:bX K "_law_tied" "_law_tied" zu f fd)(T:Txt mg):bH P w K mg base aF 1 f fd ["_law_net_here","_law_one","_law_other"] (aG pi):=
 f6 (Mo []) F L3 (λcdv A outer s H E hr nd hu be=>by
  exact⟨_,(a5 (cg (zZ (jb (gf be) (fF (au (pv 1) (aV 2))) (pX (pv 0) aI) rfl) (rZ (jb (gf be) (fF (au (pv 2) (aV 1))) (pX (pv 0) aI) rfl))))),
  (fc (AE.w (BZ (AE.p (aw gp (AE.p (fP (aQ (aW 1) (aQ (aW 2) bf)))) (AE.p (aw bA (aq 0) (AE.p aJ))))) (aw gp (AE.p (fP (aQ (aW 2) (aQ (aW 1) bf)))) (AE.p (aw bA (aq 0) (AE.p aJ)))))))⟩)
abbrev Ba:bC:=top 50
theorem Nm:cn ["_law_net_here","_law_road_here","_law_one","_law_other","_law_hidden","_law_high_here","_law_k"] ["_law_net_here","_law_road_here","_law_one","_law_other","_law_hidden","_law_high_here"] (bE Ba):=cO
theorem NF{f:ai}{fd:bJ}(F:bX K "_law_road" "_law_road" Ba f fd)(T:Txt mg)(Di:bF P w K mg base aF 1 "_law_tied" ["_law_net_here","_law_one","_law_other"] (aG pi)):bH P w K mg base aF 2 f fd ["_law_net_here","_law_road_here","_law_one","_law_other","_law_hidden","_law_high_here"] (aG sg):=
 f6 (Mo []) F Nm (λcdv A outer s H E hr nd hu be=>by
  exact⟨_,(aY (dY (PW.pt (pw_or (uA (mT (gH wN rfl T.yJ yy (au (pv 1) (au (wH rfl T.eW j2) bj))))) (pw_or (cA tT (gH lY rfl T.fT mr (aV 1)) aI (eQ _)) (pw_or (cA (uE be) (pX (pv 1) aI) (pv 2) (eQ _)) (pw_or1 (cA (uE be) (pX (pv 1) (vX xL aI)) (pv 3) (eQ _)))))))
 (a5 (cg je))
 d9)
 (aY (fj eV rfl (ke rfl T.j3 (au (gH lY rfl T.fT mr (aV 1)) bj)) (pG 6)
 (aY (dY (PW.pt (pw_or (uA (mT (gH wN rfl T.yJ yy (au (pX (pv 1) (pv 6)) (au (wH rfl T.TN boot_str) bj))))) (pw_or (cA (iZ be) (pX (pv 1) (pv 6)) (pX (pv 0) aI) rfl) (pw_or1 (cA (gf be) (pX (pv 1) (pv 6)) (mP nY (pv 1) nJ (md (pv 6))) rfl)))))
 (a5 (cg je))
 d9)
 (a5 (dY (PW.pt (pw_and (cA yT (pv 6) aI (eQ _)) (pw_and1 (uA (mT (pC Di hr (au (pv 0) (au (pX (pv 1) (bg tJ (pv 6) aI)) (au (pX (pv 1) (pv 6)) bj)))))))))
 (a5 (cg je))
 d9))))
 (aY (fj eV rfl (Md rfl T.j3 (au aI (au (bg tJ (gH lY rfl T.fT mr (aV 1)) aI) bj))) (pG 6)
 (a5 (dY (PW.pt (pw_and (cA (gf be) (fF (au (pX (pv 1) (bg tJ (pv 6) aI)) (au (pX (pv 1) (pv 6)) bj))) (pX (pv 0) aI) rfl) (pw_and1 (cA (gf be) (fF (au (pX (pv 1) (bg dj (pv 6) aI)) (au (pX (pv 1) (pv 6)) bj))) (pX (pv 0) aI) rfl))))
 (a5 (dY (cA (iZ be) (pX (pv 1) (pv 6)) (pv 5) rfl)
 (a5 (cg je))
 d9))
 (a5 (dY (cA (iZ be) (pX (pv 1) (pv 6)) (pv 4) rfl)
 (a5 (cg je))
 d9)))))
 (a5 (cg je))))),
  (a6 (eI (qd (ua (jc (AE.p (vU (ty_list K) (aq 1))))) (qd (cz (AE.p (aw ug (AE.p (dO fT (aQ (aq 1) bf))) (AE.p aJ)))) (qd (cz (AE.p (aw tV (AE.p (aw bA (aq 1) (AE.p aJ))) (aq 2)))) (cz (AE.p (aw tV (AE.p (aw bA (aq 1) (AE.p (wz xK (AE.p aJ))))) (aq 3)))))))
 (fc (AE.w i5))
 eR)
 (a6 (fm (K:=K) (tg:=(.n 6)) (kC (AE.p (dO fT (aQ (aq 1) bf)))) (by decide)
 (a6 (eI (qd (ua (jc (AE.p (vU (ty_str K) (AE.p (aw bA (aq 1) (aq 6))))))) (qd (cz (AE.p (aw i8 (AE.p (aw bA (aq 1) (aq 6))) (AE.p (aw bA (aq 0) (AE.p aJ)))))) (cz (AE.p (aw gp (AE.p (aw bA (aq 1) (aq 6))) (AE.p (mK nH (aq 1) nW (lG (aq 6)))))))))
 (fc (AE.w i5))
 eR)
 (eI (lR (cz (AE.p (aw zH (aq 6) (AE.p aJ)))) (ua (jc (AE.p (c9 (aD (aP 0) (aD (AE.w (aw bA (aq 1) (AE.p (aw uI (aq 6) (AE.p aJ))))) (aD (AE.w (aw bA (aq 1) (aq 6))) bM))))))))
 (fc (AE.w i5))
 eR)))
 (a6 (fm (K:=K) (tg:=(.n 6)) (R8 (AE.p aJ) (AE.p (aw uI (AE.p (dO fT (aQ (aq 1) bf))) (AE.p aJ)))) (by decide)
 (eI (lR (cz (AE.p (aw gp (AE.p (fP (aQ (aw bA (aq 1) (AE.p (aw uI (aq 6) (AE.p aJ)))) (aQ (aw bA (aq 1) (aq 6)) bf)))) (AE.p (aw bA (aq 0) (AE.p aJ)))))) (cz (AE.p (aw gp (AE.p (fP (aQ (aw bA (aq 1) (AE.p (aw dh (aq 6) (AE.p aJ)))) (aQ (aw bA (aq 1) (aq 6)) bf)))) (AE.p (aw bA (aq 0) (AE.p aJ)))))))
 (eI (cz (AE.p (aw i8 (AE.p (aw bA (aq 1) (aq 6))) (aq 5))))
 (fc (AE.w i5))
 eR)
 (eI (cz (AE.p (aw i8 (AE.p (aw bA (aq 1) (aq 6))) (aq 4))))
 (fc (AE.w i5))
 eR)))
 (fc (AE.w i5)))))⟩)
abbrev zl:bC:=top 51
theorem OO:cn ["_law_net_here","_law_hidden","_law_held","_law_pair","_law_joined","_law_one","_law_other","_law_high_here","_law_handed","_law_found","_law_good","_law_gone","_law_due"] ["_law_net_here","_law_hidden","_law_held","_law_pair","_law_joined"] (bE zl):=cO
theorem Nw{f:ai}{fd:bJ}(F:bX K "_law_paper" "_law_paper" zl f fd)(T:Txt mg)(Dj:bF P w K mg base aF 13 "join_paper" ["net","hidden","held","one","other"] (uj uS))(sU:bF P w K mg base aF 1 "_law_high" ["_law_net_here","_law_some"] (bW pL))(Dk:bF P w K mg base aF 2 "_law_parted" ["_law_net_here","_law_one","_law_other","_law_held"] (aG rE))(Dl:bF P w K mg base aF 2 "_law_road" ["_law_net_here","_law_road_here","_law_one","_law_other","_law_hidden","_law_high_here"] (aG sg)):bH P w K mg base aF 14 f fd ["_law_net_here","_law_hidden","_law_held","_law_pair","_law_joined"] (aG nr):=
 f6 (Mo []) F OO (λcdv A outer s H E hr nd hu be=>by
  exact⟨_,(aY (Bc (pv 3) (kr rfl (eE (pG 5) (eE (pG 6) jB))))
 (aY (jF (i:=7) nd rfl (fO rfl) (pC sU hr (au (pv 0) (au (bg dj (c7 (au (pv 5) (aV 6))) (pv 2)) bj))))
 (aY (pS 8 (c7 (au (hX kT rfl T.eW j2 (aV 1)) (au (hX kT rfl T.eW j2 (aV 2)) bj))))
 (aY (pS 9 (pC Dj hr (au (pv 0) (au (pX (pv 8) aI) (au (pX (pv 8) aI) (au (pv 5) (aV 6)))))))
 (aY (dY (PW.pt (pw_or (uA (mT (gH wN rfl T.yJ yy (au (pv 9) (au (wH rfl T.i6 qw) bj))))) (pw_or (cA (uE be) (gH lY rfl T.fT mr (aV 9)) aI (eQ _)) (pw_or1 (cA (uE be) (pv 8) (c7 (au (pv 1) (aV 2))) (eQ _))))))
 (a5 (cg je))
 d9)
 (aY (dY (pN (pv 4) (by intro _;rfl))
 (a5 (pS 10 (wr (jb (jJ be) (pX (pv 9) aI) qc (eQ _)) (rZ (pC Dl hr (au (pv 0) (au (pX (pv 9) aI) (au (pv 5) (au (pv 6) (au (pv 1) (aV 7)))))))))))
 (aY (jF (i:=11) nd rfl (fO rfl) (bg dj (bg dj (pv 1) (pv 2)) (c7 (au (pv 5) (aV 6)))))
 (aY (t7 (i:=12) (N':=["_law_high_here","_law_gone","_law_name"]) (ρ:=[ab 7,ab 11,ae]) rfl nd rfl (cV rfl) (dU.of rfl (by kernel_rfl)) (dI (pX (pv 0) aI)) (λ_ _ _ _ _=>(dC (i:=2) (by show(["_law_high_here","_law_gone","_law_name"]:List Str).Nodup;decide +kernel) rfl (cV rfl))) (fR rfl) (λ_ _ _ _ _=>(j4 (PW.pt (pw_and (cA (gf be) (pv 2) (pv 0) rfl) (pw_and1 (cA (iZ be) (pv 2) (pv 1) rfl)))))) (λ_ _ _ _ _=>(pv 2)))
 (aY (pS 10 (wr (jb (jJ be) (pX (pv 9) aI) qc (eQ _)) (wr (gH wN rfl T.yJ yy (au (pX (pv 9) aI) (au (wH rfl T.eW j2) bj))) (rZ (jb (jJ be) (pX (pv 9) aI) (pv 12) (eQ _))))))
 (a5 (pS 10 (wr (pv 10) (rZ (pC Dk hr (au (pv 0) (au (pv 5) (au (pv 6) (au (bg dj (pv 12) (pv 2)) bj)))))))))))))
 (aY (dY (pN (pv 10) (by intro _;rfl))
 (a5 (eG (Bu hG PySem.F.slot_list_clear PySem.F.type_list_clear Qo (pX (pv 9) aI))))
 d9)
 (a5 (cg (pv 10)))))))))),
  (a6 (F6 (K:=K) (.t [5,6]) (by decide) (aW 3))
 (a6 (dr 7 rfl (AE.nv (fo (aD (aP 0) (aD (AE.w (aw dh (AE.np (de (aQ (aW 5) (aQ (aW 6) bf)))) (aq 2))) bM)))))
 (Qz (K:=K) [0,5,6] 8 9 10 (by decide) (by decide) rfl rfl rfl (λ_=>rfl) (LP (dO eW (aQ (aq 1) bf)) (dO eW (aQ (aq 2) bf))) (aD (aP 0) (aD (AE.w (aw bA (aq 8) (AE.p aJ))) (aD (AE.w (aw bA (aq 8) (AE.p aJ))) (aD (aP 5) (aD (aP 6) bM)))))
 (qd (ua (jc (AE.p (vU (ty_tuple K) (aq 9))))) (qd (cz (AE.p (aw tV (AE.p (dO fT (aQ (aq 9) bf))) (AE.p aJ)))) (cz (AE.p (aw tV (aq 8) (AE.np (de (aQ (aW 1) (aQ (aW 2) bf))))))))) (fc (AE.w i5))
 (LW (nX (aq 4))
 (tP 10 (by decide) rfl (vV (AE.p (aw jy (AE.p (aw bA (aq 9) (AE.p aJ))) (AE.p pM))) (c9 (aD (aP 0) (aD (AE.w (aw bA (aq 9) (AE.p aJ))) (aD (aP 5) (aD (aP 6) (aD (aP 1) (aD (aP 7) bM)))))))))
 (Aj (tP 11 (by decide) rfl (aw dh (AE.p (aw dh (aq 1) (aq 2))) (AE.np (de (aQ (aW 5) (aQ (aW 6) bf))))))
 (Aj (tP 12 (by decide) rfl (AE.nv (eX (K:=K) (tg:=(.n 2)) (gX (AE.p (aw bA (aq 0) (AE.p aJ)))) (by decide) (lR (cz (AE.p (aw gp (aq 2) (aq 0)))) (cz (AE.p (aw i8 (aq 2) (aq 1))))) (aW 2))))
 (Aj (tP 10 (by decide) rfl (vV (AE.p (aw jy (AE.p (aw bA (aq 9) (AE.p aJ))) (AE.p pM))) (vV (AE.p (vU (ty_list K) (AE.p (aw bA (aq 9) (AE.p aJ))))) (aw jy (AE.p (aw bA (aq 9) (AE.p aJ))) (aq 12)))))
 (tP 10 (by decide) rfl (vV (aq 10) (c9 (aD (aP 0) (aD (aP 5) (aD (aP 6) (aD (AE.w (aw dh (aq 12) (aq 2))) bM))))))))))) (nX (aq 10)))))⟩)
abbrev Bg:bC:=top 52
theorem MG:cn ["_law_script","_law_net_here","_law_hidden","_law_held","_law_veil","_law_pairs","_law_one","_law_other","_law_joined"] ["_law_script"] (bE Bg):=cO
theorem O4{f:ai}{fd:bJ}(F:bX K "law" "law" Bg f fd)(T:Txt mg)(Do:bF P w K mg base aF 13 "veil_of" ["net","hidden","held"] (aG tH))(mG:bF P w K mg base aF 1 "_law_cell" ["_law_script","_law_k"] (aG ii))(Dp:bF P w K mg base aF 2 "_law_net" ["_law_script","_law_most"] (aG qY))(Dq:bF P w K mg base aF 1 "_law_split" ["_law_net_here","_law_cell_here"] (bW qR))(Dr:bF P w K mg base aF 14 "_law_paper" ["_law_net_here","_law_hidden","_law_held","_law_pair","_law_joined"] (aG nr)):bH P w K mg base aF 15 f fd ["_law_script"] (aG At):=
 f6 (Mo []) F MG (λcdv A outer s H E hr nd hu be=>by
  exact⟨_,(aY (pS 1 (pC Dp hr (au (pv 0) (au aI bj))))
 (aY (Bc (pC Dq hr (au (pv 1) (au (pC mG hr (au (pv 0) (au aI bj))) bj))) (Tl rfl (eE (pG 2) (eE (pG 3) jB))))
 (aY (pS 4 (pC Do hr (au (pv 1) (au (pv 2) (aV 3)))))
 (aY (t7 (i:=5) (N':=["_law_join"]) (ρ:=[ae]) rfl nd rfl (cV rfl) (dU.of rfl (by kernel_rfl)) (dI (pX (pv 4) aI)) (λ_ _ _ _ _=>(dC (i:=0) uy rfl (cV rfl))) (fR rfl) (λ_ _ _ _ _=>jL) (λ_ _ _ _ _=>(fF (au (pX (pv 0) aI) (au (pX (pv 0) aI) bj)))))
 (aY (fj eV rfl (dI (pX (pv 4) aI)) (pG 6)
 (a5 (fj eV rfl (dI (pX (pv 4) aI)) (pG 7)
 (a5 (dY (cA (uE be) (pv 6) (pv 7) (eQ _))
 (aY (pS 8 (zZ (jb (gf be) (fF (au (pv 6) (aV 7))) (pv 5) rfl) (rZ (jb (gf be) (fF (au (pv 7) (aV 6))) (pv 5) rfl))))
 (a5 (dY (uA (mT (pC Dr hr (au (pv 1) (au (pv 2) (au (pv 3) (au (fF (au (pv 6) (aV 7))) (aV 8))))))))
 (a5 (cg je))
 d9)))
 d9)))))
 (a5 (cg je))))))),
  (a6 (dr 1 rfl (c9 (aD (aP 0) (aD (AE.w aJ) bM))))
 (a6 (PP [2,3] (by decide) (AE.nv (fo (aD (aP 1) (aD (AE.w (c9 (aD (aP 0) (aD (AE.w aJ) bM)))) bM)))))
 (a6 (dr 4 rfl (c9 (aD (aP 1) (aD (aP 2) (aD (aP 3) bM)))))
 (a6 (dr 5 rfl (AE.nv (eX (K:=K) (tg:=(.n 0)) (gX (AE.p (aw bA (aq 4) (AE.p aJ)))) (by decide) jC (fP (aQ (aw bA (aq 0) (AE.p aJ)) (aQ (aw bA (aq 0) (AE.p aJ)) bf))))))
 (a6 (fm (K:=K) (tg:=(.n 6)) (ja (aw bA (aq 4) (AE.p aJ))) (by decide)
 (fm (K:=K) (tg:=(.n 7)) (ja (aw bA (aq 4) (AE.p aJ))) (by decide)
 (eI (cz (AE.p (aw tV (aq 6) (aq 7))))
 (a6 (dr 8 rfl (BZ (AE.p (aw gp (AE.p (fP (aQ (aW 6) (aQ (aW 7) bf)))) (aq 5))) (aw gp (AE.p (fP (aQ (aW 7) (aQ (aW 6) bf)))) (aq 5))))
 (eI (ua (jc (AE.p (c9 (aD (aP 1) (aD (aP 2) (aD (aP 3) (aD (AE.w (fP (aQ (aW 6) (aQ (aW 7) bf)))) (aD (aP 8) bM)))))))))
 (fc (AE.w i5))
 eR))
 eR)))
 (fc (AE.w i5)))))))⟩)
end
end qy
namespace L2
open PySem PySem.Spec PyProof.Rows
theorem cr.S8{P:bG}{w:bi}{K:aU}{mg:Str->Option aj}{CX:ic}{k:Nat}{x p:Str}{st:bC}{sp:Sp}{fa c T:ai}(F:cr K mg x st [p])(hm:mg x=ab (.ref fa))(h:∀base,K.In base->base.Ns mainGlobals mg->BM mg base->jX base c T->∀f fd,bX K x x st f fd->bH P w K mg base CX k f fd [p] sp) :
 ∃fd:bJ,(∀(s:aB) (u:aj),nC s fd ⟨[u],[]⟩ [(p,u)])/\∀base:aZ,K.In base->base.Ns mainGlobals mg->BM mg base->jX base c T->bH P w K mg base CX k fa fd [p] sp:=by
 obtain⟨f,fd,h1,h2,h3,h5,h4⟩:=F.ex;rw[h1]at hm;cases hm;exact⟨fd,λs u=>h5 s [u] rfl,λbase kb nb b1 b2=>h base kb nb b1 b2 _ fd h4⟩
theorem Mn{P:bG}{w:bi}{K:aU}{mg:Str->Option aj}{base:aZ}{CX:ic}{lv:Nat->Nat}{x:Str}{st:bC}{ps:List Str}{sp:Nat->Sp}(F:cr K mg x st ps)
 (h:∀f fd,bX K x x st f fd->(∀n,bH P w K mg base CX (lv n) f fd ps (sp n)->bF P w K mg base CX (lv n) x ps (sp n))->∀n,bH P w K mg base CX (lv n) f fd ps (sp n)) (n:Nat):bF P w K mg base CX (lv n) x ps (sp n):=by
 obtain⟨f,fd,h1,h2,h3,_,h4⟩:=F.ex;have self:∀n,bH P w K mg base CX (lv n) f fd ps (sp n)->bF P w K mg base CX (lv n) x ps (sp n):=λn k=>⟨f,fd,h1,h2,h3,k⟩;exact self n (h f fd h4 self n)
def EI(K:aU):Bool:=K.all λp=>match p.2.cls with|.type "list" => false|_=>true
theorem PR{K:aU}(h:EI K=true){a:ai}{o:Obj}(e:K.lookup a=ab o)(c:o.cls=.type "list"):False:=by
 have hm:(a,o)∈K:=by
  clear h
  induction K with
  |nil=>cases e
  |cons p r ih=>
   obtain⟨b,x⟩:=p;simp only[Cr]at e;split at e
   ·rename_i q;cases e;rw[beq_iff_eq.mp q];exact List.Mem.head _
   ·exact List.Mem.tail _ (ih e)
 have h2:=kI.mp h _ hm;simp only[c]at h2;cases h2
end L2
namespace Mi
open PySem
@[simp] theorem m3 {α:Type} (a:α):c6 (ab a)=.ok a:=rfl
@[simp] theorem T9 {α:Type} {c:Prop} [Decidable c] (h:c) (r:Rs α):bp c r=r:=bc h
@[simp] theorem qJ (a b:Str):bR (.str a) (.str b)=decide (a=b):=by rw[bR];by_cases h:a=b<;>simp[h]
@[simp] theorem Lp (a b:Int):bR (.int a) (.int b)=decide (a=b):=by rw[bR];by_cases h:a=b<;>simp[h]
@[simp] theorem ML (x:Str):(D.str x).dep=0:=by simp[D.dep]
@[simp] theorem Ua (x:Int):(D.int x).dep=0:=by simp[D.dep]
@[simp] theorem T7 (x:Bool):(D.bl x).dep=0:=by simp[D.dep]
@[simp] theorem T6:D.non.dep=0:=by simp[D.dep]
@[simp] theorem BP (ds:List D):(D.lst ds).dep=dW ds+1:=by simp[D.dep]
@[simp] theorem Ub (ds:List D):(D.tup ds).dep=dW ds+1:=by simp[D.dep]
@[simp] theorem NC:dW []=0:=rfl
@[simp] theorem xi (d:D) (r:List D):dW (d::r)=max d.dep (dW r):=by rw[dW]
@[simp] theorem qX:∀xs:List Str,dW (xs.map D.str)=0
 |[]=>rfl
 |x::r=>by rw[cP,xi,ML,qX r];rfl
theorem zw(xs:List Str)(x:Str):((xs.map D.str).any λe=>bR e (.str x))=decide (x∈xs):=by
 induction xs with
 |nil=>rfl
 |cons y r ih=>
  rw[cP,kK,ih,qJ];by_cases h:y=x
  ·simp[h]
  ·have h2:¬ x=y:=λz=>h z.symm;simp[h,h2]
theorem lC(xs:List Str)(x:Str):bz (.str x) (.lst (xs.map D.str))=.ok (.bl (decide (x∈xs))):=by show bp _ _=_;rw[aX (by rw[qX];omega),zw]
theorem j5(xs:List Str)(x:Str):cF (.str x) (.lst (xs.map D.str))=.ok (.bl (!decide (x∈xs))):=by show bp _ _=_;rw[aX (by rw[qX];omega),zw]
theorem AQ(xs:List Str)(x:Str):cF (.str x) (.tup (xs.map D.str))=.ok (.bl (!decide (x∈xs))):=by show bp _ _=_;rw[aX (by rw[qX];omega),zw]
theorem ny(x y:Str):cy (.str x) (.str y)=.ok (.bl (decide (x=y))):=by show bp _ _=_;rw[aX (by simp),qJ]
theorem BH(x y:Str):ib (.str x) (.str y)=.ok (.bl (!decide (x=y))):=by show bp _ _=_;rw[aX (by simp),qJ]
theorem tL(x y:Int):cy (.int x) (.int y)=.ok (.bl (decide (x=y))):=by show bp _ _=_;rw[aX (by simp),Lp]
theorem uB{α:Type}(f:α->Bool)(xs:List α):ju (xs.map λx=>D.bl (f x))=ab (xs.map f):=by
 induction xs with
 |nil=>rfl
 |cons a r ih=>rw[cP,ju,ih];rfl
theorem P1(xs:List Str):m6 (xs.map D.str)=ab xs:=by
 induction xs with
 |nil=>rfl
 |cons a r ih=>rw[cP,m6,ih];rfl
theorem AB(n:Nat)(b:S)(a0:W):du 1 n b [a0]=(b ([ab a0]++cK (n-1) ae)).bind jD:=aX rfl
theorem ss(n:Nat)(b:S)(a0 a1:W):du 2 n b [a0,a1]=(b ([ab a0,ab a1]++cK (n-2) ae)).bind jD:=aX rfl
theorem rh(n:Nat)(b:S)(a0 a1 a2:W):du 3 n b [a0,a1,a2]=(b ([ab a0,ab a1,ab a2]++cK (n-3) ae)).bind jD:=aX rfl
theorem t8(n:Nat)(b:S)(a0 a1 a2 a3:W):du 4 n b [a0,a1,a2,a3]=(b ([ab a0,ab a1,ab a2,ab a3]++cK (n-4) ae)).bind jD:=aX rfl
theorem Ea(n:Nat)(b:S)(a0:W):eh 1 n b [a0]=(b ([ab a0]++cK (n-1) ae)).bind ku:=aX rfl
theorem jx(n:Nat)(b:S)(a0 a1:W):eh 2 n b [a0,a1]=(b ([ab a0,ab a1]++cK (n-2) ae)).bind ku:=aX rfl
theorem rf(n:Nat)(b:S)(a0 a1 a2:W):eh 3 n b [a0,a1,a2]=(b ([ab a0,ab a1,ab a2]++cK (n-3) ae)).bind ku:=aX rfl
theorem Iu{α:Type}(r:Rs α):bp (1<=16777216) r=r:=aX (by decide)
theorem sV(i j:Int):ba (.int i) (.int j)=.ok (.int (i+j)):=rfl
theorem Jc(i j:Str):ba (.str i) (.str j)=bp (i.length+j.length<=16777216) (.ok (.str (i++j))):=rfl
theorem oD(i j:List D):ba (.lst i) (.lst j)=bp (i.length+j.length<=16777216) (.ok (.lst (i++j))):=rfl
theorem Og(i j:Int):gF (.int i) (.int j)=.ok (.int (i-j)):=rfl
theorem tZ(i j:Int):cI (.int i) (.int j)=bp (nk i j) (.ok (.int (i*j))):=rfl
theorem div_ii(i j:Int):dP (.int i) (.int j)=bp (mO j) (.ok (.int (i/j))):=rfl
theorem rO(i j:Int):bY (.int i) (.int j)=bp (0<j) (.ok (.int (i%j))):=rfl
theorem w9(i j:Int):gt (.int i) (.int j)=.ok (.bl (decide (i<j))):=rfl
theorem Fm(i j:Int):l0 (.int i) (.int j)=.ok (.bl (decide (j<i))):=rfl
theorem As(ds:List D):d6 [.lst ds]=.ok (.int ds.length):=rfl
theorem Tz(ds:List D):d6 [.tup ds]=.ok (.int ds.length):=rfl
theorem Px(z:Str):d6 [.str z]=bp (z.length<=16777216) (.ok (.int z.length)):=rfl
theorem QI(i j:Int):jP [.int i,.int j]=.ok (.int (max i j)):=rfl
theorem Rj(i j:Int):n6 [.int i,.int j]=.ok (.int (min i j)):=rfl
theorem IQ(ds:List D):oZ [.lst ds]=(c6 (ju ds)).bind λbs=>.ok (.bl (bs.all id)):=rfl
theorem Rt(ds:List D):zY [.lst ds]=(c6 (ju ds)).bind λbs=>.ok (.bl (bs.any id)):=rfl
theorem LA(ds:List D):oj [.lst ds]=.ok (.tup ds):=rfl
theorem z7(z:Str)(lo hi:Option Int):fW (.str z) lo hi=bp (z.length<=16777216) (.ok (.str (oA z lo hi))):=rfl
theorem P9(ds:List D):wI (.lst ds)=.ok ds:=rfl
theorem OZ(ds:List D):wI (.tup ds)=.ok ds:=rfl
theorem pc(b:Bool):nS (.bl b)=.ok b:=rfl
theorem pF(b:Int):ou (.int b)=.ok b:=rfl
theorem uZ(x:D):ma (.d x)=.ok x:=rfl
theorem Sm(i:Nat)(d:D)(e:Mi.Env):(Tg.n i).put d e=.ok (e.set i (ab (.d d))):=rfl
theorem all_cons(i:Nat)(is:List Nat)(d:D)(ds:List D)(e:Mi.Env):nV (i::is) (d::ds) e=nV is ds (e.set i (ab (.d d))):=rfl
theorem QV(w:W):jD (.rt w)=.ok w:=rfl
theorem Pf(e:Mi.Env):jD (.nx e)=.ok (.d .non):=rfl
theorem MU(w:W):ku (.rt w)=.ok w:=rfl
theorem aC{f:D->D->Rs D}{a b:E}{e:Mi.Env}{x y:D}{z:Rs D}(ha:a e=.ok x)(hb:b e=.ok y)(h:f x y=z):m2 f a b e=z:=by unfold m2;rw[ha,aH,hb,aH,h]
theorem aN{s t:S}{e e':Mi.Env}(h:s e=.ok (.nx e')):aE s t e=t e':=by unfold aE;rw[h];rfl
theorem pz{s t:S}{e:Mi.Env}{w:W}(h:s e=.ok (.rt w)):aE s t e=.ok (.rt w):=by unfold aE;rw[h];rfl
theorem bL{i:Nat}{a:E}{e:Mi.Env}{d:D}(h:a e=.ok d):bh i a e=.ok (.nx (e.set i (ab (.d d)))):=by unfold bh;rw[h];rfl
theorem c8{a:EW}{e:Mi.Env}{w:W}(h:a e=.ok w):bw a e=.ok (.rt w):=by unfold bw;rw[h];rfl
theorem bq{a:E}{e:Mi.Env}{d:D}(h:a e=.ok d):wD a e=.ok (.d d):=by unfold wD;rw[h];rfl
theorem fw{c:C}{s t:S}{e:Mi.Env}(h:c e=.ok true):bu c s t e=s e:=by unfold bu;rw[h];rfl
theorem dN{c:C}{s t:S}{e:Mi.Env}(h:c e=.ok false):bu c s t e=t e:=by unfold bu;rw[h];rfl
theorem bO{a:E}{e:Mi.Env}{b:Bool}(h:a e=.ok (.bl b)):cB a e=.ok b:=by unfold cB;rw[h];rfl
theorem d5{ρ:List (Option Nat)}{it:I}{tg:Tg}{c:C}{a:E}{e:Mi.Env}{xs ys:List D}(h:it e=.ok xs)(hl:xs.length<=16777216)(hc:dv tg c a (jw ρ e) xs=.ok ys):b8 ρ it tg c a e=.ok (.lst ys):=by unfold b8;rw[h,aH,aX hl,hc,aH]
theorem jT{a:E}{e:Mi.Env}{n:Int}(h:a e=.ok (.int n))(hr:okR n):iA a e=.ok (dL 0 n):=by unfold iA;rw[h,aH,pF,aH,aX hr]
theorem fh{it:I}{tg:Tg}{b:S}{e:Mi.Env}{xs:List D}(h:it e=.ok xs):cQ it tg b e=gI tg b xs e:=by unfold cQ;rw[h];rfl
theorem dG{a:E}{e:Mi.Env}{x:D}{xs:List D}(h:a e=.ok x)(hx:wI x=.ok xs):bv a e=.ok xs:=by unfold bv;rw[h,aH,hx]
theorem kB{i:Nat}{a:E}{e:Mi.Env}{d:D}{ds:List D}(h:a e=.ok d)(hg:getL e i=.ok ds)(hl:ds.length<16777216):cH i a e=.ok (.nx (putL e i (ds++[d]))):=by unfold cH;rw[h,aH,hg,aH,aX hl]
theorem eJ{f:List D->Rs D}{a:E}{e:Mi.Env}{x:D}(h:a e=.ok x):mN f [a] e=f [x]:=by unfold mN;rw[gy,h];rfl
theorem AN{f:List D->Rs D}{a b:E}{e:Mi.Env}{x y:D}(h:a e=.ok x)(h':b e=.ok y):mN f [a,b] e=f [x,y]:=by unfold mN;rw[gy,h,aH,gy,h'];rfl
theorem kn{a:E}{e:Mi.Env}{x:D}(h:a e=.ok x):mN bx [a] e=.ok (.lst [x]):=by rw[eJ h];exact aX (by simp)
theorem fA{a b:E}{e:Mi.Env}{x y:D}(h:a e=.ok x)(h':b e=.ok y):mN dTup [a,b] e=.ok (.tup [x,y]):=by rw[AN h h'];exact aX (by simp)
theorem IR{f:Fn}{a:EW}{e:Mi.Env}{x:W}{d:D}(h:a e=.ok x)(hf:f [x]=.ok (.d d)):aL f [a] e=.ok d:=by unfold aL ie;rw[dm,h];simp only[aH,dm,hf,uZ]
theorem call2{f:Fn}{a b:EW}{e:Mi.Env}{x y:W}{d:D}(h:a e=.ok x)(h':b e=.ok y)(hf:f [x,y]=.ok (.d d)):aL f [a,b] e=.ok d:=by unfold aL ie;rw[dm,h,aH,dm,h'];simp only[aH,dm,hf,uZ]
theorem iG{f:Fn}{a b c:EW}{e:Mi.Env}{x y z:W}{d:D}(h:a e=.ok x)(h':b e=.ok y)(h'':c e=.ok z)(hf:f [x,y,z]=.ok (.d d)):aL f [a,b,c] e=.ok d:=by unfold aL ie;rw[dm,h,aH,dm,h',aH,dm,h''];simp only[aH,dm,hf,uZ]
theorem fe{α:Type}{tg:Tg}{c:C}{a:E}{e:Mi.Env}(f g:α->D)(p:α->Bool):∀(xs:List α),(∀x∈xs,∃e1,tg.put (f x) e=.ok e1/\c e1=.ok (p x)/\(p x=true->a e1=.ok (g x)))->dv tg c a e (xs.map f)=.ok ((xs.filter p).map g)
 |[],_=>rfl
 |x::r,h=>by
  obtain⟨e1,h1,h2,h3⟩:=h x cJ;have ih:=fe (tg:=tg) (c:=c) (a:=a) (e:=e) f g p r λy hy=>h y (dR _ hy);rw[cP,dv,h1,aH,h2,aH];cases hp:p x with
  |true=>rw[bc rfl,h3 hp,aH,ih,aH,List.filter_cons_of_pos hp];rfl
  |false=>rw[a8 cZ,ih,List.filter_cons_of_neg (by rw[hp];exact cZ)]
theorem fQ{tg:Tg}{body:S}(Inv:Nat->Mi.Env->Prop):∀(xs:List D) (k:Nat),(∀i x e,xs[i]? = ab x->Inv (k+i) e->∃e1 e2,tg.put x e=.ok e1/\body e1=.ok (.nx e2)/\Inv (k+i+1) e2)->∀e,Inv k e->∃e',gI tg body xs e=.ok (.nx e')/\Inv (k+xs.length) e'
 |[],k,_,e,h=>⟨e,rfl,h⟩
 |x::r,k,hs,e,h=>by
  obtain⟨e1,e2,h1,h2,h3⟩:=hs 0 x e rfl h;obtain⟨e',h4,h5⟩:=fQ Inv r (k+1) (λi y e hy hi=>by
   have:=hs (i+1) y e (by simpa using hy) (by rw[show k+(i+1)=k+1+i by omega];exact hi);rw[show k+(i+1)+1=k+1+i+1 by omega]at this;exact this) e2 h3
  refine⟨e',?_,by rw[cx,show k+(r.length+1)=k+1+r.length by omega];exact h5⟩;rw[gI,h1,aH,h2,aH];exact h4
end Mi
namespace Mr
open PySem Mi
abbrev Ar:=Str×Str
def pairD(p:Ar):D:=.tup [.str p.1,.str p.2]
def a7(ac:List Str):D:=.tup (ac.map D.str)
def eZ(ak:List Ar):D:=.tup (ak.map pairD)
def am(ac:List Str)(ak:List Ar):D:=.tup [a7 ac,eZ ak]
def af(xs:List Str):D:=.lst (xs.map D.str)
theorem at0{α:Type}(a:α)(r:List α):dM (a::r) 0=ab a:=by simp[dM,gP]
theorem at1{α:Type}(a b:α)(r:List α):dM (a::b::r) 1=ab b:=by unfold dM gP;rw[bc (by decide),bc (by simp only[cx];omega)];rfl
theorem fY(ac:List Str)(ak:List Ar):az (am ac ak) (.int 0)=.ok (a7 ac):=by unfold am az;simp[at0]
theorem jp(ac:List Str)(ak:List Ar):az (am ac ak) (.int 1)=.ok (eZ ak):=by unfold am az;simp[at1]
theorem pf{ac asked:List Str}(h:∀x∈asked,x∈ac):fV [.d (a7 ac),.d (af asked)]=.ok (.d .non):=by
 have key:∀(xs:List Str) (o:Option W),(∀x∈xs,x∈ac)->∃o',gI (.n 2) (bu (cB (m2 cF (mV 2) (mV 0))) tX bI) (xs.map D.str) [ab (.d (a7 ac)),ab (.d (af asked)),o]=.ok (.nx [ab (.d (a7 ac)),ab (.d (af asked)),o']):=by
  intro xs
  induction xs with
  |nil=>exactλo _=>⟨o,rfl⟩
  |cons x r ih=>
   intro o hx;obtain⟨o',e⟩:=ih (ab (.d (.str x))) λy hy=>hx y (dR _ hy);refine⟨o',?_⟩;rw[cP,gI];have:x∈ac:=hx x cJ;simp only[a7,Sm,JL,JM,bu,cB,m2,mV,bI,aH,jq,jU,AQ,this,decide_true,CG,pc,sJ,j8];exact e
 obtain⟨o',e⟩:=key asked ae h;unfold af at e;unfold fV GU;rw[ss];simp only[cQ,bv,mV,af,Nat.reduceSub,List.replicate_succ,JK,qk,mj,jq,jU,aH,P9,e,Pf]
def ig(ak:List Ar)(x:Str):List Str:=(ak.filter λp=>decide (p.2=x)).map (·.1)
theorem QN{ac:List Str}{ak:List Ar}{x:Str}(hx:x∈ac)(hl:ak.length<=64):ud [.d (am ac ak),.d (.str x)]=.ok (.d (.tup ((ig ak x).map D.str))):=by
 have hr:=pf (ac:=ac) (asked:=[x]) (by simpa using hx);unfold ud EX;rw[ss];have hc:dv (.t [1,2]) (cB (m2 cy (mV 2) (mV 0))) (mV 1) [ab (.d (.str x)),ae,ae] (ak.map pairD)=.ok ((ak.filter λp=>decide (p.2=x)).map λp=>D.str p.1):=fe pairD (λp=>D.str p.1) (λp=>decide (p.2=x)) ak λp _=>⟨[ab (.d (.str x)),ab (.d (.str p.1)),ab (.d (.str p.2))],rfl,by simp only[cB,m2,mV,jq,jU,aH,ny,pc],λ_=>by simp only[mV,jq,jU]⟩
 have hg:bp (([D.str x]:List D).length<=16777216) (Rs.ok (D.lst [D.str x]))=.ok (.lst [.str x]):=aX (by simp);unfold af at hr;have hp:jw [ab 1,ae,ae] [ab (W.d (am ac ak)),ab (W.d (D.str x))]=[ab (.d (.str x)),ae,ae]:=rfl;simp only[cx,f7,da,Iu]at hg;simp only[cP,vq,aE,ej,aL,ie,dm,wD,m2,mV,Nat.reduceSub,JK,qk,mj,jU,mC,aH,fY,mN,gy,jq,bx,cx,f7,da,Iu,bw]at hr ⊢;rw[hr];simp only[aH,uZ,b8,bv,m2,mV,mC,jU,jp,eZ,OZ,hp];rw[aX (by rw[aO];omega),hc];simp only[aH,LA,QV,ig,dF];rfl
def ready(ak:List Ar)(told:List Str)(x:Str):Bool:=!decide (x∈told)&&(ig ak x).all λy=>decide (y∈told)
def nxt(ac:List Str)(ak:List Ar)(told:List Str):Option Str:=ac.find? (ready ak told)
theorem vM{ak:List Ar}{x:Str}(hl:ak.length<=64):(ig ak x).length<=64:=by unfold ig;rw[aO];exact cU (lh _ _) hl
structure iN(ac:List Str)(ak:List Ar):Prop where
 nd:ac.Nodup
 pos:1<=ac.length
 le:ac.length<=8
 al:ak.length<=64
 tl:∀p∈ak,p.1∈ac
 rk:∃r:Str->Int,∀p∈ak,r p.1<r p.2
theorem vW{ak:List Ar}{x y:Str}:y∈ig ak x↔(y,x)∈ak:=by
 unfold ig;constructor
 ·intro h;obtain⟨p,hp,rfl⟩:=ce.mp h;obtain⟨h1,h2⟩:=cC.mp hp;have:p.2=x:=by simpa using h2
  rw[<- this];exact h1
 ·intro h;exact ce.mpr ⟨(y,x),cC.mpr ⟨h,by simp⟩,rfl⟩
def ord(ac:List Str)(ak:List Ar):Nat->List Str
 |0=>[]
 | k+1=>match nxt ac ak (ord ac ak k)with
  |some x=>ord ac ak k++[x]
  |none=>ord ac ak k
theorem dJ{α:Type}[DecidableEq α]:∀{l m:List α},l.Nodup->(∀x∈l,x∈m)->l.length<=m.length
 |[],_,_,_=>g9 _
 |a::l,m,nd,h=>by
  have nd:=iU.mp nd;have:l.length<=(m.erase a).length:=dJ nd.2 λx hx=>(List.mem_erase_of_ne (λz:x=a=>nd.1 (z ▸ hx))).mpr (h x (dR _ hx));have hm:=h a cJ;rw[List.length_erase_of_mem hm]at this;have:0<m.length:=sy hm;rw[cx];omega
end Mr
namespace Mr
open PySem Mi
theorem OX{α:Type}(xs:List α)(k:Nat):iK xs ae (ab (k:Int))=xs.take k:=by
 show(xs.drop 0).take ((if(k:Int)<0 then((k:Int)+(xs.length:Int)).toNat else min (k:Int).toNat xs.length)-0)=_;rw[a8 (by omega),qp,Nat.sub_zero,kM];rcases CK k xs.length with h|h
 ·rw[CJ h]
 ·rw[CI h,qh (bK _),qh h]
theorem xf:∀xs ys:List Str,gY (xs.map D.str) (ys.map D.str)=decide (xs=ys)
 |[],[]=>rfl
 |[],_::_=>rfl
 |_::_,[]=>rfl
 |x::xs,y::ys=>by
  rw[cP,cP,gY,qJ,xf xs ys];by_cases h1:x=y<;>by_cases h2:xs=ys<;>simp[h1,h2]
end Mr
namespace My
def wl:List Nat:=[101,116,97,111,105,110,115,104,114,100,108,117,99,109,102,119,121,112,118,98,103,107,113,106,120,122]
def gD(n:Int):Nat:=wl.getD (n%26).toNat 0
def gN(c:Int):List Nat:=(cu 8).map λ(k:Nat)=>gD (c/(4+3*(k:Int)))
def gT(c:Int)(n:Nat):List Nat:=(cu n).map λ(k:Nat)=>gD (c/32+5*(k:Int)+(k:Int)*(k:Int))
def words(c:Int)(many:Nat):List (List Nat):=
 if c%4<2 then
  if c%4=0 then(cu many).map λ(k:Nat)=>(gN c).take (k+1)
  else(cu many).map λ(k:Nat)=>(gN c).drop (7-k)
 else
  (cu many).map λ(k:Nat)=>(gT c (c/4%8).toNat).take (c/256%(c/4%8+1)).toNat++[gD (c/7+5*(k:Int))]++(gT c (c/4%8).toNat).drop (c/256%(c/4%8+1)).toNat
def fi(x:List Nat):Prop:=1<=x.length/\x.length<=8/\∀c∈x,97<=c/\c<=122
theorem z6:∀c∈wl,97<=c/\c<=122:=by decide
theorem Qp:wl.Nodup:=by decide
theorem xj:wl.length=26:=by decide
theorem yR(n:Int):gD n∈wl:=by
 unfold gD;have h1:=j1 n (b:=26) (by decide);have h2:=j0 n (b:=26) (by decide);have h3:(n%26).toNat<wl.length:=by rw[xj];omega
 rw[fN,en h3];exact List.getElem_mem h3
theorem Rg{n m:Int}(h:gD n=gD m):n%26=m%26:=by
 unfold gD at h;have h1:=j1 n (b:=26) (by decide);have h2:=j0 n (b:=26) (by decide);have h3:(n%26).toNat<wl.length:=by rw[xj];omega
 have h1':=j1 m (b:=26) (by decide);have h2':=j0 m (b:=26) (by decide);have h3':(m%26).toNat<wl.length:=by rw[xj];omega
 rw[fN,en h3,fN,en h3']at h;have:=(qj Qp).mp h;omega
theorem lD(c:Int):(gN c).length=8:=by simp[gN]
theorem rQ(c:Int)(n:Nat):(gT c n).length=n:=by simp[gT]
theorem FN(c:Int):∀x∈gN c,97<=x/\x<=122:=λx hx=>by
 obtain⟨k,_,rfl⟩:=ce.mp hx;exact z6 _ (yR _)
theorem IS(c:Int)(n:Nat):∀x∈gT c n,97<=x/\x<=122:=λx hx=>by
 obtain⟨k,_,rfl⟩:=ce.mp hx;exact z6 _ (yR _)
theorem uM(c:Int)(many:Nat):(words c many).length=many:=by unfold words;split<;>(try split)<;>simp
theorem Ac{α:Type}(f:Nat->α)(n:Nat)(h:∀i j,i<n->j<n->f i=f j->i=j):((cu n).map f).Nodup:=by
 induction n with
 |zero=>simp
 |succ n ih=>
  rw[List.range_succ,fv,List.map_singleton];rw[et];refine⟨ih λi j hi hj=>h i j (by omega) (by omega),by simp,λa ha b hb=>?_⟩;obtain⟨i,hi,rfl⟩:=ce.mp ha;have hi:=gz.mp hi;have hb:b=f n:=by simpa using hb
  subst hb;intro e;have:=h i n (by omega) (by omega) e;omega
theorem uH(c:Int)(many:Nat)(hm:many<=8):(words c many).Nodup:=by
 unfold words;split
 ·split
  ·refine Ac _ _ λi j hi hj e=>?_;have:=congrArg Cq e;rw[iJ,iJ,lD]at this;omega
  ·refine Ac _ _ λi j hi hj e=>?_;have:=congrArg Cq e;rw[kH,kH,lD]at this;omega
 ·refine Ac _ _ λi j hi hj e=>?_;rw[jV,jV]at e;have e1:=JF e;have e2:=List.append_cancel_right e1;have e3:gD (c/7+5*(i:Int))=gD (c/7+5*(j:Int)):=by simpa using e2
  have:=Rg e3;omega
theorem fH(c:Int)(many:Nat)(hm:many<=8):∀x∈words c many,fi x:=by
 unfold words;split
 ·split
  ·intro x hx;obtain⟨k,hk,rfl⟩:=ce.mp hx;have hk:=gz.mp hk;refine⟨by rw[iJ,lD];omega,by rw[iJ,lD];omega,λy hy=>FN c y (sA hy)⟩
  ·intro x hx;obtain⟨k,hk,rfl⟩:=ce.mp hx;have hk:=gz.mp hk;refine⟨by rw[kH,lD];omega,by rw[kH,lD];omega,λy hy=>FN c y (Ce hy)⟩
 ·intro x hx;obtain⟨k,hk,rfl⟩:=ce.mp hx;have h1:=j1 (c/4) (b:=8) (by decide);have h2:=j0 (c/4) (b:=8) (by decide);have h3:=j1 (c/256) (b:=c/4%8+1) (by omega);have h4:=j0 (c/256) (b:=c/4%8+1) (by omega);have hl:((gT c (c/4%8).toNat).take (c/256%(c/4%8+1)).toNat++[gD (c/7+5*(k:Int))]++(gT c (c/4%8).toNat).drop (c/256%(c/4%8+1)).toNat).length=(c/4%8).toNat+1:=by
   rw[bU,bU,iJ,kH,rQ];simp;omega
  refine⟨by rw[hl];omega,by rw[hl];omega,λy hy=>?_⟩;rcases bT.mp hy with hy|hy
  ·rcases bT.mp hy with hy|hy
   ·exact IS c _ y (sA hy)
   ·have:y=gD (c/7+5*(k:Int)):=by simpa using hy
    subst this;exact z6 _ (yR _)
  ·exact IS c _ y (Ce hy)
end My
namespace Mi
open PySem
def S'(l:List Nat):Str:=⟨l.toArray⟩
theorem xN(l:List Nat):(S' l).cps.toList=l:=rfl
theorem k7(l:List Nat):(S' l).length=l.length:=by simp[S',qx]
theorem Q5{x y:Str}(h:x.cps.toList=y.cps.toList):x=y:=by obtain⟨a⟩:=x;obtain⟨b⟩:=y;have h:a.toList=b.toList:=h;rw[Array.toList_inj.mp h]
theorem OM{l m:List Nat}(h:S' l=S' m):l=m:=by have:=congrArg (λx:Str=>x.cps.toList) h;simpa [S']using this
theorem Tk(l m:List Nat):S' l++S' m=S' (l++m):=by show(⟨l.toArray++m.toArray⟩ : Str)=⟨(l++m).toArray⟩;simp
theorem FQ:∀l:List Str,(lz "" l).cps.toList=l.flatMap (·.cps.toList)
 |[]=>by simp[lz,oQ]
 |[x]=>by simp[lz]
 |x::y::r=>by
  have ih:=FQ (y::r);have e:lz "" (x::y::r)=x ++ "" ++ lz "" (y::r):=rfl;have e2:("" : Str).cps.toList=[]:=by decide +kernel
  rw[e];show((x.cps++("" : Str).cps)++(lz "" (y::r)).cps).toList=_;rw[yz,yz,e2,ih];simp
theorem join_ones(l:List Nat):lz "" (l.map λx=>S' [x])=S' l:=by
 refine Q5 ?_;rw[FQ,xN]
 induction l with
 |nil=>rfl
 |cons a r ih=>rw[cP,lj,ih];rfl
theorem Oo{α:Type}(xs:List α)(k:Nat):iK xs ae (ab (k:Int))=xs.take k:=by
 show(xs.drop 0).take ((if(k:Int)<0 then((k:Int)+(xs.length:Int)).toNat else min (k:Int).toNat xs.length)-0)=_;rw[a8 (by omega),qp,Nat.sub_zero,kM];rcases CK k xs.length with h|h
 ·rw[CJ h]
 ·rw[CI h,qh (bK _),qh h]
theorem Ab{α:Type}(xs:List α)(k:Nat):iK xs (ab (k:Int)) ae=xs.drop k:=by
 show(xs.drop (if(k:Int)<0 then((k:Int)+(xs.length:Int)).toNat else min (k:Int).toNat xs.length)).take (xs.length-(if(k:Int)<0 then((k:Int)+(xs.length:Int)).toNat else min (k:Int).toNat xs.length))=_;rw[a8 (by omega),kM];rcases CK k xs.length with h|h
 ·rw[CJ h];exact qh (by rw[kH];exact bK _)
 ·rw[CI h,vm (bK _),vm h];simp
theorem D4(l:List Nat)(k:Nat):oA (S' l) ae (ab (k:Int))=S' (l.take k):=by unfold oA;rw[xN,Oo];rfl
theorem Ik(l:List Nat)(k:Nat):oA (S' l) (ab (k:Int)) ae=S' (l.drop k):=by unfold oA;rw[xN,Ab];rfl
def dB:Str := "etaoinshrdlucmfwypvbgkqjxz"
theorem MY:dB.cps.toList=My.wl:=by decide +kernel
theorem Rn:dB.length<=16777216:=by decide +kernel
theorem BQ{α:Type}{xs:List α}{i:Int}(h0:0<=i)(h1:i<xs.length)(d:α):dM xs i=ab (xs.getD i.toNat d):=by
 unfold dM gP;rw[bc h0,bc h1];have h3:i.toNat<xs.length:=by omega
 show xs[i.toNat]? = _;rw[fN,en h3];rfl
theorem R6(n:Int):dM dB.cps.toList (n%26)=ab (My.gD n):=by rw[MY];have h1:=j1 n (b:=26) (by decide);have h2:=j0 n (b:=26) (by decide);exact BQ h1 (by rw[My.xj];omega) 0
theorem xE{cs:List Int}{i:Int}(h0:0<=i)(h1:i<cs.length):az (.lst (cs.map D.int)) (.int i)=.ok (.int (cs.getD i.toNat 0)):=by
 show c6 (dM (cs.map D.int) i)=_;rw[BQ h0 (by rw[aO];exact h1) (.int 0),m3];have h3:i.toNat<cs.length:=by omega
 rw[fN,cS,fN,en h3];rfl
theorem GB{cs:List Str}{i:Int}(h0:0<=i)(h1:i<cs.length):az (.lst (cs.map D.str)) (.int i)=.ok (.str (cs.getD i.toNat oQ)):=by
 show c6 (dM (cs.map D.str) i)=_;rw[BQ h0 (by rw[aO];exact h1) (.str oQ),m3];have h3:i.toNat<cs.length:=by omega
 rw[fN,cS,fN,en h3];rfl
theorem y6(n:Nat):dL 0 (n:Int)=(cu n).map λ(k:Nat)=>D.int (k:Int):=by unfold dL;rw[show((n:Int)-0).toNat=n by omega];exact vn λk _=>by rw[Int.zero_add]
theorem lB(n:Nat):(dL 0 (n:Int)).length=n:=by rw[y6];simp
theorem wb{n i:Nat}{x:D}(h:(dL 0 (n:Int))[i]? = ab x):i<n/\x=.int (i:Int):=by
 rw[y6,cS]at h;cases hr:(cu n)[i]? with
 |none=>rw[hr]at h;cases h
 |some k=>
  rw[hr]at h;obtain⟨h1,h2⟩:=cv.mp hr;rw[Ch]at h2;subst h2;rw[vp]at h1;exact⟨h1,(iq h).symm⟩
theorem re{tg:Tg}{a:E}{e:Mi.Env}(g:Nat->D)(n:Nat)(h:∀k<n,∃e1,tg.put (.int (k:Int)) e=.ok e1/\a e1=.ok (g k)):dv tg dc a e (dL 0 (n:Int))=.ok ((cu n).map g):=by
 rw[y6,fe (λ(k:Nat)=>D.int (k:Int)) g (λ_=>true) (cu n) λk hk=>?_]
 ·rw[mi.mpr λ_ _=>rfl]
 ·obtain⟨e1,h1,h2⟩:=h k (gz.mp hk);exact⟨e1,h1,rfl,λ_=>h2⟩
theorem qA{i:Int}(h0:-1000<=i)(h1:i<=1000):okR i:=by unfold okR;omega
theorem kY{i j:Int}(h0:-(2 ^ 64)<i)(h1:i<2 ^ 64):nk i j:=.inl ⟨h0,h1⟩
theorem vh{i j:Int}(h0:-(2 ^ 64)<j)(h1:j<2 ^ 64):nk i j:=.inr ⟨h0,h1⟩
theorem lM{j:Int}(h0:0<j)(h1:j<2 ^ 64):mO j:=by
 refine⟨h0,?_⟩;have h2:j.natAbs<2 ^ 64:=by omega
 have h3:j.natAbs≠0:=by omega
 have:=(Nat.log2_lt h3).mpr h2;omega
end Mi
namespace Mr
open PySem Mi
open My (words gN gT gD lD rQ uM uH)
theorem AZ(n:Int):az (.str dB) (.int (n%26))=.ok (.str (S' [gD n])):=by show bp _ _=_;rw[aX Rn,R6];rfl
theorem Ii(l:List Nat)(h:l.length<=8):xw (.str "") (.lst (l.map λx=>D.str (S' [x])))=.ok (.str (S' l)):=by
 show(c6 (m6 (l.map λx=>D.str (S' [x])))).bind _=_;have e:l.map (λx=>D.str (S' [x]))=(l.map λx=>S' [x]).map D.str:=by rw[dF];rfl
 rw[e,P1,m3,aH,aX ?_,join_ones];have h1:((l.map λx=>S' [x]).map (·.length)).sum=l.length:=by
  clear h e
  induction l with
  |nil=>rfl
  |cons a r ih=>rw[cP,cP,List.sum_cons,ih,k7,cx];simp;omega
 have h2:("" : Str).length=0:=by decide +kernel
 rw[h1,h2];omega
theorem st1(c:Int)(k:Nat)(d32:mO 32)(m5:nk 5 (k:Int))(mk:nk (k:Int) k):(m2 ba (m2 ba (m2 dP (mV 1) (mC (.int 32))) (m2 cI (mC (.int 5)) (mV 2))) (m2 cI (mV 2) (mV 2))) [ab (.d (.str dB)),ab (.d (.int c)),ab (.d (.int k))]=.ok (.int (c/32+5*(k:Int)+(k:Int)*(k:Int))):=(aC (aC (aC rfl rfl (aX d32)) (aC rfl rfl (aX m5)) rfl) (aC rfl rfl (aX mk)) rfl)
theorem st2(c:Int)(e:Mi.Env)(a:E)(h:a e=.ok (.int c))(h0:e[0]? = ab (ab (.d (.str dB)))):m2 az (mV 0) (m2 bY a (mC (.int 26))) e=.ok (.str (S' [gD c])):=aC (x:=.str dB) (by unfold mV;rw[h0]) (aC h rfl (aX (by decide))) (AZ _)
theorem PQ{k n:Nat}(h:k<n)(h8:n<8):nk (k:Int) k:=kY (by omega) (by omega)
theorem size_of(c:Int):∃n:Nat,c/4%8=(n:Int)/\n<8:=by have z1:=j1 (c/4) (b:=8) (by decide);have z2:=j0 (c/4) (b:=8) (by decide);exact⟨(c/4%8).toNat,by omega,by omega⟩
theorem at_of(c:Int)(n:Nat):∃t:Nat,c/256%((n:Int)+1)=(t:Int)/\t<=n:=by have z3:=j1 (c/256) (b:=(n:Int)+1) (by omega);have z4:=j0 (c/256) (b:=(n:Int)+1) (by omega);exact⟨(c/256%((n:Int)+1)).toNat,by omega,by omega⟩
theorem Nz(c:Int)(m:Nat)(hm:m<=8):u0 [.d (.int c),.d (.int (m:Int))]=.ok (.d (af ((words c m).map S'))):=by
 unfold u0 HW;rw[jx];have hr8:okR 8:=qA (by decide) (by decide);have hrm:okR (m:Int):=qA (by omega) (by omega);have hl0:(PySem.Str.ofString "etaoinshrdlucmfwypvbgkqjxz")=dB:=rfl;have g4:∀r:Rs D,bp ((0:Int)<4) r=r:=λr=>aX (by decide);have g26:∀r:Rs D,bp ((0:Int)<26) r=r:=λr=>aX (by decide);have g8:∀r:Rs D,bp ((0:Int)<8) r=r:=λr=>aX (by decide);by_cases c1:c%4<2
 ·have yF:dv (.n 2) dc (m2 az (mV 0) (m2 bY (m2 dP (mV 1) (m2 ba (mC (.int 4)) (m2 cI (mC (.int 3)) (mV 2)))) (mC (.int 26)))) [ab (.d (.str dB)),ab (.d (.int c)),ae] (dL 0 8)=.ok ((gN c).map λx=>D.str (S' [x])):=by
   have:=re (tg:=.n 2) (a:=m2 az (mV 0) (m2 bY (m2 dP (mV 1) (m2 ba (mC (.int 4)) (m2 cI (mC (.int 3)) (mV 2)))) (mC (.int 26)))) (e:=[ab (.d (.str dB)),ab (.d (.int c)),ae]) (λk=>D.str (S' [gD (c/(4+3*(k:Int)))])) 8 λk hk=>⟨[ab (.d (.str dB)),ab (.d (.int c)),ab (.d (.int k))],rfl,by
    simp only[m2,mV,jU,jq,mC,aH,tZ];rw[aX (kY (by decide) (by decide))];simp only[aH,sV,div_ii];rw[aX (lM (by omega) (by omega))];simp only[aH,rO,g26,AZ]⟩
   rw[show((8:Nat):Int)=8 from rfl]at this;rw[this];unfold gN;rw[dF];rfl
  have hp:jw [ab 2,ab 0,ae] [ab (.d (.int c)),ab (.d (.int (m:Int))),ab (.d (.str dB)),ae,ae,ae,ae]=[ab (.d (.str dB)),ab (.d (.int c)),ae]:=rfl;have hj:=Ii (gN c) (by rw[lD];omega);have hw8:(dL 0 8).length<=16777216:=by rw[show(8:Int)=((8:Nat):Int)from rfl,lB];omega
  have hwm:(dL 0 (m:Int)).length<=16777216:=by rw[lB];omega
  by_cases c2:c%4=0
  ·have hc:dv (.n 1) dc (d3 fW (mV 0) ae (ab (m2 ba (mV 1) (mC (.int 1))))) [ab (.d (.str (S' (gN c)))),ae] (dL 0 (m:Int))=.ok ((words c m).map λl=>D.str (S' l)):=by
    rw[re (λk=>D.str (S' ((gN c).take (k+1)))) m λk hk=>⟨[ab (.d (.str (S' (gN c)))),ab (.d (.int k))],rfl,by
     simp only[d3,mV,jU,la,m2,jq,mC,aH,sV,pF,z7];rw[aX (by rw[k7,lD];omega),show(k:Int)+1=((k+1:Nat):Int)by omega,D4]⟩]
    unfold words;rw[bc c1,bc c2,dF];rfl
   have hp2:∀z,jw [ab 3,ae] [ab (.d (.int c)),ab (.d (.int (m:Int))),ab (.d (.str dB)),ab z,ae,ae,ae]=[ab z,ae]:=λ_=>rfl;have hmod:cB (m2 gt (m2 bY (mV 0) (mC (.int 4))) (mC (.int 2))) [ab (.d (.int c)),ab (.d (.int (m:Int))),ab (.d (.str dB)),ae,ae,ae,ae]=.ok true:=bO ((aC (aC rfl rfl (g4 _)) rfl rfl).trans (by rw[w9,bP c1]))
   have Ds:cB (m2 cy (m2 bY (mV 0) (mC (.int 4))) (mC (.int 0))) [ab (.d (.int c)),ab (.d (.int (m:Int))),ab (.d (.str dB)),ab (.d (.str (S' (gN c)))),ae,ae,ae]=.ok true:=bO ((aC (aC rfl rfl (g4 _)) rfl rfl).trans (by rw[tL,bP c2]))
   show Rs.bind _ ku=_;rw[aN (e':=[ab (.d (.int c)),ab (.d (.int (m:Int))),ab (.d (.str dB)),ae,ae,ae,ae]) (bL rfl)];refine(congrArg (λr=>Rs.bind r ku) (pz (w:=.d (af ((words c m).map S'))) ?_)).trans rfl;rw[fw hmod,aN (e':=[ab (.d (.int c)),ab (.d (.int (m:Int))),ab (.d (.str dB)),ab (.d (.str (S' (gN c)))),ae,ae,ae]) (bL (aC rfl (d5 (jT rfl hr8) hw8 yF) hj))];rw[pz ((fw Ds).trans (c8 (bq (d5 (jT rfl hrm) hwm hc))))];rw[af,dF];rfl
  ·have hc:dv (.n 1) dc (d3 fW (mV 0) (ab (m2 gF (mC (.int 7)) (mV 1))) ae) [ab (.d (.str (S' (gN c)))),ae] (dL 0 (m:Int))=.ok ((words c m).map λl=>D.str (S' l)):=by
    rw[re (λk=>D.str (S' ((gN c).drop (7-k)))) m λk hk=>⟨[ab (.d (.str (S' (gN c)))),ab (.d (.int k))],rfl,by
     simp only[d3,mV,jU,la,m2,mC,jq,aH,Og,pF,z7];rw[aX (by rw[k7,lD];omega),show(7:Int)-(k:Int)=((7-k:Nat):Int)by omega,Ik]⟩]
    unfold words;rw[bc c1,a8 c2,dF];rfl
   have hp2:∀z,jw [ab 3,ae] [ab (.d (.int c)),ab (.d (.int (m:Int))),ab (.d (.str dB)),ab z,ae,ae,ae]=[ab z,ae]:=λ_=>rfl;have hmod:cB (m2 gt (m2 bY (mV 0) (mC (.int 4))) (mC (.int 2))) [ab (.d (.int c)),ab (.d (.int (m:Int))),ab (.d (.str dB)),ae,ae,ae,ae]=.ok true:=bO ((aC (aC rfl rfl (g4 _)) rfl rfl).trans (by rw[w9,bP c1]))
   have Ds:cB (m2 cy (m2 bY (mV 0) (mC (.int 4))) (mC (.int 0))) [ab (.d (.int c)),ab (.d (.int (m:Int))),ab (.d (.str dB)),ab (.d (.str (S' (gN c)))),ae,ae,ae]=.ok false:=bO ((aC (aC rfl rfl (g4 _)) rfl rfl).trans (by rw[tL,cD c2]))
   show Rs.bind _ ku=_;rw[aN (e':=[ab (.d (.int c)),ab (.d (.int (m:Int))),ab (.d (.str dB)),ae,ae,ae,ae]) (bL rfl)];refine(congrArg (λr=>Rs.bind r ku) (pz (w:=.d (af ((words c m).map S'))) ?_)).trans rfl;rw[fw hmod,aN (e':=[ab (.d (.int c)),ab (.d (.int (m:Int))),ab (.d (.str dB)),ab (.d (.str (S' (gN c)))),ae,ae,ae]) (bL (aC rfl (d5 (jT rfl hr8) hw8 yF) hj))];rw[aN (dN Ds),c8 (bq (d5 (jT rfl hrm) hwm hc))];rw[af,dF];rfl
 ·obtain⟨n,hn,hn8⟩:=size_of c;obtain⟨t,ht,ht8⟩:=at_of c n;have hrn:okR (n:Int):=qA (by omega) (by omega);have d4:mO 4:=lM (by decide) (by decide);have d32:mO 32:=lM (by decide) (by decide);have TY:mO 256:=lM (by decide) (by decide);have d7:mO 7:=lM (by decide) (by decide);have TZ:dv (.n 2) dc (m2 az (mV 0) (m2 bY (m2 ba (m2 ba (m2 dP (mV 1) (mC (.int 32))) (m2 cI (mC (.int 5)) (mV 2))) (m2 cI (mV 2) (mV 2))) (mC (.int 26)))) [ab (.d (.str dB)),ab (.d (.int c)),ae] (dL 0 (n:Int))=.ok ((gT c n).map λx=>D.str (S' [x])):=by
   rw[re (λk=>D.str (S' [gD (c/32+5*(k:Int)+(k:Int)*(k:Int))])) n λk hk=>⟨[ab (.d (.str dB)),ab (.d (.int c)),ab (.d (.int k))],rfl,by
    exact st2 _ _ _ (st1 c k d32 (kY (by decide) (by decide)) (PQ hk hn8)) rfl⟩]
   unfold gT;rw[dF];rfl
  have hp:jw [ab 2,ab 0,ae] [ab (.d (.int c)),ab (.d (.int (m:Int))),ab (.d (.str dB)),ae,ab (.d (.int (n:Int))),ae,ae]=[ab (.d (.str dB)),ab (.d (.int c)),ae]:=rfl;have hj:=Ii (gT c n) (by rw[rQ];omega);have hwn:(dL 0 (n:Int)).length<=16777216:=by rw[lB];omega
  have hwm:(dL 0 (m:Int)).length<=16777216:=by rw[lB];omega
  have hc:dv (.n 4) dc (m2 ba (m2 ba (d3 fW (mV 0) ae (ab (mV 2))) (m2 az (mV 1) (m2 bY (m2 ba (m2 dP (mV 3) (mC (.int 7))) (m2 cI (mC (.int 5)) (mV 4))) (mC (.int 26))))) (d3 fW (mV 0) (ab (mV 2)) ae))
   [ab (.d (.str (S' (gT c n)))),ab (.d (.str dB)),ab (.d (.int (t:Int))),ab (.d (.int c)),ae] (dL 0 (m:Int))=.ok ((words c m).map λl=>D.str (S' l)):=by
   rw[re (λk=>D.str (S' ((gT c n).take t++[gD (c/7+5*(k:Int))]++(gT c n).drop t))) m λk hk=>⟨[ab (.d (.str (S' (gT c n)))),ab (.d (.str dB)),ab (.d (.int (t:Int))),ab (.d (.int c)),ab (.d (.int k))],rfl,by
    have gS:∀r:Rs D,bp ((S' (gT c n)).length<=16777216) r=r:=λr=>aX (by rw[k7,rQ];omega);have gM:∀r:Rs D,bp (nk 5 (k:Int)) r=r:=λr=>aX (kY (by decide) (by decide));simp only[m2,d3,mV,jU,la,jq,aH,pF,z7,D4,gS,mC,div_ii,aX d7,tZ,gM,sV,rO,g26,AZ,Jc,Ik];rw[aX (by rw[k7,k7,iJ,rQ];simp;omega)];simp only[Tk,aH,Jc];rw[aX (by rw[k7,k7,bU,iJ,kH,rQ];simp;omega)]⟩]
   unfold words;rw[a8 c1,dF,hn,ht];rfl
  have hmod:cB (m2 gt (m2 bY (mV 0) (mC (.int 4))) (mC (.int 2))) [ab (.d (.int c)),ab (.d (.int (m:Int))),ab (.d (.str dB)),ae,ae,ae,ae]=.ok false:=bO ((aC (aC rfl rfl (g4 _)) rfl rfl).trans (by rw[w9,cD c1]))
  show Rs.bind _ ku=_;rw[aN (e':=[ab (.d (.int c)),ab (.d (.int (m:Int))),ab (.d (.str dB)),ae,ae,ae,ae]) (bL rfl)];rw[aN (dN hmod)];rw[aN (e':=[ab (.d (.int c)),ab (.d (.int (m:Int))),ab (.d (.str dB)),ae,ab (.d (.int (n:Int))),ae,ae]) (bL (d:=.int (n:Int)) ((aC (aC rfl rfl (aX d4)) rfl (g8 _)).trans (by rw[hn])))];rw[aN (e':=[ab (.d (.int c)),ab (.d (.int (m:Int))),ab (.d (.str dB)),ae,ab (.d (.int (n:Int))),ab (.d (.str (S' (gT c n)))),ae]) (bL (aC rfl (d5 (jT rfl hrn) hwn TZ) hj))];rw[aN (e':=[ab (.d (.int c)),ab (.d (.int (m:Int))),ab (.d (.str dB)),ae,ab (.d (.int (n:Int))),ab (.d (.str (S' (gT c n)))),ab (.d (.int (t:Int)))]) (bL (d:=.int (t:Int)) ((aC (aC rfl rfl (aX TY)) (aC rfl rfl rfl) (aX (by omega))).trans (by rw[ht])))];rw[c8 (bq (d5 (jT rfl hrm) hwm hc))];simp only[aH,MU,af,dF];rfl
end Mr
namespace Mr
open PySem Mi
open My (words uM uH fi)
theorem pe(n:Nat)(h:n<=8):okR (n:Int):=qA (by omega) (by omega)
theorem Qj{ls:List Int}{z:Int}(h0:0<=z)(h1:z<ls.length)(hl:ls.length<=100):qb (ls.map D.int) z=.ok (.int (ls.getD z.toNat 0),(ls.eraseIdx z.toNat).map D.int):=by
 have h3:z.toNat<ls.length:=by omega
 unfold qb;rw[aX (by omega),show gP (ls.map D.int).length z=ab z.toNat by
  unfold gP;rw[bc h0,bc (by rw[aO];exact h1)],m3,aH,cS,en h3,fN,en h3]
 show Rs.ok (D.int ls[z.toNat],(ls.map D.int).eraseIdx z.toNat)=_;have:∀(l:List Int) (k:Nat),(l.map D.int).eraseIdx k=(l.eraseIdx k).map D.int:=by
  intro l
  induction l with
  |nil=>intro k;rfl
  |cons a r ih=>
   intro k;cases k with
   |zero=>rfl
   |succ k=>rw[cP,JE,ih k];rfl
 rw[this];rfl
theorem jO(e:Mi.Env):mN bx [] e=.ok (.lst []):=by show bp (([]:List D).length<=16777216) (Rs.ok (D.lst []))=_;exact aX (by simp)
end Mr
namespace Mr
open PySem Mi
end Mr
namespace Mr
open PySem Mi
abbrev Ix:=Nat×Nat
def y3(p q:Ix):Prop:=p.1<q.1\/(p.1=q.1/\p.2<q.2)
def nth(ac:List Str)(i:Nat):Str:=ac.getD i oQ
def arrOf(ac:List Str)(p:Ix):Ar:=(nth ac p.1,nth ac p.2)
structure qO(ac:List Str)(A:List Ix)(r:Nat->Int):Prop where
 nd:ac.Nodup
 pos:1<=ac.length
 le:ac.length<=8
 iT:A.Pairwise y3
 all:∀p∈A,p.1<ac.length/\p.2<ac.length/\r p.1<r p.2
 al:A.length<=64
theorem ue{ac:List Str}{i:Nat}(h:i<ac.length):nth ac i∈ac:=by unfold nth;rw[fN,en h];exact List.getElem_mem h
theorem nz{ac:List Str}(nd:ac.Nodup){i j:Nat}(hi:i<ac.length)(hj:j<ac.length)(h:nth ac i=nth ac j):i=j:=by unfold nth at h;rw[fN,en hi,fN,en hj]at h;exact(qj nd).mp h
theorem EA{ac:List Str}{x:Str}(h:x∈ac):∃i,i<ac.length/\nth ac i=x:=by obtain⟨i,hi,e⟩:=List.getElem_of_mem h;refine⟨i,hi,?_⟩;unfold nth;rw[fN,en hi];exact e
theorem qO.aK{ac:List Str}{A:List Ix}{r:Nat->Int}(N:qO ac A r):iN ac (A.map (arrOf ac)):=by
 refine⟨N.nd,N.pos,N.le,by rw[aO];exact N.al,λp hp=>?_,λx=>r (ac.idxOf x),λp hp=>?_⟩
 ·obtain⟨q,hq,rfl⟩:=ce.mp hp;exact ue (N.all q hq).1
 ·obtain⟨q,hq,rfl⟩:=ce.mp hp;obtain⟨h1,h2,h3⟩:=N.all q hq;have key:∀i,i<ac.length->ac.idxOf (nth ac i)=i:=λi hi=>by
   have hm:=ue hi;have hl:ac.idxOf (nth ac i)<ac.length:=List.idxOf_lt_length_of_mem hm;refine nz N.nd hl hi ?_;have h4:ac[ac.idxOf (nth ac i)]=nth ac i:=List.getElem_idxOf hl;show ac.getD (ac.idxOf (nth ac i)) oQ=_;rw[fN,en hl];exact h4
  show r (ac.idxOf (nth ac q.1))<r (ac.idxOf (nth ac q.2));rw[key _ h1,key _ h2];exact h3
def good(m:Nat)(r:Nat->Int)(A:List Ix)(j k:Nat):Prop:=A.Pairwise y3/\(∀p∈A,p.1<m/\p.2<m/\r p.1<r p.2/\(p.1<j\/(p.1=j/\p.2<k)))/\A.length<=8*j+k
theorem good.skip{m:Nat}{r:Nat->Int}{A:List Ix}{j k:Nat}(h:good m r A j k):good m r A j (k+1):=⟨h.1,λp hp=>⟨(h.2.1 p hp).1,(h.2.1 p hp).2.1,(h.2.1 p hp).2.2.1,by have:=(h.2.1 p hp).2.2.2;omega⟩,by have:=h.2.2;omega⟩
theorem good.add{m:Nat}{r:Nat->Int}{A:List Ix}{j k:Nat}(h:good m r A j k)(hj:j<m)(hk:k<m)(hr:r j<r k):good m r (A++[(j,k)]) j (k+1):=by
 refine⟨List.pairwise_append.mpr ⟨h.1,List.pairwise_singleton _ _,λp hp q hq=>?_⟩,λp hp=>?_,by rw[bU];have:=h.2.2;simp;omega⟩
 ·have:q=(j,k):=by simpa using hq
  subst this;have:=(h.2.1 p hp).2.2.2;exact this
 ·rcases bT.mp hp with hp|hp
  ·exact(h.skip.2.1 p hp)
  ·have:p=(j,k):=by simpa using hp
   subst this;exact⟨hj,hk,hr,.inr ⟨rfl,by omega⟩⟩
theorem good.next{m:Nat}{r:Nat->Int}{A:List Ix}{j k:Nat}(h:good m r A j k)(hk:k<=8):good m r A (j+1) 0:=⟨h.1,λp hp=>⟨(h.2.1 p hp).1,(h.2.1 p hp).2.1,(h.2.1 p hp).2.2.1,by have:=(h.2.1 p hp).2.2.2;omega⟩,by have:=h.2.2;omega⟩
def iM(ac:List Str)(A:List Ix):D:=.lst ((A.map (arrOf ac)).map pairD)
theorem OJ{a:Int}(h0:0<=a)(h1:a<8):-(2 ^ 64)<a/\a<2 ^ 64/\0<=a*(a-1)/2/\a*(a-1)/2<=21:=by
 have:a=0\/a=1\/a=2\/a=3\/a=4\/a=5\/a=6\/a=7:=by omega
 rcases this with h|h|h|h|h|h|h|h<;>subst h<;>decide
end Mr
namespace Mr
open PySem Mi
open My (words uM uH)
theorem qF(ns:List Int)(k:Nat)(hk:k<=100):∃c:Int,ii [.d (.lst (ns.map D.int)),.d (.int (k:Int))]=.ok (.d (.int c)):=by
 unfold ii El;rw[ss];have hl:mN d6 [mV 0] [ab (.d (.lst (ns.map D.int))),ab (.d (.int (k:Int))),ae]=.ok (.int (ns.length:Int)):=by show Rs.ok (D.int ((ns.map D.int).length:Int))=_;rw[aO]
 have c1:cB (m2 gt (mV 1) (mN d6 [(mV 0)])) [ab (.d (.lst (ns.map D.int))),ab (.d (.int (k:Int))),ae]=.ok (decide ((k:Int)<(ns.length:Int))):=bO (aC rfl hl rfl);by_cases h:(k:Int)<(ns.length:Int)
 ·rw[bP h]at c1;exact⟨_,by
   rw[show([ab (W.d (.lst (ns.map D.int))),ab (.d (.int (k:Int)))]++cK (3-2) ae)=[ab (.d (.lst (ns.map D.int))),ab (.d (.int (k:Int))),ae]from rfl];rw[pz ((fw c1).trans (c8 (bq (aC rfl rfl (xE (by omega) h)))))];rfl⟩
 ·rw[cD h]at c1;have s1:bh 2 (m2 ba (mC (.int 30011)) (m2 cI (m2 cI (mC (.int 709)) (mV 1)) (mV 1))) [ab (.d (.lst (ns.map D.int))),ab (.d (.int (k:Int))),ae]=.ok (.nx [ab (.d (.lst (ns.map D.int))),ab (.d (.int (k:Int))),ab (.d (.int (30011+709*(k:Int)*(k:Int))))]):=
   bL (aC rfl (aC (aC rfl rfl (aX (kY (by decide) (by decide)))) rfl (aX (vh (by omega) (by omega)))) rfl)
  have hl2:mN d6 [mV 0] [ab (.d (.lst (ns.map D.int))),ab (.d (.int (k:Int))),ab (.d (.int (30011+709*(k:Int)*(k:Int))))]=.ok (.int (ns.length:Int)):=by show Rs.ok (D.int ((ns.map D.int).length:Int))=_;rw[aO]
  have c2:cB (m2 l0 (mN d6 [(mV 0)]) (mC (.int 0))) [ab (.d (.lst (ns.map D.int))),ab (.d (.int (k:Int))),ab (.d (.int (30011+709*(k:Int)*(k:Int))))]=.ok (decide ((0:Int)<(ns.length:Int))):=bO (aC hl2 rfl rfl);by_cases h0:(0:Int)<(ns.length:Int)
  ·rw[bP h0]at c2;refine⟨_,by
    rw[show([ab (W.d (.lst (ns.map D.int))),ab (.d (.int (k:Int)))]++cK (3-2) ae)=[ab (.d (.lst (ns.map D.int))),ab (.d (.int (k:Int))),ae]from rfl];rw[aN ((dN c1).trans rfl),aN s1,aN ((fw c2).trans (bL (aC rfl (aC (aC (aC rfl rfl (xE (by decide) h0)) rfl (aX (by decide))) (aC (aC (aC rfl rfl (aX (kY (by omega) (by omega)))) (aC rfl rfl (aX (kY (by decide) (by decide)))) rfl) rfl rfl) (aX (kY ?_ ?_))) rfl)))];rfl⟩
   ·have:=j1 (ns.getD (0:Int).toNat 0) (b:=99991) (by decide);omega
   ·have:=j0 (ns.getD (0:Int).toNat 0) (b:=99991) (by decide);omega
  ·rw[cD h0]at c2;exact⟨_,by
    rw[show([ab (W.d (.lst (ns.map D.int))),ab (.d (.int (k:Int)))]++cK (3-2) ae)=[ab (.d (.lst (ns.map D.int))),ab (.d (.int (k:Int))),ae]from rfl];rw[aN ((dN c1).trans rfl),aN s1,aN ((dN c2).trans rfl)];rfl⟩
theorem Mt(d:Int)(m:Nat)(hm:m<=8):∃rs:List Int,t5 [.d (.int d),.d (.int (m:Int))]=.ok (.d (.lst (rs.map D.int)))/\rs.length=m:=by
 unfold t5 DY;rw[jx];have hw:(dL 0 (m:Int)).length<=16777216:=by rw[lB];omega
 have hc:dv (.n 0) dc (mV 0) [ae] (dL 0 (m:Int))=.ok ((cu m).map λ(k:Nat)=>D.int (k:Int)):=re (λk=>D.int (k:Int)) m λk _=>⟨[ab (.d (.int k))],rfl,rfl⟩
 have hr:((cu m).map λ(k:Nat)=>D.int (k:Int))=((cu m).map λ(k:Nat)=>(k:Int)).map D.int:=by rw[dF];rfl
 rw[hr]at hc;obtain⟨e',h1,h2⟩:=fQ (tg:=.n 5) (body:=aE (bh 4 (m2 bY (m2 ba (m2 ba (m2 cI (mV 4) (mC (.int 48271))) (m2 cI (mC (.int 7)) (mV 5))) (mC (.int 1))) (mC (.int 2147483647)))) (xJ 3 2 (m2 bY (m2 dP (mV 4) (mC (.int 32))) (mN d6 [(mV 2)]))))
  (λi e=>∃(x:Int) (ls rs:List Int) (o:Option W),e=[ab (.d (.int d)),ab (.d (.int (m:Int))),ab (.d (.lst (ls.map D.int))),ab (.d (.lst (rs.map D.int))),ab (.d (.int x)),o]/\ls.length+i=m/\rs.length=i) (dL 0 (m:Int)) 0 (λi x e hx ⟨x0,ls,rs,o,he,hl,hrs⟩=>by
   obtain⟨hi,rfl⟩:=wb hx;subst he;rw[da]at hl hrs;have hpos:(0:Int)<(ls.length:Int):=by omega
   obtain⟨y,hy⟩ : ∃y,y=(x0*48271+7*(i:Int)+1)%2147483647:=⟨_,rfl⟩;have z1:=j1 (y/32) (b:=(ls.length:Int)) (by omega);have z2:=j0 (y/32) hpos;refine⟨[ab (.d (.int d)),ab (.d (.int (m:Int))),ab (.d (.lst (ls.map D.int))),ab (.d (.lst (rs.map D.int))),ab (.d (.int x0)),ab (.d (.int (i:Int)))],[ab (.d (.int d)),ab (.d (.int (m:Int))),ab (.d (.lst ((ls.eraseIdx (y/32%(ls.length:Int)).toNat).map D.int))),ab (.d (.lst ((rs++[ls.getD (y/32%(ls.length:Int)).toNat 0]).map D.int))),ab (.d (.int y)),ab (.d (.int (i:Int)))],rfl,?_,y,ls.eraseIdx (y/32%(ls.length:Int)).toNat,rs++[ls.getD (y/32%(ls.length:Int)).toNat 0],ab (.d (.int (i:Int))),rfl,?_,?_⟩
   ·have h0:m2 bY (m2 dP (mV 4) (mC (.int 32))) (mN d6 [(mV 2)]) [ab (.d (.int d)),ab (.d (.int (m:Int))),ab (.d (.lst (ls.map D.int))),ab (.d (.lst (rs.map D.int))),ab (.d (.int y)),ab (.d (.int (i:Int)))]=.ok (.int (y/32%(ls.length:Int))):=
     aC (x:=.int (y/32)) (y:=.int (ls.length:Int)) (aC rfl rfl (aX (lM (by decide) (by decide)))) (by show Rs.ok (D.int ((ls.map D.int).length:Int))=_;rw[aO]) (aX hpos)
    rw[aN (e':=[ab (.d (.int d)),ab (.d (.int (m:Int))),ab (.d (.lst (ls.map D.int))),ab (.d (.lst (rs.map D.int))),ab (.d (.int y)),ab (.d (.int (i:Int)))])]
    ·unfold xJ;rw[h0];simp only[aH,pF,getL,jq,jU,Qj z1 z2 (by omega),putL,JL,JM];rw[aX (by rw[aO];omega),fv];rfl
    ·rw[hy];exact bL (aC (aC (aC (aC rfl rfl (aX (vh (by decide) (by decide)))) (aC rfl rfl (aX (kY (by decide) (by decide)))) rfl) rfl rfl) rfl (aX (by decide)))
   ·rw[List.length_eraseIdx_of_lt (by omega)];omega
   ·rw[bU,hrs];simp) [ab (.d (.int d)),ab (.d (.int (m:Int))),ab (.d (.lst (((cu m).map λ(k:Nat)=>(k:Int)).map D.int))),ab (.d (.lst [])),ab (.d (.int (d%2147483647))),ae] ⟨_,_,[],ae,rfl,by simp,rfl⟩
 obtain⟨d2,ls,rs,o,he,hl,hrs⟩:=h2;subst he;rw[lB,da]at hl hrs;refine⟨rs,?_,hrs⟩;rw[aN (e':=[ab (.d (.int d)),ab (.d (.int (m:Int))),ab (.d (.lst (((cu m).map λ(k:Nat)=>(k:Int)).map D.int))),ae,ae,ae]) (bL (d5 (jT rfl (pe m hm)) hw hc))];rw[aN (e':=[ab (.d (.int d)),ab (.d (.int (m:Int))),ab (.d (.lst (((cu m).map λ(k:Nat)=>(k:Int)).map D.int))),ab (.d (.lst [])),ae,ae]) (bL (jO _))];rw[aN (e':=[ab (.d (.int d)),ab (.d (.int (m:Int))),ab (.d (.lst (((cu m).map λ(k:Nat)=>(k:Int)).map D.int))),ab (.d (.lst [])),ab (.d (.int (d%2147483647))),ae]) (bL (aC rfl rfl (aX (by decide))))];rw[aN ((fh (jT rfl (pe m hm))).trans h1)];rfl
end Mr
namespace Mr
open PySem Mi
open My (words uM uH)
theorem M8(ns:List Int){e:Mi.Env}{j k:Nat}(hj:j<8)(hk:k<8)(e0:mV 0 e=.ok (.lst (ns.map D.int)))(e7:mV 7 e=.ok (.int (j:Int)))(e8:mV 8 e=.ok (.int (k:Int))):∃c:Int,(aL ii [(wD (mV 0)),(wD (m2 ba (m2 ba (mC (.int 4)) (m2 dP (m2 cI (mN jP [(mV 7),(mV 8)]) (m2 gF (mN jP [(mV 7),(mV 8)]) (mC (.int 1)))) (mC (.int 2)))) (mN n6 [(mV 7),(mV 8)])))]) e=.ok (.int c):=by have hx:mN jP [(mV 7),(mV 8)] e=.ok (.int (max (j:Int) (k:Int))):=(AN e7 e8).trans (QI _ _);have hn:mN n6 [(mV 7),(mV 8)] e=.ok (.int (min (j:Int) (k:Int))):=(AN e7 e8).trans (Rj _ _);obtain⟨t1,t2,t3,t4⟩:=OJ (a:=max (j:Int) (k:Int)) (by omega) (by omega);obtain⟨z,hz⟩ : ∃z:Nat,4+max (j:Int) (k:Int)*(max (j:Int) (k:Int)-1)/2+min (j:Int) (k:Int)=(z:Int):=⟨(4+max (j:Int) (k:Int)*(max (j:Int) (k:Int)-1)/2+min (j:Int) (k:Int)).toNat,by omega⟩;obtain⟨c,hc⟩:=qF ns z (by omega);refine⟨c,call2 (bq e0) (bq (aC (aC rfl (aC (aC hx (aC hx rfl rfl) (aX (kY t1 t2))) rfl (aX (lM (by decide) (by decide)))) rfl) hn rfl)) ?_⟩;rw[hz];exact hc
theorem Si(ns:List Int)(hi:Nat)(h0:1<=hi)(h2:hi<=8) :
 ∃ac A r,qY [.d (.lst (ns.map D.int)),.d (.int (hi:Int))]=.ok (.d (am ac (A.map (arrOf ac))))/\qO ac A r/\(∃(c:Int) (m:Nat),m<=8/\ac=(words c m).map S')/\∃c0:Int,ii [.d (.lst (ns.map D.int)),.d (.int 0)]=.ok (.d (.int c0))/\(ac.length:Int)=1+c0%(hi:Int):=by
 obtain⟨c0,hc0⟩:=qF ns 0 (by decide);obtain⟨c1,hc1⟩:=qF ns 1 (by decide);obtain⟨c2,hc2⟩:=qF ns 2 (by decide);obtain⟨c3,hc3⟩:=qF ns 3 (by decide);have hw:(0:Int)<(hi:Int):=by omega
 have q1:=j1 c0 (b:=(hi:Int)) (by omega);have q2:=j0 c0 hw;obtain⟨m,hm⟩ : ∃m:Nat,1+c0%(hi:Int)=(m:Int):=⟨(1+c0%(hi:Int)).toNat,by omega⟩;have hm1:1<=m:=by omega
 have hm2:m<=hi:=by omega
 have hm8:m<=8:=by omega
 obtain⟨ac,hnm⟩ : ∃ac,ac=(words c1 m).map S':=⟨_,rfl⟩;have hn:=Nz c1 m hm8;rw[<- hnm]at hn;have hnl:ac.length=m:=by rw[hnm,aO];exact uM c1 m
 have hnd:ac.Nodup:=by rw[hnm];exact List.Pairwise.map _ (λa b h z=>h (OM z)) (uH _ _ hm8)
 obtain⟨rs,hr,hrl⟩:=Mt c2 m hm8;have q3:=j1 c3 (b:=6) (by decide);have q4:=j0 c3 (b:=6) (by decide);obtain⟨th,hth⟩ : ∃th,az (.lst ([4,1,2,3,2,3].map D.int)) (.int (c3%6))=.ok (.int th):=⟨_,xE q3 (by simp;omega)⟩;have hrx:∀i:Nat,i<m->az (.lst (rs.map D.int)) (.int (i:Int))=.ok (.int (rs.getD i 0)):=λi hi=>by
  have:=xE (cs:=rs) (i:=(i:Int)) (by omega) (by omega)
  rwa [kM]at this
 have hnx:∀i:Nat,i<m->az (af ac) (.int (i:Int))=.ok (.str (nth ac i)):=λi hi=>by
  have:=GB (cs:=ac) (i:=(i:Int)) (by omega) (by omega)
  rwa [kM]at this
 have inner:∀(j:Nat) (A:List Ix) (o8 o9:Option W),j<m->good m (λi=>rs.getD i 0) A j 0->∃(A':List Ix) (p8 p9:Option W),gI (.n 8) (aE (bh 9 (aL ii [(wD (mV 0)),(wD (m2 ba (m2 ba (mC (.int 4)) (m2 dP (m2 cI (mN jP [(mV 7),(mV 8)]) (m2 gF (mN jP [(mV 7),(mV 8)]) (mC (.int 1)))) (mC (.int 2)))) (mN n6 [(mV 7),(mV 8)])))])) (bu (cE (cB (m2 gt (m2 az (mV 4) (mV 7)) (m2 az (mV 4) (mV 8)))) (cB (m2 gt (m2 bY (m2 dP (m2 bY (m2 cI (mV 9) (mC (.int 48271))) (mC (.int 2147483647))) (mC (.int 16))) (mC (.int 4))) (mV 5)))) (cH 6 (mN dTup [(m2 az (mV 3) (mV 7)),(m2 az (mV 3) (mV 8))])) bI)) (dL 0 (m:Int)) [ab (.d (.lst (ns.map D.int))),ab (.d (.int (hi:Int))),ab (.d (.int (m:Int))),ab (.d (af ac)),ab (.d (.lst (rs.map D.int))),ab (.d (.int th)),ab (.d (iM ac A)),ab (.d (.int (j:Int))),o8,o9]=.ok (.nx [ab (.d (.lst (ns.map D.int))),ab (.d (.int (hi:Int))),ab (.d (.int (m:Int))),ab (.d (af ac)),ab (.d (.lst (rs.map D.int))),ab (.d (.int th)),ab (.d (iM ac A')),ab (.d (.int (j:Int))),p8,p9])/\good m (λi=>rs.getD i 0) A' (j+1) 0:=by
  intro j A o8 o9 hj hg;obtain⟨e',f1,A',p8,p9,he,hg'⟩:=fQ (tg:=.n 8) (body:=(aE (bh 9 (aL ii [(wD (mV 0)),(wD (m2 ba (m2 ba (mC (.int 4)) (m2 dP (m2 cI (mN jP [(mV 7),(mV 8)]) (m2 gF (mN jP [(mV 7),(mV 8)]) (mC (.int 1)))) (mC (.int 2)))) (mN n6 [(mV 7),(mV 8)])))])) (bu (cE (cB (m2 gt (m2 az (mV 4) (mV 7)) (m2 az (mV 4) (mV 8)))) (cB (m2 gt (m2 bY (m2 dP (m2 bY (m2 cI (mV 9) (mC (.int 48271))) (mC (.int 2147483647))) (mC (.int 16))) (mC (.int 4))) (mV 5)))) (cH 6 (mN dTup [(m2 az (mV 3) (mV 7)),(m2 az (mV 3) (mV 8))])) bI))) (λk e=>∃(A:List Ix) (o8 o9:Option W),e=[ab (.d (.lst (ns.map D.int))),ab (.d (.int (hi:Int))),ab (.d (.int (m:Int))),ab (.d (af ac)),ab (.d (.lst (rs.map D.int))),ab (.d (.int th)),ab (.d (iM ac A)),ab (.d (.int (j:Int))),o8,o9]/\good m (λi=>rs.getD i 0) A j k)
   (dL 0 (m:Int)) 0 (λk x e hx ⟨A,o8,o9,he,hg⟩=>by
    obtain⟨hk,rfl⟩:=wb hx;subst he;rw[da]at hg;obtain⟨c,hc⟩:=M8 ns (e:=[ab (.d (.lst (ns.map D.int))),ab (.d (.int (hi:Int))),ab (.d (.int (m:Int))),ab (.d (af ac)),ab (.d (.lst (rs.map D.int))),ab (.d (.int th)),ab (.d (iM ac A)),ab (.d (.int (j:Int))),ab (.d (.int (k:Int))),o9]) (j:=j) (k:=k) (by omega) (by omega) rfl rfl rfl;have c1:cB (m2 gt (m2 az (mV 4) (mV 7)) (m2 az (mV 4) (mV 8))) [ab (.d (.lst (ns.map D.int))),ab (.d (.int (hi:Int))),ab (.d (.int (m:Int))),ab (.d (af ac)),ab (.d (.lst (rs.map D.int))),ab (.d (.int th)),ab (.d (iM ac A)),ab (.d (.int (j:Int))),ab (.d (.int (k:Int))),ab (.d (.int c))]=.ok (decide (rs.getD j 0<rs.getD k 0)):=bO (aC (aC rfl rfl (hrx j hj)) (aC rfl rfl (hrx k hk)) rfl);have c2:cB (m2 gt (m2 bY (m2 dP (m2 bY (m2 cI (mV 9) (mC (.int 48271))) (mC (.int 2147483647))) (mC (.int 16))) (mC (.int 4))) (mV 5)) [ab (.d (.lst (ns.map D.int))),ab (.d (.int (hi:Int))),ab (.d (.int (m:Int))),ab (.d (af ac)),ab (.d (.lst (rs.map D.int))),ab (.d (.int th)),ab (.d (iM ac A)),ab (.d (.int (j:Int))),ab (.d (.int (k:Int))),ab (.d (.int c))]=.ok (decide (c*48271%2147483647/16%4<th)):=bO (aC (aC (aC (aC (aC rfl rfl (aX (vh (by decide) (by decide)))) rfl (aX (by decide))) rfl (aX (lM (by decide) (by decide)))) rfl (aX (by decide))) rfl rfl);by_cases hb:rs.getD j 0<rs.getD k 0/\c*48271%2147483647/16%4<th
    ·refine⟨[ab (.d (.lst (ns.map D.int))),ab (.d (.int (hi:Int))),ab (.d (.int (m:Int))),ab (.d (af ac)),ab (.d (.lst (rs.map D.int))),ab (.d (.int th)),ab (.d (iM ac A)),ab (.d (.int (j:Int))),ab (.d (.int (k:Int))),o9],[ab (.d (.lst (ns.map D.int))),ab (.d (.int (hi:Int))),ab (.d (.int (m:Int))),ab (.d (af ac)),ab (.d (.lst (rs.map D.int))),ab (.d (.int th)),ab (.d (iM ac (A++[(j,k)]))),ab (.d (.int (j:Int))),ab (.d (.int (k:Int))),ab (.d (.int c))],rfl,?_,A++[(j,k)],ab (.d (.int (k:Int))),ab (.d (.int c)),rfl,by rw[da];exact hg.add hj hk hb.1⟩;rw[aN (e':=[ab (.d (.lst (ns.map D.int))),ab (.d (.int (hi:Int))),ab (.d (.int (m:Int))),ab (.d (af ac)),ab (.d (.lst (rs.map D.int))),ab (.d (.int th)),ab (.d (iM ac A)),ab (.d (.int (j:Int))),ab (.d (.int (k:Int))),ab (.d (.int c))]) (bL hc)];rw[fw (by unfold cE;rw[c1,aH,bP hb.1,bc rfl,c2,bP hb.2])];rw[kB (d:=pairD (nth ac j,nth ac k)) (ds:=(A.map (arrOf ac)).map pairD) (fA (aC rfl rfl (hnx j hj)) (aC rfl rfl (hnx k hk))) rfl (by rw[aO,aO];have:=hg.2.2;omega)];show Rs.ok (Out.nx [_,_,_,_,_,_,ab (W.d (D.lst ((A.map (arrOf ac)).map pairD++[pairD (nth ac j,nth ac k)]))),_,_,_])=_;rw[iM,fv,fv];rfl
    ·refine⟨[ab (.d (.lst (ns.map D.int))),ab (.d (.int (hi:Int))),ab (.d (.int (m:Int))),ab (.d (af ac)),ab (.d (.lst (rs.map D.int))),ab (.d (.int th)),ab (.d (iM ac A)),ab (.d (.int (j:Int))),ab (.d (.int (k:Int))),o9],[ab (.d (.lst (ns.map D.int))),ab (.d (.int (hi:Int))),ab (.d (.int (m:Int))),ab (.d (af ac)),ab (.d (.lst (rs.map D.int))),ab (.d (.int th)),ab (.d (iM ac A)),ab (.d (.int (j:Int))),ab (.d (.int (k:Int))),ab (.d (.int c))],rfl,?_,A,ab (.d (.int (k:Int))),ab (.d (.int c)),rfl,by rw[da];exact hg.skip⟩;rw[aN (e':=[ab (.d (.lst (ns.map D.int))),ab (.d (.int (hi:Int))),ab (.d (.int (m:Int))),ab (.d (af ac)),ab (.d (.lst (rs.map D.int))),ab (.d (.int th)),ab (.d (iM ac A)),ab (.d (.int (j:Int))),ab (.d (.int (k:Int))),ab (.d (.int c))]) (bL hc)];rw[dN (by
      unfold cE;rw[c1,aH];by_cases hb1:rs.getD j 0<rs.getD k 0
      ·rw[bP hb1,bc rfl,c2,cD λz=>hb ⟨hb1,z⟩]
      ·rw[cD hb1,a8 cZ])]
     rfl) _ ⟨A,o8,o9,rfl,hg⟩
  subst he;rw[lB,da]at hg';exact⟨A',p8,p9,f1,hg'.next hm8⟩
 obtain⟨e',f1,A,p7,p8,p9,he,hg⟩:=fQ (tg:=.n 7) (body:=(cQ (iA (mV 2)) (.n 8) (aE (bh 9 (aL ii [(wD (mV 0)),(wD (m2 ba (m2 ba (mC (.int 4)) (m2 dP (m2 cI (mN jP [(mV 7),(mV 8)]) (m2 gF (mN jP [(mV 7),(mV 8)]) (mC (.int 1)))) (mC (.int 2)))) (mN n6 [(mV 7),(mV 8)])))])) (bu (cE (cB (m2 gt (m2 az (mV 4) (mV 7)) (m2 az (mV 4) (mV 8)))) (cB (m2 gt (m2 bY (m2 dP (m2 bY (m2 cI (mV 9) (mC (.int 48271))) (mC (.int 2147483647))) (mC (.int 16))) (mC (.int 4))) (mV 5)))) (cH 6 (mN dTup [(m2 az (mV 3) (mV 7)),(m2 az (mV 3) (mV 8))])) bI)))) (λj e=>∃(A:List Ix) (o7 o8 o9:Option W),e=[ab (.d (.lst (ns.map D.int))),ab (.d (.int (hi:Int))),ab (.d (.int (m:Int))),ab (.d (af ac)),ab (.d (.lst (rs.map D.int))),ab (.d (.int th)),ab (.d (iM ac A)),o7,o8,o9]/\good m (λi=>rs.getD i 0) A j 0)
  (dL 0 (m:Int)) 0 (λj x e hx ⟨A,o7,o8,o9,he,hg⟩=>by
   obtain⟨hj,rfl⟩:=wb hx;subst he;rw[da]at hg;obtain⟨A',p8,p9,f1,hg'⟩:=inner j A o8 o9 hj hg;exact⟨_,_,rfl,(fh (jT rfl (pe m hm8))).trans f1,A',_,p8,p9,rfl,by rw[da];exact hg'⟩)
  [ab (.d (.lst (ns.map D.int))),ab (.d (.int (hi:Int))),ab (.d (.int (m:Int))),ab (.d (af ac)),ab (.d (.lst (rs.map D.int))),ab (.d (.int th)),ab (.d (.lst [])),ae,ae,ae] ⟨[],ae,ae,ae,rfl,Ki,λp hp=>absurd hp (by simp),g9 _⟩
 subst he;rw[lB,da]at hg;refine⟨ac,A,λi=>rs.getD i 0,?_,⟨hnd,by omega,by omega,hg.1,λp hp=>?_,by have:=hg.2.2;omega⟩,⟨c1,m,hm8,hnm⟩,c0,hc0,by rw[hnl,<- hm]⟩
 ·unfold qY Gj;rw[ss];rw[show((0:Nat):Int)=0 from rfl]at hc0;rw[show((1:Nat):Int)=1 from rfl]at hc1;rw[show((2:Nat):Int)=2 from rfl]at hc2;rw[show((3:Nat):Int)=3 from rfl]at hc3;rw[aN (e':=[ab (.d (.lst (ns.map D.int))),ab (.d (.int (hi:Int))),ab (.d (.int (m:Int))),ae,ae,ae,ae,ae,ae,ae]) (bL (d:=.int (m:Int)) ((aC rfl (aC (call2 rfl rfl hc0) rfl (aX hw)) rfl).trans (by rw[sV,hm])))];rw[aN (e':=[ab (.d (.lst (ns.map D.int))),ab (.d (.int (hi:Int))),ab (.d (.int (m:Int))),ab (.d (af ac)),ae,ae,ae,ae,ae,ae]) (bL (call2 (bq (call2 rfl rfl hc1)) rfl hn))];rw[aN (e':=[ab (.d (.lst (ns.map D.int))),ab (.d (.int (hi:Int))),ab (.d (.int (m:Int))),ab (.d (af ac)),ab (.d (.lst (rs.map D.int))),ae,ae,ae,ae,ae]) (bL (call2 (bq (call2 rfl rfl hc2)) rfl hr))];have hl6:mN bx [(mC (.int 4)),(mC (.int 1)),(mC (.int 2)),(mC (.int 3)),(mC (.int 2)),(mC (.int 3))] [ab (.d (.lst (ns.map D.int))),ab (.d (.int (hi:Int))),ab (.d (.int (m:Int))),ab (.d (af ac)),ab (.d (.lst (rs.map D.int))),ae,ae,ae,ae,ae]=.ok (.lst ([4,1,2,3,2,3].map D.int)):=by
   show bp (([4,1,2,3,2,3].map D.int).length<=16777216) _=_;exact aX (by simp)
  rw[aN (e':=[ab (.d (.lst (ns.map D.int))),ab (.d (.int (hi:Int))),ab (.d (.int (m:Int))),ab (.d (af ac)),ab (.d (.lst (rs.map D.int))),ab (.d (.int th)),ae,ae,ae,ae]) (bL (aC hl6 (aC (call2 rfl rfl hc3) rfl (aX (by decide))) hth))];rw[aN (e':=[ab (.d (.lst (ns.map D.int))),ab (.d (.int (hi:Int))),ab (.d (.int (m:Int))),ab (.d (af ac)),ab (.d (.lst (rs.map D.int))),ab (.d (.int th)),ab (.d (.lst [])),ae,ae,ae]) (bL (jO _))];rw[aN ((fh (jT rfl (pe m hm8))).trans f1)];rw[c8 (bq (fA (x:=a7 ac) (y:=eZ (A.map (arrOf ac))) (eJ (x:=af ac) rfl) (eJ (x:=iM ac A) rfl)))];rfl
 ·obtain⟨a,b,c,_⟩:=hg.2.1 p hp;exact⟨by omega,by omega,c⟩
theorem QL(ns:List Int)(hi:Nat)(h0:1<=hi)(h2:hi<=8) :
 ∃ac A r,qY [.d (.lst (ns.map D.int)),.d (.int (hi:Int))]=.ok (.d (am ac (A.map (arrOf ac))))/\qO ac A r/\∃(c:Int) (m:Nat),m<=8/\ac=(words c m).map S':=by
 obtain⟨ac,A,r,h1,h2,h3,_⟩:=Si ns hi h0 h2;exact⟨ac,A,r,h1,h2,h3⟩
end Mr
namespace Mr
open PySem Mi
end Mr
namespace Mr
open PySem Mi
inductive fX(ak:List Ar)(x:Str):Str->Prop
 |refl:fX ak x x
 |step {y z:Str}:fX ak x y->(y,z)∈ak->fX ak x z
structure Good(ac:List Str)(ak:List Ar)(x:Str)(met:List Str):Prop where
 nd:met.Nodup
 sub:∀y∈met,y∈ac
 r:∀y∈met,fX ak x y
 x:x∈met
def uq(ak:List Ar)(met:List Str):Prop:=∀p∈ak,p.1∈met->p.2∈met
theorem uq.all{ak:List Ar}{met:List Str}(h:uq ak met){x:Str}(hx:x∈met):∀{y:Str},fX ak x y->y∈met
 |_,.refl=>hx
 |_,.step r a=>h _ a (h.all hx r)
theorem Good.iff{ac:List Str}{ak:List Ar}{x:Str}{met:List Str}(g:Good ac ak x met)(h:uq ak met)(y:Str):y∈met↔fX ak x y:=⟨g.r y,h.all g.x⟩
theorem SW{ac met:List Str}(nd:met.Nodup)(sub:∀y∈met,y∈ac)(h:ac.length<=met.length):∀y∈ac,y∈met:=λy hy=>by
 apply nD;intro hn;have:=dJ (l:=y::met) (m:=ac) (iU.mpr ⟨hn,nd⟩) (λz hz=>by
  rcases bB.mp hz with rfl|hz
  ·exact hy
  ·exact sub z hz)
 simp at this;omega
end Mr
namespace Mr
open PySem Mi
noncomputable def rch (ak:List Ar) (x y:Str):Bool:=@decide (fX ak x y) (sK _)
theorem oY{ak:List Ar}{x y:Str}:rch ak x y=true↔fX ak x y:=by unfold rch;exact@dZ _ (sK _)
noncomputable def kQ (ac:List Str) (ak:List Ar) (x:Str):List Str:=ac.filter (rch ak x)
theorem EE{ak:List Ar}{x:Str}{met:List Str}(h:∀y,y∈met↔fX ak x y)(y:Str):decide (y∈met)=rch ak x y:=by rw[jZ,oY,dZ];exact h y
def cq(fs:List Str):W:=.dk (fs.map λy=>((eB y:Ky),D.bl true))
theorem Gi(fs:List Str)(y:Str):(fM (fs.map λy=>((eB y:Ky),D.bl true)) (eB y)).isSome=decide (y∈fs):=by
 unfold fM
 induction fs with
 |nil=>rfl
 |cons a r ih=>
  rw[cP,jW];by_cases h:a=y
  ·subst h;simp
  ·rw[cD (λz:(eB a:Ky)=eB y=>h (vH z))];simp only[ih];rw[decide_eq_decide];exact⟨λz=>dR _ z,λz=>by
    rcases bB.mp z with z|z
    ·exact absurd z.symm h
    ·exact z⟩
theorem yW{i:Nat}{k:E}{e:Mi.Env}{fs:List Str}{y:Str}(hk:k e=.ok (.str y))(hw:wV i e=.ok (cq fs)):nM i k e=.ok (.bl (decide (y∈fs))):=by unfold nM;rw[hk,aH,hw,aH,<- Gi];rfl
theorem Eg{i:Nat}{k:E}{e:Mi.Env}{fs:List Str}{y:Str}(hk:k e=.ok (.str y))(hw:wV i e=.ok (cq fs)):gV i k e=.ok (.bl (!decide (y∈fs))):=by unfold gV;rw[hk,aH,hw,aH,<- Gi];rfl
theorem Bn{i:Nat}{k:E}{e:Mi.Env}{fs:List Str}{y:Str}(hk:k e=.ok (.str y))(hw:wV i e=.ok (cq fs))(hn:y∉fs)(hl:fs.length<=1000):dA i k (mC (.bl true)) e=.ok (.nx (e.set i (ab (cq (fs++[y]))))):=by
 unfold dA;have h1:o0 (cq fs) (.str y) (.bl true)=.ok (cq (fs++[y])):=by
  show bp ((fs.map λy=>((eB y:Ky),D.bl true)).length<16777216) ((c6 (ox (.str y))).bind λk=>Rs.ok (W.dk (Mi.putK k (.bl true) (fs.map λy=>((eB y:Ky),D.bl true)))))=_;rw[aX (by rw[aO];omega)];show Rs.ok (W.dk (Mi.putK (eB y:Ky) (.bl true) (fs.map λy=>((eB y:Ky),D.bl true))))=_;unfold Mi.putK;rw[a8 (by
   rw[vt,Bool.not_eq_true,xS];intro z hz;simp only[Kn,rT];exactλq=>hn (vH q ▸ hz))]
  unfold cq;rw[fv];rfl
 show(k e).bind _=_;rw[hk,aH,hw,aH,h1];rfl
structure kE(ac:List Str)(ak:List Ar)(x:Str)(h:Option Str)(fs ws:List Str):Prop where
 g:Good ac ak x fs
 wnd:ws.Nodup
 kR:∀y∈ws,y∈fs
 ex:∀y∈fs,y∉ws->h=ab y\/∀p∈ak,p.1=y->p.2∈fs
abbrev nU:S:=(aE (tU 5 4)
 (cQ (bv (mV 1)) (.t [6,7])
 (bu (cE (cB (m2 cy (mV 6) (mV 5))) (cB (gV 3 (mV 7))))
 (aE (dA 3 (mV 7) (mC (.bl true)))
 (cH 4 (mV 7)))
 bI)))
theorem LB{ac:List Str}{ak:List Ar}(N:iN ac ak)(hd:∀p∈ak,p.2∈ac){x h:Str}{fs ws:List Str}(w:kE ac ak x ae fs (ws++[h]))(o5 o6 o7:Option W) :
 ∃fs' ws' p6 p7,nU [ab (.d (a7 ac)),ab (.d (eZ ak)),ab (.d (.str x)),ab (cq fs),ab (.d (af (ws++[h]))),o5,o6,o7]=.ok (.nx [ab (.d (a7 ac)),ab (.d (eZ ak)),ab (.d (.str x)),ab (cq fs'),ab (.d (af ws')),ab (.d (.str h)),p6,p7]) /\
  kE ac ak x ae fs' ws'/\fs.length<=fs'.length/\ws'.length+fs.length=ws.length+fs'.length:=by
 have hnd:=et.mp w.wnd;have hh:h∈fs:=w.kR h (by simp);have hnw:h∉ws:=λz=>hnd.2.2 h z h (by simp) rfl;obtain⟨e',f1,fs',ws',p6,p7,he,w',hl,hl2,hx,_⟩:=fQ (tg:=.t [6,7]) (body:=(bu (cE (cB (m2 cy (mV 6) (mV 5))) (cB (gV 3 (mV 7)))) (aE (dA 3 (mV 7) (mC (.bl true))) (cH 4 (mV 7))) bI))
  (λi e=>∃(fs' ws':List Str) (o6 o7:Option W),e=[ab (.d (a7 ac)),ab (.d (eZ ak)),ab (.d (.str x)),ab (cq fs'),ab (.d (af ws')),ab (.d (.str h)),o6,o7]/\kE ac ak x (ab h) fs' ws'/\fs.length<=fs'.length/\ws'.length+fs.length=ws.length+fs'.length/\(∀j p,j<i->ak[j]? = ab p->p.1=h->p.2∈fs')/\h∈fs') (ak.map pairD) 0 (λi d e hi ⟨f1,w1,o6,o7,he,W1,hl,hl2,hx,hf1⟩=>by
   subst he;rw[da]at hx ⊢;rw[cS]at hi;obtain⟨p,hp,rfl⟩:=gR.mp hi;have hpm:=eS hp;have c1:cB (m2 cy (mV 6) (mV 5)) [ab (.d (a7 ac)),ab (.d (eZ ak)),ab (.d (.str x)),ab (cq f1),ab (.d (af w1)),ab (.d (.str h)),ab (.d (.str p.1)),ab (.d (.str p.2))]=.ok (decide (p.1=h)):=bO ((aC rfl rfl rfl).trans (ny _ _));have c2:cB (gV 3 (mV 7)) [ab (.d (a7 ac)),ab (.d (eZ ak)),ab (.d (.str x)),ab (cq f1),ab (.d (af w1)),ab (.d (.str h)),ab (.d (.str p.1)),ab (.d (.str p.2))]=.ok (!decide (p.2∈f1)):=bO (Eg rfl rfl);have hl8:f1.length<=8:=cU (dJ W1.g.nd W1.g.sub) N.le;have hw8:w1.length<=8:=cU (dJ W1.wnd (λy hy=>W1.g.sub y (W1.kR y hy))) N.le;by_cases hb:p.1=h/\p.2∉f1
   ·refine⟨[ab (.d (a7 ac)),ab (.d (eZ ak)),ab (.d (.str x)),ab (cq f1),ab (.d (af w1)),ab (.d (.str h)),ab (.d (.str p.1)),ab (.d (.str p.2))],[ab (.d (a7 ac)),ab (.d (eZ ak)),ab (.d (.str x)),ab (cq (f1++[p.2])),ab (.d (af (w1++[p.2]))),ab (.d (.str h)),ab (.d (.str p.1)),ab (.d (.str p.2))],rfl,?_,f1++[p.2],w1++[p.2],_,_,rfl,⟨⟨?_,λy hy=>?_,λy hy=>?_,eo _ W1.g.x⟩,?_,λy hy=>?_,λy hy hn=>?_⟩,by rw[bU];omega,by rw[bU,bU];simp;omega,λj q hj hq h1=>?_,eo _ hf1⟩
    ·rw[fw (by unfold cE;rw[c1,aH,bP hb.1,bc rfl,c2,cD hb.2];rfl)];rw[aN (Bn (y:=p.2) (fs:=f1) rfl rfl hb.2 (by omega))];rw[kB (d:=.str p.2) (ds:=w1.map D.str) rfl rfl (by rw[aO];omega)];show Rs.ok (Out.nx [_,_,_,_,ab (W.d (D.lst (w1.map D.str++[.str p.2]))),_,_,_])=_;rw[af,fv];rfl
    ·exact et.mpr ⟨W1.g.nd,by simp,λa ha b hb'=>by
      have:b=p.2:=by simpa using hb'
      subst this;exactλz=>hb.2 (z ▸ ha)⟩
    ·rcases bT.mp hy with z|z
     ·exact W1.g.sub y z
     ·have:y=p.2:=by simpa using z
      subst this;exact hd p hpm
    ·rcases bT.mp hy with z|z
     ·exact W1.g.r y z
     ·have:y=p.2:=by simpa using z
      subst this;exact .step (W1.g.r p.1 (hb.1 ▸ hf1)) hpm
    ·exact et.mpr ⟨W1.wnd,by simp,λa ha b hb'=>by
      have:b=p.2:=by simpa using hb'
      subst this;exactλz=>hb.2 (z ▸ W1.kR a ha)⟩
    ·rcases bT.mp hy with z|z
     ·exact eo _ (W1.kR y z)
     ·exact dE _ z
    ·rcases bT.mp hy with z|z
     ·rcases W1.ex y z (λq=>hn (eo _ q))with q|q
      ·exact .inl q
      ·exact .inr λr hr h1=>eo _ (q r hr h1)
     ·exact absurd (dE _ z) hn
    ·by_cases hji:j=i
     ·subst hji;rw[hp]at hq;cases hq;simp
     ·exact eo _ (hx j q (by omega) hq h1)
   ·refine⟨[ab (.d (a7 ac)),ab (.d (eZ ak)),ab (.d (.str x)),ab (cq f1),ab (.d (af w1)),ab (.d (.str h)),ab (.d (.str p.1)),ab (.d (.str p.2))],[ab (.d (a7 ac)),ab (.d (eZ ak)),ab (.d (.str x)),ab (cq f1),ab (.d (af w1)),ab (.d (.str h)),ab (.d (.str p.1)),ab (.d (.str p.2))],rfl,?_,f1,w1,_,_,rfl,W1,hl,hl2,λj q hj hq h1=>?_,hf1⟩
    ·rw[dN (by
      unfold cE;rw[c1,aH];by_cases h1:p.1=h
      ·rw[bP h1,bc rfl,c2,bP (nD λz=>hb ⟨h1,z⟩)];rfl
      ·rw[cD h1,a8 cZ])]
     rfl
    ·by_cases hji:j=i
     ·subst hji;rw[hp]at hq;cases hq;exact nD λz=>hb ⟨h1,z⟩
     ·exact hx j q (by omega) hq h1) [ab (.d (a7 ac)),ab (.d (eZ ak)),ab (.d (.str x)),ab (cq fs),ab (.d (af ws)),ab (.d (.str h)),o6,o7]
  ⟨fs,ws,o6,o7,rfl,⟨w.g,hnd.1,λy hy=>w.kR y (eo _ hy),λy hy hn=>by
   by_cases hyh:y=h
   ·exact .inl (by rw[hyh])
   ·rcases w.ex y hy (λz=>by
     rcases bT.mp z with z|z
     ·exact hn z
     ·exact hyh (by simpa using z))with q|q
    ·cases q
    ·exact .inr q⟩,bK _,rfl,λj p hj=>absurd hj (mx _),hh⟩
 subst he;refine⟨fs',ws',p6,p7,?_,⟨w'.g,w'.wnd,w'.kR,λy hy hn=>.inr ?_⟩,hl,hl2⟩
 ·rw[show nU=aE (tU 5 4) (cQ (bv (mV 1)) (.t [6,7]) (bu (cE (cB (m2 cy (mV 6) (mV 5))) (cB (gV 3 (mV 7)))) (aE (dA 3 (mV 7) (mC (.bl true))) (cH 4 (mV 7))) bI))from rfl];rw[aN (e':=[ab (.d (a7 ac)),ab (.d (eZ ak)),ab (.d (.str x)),ab (cq fs),ab (.d (af ws)),ab (.d (.str h)),o6,o7]) (by
   show(c6 (((ws++[h]).map D.str)[((ws++[h]).map D.str).length-1]?)).bind _=_;have e1:((ws++[h]).map D.str)[((ws++[h]).map D.str).length-1]? = ab (.str h):=by simp
   have e2:((ws++[h]).map D.str).dropLast=ws.map D.str:=by simp
   rw[e1,m3,aH,e2];rfl)]
  exact(fh (dG (x:=eZ ak) rfl rfl)).trans f1
 ·rcases w'.ex y hy hn with q|q
  ·cases q;intro p hp h1;obtain⟨j,hj⟩:=li hp;exact hx j p (by rw[aO];have:=(cv.mp hj).1;omega) hj h1
  ·exact q
end Mr
namespace Mr
open PySem Mi
theorem He{ac:List Str}{ak:List Ar}(N:iN ac ak)(hd:∀p∈ak,p.2∈ac){x:Str}:∀(n:Nat) (fs ws:List Str) (o5 o6 o7:Option W),kE ac ak x ae fs ws->(ac.length-fs.length)+ws.length<n ->
 ∃fs' p5 p6 p7,gJ (dQ (mV 4)) nU n [ab (.d (a7 ac)),ab (.d (eZ ak)),ab (.d (.str x)),ab (cq fs),ab (.d (af ws)),o5,o6,o7]=.ok (.nx [ab (.d (a7 ac)),ab (.d (eZ ak)),ab (.d (.str x)),ab (cq fs'),ab (.d (af [])),p5,p6,p7])/\kE ac ak x ae fs' []
 |0,_,_,_,_,_,_,h=>absurd h (mx _)
 |n+1,fs,ws,o5,o6,o7,w,h=>by
  have hc:dQ (mV 4) [ab (.d (a7 ac)),ab (.d (eZ ak)),ab (.d (.str x)),ab (cq fs),ab (.d (af ws)),o5,o6,o7]=.ok (!(ws.map D.str).isEmpty):=rfl;rcases JG ws with rfl|⟨ws1,y,rfl⟩
  ·exact⟨fs,o5,o6,o7,by rw[gJ,hc];rfl,w⟩
  ·rw[JH]at w h hc ⊢;obtain⟨fs',ws',p6,p7,f1,w',l1,l2⟩:=LB N hd w o5 o6 o7;have l3:fs'.length<=ac.length:=dJ w'.g.nd w'.g.sub;obtain⟨fs2,q5,q6,q7,f2,w2⟩:=He N hd n fs' ws' (ab (.d (.str y))) p6 p7 w' (by rw[bU]at h;simp at h;omega);refine⟨fs2,q5,q6,q7,?_,w2⟩;rw[gJ,hc,show(!((ws1++[y]).map D.str).isEmpty)=true by simp,aH,bc rfl,f1,aH];exact f2
theorem Pg{ac:List Str}{ak:List Ar}(N:iN ac ak)(hd:∀p∈ak,p.2∈ac){x:Str}(hx:x∈ac):na [.d (a7 ac),.d (eZ ak),.d (.str x)]=.ok (.d (af (kQ ac ak x))):=by
 have w0:kE ac ak x ae [x] [x]:=⟨⟨by simp,λy hy=>by simp at hy;subst hy;exact hx,λy hy=>by simp at hy;subst hy;exact .refl,by simp⟩,by simp,λy hy=>hy,λy hy hn=>absurd hy hn⟩;obtain⟨fs,p5,p6,p7,f1,w⟩:=He N hd 20 [x] [x] ae ae ae w0 (by have:=N.le;simp;omega);have hcl:uq ak fs:=λp hp h1=>by
  rcases w.ex p.1 h1 (by simp)with q|q
  ·cases q
  ·exact q p hp rfl
 unfold na AR;rw[rf];rw[aN (e':=[ab (.d (a7 ac)),ab (.d (eZ ak)),ab (.d (.str x)),ab (cq [x]),ae,ae,ae,ae]) rfl];rw[aN (e':=[ab (.d (a7 ac)),ab (.d (eZ ak)),ab (.d (.str x)),ab (cq [x]),ab (.d (af [x])),ae,ae,ae]) (bL (kn rfl))];rw[aN (show jk 20 (dQ (mV 4)) nU _=_ from f1)];have hc:dv (.n 1) (cB (nM 0 (mV 1))) (mV 1) [ab (cq fs),ae] (ac.map D.str)=.ok ((ac.filter (rch ak x)).map D.str):=
  fe D.str D.str _ ac λy _=>⟨[ab (cq fs),ab (.d (.str y))],rfl,bO ((yW rfl rfl).trans (by rw[EE (w.g.iff hcl)])),λ_=>rfl⟩
 rw[c8 (bq (d5 (dG (x:=a7 ac) rfl rfl) (by rw[aO];have:=N.le;omega) hc))];rfl
theorem Ri{ac:List Str}{ak:List Ar}(N:iN ac ak)(hd:∀p∈ak,p.2∈ac){x:Str}(hx:x∈ac):uz [.d (am ac ak),.d (.str x)]=.ok (.d (af (kQ ac ak x))):=by
 unfold uz HG;rw[jx];have hr:fV [.d (a7 ac),.d (af [x])]=.ok (.d .non):=pf λy hy=>by simp at hy;subst hy;exact hx
 rw[aN (e':=[ab (.d (am ac ak)),ab (.d (.str x))]) (by unfold ej;rw[call2 (bq (aC rfl rfl (fY _ _))) (bq (kn rfl)) hr];rfl)];rw[c8 (bq (iG (bq (aC rfl rfl (fY _ _))) (bq (aC rfl rfl (jp _ _))) rfl (Pg N hd hx)))];rfl
noncomputable def hb (ac:List Str) (ak:List Ar) (ag:List Str) (x:Str):Bool:=(kQ ac ak x).any λy=>decide (y∈ag)
theorem Fl{ac:List Str}{ak:List Ar}(N:iN ac ak)(hd:∀p∈ak,p.2∈ac){x:Str}(hx:x∈ac)(ag:List Str):m4 [.d (am ac ak),.d (.str x),.d (af ag)]=.ok (.d (.bl (hb ac ak ag x))):=by
 unfold m4 Hj;rw[rh];have hc:dv (.n 1) dc (m2 bz (mV 1) (mV 0)) [ab (.d (af ag)),ae] ((kQ ac ak x).map D.str)=.ok (((kQ ac ak x).filter λ_=>true).map λy=>D.bl (decide (y∈ag))):=
  fe D.str (λy=>D.bl (decide (y∈ag))) _ _ λy _=>⟨[ab (.d (af ag)),ab (.d (.str y))],rfl,rfl,λ_=>(aC rfl rfl rfl).trans (lC _ _)⟩
 rw[mi.mpr (λ_ _=>rfl)]at hc;have hl:((kQ ac ak x).map D.str).length<=16777216:=by rw[aO];have:=lh (rch ak x) ac;have:=N.le;unfold kQ;omega
 rw[c8 (bq ((eJ (d5 (dG (call2 rfl rfl (Ri N hd hx)) rfl) hl hc)).trans (by rw[Rt,uB,m3,aH,vt];first|done|rfl)))];rfl
end Mr
namespace Mr
open PySem Mi
abbrev mL:=Str×Str×Str
def tri:List Str->List mL
 |a::b::c::r=>(a,b,c)::tri (b::c::r)
 |_=>[]
def ee(ax:List Str)(i:Nat):mL:=(nth ax i,nth ax (i+1),nth ax (i+2))
theorem pA:∀ax:List Str,tri ax=(cu (ax.length-2)).map (ee ax)
 |[]=>rfl
 |[_]=>rfl
 |[_,_]=>rfl
 |a::b::c::r=>by
  rw[tri,pA (b::c::r)];rw[show(a::b::c::r).length-2=((b::c::r).length-2)+1 by simp,vk,cP,dF];rfl
def we(t:mL):D:=.tup [.str t.1,.str t.2.1,.str t.2.2]
theorem EM:∀ax:List Str,gU (ax.map D.str) ((ax.drop 1).map D.str) ((ax.drop 2).map D.str)=(tri ax).map we
 |[]=>rfl
 |[_]=>rfl
 |[_,_]=>rfl
 |a::b::c::r=>by
  have:=EM (b::c::r);show D.tup [.str a,.str b,.str c]::gU ((b::c::r).map D.str) ((c::r).map D.str) (r.map D.str)=_;rw[show(gU ((b::c::r).map D.str) ((c::r).map D.str) (r.map D.str))=(tri (b::c::r)).map we from this,tri];rfl
theorem Fx(ak:List Ar)(p:Ar):((ak.map pairD).any λe=>bR e (pairD p))=decide (p∈ak):=by
 induction ak with
 |nil=>rfl
 |cons q r ih=>
  rw[cP,kK,ih];have:bR (pairD q) (pairD p)=decide (q=p):=by unfold pairD;rw[bR,gY,gY,gY,qJ,qJ];obtain⟨a,b⟩:=q;obtain⟨c,d⟩:=p;by_cases h1:a=c<;>by_cases h2:b=d<;>simp[h1,h2]
  rw[this];by_cases h:q=p
  ·simp[h]
  ·have h2:¬ p=q:=λz=>h z.symm;simp[h,h2]
theorem BC:∀ak:List Ar,dW (ak.map pairD)<=1
 |[]=>by simp
 |p::r=>by
  have:=BC r;rw[cP,xi];have h:(pairD p).dep=1:=by simp[pairD]
  omega
theorem oz(ak:List Ar)(p:Ar):bz (pairD p) (eZ ak)=.ok (.bl (decide (p∈ak))):=by show bp _ _=_;rw[aX (by have:=BC ak;omega),Fx]
theorem qI(ms:List Str)(x:Str):D.lst (ms.map D.str++[.str x])=af (ms++[x]):=by unfold af;rw[fv];rfl
def mt(ak:List Ar)(t:mL):Bool:=decide ((t.1,t.2.1)∈ak)&&decide ((t.2.2,t.2.1)∈ak)
def meets(ak:List Ar)(ax:List Str):List Str:=((tri ax).filter (mt ak)).map (·.2.1)
theorem A7(ax:List Str):(tri ax).length=ax.length-2:=by rw[pA];simp
theorem NK(ak:List Ar)(ax:List Str):(meets ak ax).length<=ax.length:=by unfold meets;rw[aO];have:=lh (mt ak) (tri ax);rw[A7]at this;omega
theorem HM{ac:List Str}{ak:List Ar}{ax:List Str}(hr:∀x∈ax,x∈ac)(hl:ax.length<=8):pH [.d (am ac ak),.d (af ax)]=.ok (.d (af (meets ak ax))):=by
 unfold pH Iy;rw[jx];rw[aN (e':=[ab (.d (am ac ak)),ab (.d (af ax)),ae,ae,ae,ae]) (by unfold ej;rw[call2 (bq (aC rfl rfl (fY _ _))) rfl (pf hr)];rfl)];rw[aN (e':=[ab (.d (am ac ak)),ab (.d (af ax)),ab (.d (af [])),ae,ae,ae]) (bL (jO _))];have hz:A4 (mV 1) (d3 fW (mV 1) (ab (mC (.int 1))) ae) (d3 fW (mV 1) (ab (mC (.int 2))) ae) [ab (.d (am ac ak)),ab (.d (af ax)),ab (.d (af [])),ae,ae,ae]=.ok ((tri ax).map we):=by rw[<- EM];show Rs.ok (gU (ax.map D.str) (iK (ax.map D.str) (ab ((1:Nat):Int)) ae) (iK (ax.map D.str) (ab ((2:Nat):Int)) ae))=_;rw[Ab,Ab,Cp,Cp]
 obtain⟨e',f1,ms,o3,o4,o5,he,hm⟩:=fQ (tg:=.t [3,4,5]) (body:=(bu (cE (cB (m2 bz (mN dTup [(mV 3),(mV 4)]) (m2 az (mV 0) (mC (.int 1))))) (cB (m2 bz (mN dTup [(mV 5),(mV 4)]) (m2 az (mV 0) (mC (.int 1)))))) (cH 2 (mV 4)) bI))
  (λi e=>∃(ms:List Str) (o3 o4 o5:Option W),e=[ab (.d (am ac ak)),ab (.d (af ax)),ab (.d (af ms)),o3,o4,o5]/\ms=(((tri ax).take i).filter (mt ak)).map (·.2.1)) ((tri ax).map we) 0 (λi d e hi ⟨ms,o3,o4,o5,he,hm⟩=>by
   subst he;rw[da]at hm ⊢;rw[cS]at hi;obtain⟨t,ht,rfl⟩:=gR.mp hi;have il:i<(tri ax).length:=(cv.mp ht).1;have tk:(tri ax).take (i+1)=(tri ax).take i++[t]:=by rw[xW,ht];rfl
   have Ul:ms.length<=8:=by rw[hm,aO];have h1:=lh (mt ak) ((tri ax).take i);rw[iJ]at h1;rw[A7]at il;omega
   have c1:cB (m2 bz (mN dTup [(mV 3),(mV 4)]) (m2 az (mV 0) (mC (.int 1)))) [ab (.d (am ac ak)),ab (.d (af ax)),ab (.d (af ms)),ab (.d (.str t.1)),ab (.d (.str t.2.1)),ab (.d (.str t.2.2))]=.ok (decide ((t.1,t.2.1)∈ak)):=bO ((aC (fA rfl rfl) (aC rfl rfl (jp _ _)) rfl).trans (oz ak (t.1,t.2.1)));have c2:cB (m2 bz (mN dTup [(mV 5),(mV 4)]) (m2 az (mV 0) (mC (.int 1)))) [ab (.d (am ac ak)),ab (.d (af ax)),ab (.d (af ms)),ab (.d (.str t.1)),ab (.d (.str t.2.1)),ab (.d (.str t.2.2))]=.ok (decide ((t.2.2,t.2.1)∈ak)):=bO ((aC (fA rfl rfl) (aC rfl rfl (jp _ _)) rfl).trans (oz ak (t.2.2,t.2.1)));have c3:cE (cB (m2 bz (mN dTup [(mV 3),(mV 4)]) (m2 az (mV 0) (mC (.int 1))))) (cB (m2 bz (mN dTup [(mV 5),(mV 4)]) (m2 az (mV 0) (mC (.int 1))))) [ab (.d (am ac ak)),ab (.d (af ax)),ab (.d (af ms)),ab (.d (.str t.1)),ab (.d (.str t.2.1)),ab (.d (.str t.2.2))]=.ok (mt ak t):=by
    unfold cE mt;rw[c1,aH];by_cases h:(t.1,t.2.1)∈ak
    ·rw[bP h,bc rfl,c2,Bool.true_and]
    ·rw[cD h,a8 cZ,Bool.false_and]
   cases hb:mt ak t with
   |true=>
    rw[hb]at c3;refine⟨[ab (.d (am ac ak)),ab (.d (af ax)),ab (.d (af ms)),ab (.d (.str t.1)),ab (.d (.str t.2.1)),ab (.d (.str t.2.2))],[ab (.d (am ac ak)),ab (.d (af ax)),ab (.d (af (ms++[t.2.1]))),ab (.d (.str t.1)),ab (.d (.str t.2.1)),ab (.d (.str t.2.2))],rfl,?_,ms++[t.2.1],_,_,_,rfl,?_⟩
    ·rw[fw c3,kB (d:=.str t.2.1) (ds:=ms.map D.str) rfl rfl (by rw[aO];omega)];show Rs.ok (Out.nx [_,_,ab (W.d (D.lst (ms.map D.str++[.str t.2.1]))),_,_,_])=_;rw[qI]
    ·rw[tk,Ci,fv,hm];simp[hb]
   |false=>
    rw[hb]at c3;refine⟨[ab (.d (am ac ak)),ab (.d (af ax)),ab (.d (af ms)),ab (.d (.str t.1)),ab (.d (.str t.2.1)),ab (.d (.str t.2.2))],_,rfl,(dN c3).trans rfl,ms,_,_,_,rfl,?_⟩;rw[tk,Ci,fv,hm];simp[hb]) [ab (.d (am ac ak)),ab (.d (af ax)),ab (.d (af [])),ae,ae,ae] ⟨[],ae,ae,ae,rfl,by simp⟩
 subst he;rw[da,aO,xT]at hm;subst hm;rw[aN ((fh hz).trans f1)];rfl
theorem Q9{ax:List Str}{z:Int}(h0:0<=z)(h1:z<ax.length):az (af ax) (.int z)=.ok (.str (nth ax z.toNat)):=GB h0 h1
end Mr
namespace Mr
open PySem Mi
def Rp(a:Ar)(ak:List Ar):List Ar:=ak.map λp=>if p=a then(p.2,p.1)else p
def hds(ak:List Ar)(l:List Str):List Str:=(ak.filter λp=>decide (p.1∈l)).map (·.2)
def Mp(ak:List Ar)(l:List Str):List Str:=l.filter λx=>decide (x∈hds ak l)
def DO(ac:List Str)(ak:List Ar):Nat->List Str
 |0=>ac
 |k+1=>Mp ak (DO ac ak k)
def qg(ac:List Str)(ak:List Ar):Bool:=decide (0<(DO ac ak ac.length).length)
def Rk(ak:List Ar):Prop:=∃r:Str->Int,∀p∈ak,r p.1<r p.2
def vY(ak:List Ar)(a m b:Str):Bool:=(decide ((a,m)∈ak)&&decide ((b,m)∈ak)) && !(decide ((a,b)∈ak)||decide ((b,a)∈ak))
theorem zW{α β:Type}{f g:α->List β}:∀{l:List α},(∀x∈l,f x=g x)->l.flatMap f=l.flatMap g
 |[],_=>rfl
 |x::r,h=>by rw[lj,lj,h x cJ,zW λy hy=>h y (dR _ hy)]
theorem Gk{ac:List Str}{i j:Nat}(h:i<j)(hj:j<ac.length):nth ac j∈ac.drop (i+1):=by refine Cd.mpr ⟨j-(i+1),?_⟩;rw[vo,show i+1+(j-(i+1))=j by omega];unfold nth;rw[fN,en hj];rfl
theorem FD{ac:List Str}(nd:ac.Nodup){k:Nat}(hk:k<ac.length){b:Str}(hb:b∈ac.drop (k+1)):b∈ac/\nth ac k≠b:=by
 obtain⟨i,hi⟩:=Cd.mp hb;rw[vo]at hi;have hl:k+1+i<ac.length:=by
  rcases Nat.lt_or_ge (k+1+i) ac.length with z|z
  ·exact z
  ·rw[Cc z]at hi;cases hi
 have e:b=nth ac (k+1+i):=by unfold nth;rw[fN,hi];rfl
 rw[e];exact⟨ue hl,λz=>by have:=nz nd hk hl z;omega⟩
end Mr
namespace Mr
open PySem Mi
theorem Nq{l:List Str}(nd:l.Nodup)(hl:l.length<=1000):sW [.d (af l)]=.ok (.d .non):=by
 unfold sW Jn;rw[AB];obtain⟨e',f1,o2,he⟩:=fQ (tg:=.n 2) (body:=(aE (bu (cB (nM 1 (mV 2))) tX bI) (dA 1 (mV 2) (mC (.bl true)))))
  (λi e=>∃o2:Option W,e=[ab (.d (af l)),ab (cq (l.take i)),o2]) (l.map D.str) 0 (λi d e hi ⟨o2,he⟩=>by
   subst he;rw[da];rw[cS]at hi;obtain⟨x,hx,rfl⟩:=gR.mp hi;obtain⟨il,hxe⟩:=cv.mp hx;have hn:x∉l.take i:=λz=>by
    obtain⟨j,hj⟩:=li z;have hj2:=(cv.mp hj).1;rw[iJ]at hj2;rw[Ca (by omega)]at hj;obtain⟨jl,hje⟩:=cv.mp hj;have:=(qj nd).mp (hje.trans hxe.symm);omega
   refine⟨[ab (.d (af l)),ab (cq (l.take i)),ab (.d (.str x))],[ab (.d (af l)),ab (cq (l.take (i+1))),ab (.d (.str x))],rfl,?_,_,rfl⟩;rw[aN (e':=[ab (.d (af l)),ab (cq (l.take i)),ab (.d (.str x))]) ((dN (bO ((yW (y:=x) (fs:=l.take i) rfl rfl).trans (by rw[cD hn])))).trans rfl)];rw[Bn (y:=x) (fs:=l.take i) rfl rfl hn (by rw[iJ];omega)];rw[xW,hx];rfl) [ab (.d (af l)),ab (cq []),ae] ⟨ae,rfl⟩
 subst he;rw[aN (e':=[ab (.d (af l)),ab (cq []),ae]) rfl];rw[fh (dG (x:=af l) rfl rfl),f1];rfl
def mids(ax:List Str):List Str:=(tri ax).map (·.2.1)
theorem mX{ax:List Str}{i:Nat}(h:i<ax.length):ax[i]? = ab (nth ax i):=by unfold nth;rw[fN,en h];rfl
theorem Ps{ax:List Str}(h:2<=ax.length):iK (ax.map D.str) (ab 1) (ab (-1))=(mids ax).map D.str:=by
 unfold mids;rw[pA,dF,dF];unfold iK;have e1:dq (ax.map D.str).length 0 (ab 1)=1:=by simp[dq];omega
 have e2:dq (ax.map D.str).length (ax.map D.str).length (ab (-1))=ax.length-1:=by simp[dq];omega
 rw[e1,e2];apply List.ext_getElem?;intro i;rw[List.getElem?_take];by_cases hi:i<ax.length-1-1
 ·rw[bc hi,vo,cS,mX (by omega),cS,List.getElem?_range (by omega)];show ab (D.str (nth ax (1+i)))=ab (D.str (nth ax (i+1)));rw[Nat.add_comm]
 ·rw[a8 hi,cS,Cc (by simp;omega)];rfl
theorem ve{ax:List Str}{t:mL}(h:t∈tri ax):∃i,i+2<ax.length/\t=ee ax i:=by rw[pA]at h;obtain⟨i,hi,rfl⟩:=ce.mp h;exact⟨i,by have:=gz.mp hi;omega,rfl⟩
theorem Qi{ax:List Str}(nd:ax.Nodup){t t':mL}(h:t∈tri ax)(h':t'∈tri ax)(e:t.2.1=t'.2.1):t=t':=by
 obtain⟨i,hi,rfl⟩:=ve h;obtain⟨j,hj,rfl⟩:=ve h';have:i+1=j+1:=nz nd (by omega) (by omega) e;have:i=j:=by omega
 rw[this]
theorem in_meets{ak:List Ar}{ax:List Str}(nd:ax.Nodup){t:mL}(h:t∈tri ax):decide (t.2.1∈meets ak ax)=mt ak t:=by
 rw[jZ,dZ];constructor
 ·intro z;obtain⟨t',h',e⟩:=ce.mp z;obtain⟨a,b⟩:=cC.mp h';rw[Qi nd h a e.symm];exact b
 ·intro z;exact ce.mpr ⟨t,cC.mpr ⟨h,z⟩,rfl⟩
noncomputable def mU (ac:List Str) (ak:List Ar) (ag ax:List Str):Bool:=(tri ax).all λt=>if mt ak t=true then hb ac ak ag t.2.1 else !decide (t.2.1∈ag)
theorem I0{ax:List Str}(h:1<=ax.length):az (af ax) (.int (-1))=.ok (.str (nth ax (ax.length-1))):=by unfold af;show c6 (dM (ax.map D.str) (-1))=_;unfold dM gP;rw[a8 (by decide),bc (by rw[aO];omega)];rw[aO,show(-1+(ax.length:Int)).toNat=ax.length-1 by omega];show c6 ((ax.map D.str)[ax.length-1]?)=_;rw[cS,mX (by omega)];rfl
end Mr
namespace Mr
open PySem Mi
theorem QS(n:Nat):dL 1 ((n:Int)-1)=(cu (n-2)).map λ(i:Nat)=>D.int (1+(i:Int)):=by unfold dL;rw[show((n:Int)-1-1).toNat=n-2 by omega]
theorem NZ{a b:E}{e:Mi.Env}{i j:Int}(ha:a e=.ok (.int i))(hb:b e=.ok (.int j))(h:okR i/\okR j):uW a b e=.ok (dL i j):=by unfold uW;rw[ha,aH,hb,aH,pF,aH,pF,aH,aX h]
end Mr
namespace Mr
open PySem Mi
def tie(ak:List Ar)(a b:Str):Bool:=decide ((a,b)∈ak)||decide ((b,a)∈ak)
theorem M5{ac:List Str}{ak:List Ar}(a b:Str):pi [.d (am ac ak),.d (.str a),.d (.str b)]=.ok (.d (.bl (tie ak a b))):=by
 unfold pi Fi;rw[rh];have a1:m2 bz (mN dTup [(mV 1),(mV 2)]) (m2 az (mV 0) (mC (.int 1))) [ab (.d (am ac ak)),ab (.d (.str a)),ab (.d (.str b))]=.ok (.bl (decide ((a,b)∈ak))):=(aC (fA rfl rfl) (aC rfl rfl (jp _ _)) rfl).trans (oz ak (a,b));have a2:m2 bz (mN dTup [(mV 2),(mV 1)]) (m2 az (mV 0) (mC (.int 1))) [ab (.d (am ac ak)),ab (.d (.str a)),ab (.d (.str b))]=.ok (.bl (decide ((b,a)∈ak))):=(aC (fA rfl rfl) (aC rfl rfl (jp _ _)) rfl).trans (oz ak (b,a));have aa:jE (m2 bz (mN dTup [(mV 1),(mV 2)]) (m2 az (mV 0) (mC (.int 1)))) (m2 bz (mN dTup [(mV 2),(mV 1)]) (m2 az (mV 0) (mC (.int 1)))) [ab (.d (am ac ak)),ab (.d (.str a)),ab (.d (.str b))]=.ok (.bl (tie ak a b)):=by
  unfold jE;rw[a1,aH];show(nS (.bl _)).bind _=_;rw[pc,aH];unfold tie;by_cases h:(a,b)∈ak
  ·rw[bP h,bc rfl,Bool.true_or]
  ·rw[cD h,a8 cZ,a2,yq]
 exact(congrArg (λr=>Rs.bind r jD) (c8 (bq aa))).trans rfl
theorem RP{ac:List Str}{ak:List Ar}{e:Mi.Env}(e0:mV 0 e=.ok (am ac ak)):mN d6 [(m2 az (mV 0) (mC (.int 0)))] e=.ok (.int (ac.length:Int)):=(eJ (aC e0 rfl (fY _ _))).trans (by unfold a7;rw[Tz,aO])
end Mr
namespace Mr
open PySem Mi
end Mr
namespace Mr
open PySem Mi
end Mr
namespace Mr
open PySem Mi
theorem oo{a b:C}{e:Mi.Env}{p q:Bool}(ha:a e=.ok p)(hb:p=true->b e=.ok q):cE a b e=.ok (p&&q):=by
 unfold cE;rw[ha,aH];cases p with
 |true=>rw[bc rfl,hb rfl];rfl
 |false=>rfl
theorem oX{a b:C}{e:Mi.Env}{p q:Bool}(ha:a e=.ok p)(hb:p=false->b e=.ok q):gA a b e=.ok (p||q):=by
 unfold gA;rw[ha,aH];cases p with
 |true=>rfl
 |false=>rw[a8 cZ,hb rfl];rfl
theorem uN{a:C}{e:Mi.Env}{p:Bool}(ha:a e=.ok p):fZ a e=.ok (!p):=by unfold fZ;rw[ha];rfl
theorem uC{a b:E}{e:Mi.Env}{p q:Bool}(ha:a e=.ok (.bl p))(hb:p=true->b e=.ok (.bl q)):ko a b e=.ok (.bl (p&&q)):=by
 unfold ko;rw[ha,aH,pc,aH];cases p with
 |true=>rw[bc rfl,hb rfl];rfl
 |false=>rfl
theorem Iz{a b:E}{e:Mi.Env}{p q:Bool}(ha:a e=.ok (.bl p))(hb:p=false->b e=.ok (.bl q)):jE a b e=.ok (.bl (p||q)):=by
 unfold jE;rw[ha,aH,pc,aH];cases p with
 |true=>rfl
 |false=>rw[a8 cZ,hb rfl];rfl
theorem QD{f:D->Option Int->Option Int->Rs D}{a b:E}{e:Mi.Env}{x:D}{i:Int}(h:a e=.ok x)(h':b e=.ok (.int i)):d3 f a (ab b) ae e=f x (ab i) ae:=by unfold d3;rw[h,aH,show la (ab b) e=.ok (ab i)from by rw[la,h'];rfl];rfl
theorem tG{α:Type}{tg:Tg}{body:S}(f:α->D)(g:α->List D)(St:List D->Mi.Env->Prop):∀(xs:List α) (acc:List D) (e:Mi.Env),acc.length+(xs.flatMap g).length<=16777216->St acc e ->
 (∀x∈xs,∀acc e,acc.length+(g x).length<=16777216->St acc e->∃e1 e2,tg.put (f x) e=.ok e1/\body e1=.ok (.nx e2)/\St (acc++g x) e2) ->
 ∃e',gI tg body (xs.map f) e=.ok (.nx e')/\St (acc++xs.flatMap g) e'
 |[],acc,e,_,h,_=>⟨e,rfl,by simpa using h⟩
 |x::r,acc,e,hl,h,hs=>by
  rw[lj,bU]at hl;obtain⟨e1,e2,h1,h2,h3⟩:=hs x cJ acc e (by omega) h;obtain⟨e',h4,h5⟩:=tG f g St r (acc++g x) e2 (by rw[bU];omega) h3 λy hy=>hs y (dR _ hy);refine⟨e',?_,by rw[lj,<- jV];exact h5⟩;rw[cP,gI,h1,aH,h2,aH];exact h4
theorem wF{α β γ : Type}(f:β->γ)(g:α->List β):∀l:List α,(l.flatMap g).map f=l.flatMap λx=>(g x).map f
 |[]=>rfl
 |x::r=>by rw[lj,fv,wF f g r,lj]
theorem uh{α β:Type}{g:α->List β}{m:Nat}:∀{l:List α},(∀x∈l,(g x).length<=m)->(l.flatMap g).length<=l.length*m
 |[],_=>by simp
 |x::r,h=>by
  have ih:=uh (l:=r) λy hy=>h y (dR _ hy);have h1:=h x cJ;rw[lj,bU,cx,Nat.add_mul];omega
def IE(ak:List Ar):D:=.lst (ak.map pairD)
theorem EF(ac:List Str):lQ 0 (ac.map D.str)=(cu ac.length).map λk=>D.tup [.int (k:Nat),.str (nth ac k)]:=by
 have key:∀(ns:List Str) (j:Nat),lQ j (ns.map D.str)=(cu ns.length).map λk=>D.tup [.int ((j+k:Nat):Int),.str (nth ns k)]:=λns=>by
  induction ns with
  |nil=>exactλ_=>rfl
  |cons x r ih=>
   intro j;rw[cP,lQ,ih,cx,vk,cP,dF]
   congr 1
   refine vn λk _=>?_;show D.tup [.int ((j+1+k:Nat):Int),_]=D.tup [.int ((j+(k+1):Nat):Int),_];rw[show j+1+k=j+(k+1)by omega];rfl
 rw[key ac 0];refine vn λk _=>?_;rw[da]
end Mr
namespace Mr
open PySem Mi
structure Nt(ac:List Str)(ak:List Ar):Prop where
 nd:ac.Nodup
 le:ac.length<=8
 al:ak.length<=64
 inn:∀p∈ak,p.1∈ac/\p.2∈ac
 rk:Rk ak
def cov(ak:List Ar)(p:Ar):Bool:=R3 (ig ak p.2) (ig ak p.1++[p.1])
end Mr
namespace Mr
open PySem Mi
def iT(ac:List Str)(ak:List Ar):List Ar:=ac.flatMap λt=>(ac.filter λh=>decide ((t,h)∈ak)).map λh=>(t,h)
theorem OT{ac:List Str}{ak:List Ar}{p:Ar}:p∈iT ac ak↔p∈ak/\p.1∈ac/\p.2∈ac:=by
 obtain⟨a,b⟩:=p;unfold iT;simp only[qm,ce,cC,rT,Prod.mk.injEq];constructor
 ·rintro⟨t,ht,h,⟨h1,h2⟩,rfl,rfl⟩;exact⟨h2,ht,h1⟩
 ·rintro⟨h1,h2,h3⟩;exact⟨a,h2,b,⟨h3,h1⟩,rfl,rfl⟩
theorem Pe{ac:List Str}(hn:ac.length<=8)(ak:List Ar):(iT ac ak).length<=64:=by unfold iT;refine cU (uh (m:=8) λt _=>?_) (by omega);rw[aO];exact cU (lh _ _) hn
end Mr
namespace Mr
open PySem Mi
def sq(k:Bool)(ds:List D):D:=if k then .lst ds else .tup ds
end Mr
namespace Mr
open PySem Mi
def ky(ac row:List Str):List Int:=row.map λx=>((ac.idxOf x:Nat):Int)
end Mr
namespace Mr
open PySem Mi
def prs(ac:List Str):List Ar:=(cu ac.length).flatMap λk=>(ac.drop (k+1)).map λb=>(nth ac k,b)
theorem xI{ac:List Str}{a b:Str}:(a,b)∈prs ac↔∃k,k<ac.length/\a=nth ac k/\b∈ac.drop (k+1):=by
 unfold prs;simp only[qm,ce,gz,Prod.mk.injEq];constructor
 ·rintro⟨k,hk,b',hb,rfl,rfl⟩;exact⟨k,hk,rfl,hb⟩
 ·rintro⟨k,hk,rfl,hb⟩;exact⟨k,hk,b,hb,rfl,rfl⟩
def tr(t:mL):List Str:=[t.1,t.2.1,t.2.2]
end Mr
namespace Mr
open PySem Mi
theorem LM{i:Nat}{a:E}{e:Mi.Env}{ds xs:List D}(ha:a e=.ok (.lst xs))(hg:getL e i=.ok ds)(hl:ds.length+xs.length<=16777216):lb i a e=.ok (.nx (putL e i (ds++xs))):=by unfold lb;rw[ha,aH,hg,aH];exact aX hl
theorem jS{a b:E}{e:Mi.Env}{x y:D}(h:a e=.ok x)(h':b e=.ok y):mN bx [a,b] e=.ok (.lst [x,y]):=by unfold mN;rw[gy,h,aH,gy,h',aH];rfl
theorem Hk{a:E}{e:Mi.Env}{x:D}(h:a e=.ok x):ej a e=.ok (.nx e):=by unfold ej;rw[h];rfl
theorem Ma{ac:List Str}{ak:List Ar}{a b:Str}(ha:a∈ac)(hb:b∈ac):pP [.d (am ac ak),.d (.str a),.d (.str b)]=.ok (.d (.bl (tie ak a b))):=by
 unfold pP Il;rw[rh];rw[show([ab (W.d (am ac ak)),ab (W.d (.str a)),ab (W.d (.str b))]++cK (3-3) ae)=[ab (W.d (am ac ak)),ab (W.d (.str a)),ab (W.d (.str b))]from rfl];have hr:fV [.d (a7 ac),.d (af [a,b])]=.ok (.d .non):=pf λx hx=>by
  rcases bB.mp hx with rfl|hx
  ·exact ha
  ·rw[bQ.mp hx];exact hb
 rw[aN (Hk (call2 (bq (aC rfl rfl (fY _ _))) (bq (jS rfl rfl)) hr))];have aa:jE (m2 bz (mN dTup [(mV 1),(mV 2)]) (m2 az (mV 0) (mC (.int 1)))) (m2 bz (mN dTup [(mV 2),(mV 1)]) (m2 az (mV 0) (mC (.int 1)))) [ab (.d (am ac ak)),ab (.d (.str a)),ab (.d (.str b))]=.ok (.bl (tie ak a b)):=
  Iz (aC (fA rfl rfl) (aC rfl rfl (jp ac ak)) (oz ak (a,b))) λ_=>aC (fA rfl rfl) (aC rfl rfl (jp ac ak)) (oz ak (b,a))
 rw[c8 (bq aa)];rfl
theorem FG{ac:List Str}(hn:ac.length<=8):(prs ac).length<=64:=by unfold prs;refine cU (uh (m:=8) λk _=>?_) (by rw[vp];omega);rw[aO,kH];omega
theorem Ng{ac:List Str}{a b:E}{e:Mi.Env}{k:Nat}(hk:k<ac.length)(hn:ac.length<=8)(ha:a e=.ok (a7 ac))(hb:b e=.ok (.int (k:Nat))):bv (d3 ux a (ab (m2 ba b (mC (.int 1)))) ae) e=.ok ((ac.drop (k+1)).map D.str):=by
 have sl:d3 ux a (ab (m2 ba b (mC (.int 1)))) ae e=.ok (.tup ((ac.map D.str).drop (k+1))):=by rw[QD ha (aC (a:=b) (b:=mC (.int 1)) (x:=.int (k:Nat)) (y:=.int 1) hb rfl rfl)];show bp _ _=_;rw[aX (by rw[aO];omega),show((k:Nat):Int)+1=((k+1:Nat):Int)by omega,kM]
 rw[dG sl rfl,Cp]
theorem Oa{ac:List Str}(hn:ac.length<=8):uD [.d (a7 ac)]=.ok (.d (IE (prs ac))):=by
 unfold uD GN;rw[Ea];have epr:(prs ac).map pairD=(cu ac.length).flatMap λk=>(ac.drop (k+1)).map λb=>pairD (nth ac k,b):=by unfold prs;rw[wF];refine zW λk _=>?_;rw[dF];rfl
 have T0:((prs ac).map pairD).length<=64:=by rw[aO];exact FG hn
 rw[epr]at T0;obtain⟨e',f1,o2,o3,he⟩:=tG (tg:=.t [2,3]) (body:=(lb 1 (b8 [ab 3,ae] (bv (d3 ux (mV 0) (ab (m2 ba (mV 2) (mC (.int 1)))) ae)) (.n 1) dc (mN dTup [(mV 0),(mV 1)]))))
  (λk:Nat=>D.tup [.int (k:Nat),.str (nth ac k)]) (λk=>(ac.drop (k+1)).map λb=>pairD (nth ac k,b))
  (λacc e=>∃o2 o3:Option W,e=[ab (.d (a7 ac)),ab (.d (.lst acc)),o2,o3]) (cu ac.length) [] [ab (.d (a7 ac)),ab (.d (.lst [])),ae,ae] (by simp only[f7];omega) ⟨ae,ae,rfl⟩
  (λk hk acc e hl ⟨o2,o3,he⟩=>by
   subst he;have hk:=gz.mp hk;refine⟨[ab (.d (a7 ac)),ab (.d (.lst acc)),ab (.d (.int (k:Nat))),ab (.d (.str (nth ac k)))],putL [ab (.d (a7 ac)),ab (.d (.lst acc)),ab (.d (.int (k:Nat))),ab (.d (.str (nth ac k)))] 1 (acc++(ac.drop (k+1)).map λb=>pairD (nth ac k,b)),rfl,?_,_,_,rfl⟩;have hc:dv (.n 1) dc (mN dTup [(mV 0),(mV 1)]) [ab (.d (.str (nth ac k))),ae] ((ac.drop (k+1)).map D.str)=.ok (((ac.drop (k+1)).filter λ_=>true).map λb=>pairD (nth ac k,b)):=
    fe D.str (λb=>pairD (nth ac k,b)) (λ_=>true) _ λb _=>⟨[ab (.d (.str (nth ac k))),ab (.d (.str b))],rfl,rfl,λ_=>fA rfl rfl⟩
   rw[mi.mpr (λ_ _=>rfl)]at hc;exact LM (d5 (ρ:=[ab 3,ae]) (Ng hk hn rfl rfl) (by rw[aO,kH];omega) hc) rfl hl)
 subst he;rw[show([ab (W.d (a7 ac))]++cK (4-1) ae)=[ab (W.d (a7 ac)),ae,ae,ae]from rfl];rw[aN (e':=[ab (.d (a7 ac)),ab (.d (.lst [])),ae,ae]) (bL (jO _))];have hit:sd (mV 0) [ab (.d (a7 ac)),ab (.d (.lst [])),ae,ae]=.ok ((cu ac.length).map λk=>D.tup [.int (k:Nat),.str (nth ac k)]):=by rw[<- EF];rfl
 rw[aN ((fh hit).trans f1)];unfold IE;rw[epr];rfl
theorem ND{ac:List Str}{p:Ar}(h:p∈prs ac):p.1∈ac/\p.2∈ac:=by obtain⟨k,hk,e,hb⟩:=xI.mp (show(p.1,p.2)∈prs ac from h);exact⟨by rw[e];exact ue hk,Ce hb⟩
end Mr
namespace Mr
open PySem Mi
open My (words fi fH)
theorem NV:("abcdefghijklmnopqrstuvwxyz" : Str).cps.toList=(cu 26).map (· + 97):=by decide +kernel
theorem L6{a b c:E}{e:Mi.Env}{i j k:Int}(ha:a e=.ok (.int i))(hb:b e=.ok (.int j))(hc:c e=.ok (.int k))(h1:i<=j)(h2:j<=k):xx rp rp a b c e=.ok (.bl true):=by unfold xx;rw[ha,aH,hb,aH];show(Rs.ok (D.bl (decide (i<=j)))).bind _=_;rw[bP h1,aH,pc,aH,bc rfl,hc,aH];show Rs.ok (D.bl (decide (j<=k)))=_;rw[bP h2]
theorem Mk{l:List Nat}(hw:fi l):vc [.d (.str (S' l))]=.ok (.d (.bl true)):=by
 unfold vc FY;rw[AB];rw[show([ab (W.d (.str (S' l)))]++cK (1-1) ae)=[ab (W.d (.str (S' l)))]from rfl];obtain⟨h1,h8,hl⟩:=hw;have hc:dv (.n 0) dc (m2 bz (mV 0) (mC (.str "abcdefghijklmnopqrstuvwxyz"))) [ae] (l.map λc=>D.str (S' [c]))=.ok ((l.filter λ_=>true).map λc=>D.bl ((λ_=>true) c)):=
  fe (λc=>D.str (S' [c])) (λc=>D.bl ((λ_=>true) c)) (λ_=>true) l λc hcl=>⟨[ab (.d (.str (S' [c])))],rfl,rfl,λ_=>aC (x:=.str (S' [c])) rfl rfl (by
   show bp ((S' [c]).length=1) (Rs.ok (D.bl (decide ((S' [c]).cps.getD 0 0∈("abcdefghijklmnopqrstuvwxyz" : Str).cps.toList))))=_;have hm:(S' [c]).cps.getD 0 0∈("abcdefghijklmnopqrstuvwxyz" : Str).cps.toList:=by rw[NV];have:=hl c hcl;exact ce.mpr ⟨c-97,gz.mpr (by omega),by show c-97+97=c;omega⟩
   rw[aX (by rw[k7];rfl),bP hm])⟩
 rw[mi.mpr (λ_ _=>rfl)]at hc;have h2:mN oZ [(b8 [ae] (bv (mV 0)) (.n 0) dc (m2 bz (mV 0) (mC (.str "abcdefghijklmnopqrstuvwxyz"))))] [ab (W.d (.str (S' l)))]=.ok (.bl true):=by refine(eJ (d5 (ρ:=[ae]) (dG (a:=mV 0) (x:=.str (S' l)) rfl rfl) (by rw[aO,xN];omega) hc)).trans ?_;rw[IQ,uB,m3,aH,xX];show Rs.ok (D.bl (l.all λ_=>true))=_;rw[kI.mpr (λ_ _=>rfl)]
 have h3:xx rp rp (mC (.int 1)) (mN d6 [(mV 0)]) (mC (.int 8)) [ab (W.d (.str (S' l)))]=.ok (.bl true):=L6 (j:=((l.length:Nat):Int)) rfl ((eJ (x:=.str (S' l)) rfl).trans (by rw[Px,aX (by rw[k7];omega),k7])) rfl (by omega) (by omega);rw[c8 (bq (uC h3 λ_=>h2))];rfl
theorem u5{α:Type}{l:List α}(nd:l.Nodup){i:Nat}{x:α}(hx:l[i]? = ab x):x∉l.take i:=λz=>by
 obtain⟨il,hxe⟩:=cv.mp hx;obtain⟨j,hj⟩:=li z;have hj2:=(cv.mp hj).1;rw[iJ]at hj2;rw[Ca (by omega)]at hj;obtain⟨jl,hje⟩:=cv.mp hj;have:=(qj nd).mp (hje.trans hxe.symm);omega
def both(xs:List Ar):List Ar:=xs.flatMap λp=>[p,(p.2,p.1)]
end Mr
namespace Mr
open PySem Mi
open My (words fi fH)
end Mr
namespace Mr
open PySem Mi
abbrev nn:D:=.lst [.str "NoName"]
end Mr
namespace Mr
open PySem Mi
open My (words fi fH)
theorem tF{f:Fn}{a b c g:EW}{e:Mi.Env}{x y z u:W}{d:D}(h:a e=.ok x)(h':b e=.ok y)(h'':c e=.ok z)(h3:g e=.ok u)(hf:f [x,y,z,u]=.ok (.d d)):aL f [a,b,c,g] e=.ok d:=by unfold aL ie;rw[dm,h,aH,dm,h',aH,dm,h'',aH,dm,h3];simp only[aH,dm,hf,uZ]
theorem EY{α:Type}(f:α->Nat):∀(l m:List α),l.Pairwise (λa b=>f a<f b)->m.Pairwise (λa b=>f a<f b)->(∀x,x∈l↔x∈m)->l=m
 |[],[],_,_,_=>rfl
 |[],b::t,_,_,h=>nomatch (h b).mpr (cJ ..)
 |a::r,[],_,_,h=>nomatch (h a).mp (cJ ..)
 |a::r,b::t,hl,hm,h=>by
  have l1:=xR.mp hl;have m1:=xR.mp hm;have e:a=b:=by
   rcases bB.mp ((h a).mp (cJ ..))with z|z
   ·exact z
   ·rcases bB.mp ((h b).mpr (cJ ..))with y|y
    ·exact y.symm
    ·have k1:=m1.1 a z;have k2:=l1.1 b y;omega
  subst e;rw[EY f r t l1.2 m1.2 λx=>⟨λhx=>by
   rcases bB.mp ((h x).mp (dR _ hx))with z|z
   ·have:=l1.1 x hx;rw[z]at this;omega
   ·exact z,λhx=>by
   rcases bB.mp ((h x).mpr (dR _ hx))with z|z
   ·have:=m1.1 x hx;rw[z]at this;omega
   ·exact z⟩]
def iC(ak:List Ar)(x:Str):List Str:=(ak.filter λp=>decide (p.1=x)).map (·.2)
theorem Fz{ak:List Ar}{x y:Str}:y∈iC ak x↔(x,y)∈ak:=by
 unfold iC;constructor
 ·intro h;obtain⟨p,hp,rfl⟩:=ce.mp h;obtain⟨h1,h2⟩:=cC.mp hp;rw[<- jI h2];exact h1
 ·exactλh=>ce.mpr ⟨(x,y),cC.mpr ⟨h,bP rfl⟩,rfl⟩
theorem DR{ac:List Str}{ak:List Ar}{x:Str}(hx:x∈ac)(hl:ak.length<=64):oy [.d (am ac ak),.d (.str x)]=.ok (.d (.tup ((iC ak x).map D.str))):=by
 unfold oy Jx;rw[ss];rw[show([ab (W.d (am ac ak)),ab (W.d (.str x))]++cK (2-2) ae)=[ab (W.d (am ac ak)),ab (W.d (.str x))]from rfl];have hr:fV [.d (a7 ac),.d (af [x])]=.ok (.d .non):=pf λy hy=>by rw[bQ.mp hy];exact hx
 rw[aN (Hk (call2 (bq (aC rfl rfl (fY _ _))) (bq (kn rfl)) hr))];have hc:dv (.t [1,2]) (cB (m2 cy (mV 1) (mV 0))) (mV 2) [ab (.d (.str x)),ae,ae] (ak.map pairD)=.ok ((ak.filter λp=>decide (p.1=x)).map λp=>D.str p.2):=
  fe pairD (λp=>D.str p.2) (λp=>decide (p.1=x)) ak λp _=>⟨[ab (.d (.str x)),ab (.d (.str p.1)),ab (.d (.str p.2))],rfl,bO (aC rfl rfl (ny p.1 x)),λ_=>rfl⟩
 rw[c8 (bq ((eJ (d5 (ρ:=[ab 1,ae,ae]) (dG (aC rfl rfl (jp ac ak)) rfl) (by rw[aO];omega) hc)).trans rfl))];show Rs.ok (W.d (.tup _))=_;unfold iC;rw[dF];rfl
end Mr
namespace Mr
open PySem Mi
open My (words fi fH)
end Mr
namespace Mr
open PySem Mi
open My (words fi fH)
def ixs(ac:List Str)(B:List Ar):List Ix:=(cu ac.length).flatMap λi=>((cu ac.length).filter λj=>decide ((nth ac i,nth ac j)∈B)).map λj=>(i,j)
theorem Ie(ac:List Str):(cu ac.length).map (nth ac)=ac:=by refine List.ext_getElem (by rw[aO,vp]) λi h1 h2=>?_;rw[List.getElem_map,Ch];unfold nth;rw[fN,en h2];rfl
theorem HC(ac:List Str)(B:List Ar):(ixs ac B).map (arrOf ac)=iT ac B:=by
 unfold ixs iT;rw[wF];have e:ac.flatMap (λt=>(ac.filter λh=>decide ((t,h)∈B)).map λh=>(t,h))=((cu ac.length).map (nth ac)).flatMap (λt=>(ac.filter λh=>decide ((t,h)∈B)).map λh=>(t,h)):=by rw[Ie]
 rw[e,List.flatMap_map];refine zW λi _=>?_;have e2:ac.filter (λh=>decide ((nth ac i,h)∈B))=((cu ac.length).map (nth ac)).filter (λh=>decide ((nth ac i,h)∈B)):=by rw[Ie]
 rw[e2,List.filter_map,dF,dF];rfl
theorem zq{ac:List Str}{B:List Ar}{p:Ix}:p∈ixs ac B↔p.1<ac.length/\p.2<ac.length/\(nth ac p.1,nth ac p.2)∈B:=by
 unfold ixs;rw[qm];constructor
 ·rintro⟨i,hi,h⟩;obtain⟨j,hj,rfl⟩:=ce.mp h;obtain⟨h1,h2⟩:=cC.mp hj;exact⟨gz.mp hi,gz.mp h1,jI h2⟩
 ·rintro⟨h1,h2,h3⟩;exact⟨p.1,gz.mpr h1,ce.mpr ⟨p.2,cC.mpr ⟨gz.mpr h2,bP h3⟩,rfl⟩⟩
theorem M3{ac:List Str}(nd:ac.Nodup)(h8:ac.length<=8)(B:List Ar):(iT ac B).Nodup:=by
 rw[<- HC];refine oE.mpr (List.Pairwise.imp_of_mem (R:=y3) (λ{p q} hp hq h z=>?_) ?_)
 ·obtain⟨a,b,_⟩:=zq.mp hp;obtain⟨c,d,_⟩:=zq.mp hq;have e1:=nz nd a c (congrArg yD z);have e2:=nz nd b d (congrArg Prod.snd z);rcases h with h|⟨_,h⟩<;>omega
 ·unfold ixs;rw[JI];refine⟨λi _=>?_,?_⟩
  ·rw[oE];exact(Kh _ xP).imp λ{a b} h=>.inr ⟨rfl,h⟩
  ·refine xP.imp λ{a b} h=>?_;intro x hx y hy;obtain⟨j,_,rfl⟩:=ce.mp hx;obtain⟨j',_,rfl⟩:=ce.mp hy;exact .inl h
structure Gd(ac:List Str)(ak:List Ar):Prop where
 nd:ac.Nodup
 pos:1<=ac.length
 le:ac.length<=8
 rk:Rk ak
 iT:iT ac ak=ak
 wd:∀x∈ac,vc [.d (.str x)]=.ok (.d (.bl true))
theorem Gd.inn{ac:List Str}{ak:List Ar}(G:Gd ac ak):∀p∈ak,p.1∈ac/\p.2∈ac:=λp hp=>by
 rw[<- G.iT]at hp;exact(OT.mp hp).2
theorem Gd.al{ac:List Str}{ak:List Ar}(G:Gd ac ak):ak.length<=64:=by rw[<- G.iT];exact Pe G.le _
theorem Gd.nodup{ac:List Str}{ak:List Ar}(G:Gd ac ak):ak.Nodup:=by rw[<- G.iT];exact M3 G.nd G.le _
end Mr
namespace Mr
open PySem Mi
open My (words fi fH)
structure Lk(ac:List Str)(ak:List Ar):Prop where
 nd:ac.Nodup
 le:ac.length<=8
 al:ak.length<=64
 inn:∀p∈ak,p.1∈ac/\p.2∈ac
 rk:Rk ak
 nda:ak.Nodup
theorem Gd.lk{ac:List Str}{ak:List Ar}(G:Gd ac ak):Lk ac ak:=⟨G.nd,G.le,G.al,G.inn,G.rk,G.nodup⟩
theorem Lk.nt{ac:List Str}{ak:List Ar}(G:Lk ac ak):Nt ac ak:=⟨G.nd,G.le,G.al,G.inn,G.rk⟩
theorem Lk.GK{ac:List Str}{ak:List Ar}(G:Lk ac ak)(x:Str):(ig ak x).Nodup:=by unfold ig;refine oE.mpr ((G.nda.filter _).imp_of_mem λ{p q} hp hq h z=>h ?_);have h1:=jI (cC.mp hp).2;have h2:=jI (cC.mp hq).2;exact sM z (h1.trans h2.symm)
theorem OE(xs ys:List Str):cy (af xs) (af ys)=.ok (.bl (decide (xs=ys))):=by unfold cy af;rw[aX (by simp),bR,xf]
end Mr
namespace Mr
open PySem Mi
open My (words fi fH)
theorem sn{ak:List Ar}{a b:Str}:tie ak a b=true↔(a,b)∈ak\/(b,a)∈ak:=by unfold tie;rw[vA,dZ,dZ]
theorem Nl{ac:List Str}{a b:Str}(ha:a∈ac)(hb:b∈ac)(ne:a≠b):(a,b)∈prs ac\/(b,a)∈prs ac:=by
 obtain⟨i,hi,rfl⟩:=EA ha;obtain⟨j,hj,rfl⟩:=EA hb;rcases Nat.lt_trichotomy i j with h|h|h
 ·exact .inl (xI.mpr ⟨i,hi,rfl,Gk h hj⟩)
 ·exact absurd (by rw[h]) ne
 ·exact .inr (xI.mpr ⟨j,hj,rfl,Gk h hi⟩)
end Mr
namespace Mr
open PySem Mi
open My (words fi fH)
def Wk(ac:List Str)(B:List Ar):List Ar->List Ar->Prop
 |[],L=>iT ac L=B
 |p::r,L=>p∈L/\cov L p=true/\Wk ac B r (Rp p L)
end Mr
namespace Mr
open PySem Mi
open My (words fi fH)
theorem qO.gd{ac:List Str}{A:List Ix}{r:Nat->Int}(N:qO ac A r)(hw:∀x∈ac,vc [.d (.str x)]=.ok (.d (.bl true))):Gd ac (A.map (arrOf ac)):=by
 refine⟨N.nd,N.pos,N.le,N.aK.rk,?_,hw⟩;rw[<- HC]
 congr 1
 refine(EY (λp:Ix=>p.1*8+p.2) _ _ ?_ ?_ λp=>?_)
 ·unfold ixs;have h8:=N.le;rw[JI];refine⟨λi _=>?_,?_⟩
  ·rw[oE];refine(Kh _ xP).imp λ{a b} h=>?_;show i*8+a<i*8+b;omega
  ·refine xP.imp λ{a b} h=>?_;intro x hx y hy;obtain⟨j,hj,rfl⟩:=ce.mp hx;obtain⟨j',_,rfl⟩:=ce.mp hy;have:=gz.mp (cC.mp hj).1;show a*8+j<b*8+j';omega
 ·refine N.iT.imp_of_mem λ{p q} hp hq h=>?_;have h1:=(N.all p hp).2.1;have h8:=N.le;rcases h with h|⟨e,h⟩
  ·show p.1*8+p.2<q.1*8+q.2;omega
  ·show p.1*8+p.2<q.1*8+q.2;omega
 ·rw[zq];constructor
  ·rintro⟨h1,h2,h3⟩;obtain⟨q,hq,e⟩:=ce.mp h3;have e1:=nz N.nd (N.all q hq).1 h1 (congrArg yD e);have e2:=nz N.nd (N.all q hq).2.1 h2 (congrArg Prod.snd e);have:q=p:=sM e1 e2;rw[<- this];exact hq
  ·exactλh=>⟨(N.all p h).1,(N.all p h).2.1,ce.mpr ⟨p,h,rfl⟩⟩
end Mr
namespace Mr
open PySem Mi
open My (words fi fH)
end Mr
namespace Mr
open PySem Mi
def rk(r:List Str):List Ky:=r.map eB
abbrev Jz:=List (Ar×D)
def AK(told:Jz):List Ar:=told.map (·.1)
theorem EN(n:Nat)(b:S)(a0 a1 a2 a3 a4:W):du 5 n b [a0,a1,a2,a3,a4]=(b ([ab a0,ab a1,ab a2,ab a3,ab a4]++cK (n-5) ae)).bind jD:=aX rfl
end Mr
namespace Mr
open PySem Mi
structure Dc(ac:List Str)(A:List Ar)(KT KC:List (List Str)):Prop where
 kt:∀a∈ac,∀b∈ac,a≠b->([a,b]∈KT↔tie A a b=true)
 ktm:∀k∈KT,∃a b,k=[a,b]/\a∈ac/\b∈ac/\a≠b/\tie A a b=true
 kc:∀a∈ac,∀m∈ac,∀b∈ac,[a,m,b]∈KC↔a≠b/\vY A a m b=true
def Pm(t h s:Str)(x:List Str):D:=.tup [.str t,.str h,.str s,.tup (x.map D.str)]
inductive Rl(ac:List Str)(A P:List Ar)(t h:Str):Str->List Str->Prop
 |T1 {z:Str} (zn:z∈ac) (ne:t≠z) (c:vY A t h z=true):Rl ac A P t h "corner" [z]
 |on {z:Str} (zn:z∈ac) (ne:z≠h) (nt:tie A z h=false) (nc:vY A z t h=false) (p:(z,t)∈P):Rl ac A P t h "on" [z]
 |over {z:Str} (zn:z∈ac) (p:(t,z)∈P) (q:(z,h)∈P):Rl ac A P t h "over" [z]
 |both {z w:Str} (zn:z∈ac) (wn:w∈ac) (ne:z≠w) (nt:tie A z w=false) (nc:vY A z t w=false) (t1:tie A z t=true) (t2:tie A w t=true) (p:(z,h)∈P) (q:(w,h)∈P):Rl ac A P t h "both" [z,w]
theorem Pl{f:List D->Rs D}{a b c d:E}{e:Mi.Env}{x y z w:D}(h:a e=.ok x)(h':b e=.ok y)(h'':c e=.ok z)(h3:d e=.ok w):mN f [a,b,c,d] e=f [x,y,z,w]:=by unfold mN;rw[gy,h,aH,gy,h',aH,gy,h'',aH,gy,h3];rfl
end Mr
namespace Mr
open PySem Mi
end Mr
namespace Mr
open PySem Mi
structure Gt(ac:List Str)(A:List Ar)(told:Jz):Prop where
 nd:(AK told).Nodup
 sub:∀p∈AK told,p∈A
 ord:∀i q,told[i]? = ab q->∃s x,q.2=Pm q.1.1 q.1.2 s x/\Rl ac A (AK (told.take i)) q.1.1 q.1.2 s x
end Mr
namespace Mr
open PySem Mi
theorem Rh{ac:List Str}(nd:ac.Nodup){a b:Str}(h:(a,b)∈prs ac):a∈ac/\b∈ac/\a≠b:=by obtain⟨k,hk,rfl,hb⟩:=xI.mp h;exact⟨ue hk,(FD nd hk hb).1,(FD nd hk hb).2⟩
end Mr
namespace Mr
open PySem Mi
end Mr
namespace Mr
open PySem Mi
end Mr
namespace Mr
open PySem Mi
end Mr
namespace Mr
open PySem Mi
end Mr
namespace Mr
open PySem Mi
end Mr
namespace Mr
open PySem Mi
open My (words fi fH)
end Mr
namespace Mr
open PySem Mi
open My (words fi fH)
end Mr
namespace Mr
open PySem Mi
end Mr
namespace Mr
open PySem Mi
open My (words fi fH)
end Mr
namespace Mr
open PySem Mi
open PySem.Builtin PySem.Builtin.Str
def cl(x:Str):List Nat:=x.cps.toList
end Mr
namespace Mr
open PySem Mi
open My (words fi fH)
def RM(c:Str)(p:Ar):Str:=Na [p.1,c,p.2]
def Sg(ac:List Str)(xs:List Ar):List Str:=ac++[(":" : Str)]++xs.map (RM ">")
def tx(ac:List Str)(xs:List Ar):Str:=lz " " (Sg ac xs)
def nt(ac:List Str):List Nat:=ac.flatMap λn=>cl n++[32]
theorem Ae{α:Type}{l:List α}{i:Nat}{x:α}(h:l[i]? = ab x):l.take (i+1)=l.take i++[x]:=by rw[xW,h];rfl
end Mr
namespace Mr
open PySem Mi
open My (words fi fH)
end Mr
namespace Vp
section
variable{α:Type}
inductive Up(A:α->α->Prop):α->α->Prop
 |refl (x:α):Up A x x
 |step {x y z:α}:A x y->Up A y z->Up A x z
def Hi(A:α->α->Prop)(T:α->Prop)(x:α):Prop:=∃y,T y/\Up A x y
theorem Hi.of{A:α->α->Prop}{T:α->Prop}{x:α}(h:T x):Hi A T x:=⟨x,h,.refl x⟩
theorem Hi.up{A:α->α->Prop}{T:α->Prop}{x y:α}(a:A x y)(h:Hi A T y):Hi A T x:=let ⟨z,t,u⟩:=h;⟨z,t,.step a u⟩
theorem Up.trans{A:α->α->Prop}{x y z:α}(h:Up A x y)(k:Up A y z):Up A x z:=by
 induction h with
 |refl=>exact k
 |step a _ ih=>exact .step a (ih k)
theorem Hi.ind{A:α->α->Prop}{T P:α->Prop}(h0:∀x,T x->P x)(h1:∀x y,A x y->Hi A T y->P y->P x){x:α}(h:Hi A T x):P x:=by
 obtain⟨z,t,u⟩:=h
 induction u with
 |refl x=>exact h0 x t
 |step a u ih=>exact h1 _ _ a ⟨_,t,u⟩ (ih t)
def fam(A:α->α->Prop)(n u:α):Prop:=u=n\/A u n
def lU(A:α->α->Prop)(U:α->Prop)(u v:α):Prop:=∃n,U n/\fam A n u/\fam A n v
inductive Met(adj:α->α->Prop)(S:α->Prop)(i:α):α->Prop
 |base:Met adj S i i
 |step {u v:α}:Met adj S i u->adj u v->¬ S v->Met adj S i v
def Tg(i j:α)(S:α->Prop)(x:α):Prop:=x=i\/x=j\/S x
def k8(A:α->α->Prop)(i j:α)(S:α->Prop):Prop:=Met (lU A (Hi A (Tg i j S))) S i j
end
end Vp
namespace Mr
open PySem Mi
open Vp
def ar(A:List Ar)(u v:Str):Prop:=(u,v)∈A
def Bq:List Str->List (List Str)
 |[]=>[[]]
 |x::r=>Bq r++(Bq r).map (· ++ [x])
def rst(ac:List Str)(i j:Str):List Str:=ac.filter λn=>!decide (n=i) && !decide (n=j)
end Mr
namespace Mr
open PySem Mi
end Mr
namespace Mr
open PySem Mi
def gg(ak:List Ar):D:=.lst (ak.map pairD)
theorem OW{ac:List Str}{ak:List Ar}(N:iN ac ak)(hd:∀p∈ak,p.2∈ac){x h:Str}{fs ws:List Str}(w:kE ac ak x ae fs (ws++[h]))(o5 o6 o7:Option W) :
 ∃fs' ws' p6 p7,nU [ab (.d (a7 ac)),ab (.d (gg ak)),ab (.d (.str x)),ab (cq fs),ab (.d (af (ws++[h]))),o5,o6,o7]=.ok (.nx [ab (.d (a7 ac)),ab (.d (gg ak)),ab (.d (.str x)),ab (cq fs'),ab (.d (af ws')),ab (.d (.str h)),p6,p7]) /\
  kE ac ak x ae fs' ws'/\fs.length<=fs'.length/\ws'.length+fs.length=ws.length+fs'.length:=by
 have hnd:=et.mp w.wnd;have hh:h∈fs:=w.kR h (by simp);have hnw:h∉ws:=λz=>hnd.2.2 h z h (by simp) rfl;obtain⟨e',f1,fs',ws',p6,p7,he,w',hl,hl2,hx,_⟩:=fQ (tg:=.t [6,7]) (body:=(bu (cE (cB (m2 cy (mV 6) (mV 5))) (cB (gV 3 (mV 7)))) (aE (dA 3 (mV 7) (mC (.bl true))) (cH 4 (mV 7))) bI))
  (λi e=>∃(fs' ws':List Str) (o6 o7:Option W),e=[ab (.d (a7 ac)),ab (.d (gg ak)),ab (.d (.str x)),ab (cq fs'),ab (.d (af ws')),ab (.d (.str h)),o6,o7]/\kE ac ak x (ab h) fs' ws'/\fs.length<=fs'.length/\ws'.length+fs.length=ws.length+fs'.length/\(∀j p,j<i->ak[j]? = ab p->p.1=h->p.2∈fs')/\h∈fs') (ak.map pairD) 0 (λi d e hi ⟨f1,w1,o6,o7,he,W1,hl,hl2,hx,hf1⟩=>by
   subst he;rw[da]at hx ⊢;rw[cS]at hi;obtain⟨p,hp,rfl⟩:=gR.mp hi;have hpm:=eS hp;have c1:cB (m2 cy (mV 6) (mV 5)) [ab (.d (a7 ac)),ab (.d (gg ak)),ab (.d (.str x)),ab (cq f1),ab (.d (af w1)),ab (.d (.str h)),ab (.d (.str p.1)),ab (.d (.str p.2))]=.ok (decide (p.1=h)):=bO ((aC rfl rfl rfl).trans (ny _ _));have c2:cB (gV 3 (mV 7)) [ab (.d (a7 ac)),ab (.d (gg ak)),ab (.d (.str x)),ab (cq f1),ab (.d (af w1)),ab (.d (.str h)),ab (.d (.str p.1)),ab (.d (.str p.2))]=.ok (!decide (p.2∈f1)):=bO (Eg rfl rfl);have hl8:f1.length<=8:=cU (dJ W1.g.nd W1.g.sub) N.le;have hw8:w1.length<=8:=cU (dJ W1.wnd (λy hy=>W1.g.sub y (W1.kR y hy))) N.le;by_cases hb:p.1=h/\p.2∉f1
   ·refine⟨[ab (.d (a7 ac)),ab (.d (gg ak)),ab (.d (.str x)),ab (cq f1),ab (.d (af w1)),ab (.d (.str h)),ab (.d (.str p.1)),ab (.d (.str p.2))],[ab (.d (a7 ac)),ab (.d (gg ak)),ab (.d (.str x)),ab (cq (f1++[p.2])),ab (.d (af (w1++[p.2]))),ab (.d (.str h)),ab (.d (.str p.1)),ab (.d (.str p.2))],rfl,?_,f1++[p.2],w1++[p.2],_,_,rfl,⟨⟨?_,λy hy=>?_,λy hy=>?_,eo _ W1.g.x⟩,?_,λy hy=>?_,λy hy hn=>?_⟩,by rw[bU];omega,by rw[bU,bU];simp;omega,λj q hj hq h1=>?_,eo _ hf1⟩
    ·rw[fw (by unfold cE;rw[c1,aH,bP hb.1,bc rfl,c2,cD hb.2];rfl)];rw[aN (Bn (y:=p.2) (fs:=f1) rfl rfl hb.2 (by omega))];rw[kB (d:=.str p.2) (ds:=w1.map D.str) rfl rfl (by rw[aO];omega)];show Rs.ok (Out.nx [_,_,_,_,ab (W.d (D.lst (w1.map D.str++[.str p.2]))),_,_,_])=_;rw[af,fv];rfl
    ·exact et.mpr ⟨W1.g.nd,by simp,λa ha b hb'=>by
      have:b=p.2:=by simpa using hb'
      subst this;exactλz=>hb.2 (z ▸ ha)⟩
    ·rcases bT.mp hy with z|z
     ·exact W1.g.sub y z
     ·have:y=p.2:=by simpa using z
      subst this;exact hd p hpm
    ·rcases bT.mp hy with z|z
     ·exact W1.g.r y z
     ·have:y=p.2:=by simpa using z
      subst this;exact .step (W1.g.r p.1 (hb.1 ▸ hf1)) hpm
    ·exact et.mpr ⟨W1.wnd,by simp,λa ha b hb'=>by
      have:b=p.2:=by simpa using hb'
      subst this;exactλz=>hb.2 (z ▸ W1.kR a ha)⟩
    ·rcases bT.mp hy with z|z
     ·exact eo _ (W1.kR y z)
     ·exact dE _ z
    ·rcases bT.mp hy with z|z
     ·rcases W1.ex y z (λq=>hn (eo _ q))with q|q
      ·exact .inl q
      ·exact .inr λr hr h1=>eo _ (q r hr h1)
     ·exact absurd (dE _ z) hn
    ·by_cases hji:j=i
     ·subst hji;rw[hp]at hq;cases hq;simp
     ·exact eo _ (hx j q (by omega) hq h1)
   ·refine⟨[ab (.d (a7 ac)),ab (.d (gg ak)),ab (.d (.str x)),ab (cq f1),ab (.d (af w1)),ab (.d (.str h)),ab (.d (.str p.1)),ab (.d (.str p.2))],[ab (.d (a7 ac)),ab (.d (gg ak)),ab (.d (.str x)),ab (cq f1),ab (.d (af w1)),ab (.d (.str h)),ab (.d (.str p.1)),ab (.d (.str p.2))],rfl,?_,f1,w1,_,_,rfl,W1,hl,hl2,λj q hj hq h1=>?_,hf1⟩
    ·rw[dN (by
      unfold cE;rw[c1,aH];by_cases h1:p.1=h
      ·rw[bP h1,bc rfl,c2,bP (nD λz=>hb ⟨h1,z⟩)];rfl
      ·rw[cD h1,a8 cZ])]
     rfl
    ·by_cases hji:j=i
     ·subst hji;rw[hp]at hq;cases hq;exact nD λz=>hb ⟨h1,z⟩
     ·exact hx j q (by omega) hq h1) [ab (.d (a7 ac)),ab (.d (gg ak)),ab (.d (.str x)),ab (cq fs),ab (.d (af ws)),ab (.d (.str h)),o6,o7]
  ⟨fs,ws,o6,o7,rfl,⟨w.g,hnd.1,λy hy=>w.kR y (eo _ hy),λy hy hn=>by
   by_cases hyh:y=h
   ·exact .inl (by rw[hyh])
   ·rcases w.ex y hy (λz=>by
     rcases bT.mp z with z|z
     ·exact hn z
     ·exact hyh (by simpa using z))with q|q
    ·cases q
    ·exact .inr q⟩,bK _,rfl,λj p hj=>absurd hj (mx _),hh⟩
 subst he;refine⟨fs',ws',p6,p7,?_,⟨w'.g,w'.wnd,w'.kR,λy hy hn=>.inr ?_⟩,hl,hl2⟩
 ·rw[show nU=aE (tU 5 4) (cQ (bv (mV 1)) (.t [6,7]) (bu (cE (cB (m2 cy (mV 6) (mV 5))) (cB (gV 3 (mV 7)))) (aE (dA 3 (mV 7) (mC (.bl true))) (cH 4 (mV 7))) bI))from rfl];rw[aN (e':=[ab (.d (a7 ac)),ab (.d (gg ak)),ab (.d (.str x)),ab (cq fs),ab (.d (af ws)),ab (.d (.str h)),o6,o7]) (by
   show(c6 (((ws++[h]).map D.str)[((ws++[h]).map D.str).length-1]?)).bind _=_;have e1:((ws++[h]).map D.str)[((ws++[h]).map D.str).length-1]? = ab (.str h):=by simp
   have e2:((ws++[h]).map D.str).dropLast=ws.map D.str:=by simp
   rw[e1,m3,aH,e2];rfl)]
  exact(fh (dG (x:=gg ak) rfl rfl)).trans f1
 ·rcases w'.ex y hy hn with q|q
  ·cases q;intro p hp h1;obtain⟨j,hj⟩:=li hp;exact hx j p (by rw[aO];have:=(cv.mp hj).1;omega) hj h1
  ·exact q
theorem FJ{ac:List Str}{ak:List Ar}(N:iN ac ak)(hd:∀p∈ak,p.2∈ac){x:Str}:∀(n:Nat) (fs ws:List Str) (o5 o6 o7:Option W),kE ac ak x ae fs ws->(ac.length-fs.length)+ws.length<n ->
 ∃fs' p5 p6 p7,gJ (dQ (mV 4)) nU n [ab (.d (a7 ac)),ab (.d (gg ak)),ab (.d (.str x)),ab (cq fs),ab (.d (af ws)),o5,o6,o7]=.ok (.nx [ab (.d (a7 ac)),ab (.d (gg ak)),ab (.d (.str x)),ab (cq fs'),ab (.d (af [])),p5,p6,p7])/\kE ac ak x ae fs' []
 |0,_,_,_,_,_,_,h=>absurd h (mx _)
 |n+1,fs,ws,o5,o6,o7,w,h=>by
  have hc:dQ (mV 4) [ab (.d (a7 ac)),ab (.d (gg ak)),ab (.d (.str x)),ab (cq fs),ab (.d (af ws)),o5,o6,o7]=.ok (!(ws.map D.str).isEmpty):=rfl;rcases JG ws with rfl|⟨ws1,y,rfl⟩
  ·exact⟨fs,o5,o6,o7,by rw[gJ,hc];rfl,w⟩
  ·rw[JH]at w h hc ⊢;obtain⟨fs',ws',p6,p7,f1,w',l1,l2⟩:=OW N hd w o5 o6 o7;have l3:fs'.length<=ac.length:=dJ w'.g.nd w'.g.sub;obtain⟨fs2,q5,q6,q7,f2,w2⟩:=FJ N hd n fs' ws' (ab (.d (.str y))) p6 p7 w' (by rw[bU]at h;simp at h;omega);refine⟨fs2,q5,q6,q7,?_,w2⟩;rw[gJ,hc,show(!((ws1++[y]).map D.str).isEmpty)=true by simp,aH,bc rfl,f1,aH];exact f2
theorem No{ac:List Str}{ak:List Ar}(N:iN ac ak)(hd:∀p∈ak,p.2∈ac){x:Str}(hx:x∈ac):na [.d (a7 ac),.d (gg ak),.d (.str x)]=.ok (.d (af (kQ ac ak x))):=by
 have w0:kE ac ak x ae [x] [x]:=⟨⟨by simp,λy hy=>by simp at hy;subst hy;exact hx,λy hy=>by simp at hy;subst hy;exact .refl,by simp⟩,by simp,λy hy=>hy,λy hy hn=>absurd hy hn⟩;obtain⟨fs,p5,p6,p7,f1,w⟩:=FJ N hd 20 [x] [x] ae ae ae w0 (by have:=N.le;simp;omega);have hcl:uq ak fs:=λp hp h1=>by
  rcases w.ex p.1 h1 (by simp)with q|q
  ·cases q
  ·exact q p hp rfl
 unfold na AR;rw[rf];rw[aN (e':=[ab (.d (a7 ac)),ab (.d (gg ak)),ab (.d (.str x)),ab (cq [x]),ae,ae,ae,ae]) rfl];rw[aN (e':=[ab (.d (a7 ac)),ab (.d (gg ak)),ab (.d (.str x)),ab (cq [x]),ab (.d (af [x])),ae,ae,ae]) (bL (kn rfl))];rw[aN (show jk 20 (dQ (mV 4)) nU _=_ from f1)];have hc:dv (.n 1) (cB (nM 0 (mV 1))) (mV 1) [ab (cq fs),ae] (ac.map D.str)=.ok ((ac.filter (rch ak x)).map D.str):=
  fe D.str D.str _ ac λy _=>⟨[ab (cq fs),ab (.d (.str y))],rfl,bO ((yW rfl rfl).trans (by rw[EE (w.g.iff hcl)])),λ_=>rfl⟩
 rw[c8 (bq (d5 (dG (x:=a7 ac) rfl rfl) (by rw[aO];have:=N.le;omega) hc))];rfl
def jR(ak:List Ar):List Ar:=ak.map λp=>(p.2,p.1)
theorem xp{ak:List Ar}{x y:Str}:(x,y)∈jR ak↔(y,x)∈ak:=by unfold jR;rw[ce];exact⟨λ⟨p,hp,e⟩=>by cases e;exact hp,λh=>⟨(y,x),h,rfl⟩⟩
theorem fX.trans{ak:List Ar}{x y z:Str}(h:fX ak x y)(g:fX ak y z):fX ak x z:=by
 induction g with
 |refl=>exact h
 |step _ m ih=>exact .step ih m
theorem fX.swap{ak:List Ar}{x y:Str}(h:fX ak x y):fX (jR ak) y x:=by
 induction h with
 |refl=>exact .refl
 |step _ m ih=>exact fX.trans (.step .refl (xp.mpr m)) ih
theorem MO(ak:List Ar):jR (jR ak)=ak:=by unfold jR;rw[dF];exact(vn λp _=>rfl).trans (Cs _)
theorem QY{ak:List Ar}{x y:Str}:rch (jR ak) x y=rch ak y x:=by rw[jZ,oY,oY];exact⟨λh=>by have:=h.swap;rw[MO]at this;exact this,λh=>h.swap⟩
theorem Nj{ac:List Str}{ak:List Ar}(N:iN ac ak)(hd:∀p∈ak,p.2∈ac):iN ac (jR ak):=by
 obtain⟨r,hr⟩:=N.rk;refine⟨N.nd,N.pos,N.le,?_,λp hp=>?_,λx=>- r x,λp hp=>?_⟩
 ·unfold jR;rw[aO];exact N.al
 ·exact hd (p.2,p.1) (xp.mp (show(p.1,p.2)∈_ from hp))
 ·have:=hr (p.2,p.1) (xp.mp (show(p.1,p.2)∈_ from hp));show-r p.1 < - r p.2;simp only at this;omega
theorem LQ{ac:List Str}{ak:List Ar}(N:iN ac ak):∀p∈jR ak,p.2∈ac:=λp hp=>N.tl (p.2,p.1) (xp.mp (show(p.1,p.2)∈_ from hp))
theorem MJ{ak:List Ar}{ρ:List (Option Nat)}{e:Mi.Env}(hp:jw ρ e=[ae,ae]){a:E}(ha:a e=.ok (eZ ak))(hl:ak.length<=64):b8 ρ (bv a) (.t [0,1]) dc (mN dTup [(mV 1),(mV 0)]) e=.ok (gg (jR ak)):=by
 have hc:dv (.t [0,1]) dc (mN dTup [(mV 1),(mV 0)]) [ae,ae] (ak.map pairD)=.ok ((ak.filter λ_=>true).map λp=>pairD (p.2,p.1)):=fe pairD (λp=>pairD (p.2,p.1)) _ ak λp _=>⟨[ab (.d (.str p.1)),ab (.d (.str p.2))],rfl,rfl,λ_=>fA rfl rfl⟩
 rw[mi.mpr (λ_ _=>rfl)]at hc;rw[d5 (dG ha rfl) (by rw[aO];omega) (by rw[hp];exact hc)];unfold gg jR;rw[dF];rfl
noncomputable def lA (ac:List Str) (ak:List Ar) (x:Str):List Str:=kQ ac (jR ak) x
theorem G7{ac:List Str}{ak:List Ar}{x y:Str}(hy:y∈ac):y∈lA ac ak x↔rch ak y x=true:=by unfold lA kQ;rw[cC,QY];exact⟨λh=>h.2,λh=>⟨hy,h⟩⟩
theorem P6{ac:List Str}{ak:List Ar}(N:iN ac ak)(hd:∀p∈ak,p.2∈ac){x:Str}(hx:x∈ac):qZ [.d (am ac ak),.d (.str x)]=.ok (.d (af (lA ac ak x))):=by
 unfold qZ Fs;rw[jx];have hr:fV [.d (a7 ac),.d (af [x])]=.ok (.d .non):=pf λy hy=>by simp at hy;subst hy;exact hx
 rw[aN (e':=[ab (.d (am ac ak)),ab (.d (.str x))]) (by unfold ej;rw[call2 (bq (aC rfl rfl (fY _ _))) (bq (kn rfl)) hr];rfl)];rw[c8 (bq (iG (bq (aC rfl rfl (fY _ _))) (bq (MJ rfl (aC rfl rfl (jp _ _)) N.al)) rfl (No (Nj N hd) (LQ N) hx)))];rfl
end Mr
namespace Mr
open PySem Mi
open My (fH)
def qf(fs:List Str)(g:Str->D):W:=.dk (fs.map λy=>((eB y:Ky),g y))
theorem FE(g:Str->D)(y:Str):∀{fs:List Str},y∈fs->fM (fs.map λy=>((eB y:Ky),g y)) (eB y)=ab (g y)
 |[],h=>nomatch h
 |a::r,h=>by
  unfold fM;rw[cP,jW];by_cases q:a=y
  ·subst q;rw[bP rfl];rfl
  ·rw[cD (λz:(eB a:Ky)=eB y=>q (vH z))];have ih:=FE g y (fs:=r) ((bB.mp h).resolve_left (fJ q));unfold fM at ih;exact ih
theorem O5{i:Nat}{k:E}{e:Mi.Env}{fs:List Str}{g:Str->D}{y:Str}(hk:k e=.ok (.str y))(hw:wV i e=.ok (qf fs g))(hy:y∈fs):hW i k e=.ok (g y):=by unfold hW;rw[hk,aH,hw,aH];show(Rs.ok (fM (fs.map λy=>((eB y:Ky),g y)) (eB y))).bind c6=_;rw[FE g y hy];rfl
end Mr
namespace Mr
open PySem Mi
open Vp
structure GoodR(ac:List Str)(R:Str->Prop)(met:List Str):Prop where
 nd:met.Nodup
 sub:∀y∈met,y∈ac
 r:∀y∈met,R y
theorem GoodR.add{ac:List Str}{R:Str->Prop}{met more:List Str}(g:GoodR ac R met)(nd:more.Nodup)(h:∀y∈more,y∉met/\y∈ac/\R y):GoodR ac R (met++more):=by
 refine⟨et.mpr ⟨g.nd,nd,λa ha b hb e=>(h b hb).1 (e ▸ ha)⟩,λy hy=>?_,λy hy=>?_⟩
 ·rcases bT.mp hy with z|z
  ·exact g.sub y z
  ·exact(h y z).2.1
 ·rcases bT.mp hy with z|z
  ·exact g.r y z
  ·exact(h y z).2.2
theorem GoodR.len{ac:List Str}{R:Str->Prop}{met:List Str}(g:GoodR ac R met):met.length<=ac.length:=dJ g.nd g.sub
def pT(A:List Ar)(met:List Str):Prop:=∀p∈A,p.2∈met->p.1∈met
theorem Et{ac:List Str}{A:List Ar}(N:Nt ac A){some_:List Str}(nd:some_.Nodup)(sub:∀x∈some_,x∈ac) :
 ∃met,pL [.d (am ac A),.d (af some_)]=.ok (.d (af met))/\GoodR ac (Hi (ar A) (·∈some_)) met/\∀y,y∈met↔Hi (ar A) (·∈some_) y:=by
 obtain⟨R,hR⟩ : ∃R,R=Hi (ar A) (·∈some_):=⟨_,rfl⟩;have n8:=N.le;have all:∀met,pT A met->(∀y∈some_,y∈met)->∀y,R y->y∈met:=λmet hc hs y h=>by
  rw[hR]at h;exact h.ind (λx t=>hs x t) λx y a _ ih=>hc (x,y) a ih
 have inner:∀(met:List Str) (o3 o4 o5:Option W),GoodR ac R met->(∀y∈some_,y∈met)->∃(c5:List Str) (p4 p5:Option W),gI (.t [4,5]) (bu (cE (cB (m2 bz (mV 5) (mV 2))) (cB (m2 cF (mV 4) (mV 2)))) (cH 2 (mV 4)) bI) (A.map pairD)
  [ab (.d (am ac A)),ab (.d (af some_)),ab (.d (af met)),o3,o4,o5]=.ok (.nx [ab (.d (am ac A)),ab (.d (af some_)),ab (.d (af c5)),o3,p4,p5])/\GoodR ac R c5/\(∀y∈some_,y∈c5)/\(met.length<c5.length\/(c5=met/\pT A met)):=by
  intro met o3 o4 o5 g hs;obtain⟨e',f1,c5,p4,p5,he,g',hs',hc⟩:=fQ (tg:=.t [4,5]) (body:=(bu (cE (cB (m2 bz (mV 5) (mV 2))) (cB (m2 cF (mV 4) (mV 2)))) (cH 2 (mV 4)) bI))
   (λi e=>∃(c5:List Str) (o4 o5:Option W),e=[ab (.d (am ac A)),ab (.d (af some_)),ab (.d (af c5)),o3,o4,o5]/\GoodR ac R c5/\(∀y∈some_,y∈c5)/\(met.length<c5.length\/(c5=met/\∀j p,j<i->A[j]? = ab p->p.2∈met->p.1∈met))) (A.map pairD) 0 (λi d e hi ⟨m1,o4,o5,he,g1,hs1,hc⟩=>by
    subst he;rw[da]at hc ⊢;rw[cS]at hi;obtain⟨p,hp,rfl⟩:=gR.mp hi;have hpm:=eS hp;have hl8:=g1.len;have c1:cE (cB (m2 bz (mV 5) (mV 2))) (cB (m2 cF (mV 4) (mV 2))) [ab (.d (am ac A)),ab (.d (af some_)),ab (.d (af m1)),o3,ab (.d (.str p.1)),ab (.d (.str p.2))]=.ok (decide (p.2∈m1) && !decide (p.1∈m1)):=oo (bO (aC rfl rfl (lC _ _))) λ_=>bO (aC rfl rfl (j5 _ _));by_cases hb:p.2∈m1/\p.1∉m1
    ·rw[bP hb.1,cD hb.2]at c1;refine⟨[ab (.d (am ac A)),ab (.d (af some_)),ab (.d (af m1)),o3,ab (.d (.str p.1)),ab (.d (.str p.2))],[ab (.d (am ac A)),ab (.d (af some_)),ab (.d (af (m1++[p.1]))),o3,ab (.d (.str p.1)),ab (.d (.str p.2))],rfl,?_,m1++[p.1],_,_,rfl,g1.add (by simp) (λy hy=>?_),λy hy=>eo _ (hs1 y hy),.inl ?_⟩
     ·rw[fw c1,kB (d:=.str p.1) (ds:=m1.map D.str) rfl rfl (by rw[aO];omega)];show Rs.ok (Out.nx [_,_,ab (W.d (D.lst (m1.map D.str++[.str p.1]))),_,_,_])=_;rw[qI]
     ·rw[bQ.mp hy];refine⟨hb.2,(N.inn p hpm).1,?_⟩;have:=g1.r _ hb.1;rw[hR]at this ⊢;exact .up (show ar A p.1 p.2 from hpm) this
     ·rw[bU];rcases hc with h|⟨rfl,_⟩
      ·simp;omega
      ·simp
    ·have cf:(decide (p.2∈m1) && !decide (p.1∈m1))=false:=by
      by_cases h1:p.2∈m1
      ·rw[bP (nD λz=>hb ⟨h1,z⟩ : p.1∈m1)];simp
      ·rw[cD h1];rfl
     rw[cf]at c1;refine⟨[ab (.d (am ac A)),ab (.d (af some_)),ab (.d (af m1)),o3,ab (.d (.str p.1)),ab (.d (.str p.2))],[ab (.d (am ac A)),ab (.d (af some_)),ab (.d (af m1)),o3,ab (.d (.str p.1)),ab (.d (.str p.2))],rfl,(dN c1).trans rfl,m1,_,_,rfl,g1,hs1,?_⟩;rcases hc with h|⟨rfl,h⟩
     ·exact .inl h
     ·refine .inr ⟨rfl,λj q hj hq h1=>?_⟩;by_cases hji:j=i
      ·subst hji;rw[hp]at hq;cases hq;exact nD λz=>hb ⟨h1,z⟩
      ·exact h j q (by omega) hq h1) _ ⟨met,o4,o5,rfl,g,hs,.inr ⟨rfl,λj p h=>absurd h (mx _)⟩⟩
  subst he;refine⟨c5,p4,p5,f1,g',hs',?_⟩;rcases hc with h|⟨h1,h2⟩
  ·exact .inl h
  ·refine .inr ⟨h1,λp hp h=>?_⟩;obtain⟨j,hj⟩:=li hp;exact h2 j p (by rw[da,aO];have:=(cv.mp hj).1;omega) hj h
 obtain⟨e',f1,met,o3,o4,o5,he,g,hs,hc⟩:=fQ (tg:=.n 3) (body:=(cQ (bv (m2 az (mV 0) (mC (.int 1)))) (.t [4,5]) (bu (cE (cB (m2 bz (mV 5) (mV 2))) (cB (m2 cF (mV 4) (mV 2)))) (cH 2 (mV 4)) bI)))
  (λi e=>∃(met:List Str) (o3 o4 o5:Option W),e=[ab (.d (am ac A)),ab (.d (af some_)),ab (.d (af met)),o3,o4,o5]/\GoodR ac R met/\(∀y∈some_,y∈met)/\(i<=met.length\/pT A met)) (dL 0 ((ac.length:Nat):Int)) 0 (λi d e hi ⟨met,o3,o4,o5,he,g,hs,hc⟩=>by
   subst he;rw[da]at hc ⊢;obtain⟨c5,p4,p5,f1,g',hs',hc'⟩:=inner met (ab (.d d)) o4 o5 g hs;refine⟨_,_,rfl,(fh (dG (aC rfl rfl (jp ac A)) rfl)).trans f1,c5,ab (.d d),p4,p5,rfl,g',hs',?_⟩;rcases hc' with h|⟨rfl,h⟩
   ·rcases hc with h1|h1
    ·exact .inl (by omega)
    ·exfalso;have hxm:∀y,y∈c5->y∈met:=λy hy=>all met h1 hs y (g'.r y hy);have:=dJ g'.nd hxm;omega
   ·exact .inr h) [ab (.d (am ac A)),ab (.d (af some_)),ab (.d (af some_)),ae,ae,ae] ⟨some_,ae,ae,ae,rfl,⟨nd,sub,λy hy=>by rw[hR];exact .of hy⟩,λy hy=>hy,.inl (g9 _)⟩
 subst he;rw[lB,da]at hc;have hcl:pT A met:=by
  rcases hc with h|h
  ·exactλp hp _=>SW g.nd g.sub h _ (N.inn p hp).1
  ·exact h
 refine⟨met,?_,hR ▸ g,λy=>⟨λh=>hR ▸ g.r y h,λh=>all met hcl hs y (hR ▸ h)⟩⟩;unfold pL EQ;rw[jx];rw[show([ab (W.d (am ac A)),ab (W.d (af some_))]++cK (6-2) ae)=[ab (W.d (am ac A)),ab (W.d (af some_)),ae,ae,ae,ae]from rfl];rw[aN (e':=[ab (W.d (am ac A)),ab (W.d (af some_)),ab (W.d (af some_)),ae,ae,ae]) (bL ((eJ (x:=af some_) rfl).trans rfl))];rw[aN ((fh (jT (RP rfl) (pe ac.length n8))).trans f1)];rfl
noncomputable def iY (A:List Ar) (i j:Str) (ag:List Str):Bool:=@decide (k8 (ar A) i j (·∈ag)) (sK _)
theorem rH{A:List Ar}{i j:Str}{ag:List Str}:iY A i j ag=true↔k8 (ar A) i j (·∈ag):=by unfold iY;exact@dZ _ (sK _)
def fq(A:List Ar)(n:Str):List Str:=n::ig A n
theorem v9{A:List Ar}{n u:Str}:u∈fq A n↔fam (ar A) n u:=by unfold fq fam ar;rw[bB,vW]
def xO(A:List Ar)(bd ag met:List Str):Prop:=∀n∈bd,(∃u∈fq A n,u∈met)->∀v∈fq A n,v∉ag->v∈met
theorem Ph{ac:List Str}{A:List Ar}(L:Lk ac A)(n:Str):(fq A n).Nodup:=by refine iU.mpr ⟨λz=>?_,L.GK n⟩;obtain⟨r,hr⟩:=L.rk;have:=hr _ (vW.mp z);simp only at this;omega
theorem MN{i:Nat}{k v:E}{e:Mi.Env}{fs:List Str}{g:Str->D}{y:Str}(hv:v e=.ok (g y))(hk:k e=.ok (.str y))(hw:wV i e=.ok (qf fs g))(hn:y∉fs)(hl:fs.length<=1000):dA i k v e=.ok (.nx (e.set i (ab (qf (fs++[y]) g)))):=by
 unfold dA;have h1:o0 (qf fs g) (.str y) (g y)=.ok (qf (fs++[y]) g):=by
  show bp ((fs.map λy=>((eB y:Ky),g y)).length<16777216) ((c6 (ox (.str y))).bind λk=>Rs.ok (W.dk (Mi.putK k (g y) (fs.map λy=>((eB y:Ky),g y)))))=_;rw[aX (by rw[aO];omega)];show Rs.ok (W.dk (Mi.putK (eB y:Ky) (g y) (fs.map λy=>((eB y:Ky),g y))))=_;unfold Mi.putK;rw[a8 (by
   rw[vt,Bool.not_eq_true,xS];intro z hz;simp only[Kn,rT];exactλq=>hn (vH q ▸ hz))]
  unfold qf;rw[fv];rfl
 rw[hv,aH,hk,aH,hw,aH,h1];rfl
end Mr
namespace Mr
open PySem Mi
open Vp
section
variable{ac:List Str}{A:List Ar}{i j:Str}{ag bd:List Str}
abbrev eD(ac:List Str)(A:List Ar)(i j:Str)(ag bd fs:List Str)(o6 o7 o8 o9:Option W):Mi.Env:=[ab (W.d (am ac A)),ab (W.d (.str i)),ab (W.d (.str j)),ab (W.d (af ag)),ab (W.d (af bd)),ab (qf fs λy=>af (fq A y)),o6,o7,o8,o9]
abbrev wT:S:=(aE (bh 9 (b8 [ab 7,ae] (bv (hW 5 (mV 6))) (.n 1) (cB (m2 bz (mV 1) (mV 0))) (mV 1)))
 (bu (cB (m2 l0 (mN d6 [(mV 9)]) (mC (.int 0))))
 (bh 7 (m2 ba (mV 7) (b8 [ab 7,ab 3,ae] (bv (hW 5 (mV 6))) (.n 2) (cE (cB (m2 cF (mV 2) (mV 0))) (cB (m2 cF (mV 2) (mV 1)))) (mV 2))))
 bI))
theorem QG(L:Lk ac A)(nd:bd.Nodup)(hl:bd.length<=8):∃o6,gI (.n 6) (dA 5 (mV 6) (m2 ba (mN bx [(mV 6)]) (b8 [ab 6,ae,ae] (bv (m2 az (mV 0) (mC (.int 1)))) (.t [1,2]) (cB (m2 cy (mV 2) (mV 0))) (mV 1)))) (bd.map D.str) (eD ac A i j ag bd [] ae ae ae ae)=.ok (.nx (eD ac A i j ag bd bd o6 ae ae ae)):=by
 have al:=L.al;obtain⟨e',f,o6,he⟩:=fQ (tg:=.n 6) (body:=(dA 5 (mV 6) (m2 ba (mN bx [(mV 6)]) (b8 [ab 6,ae,ae] (bv (m2 az (mV 0) (mC (.int 1)))) (.t [1,2]) (cB (m2 cy (mV 2) (mV 0))) (mV 1)))))
  (λn e=>∃o6:Option W,e=eD ac A i j ag bd (bd.take n) o6 ae ae ae) (bd.map D.str) 0 (λn d e hi ⟨o6,he⟩=>by
   subst he;rw[da];rw[cS]at hi;obtain⟨x,hx,rfl⟩:=gR.mp hi;have cm:dv (.t [1,2]) (cB (m2 cy (mV 2) (mV 0))) (mV 1) [ab (.d (.str x)),ae,ae] (A.map pairD)=.ok ((A.filter λp=>decide (p.2=x)).map λp=>D.str p.1):=
    fe pairD (λp=>D.str p.1) (λp=>decide (p.2=x)) A λp _=>⟨[ab (.d (.str x)),ab (.d (.str p.1)),ab (.d (.str p.2))],rfl,bO (aC rfl rfl (ny _ _)),λ_=>rfl⟩
   have ev:m2 ba (mN bx [(mV 6)]) (b8 [ab 6,ae,ae] (bv (m2 az (mV 0) (mC (.int 1)))) (.t [1,2]) (cB (m2 cy (mV 2) (mV 0))) (mV 1)) (eD ac A i j ag bd (bd.take n) (ab (.d (.str x))) ae ae ae)=.ok (af (fq A x)):=by
    refine(aC (x:=af [x]) (y:=af (ig A x)) ((eJ (x:=.str x) rfl).trans (aX (by show(1:Nat)<=_;decide))) ?_ (oD _ _)).trans ?_
    ·have:=d5 (ρ:=[ab 6,ae,ae]) (e:=eD ac A i j ag bd (bd.take n) (ab (.d (.str x))) ae ae ae) (dG (a:=m2 az (mV 0) (mC (.int 1))) (aC rfl rfl (jp ac A)) rfl) (by rw[aO];omega) cm;rw[this];unfold af ig;rw[dF];rfl
    ·have el:=vM (x:=x) al;rw[aX (by rw[aO,aO];simp only[ft];omega)];unfold af fq;rfl
   have pt:=MN (i:=5) (k:=mV 6) (e:=eD ac A i j ag bd (bd.take n) (ab (.d (.str x))) ae ae ae) (fs:=bd.take n) (g:=λy=>af (fq A y)) (y:=x) ev rfl rfl (u5 nd hx) (by rw[iJ];omega);refine⟨eD ac A i j ag bd (bd.take n) (ab (.d (.str x))) ae ae ae,eD ac A i j ag bd (bd.take (n+1)) (ab (.d (.str x))) ae ae ae,rfl,pt.trans ?_,_,rfl⟩;rw[Ae hx];rfl) (eD ac A i j ag bd [] ae ae ae ae) ⟨ae,rfl⟩
 subst he;rw[da,aO,xT]at f;exact⟨o6,f⟩
theorem Ms(L:Lk ac A){R:Str->Prop}(hR:R=Met (lU (ar A) (·∈bd)) (·∈ag) i)(hc:pT A bd)(h8:bd.length<=8){n:Str}(hn:n∈bd){met:List Str}(g:GoodR bd R met)(o8 o9:Option W) :
 ∃c5 o9',wT (eD ac A i j ag bd bd (ab (.d (.str n))) (ab (.d (af met))) o8 o9)=.ok (.nx (eD ac A i j ag bd bd (ab (.d (.str n))) (ab (.d (af c5))) o8 o9'))/\GoodR bd R c5/\(∀y∈met,y∈c5)/\(met.length<c5.length\/(c5=met/\((∃u∈fq A n,u∈met)->∀v∈fq A n,v∉ag->v∈met))):=by
 have al:=L.al;have fl:(fq A n).length<=100:=by unfold fq;rw[cx];have:=vM (x:=n) al;omega
 have gl:=g.len;have it:∀o9,bv (hW 5 (mV 6)) (eD ac A i j ag bd bd (ab (.d (.str n))) (ab (.d (af met))) o8 o9)=.ok ((fq A n).map D.str):=λo9=>dG (x:=af (fq A n)) (O5 (fs:=bd) (g:=λy=>af (fq A y)) (y:=n) rfl rfl hn) rfl;have c1:dv (.n 1) (cB (m2 bz (mV 1) (mV 0))) (mV 1) [ab (.d (af met)),ae] ((fq A n).map D.str)=.ok (((fq A n).filter λu=>decide (u∈met)).map D.str):=fe D.str D.str _ _ λu _=>⟨[ab (.d (af met)),ab (.d (.str u))],rfl,bO (aC rfl rfl (lC _ _)),λ_=>rfl⟩
 have c2:dv (.n 2) (cE (cB (m2 cF (mV 2) (mV 0))) (cB (m2 cF (mV 2) (mV 1)))) (mV 2) [ab (.d (af met)),ab (.d (af ag)),ae] ((fq A n).map D.str)=.ok (((fq A n).filter λu=>!decide (u∈met) && !decide (u∈ag)).map D.str):=fe D.str D.str _ _ λu _=>⟨[ab (.d (af met)),ab (.d (af ag)),ab (.d (.str u))],rfl,oo (bO (aC rfl rfl (j5 _ _))) λ_=>bO (aC rfl rfl (j5 _ _)),λ_=>rfl⟩
 obtain⟨so,hso⟩ : ∃so,so=(fq A n).filter λu=>decide (u∈met):=⟨_,rfl⟩;obtain⟨mo,hmo⟩ : ∃mo,mo=(fq A n).filter λu=>!decide (u∈met) && !decide (u∈ag):=⟨_,rfl⟩;rw[<- hso]at c1;rw[<- hmo]at c2;have s9:bh 9 (b8 [ab 7,ae] (bv (hW 5 (mV 6))) (.n 1) (cB (m2 bz (mV 1) (mV 0))) (mV 1)) (eD ac A i j ag bd bd (ab (.d (.str n))) (ab (.d (af met))) o8 o9)=.ok (.nx (eD ac A i j ag bd bd (ab (.d (.str n))) (ab (.d (af met))) o8 (ab (.d (af so))))):=bL (d5 (ρ:=[ab 7,ae]) (it o9) (by rw[aO];omega) c1);have ct:cB (m2 l0 (mN d6 [(mV 9)]) (mC (.int 0))) (eD ac A i j ag bd bd (ab (.d (.str n))) (ab (.d (af met))) o8 (ab (.d (af so))))=.ok (decide ((0:Int)<(so.length:Int))):=bO (aC ((eJ (x:=af so) rfl).trans (by unfold af;rw[As,aO])) rfl (Fm _ 0));have mml:mo.length<=100:=by rw[hmo];exact cU (lh _ _) fl
 have s7:bh 7 (m2 ba (mV 7) (b8 [ab 7,ab 3,ae] (bv (hW 5 (mV 6))) (.n 2) (cE (cB (m2 cF (mV 2) (mV 0))) (cB (m2 cF (mV 2) (mV 1)))) (mV 2))) (eD ac A i j ag bd bd (ab (.d (.str n))) (ab (.d (af met))) o8 (ab (.d (af so))))=.ok (.nx (eD ac A i j ag bd bd (ab (.d (.str n))) (ab (.d (af (met++mo)))) o8 (ab (.d (af so))))):=by refine bL ((aC (x:=af met) (y:=af mo) rfl (d5 (ρ:=[ab 7,ab 3,ae]) (it _) (by rw[aO];omega) c2) (oD _ _)).trans ?_);rw[aX (by rw[aO,aO];omega)];unfold af;rw[fv]
 by_cases h0:(0:Int)<(so.length:Int)
 ·rw[bP h0]at ct;obtain⟨u,hu⟩ : ∃u,u∈so:=by
   cases so with
   |nil=>simp at h0
   |cons u r=>exact⟨u,cJ⟩
  rw[hso]at hu;obtain⟨hu1,hu2⟩:=cC.mp hu;have hu2:u∈met:=jI hu2;refine⟨met++mo,ab (.d (af so)),(aN s9).trans ((fw ct).trans s7),g.add (by rw[hmo];exact(Ph L n).filter _) (λy hy=>?_),λy hy=>eo _ hy,?_⟩
  ·rw[hmo]at hy;obtain⟨y1,y2⟩:=cC.mp hy;simp only[gZ,mv,l7]at y2;have fy:=v9.mp y1;refine⟨y2.1,?_,?_⟩
   ·rcases fy with z|z
    ·rw[z];exact hn
    ·exact hc (y,n) z hn
   ·have:=g.r u hu2;rw[hR]at this ⊢;exact .step this ⟨n,hn,v9.mp hu1,fy⟩ y2.2
  ·cases hmo':mo with
   |nil=>
    refine .inr ⟨by simp,λ_ v hv hvh=>nD λz=>?_⟩;have:v∈mo:=by rw[hmo];exact cC.mpr ⟨hv,by simp[z,hvh]⟩
    rw[hmo']at this;cases this
   |cons a r=>exact .inl (by simp)
 ·rw[cD h0]at ct;refine⟨met,ab (.d (af so)),(aN s9).trans ((dN ct).trans rfl),g,λy hy=>hy,.inr ⟨rfl,λ⟨u,hu1,hu2⟩=>?_⟩⟩;have:u∈so:=by rw[hso];exact cC.mpr ⟨hu1,bP hu2⟩
  cases so with
  |nil=>cases this
  |cons a r=>simp at h0
theorem LF(L:Lk ac A){R:Str->Prop}(hR:R=Met (lU (ar A) (·∈bd)) (·∈ag) i)(hc:pT A bd)(h8:bd.length<=8){met:List Str}(g:GoodR bd R met)(o6 o8 o9:Option W) :
 ∃c5 o6' o9',gI (.n 6) wT (bd.map D.str) (eD ac A i j ag bd bd o6 (ab (.d (af met))) o8 o9)=.ok (.nx (eD ac A i j ag bd bd o6' (ab (.d (af c5))) o8 o9'))/\GoodR bd R c5/\(∀y∈met,y∈c5)/\(met.length<c5.length\/(c5=met/\xO A bd ag met)):=by
 obtain⟨e',f,c5,o6',o9',he,g',s',c'⟩:=fQ (tg:=.n 6) (body:=wT)
  (λk e=>∃(c5:List Str) (o6 o9:Option W),e=eD ac A i j ag bd bd o6 (ab (.d (af c5))) o8 o9/\GoodR bd R c5/\(∀y∈met,y∈c5)/\(met.length<c5.length\/(c5=met/\∀a n,a<k->bd[a]? = ab n->(∃u∈fq A n,u∈met)->∀v∈fq A n,v∉ag->v∈met))) (bd.map D.str) 0 (λk d e hi ⟨m1,o6,o9,he,g1,s1,c1⟩=>by
   subst he;rw[da]at c1 ⊢;rw[cS]at hi;obtain⟨n,hn,rfl⟩:=gR.mp hi;obtain⟨m2,o9',st,g2,s2,c2⟩:=Ms (j:=j) L hR hc h8 (eS hn) g1 o8 o9;refine⟨eD ac A i j ag bd bd (ab (.d (.str n))) (ab (.d (af m1))) o8 o9,_,rfl,st,m2,_,_,rfl,g2,λy hy=>s2 y (s1 y hy),?_⟩;rcases c2 with q|⟨rfl,q⟩
   ·refine .inl ?_;rcases c1 with z|⟨z,_⟩
    ·omega
    ·rw[<- z];exact q
   ·rcases c1 with z|⟨rfl,z⟩
    ·exact .inl z
    ·refine .inr ⟨rfl,λa n' ha hn'=>?_⟩;by_cases e:a=k
     ·subst e;rw[hn]at hn';cases hn';exact q
     ·exact z a n' (by omega) hn') (eD ac A i j ag bd bd o6 (ab (.d (af met))) o8 o9) ⟨met,o6,o9,rfl,g,λy hy=>hy,.inr ⟨rfl,λa n h=>absurd h (mx _)⟩⟩
 subst he;refine⟨c5,o6',o9',f,g',s',?_⟩;rcases c' with z|⟨z,w⟩
 ·exact .inl z
 ·refine .inr ⟨z,λn hn=>?_⟩;obtain⟨a,ha⟩:=li hn;exact w a n (by rw[da,aO];exact(cv.mp ha).1) ha
theorem Qb(L:Lk ac A)(hi:i∈ac)(hj:j∈ac)(ij:i≠j)(hs:∀x∈ag,x∈ac)(nd:ag.Nodup)(ni:i∉ag)(nj:j∉ag):rE [.d (am ac A),.d (.str i),.d (.str j),.d (af ag)]=.ok (.d (.bl (!iY A i j ag))):=by
 have ndS:([i,j]++ag).Nodup:=by
  refine et.mpr ⟨by simp[ij],nd,λa ha b hb e=>?_⟩;subst e;rcases bB.mp ha with rfl|z
  ·exact ni hb
  ·rw[bQ.mp z]at hb;exact nj hb
 have n8:=L.le;have hl8:ag.length<=8:=cU (dJ nd hs) n8;obtain⟨bd,hh,gh,mh⟩:=Et L.nt (some_:=[i,j]++ag) ndS (λx hx=>by
  rcases bT.mp hx with z|z
  ·rcases bB.mp z with rfl|z
   ·exact hi
   ·rw[bQ.mp z];exact hj
  ·exact hs x z)
 have eT:(λx=>x∈[i,j]++ag)=Vp.Tg i j (·∈ag):=by funext x;refine propext ?_;rw[bT];unfold Vp.Tg;simp only[bB,xU,or_false,or_assoc]
 rw[eT]at mh gh;have h8:bd.length<=8:=cU gh.len n8;have up:pT A bd:=λp hp h=>(mh p.1).mpr (.up (show ar A p.1 p.2 from hp) ((mh p.2).mp h));have eU:(λx=>x∈bd)=Hi (ar A) (Vp.Tg i j (·∈ag)):=by funext x;exact propext (mh x)
 obtain⟨R,hR⟩ : ∃R,R=Met (lU (ar A) (·∈bd)) (·∈ag) i:=⟨_,rfl⟩;have iR:R i:=by rw[hR];exact .base
 have ih:i∈bd:=(mh i).mpr (.of (.inl rfl));have all:∀met,xO A bd ag met->i∈met->∀y,R y->y∈met:=λmet hc hm y h=>by
  rw[hR]at h
  induction h with
  |base=>exact hm
  |step _ a s ih2=>
   obtain⟨n,hn,f1,f2⟩:=a;exact hc n hn ⟨_,v9.mpr f1,ih2⟩ _ (v9.mpr f2) s
 obtain⟨o6,ff⟩:=QG (i:=i) (j:=j) (ag:=ag) L gh.nd h8;obtain⟨e',f2,met,p6,p8,p9,he,g,hm,hc⟩:=fQ (tg:=.n 8) (body:=(cQ (bv (mV 4)) (.n 6) wT))
  (λk e=>∃(met:List Str) (o6 o8 o9:Option W),e=eD ac A i j ag bd bd o6 (ab (.d (af met))) o8 o9/\GoodR bd R met/\i∈met/\(k+1<=met.length\/xO A bd ag met)) (dL 0 ((bd.length:Nat):Int)) 0 (λk d e hx ⟨met,o6,o8,o9,he,g,hm,hc⟩=>by
   subst he;rw[da]at hc ⊢;obtain⟨c5,o6',o9',fr,g',s',c'⟩:=LF (j:=j) L hR up h8 g o6 (ab (.d d)) o9;refine⟨eD ac A i j ag bd bd o6 (ab (.d (af met))) (ab (.d d)) o9,_,rfl,(fh (dG (a:=mV 4) (x:=af bd) rfl rfl)).trans fr,c5,_,_,_,rfl,g',s' i hm,?_⟩;rcases c' with z|⟨rfl,z⟩
   ·rcases hc with w|w
    ·exact .inl (by omega)
    ·exfalso;have:=dJ g'.nd (λy hy=>all met w hm y (g'.r y hy));omega
   ·exact .inr z) (eD ac A i j ag bd bd o6 (ab (.d (af [i]))) ae ae) ⟨[i],_,_,_,rfl,⟨by simp,λy hy=>by rw[bQ.mp hy];exact ih,λy hy=>by rw[bQ.mp hy];exact iR⟩,by simp,.inl (by simp)⟩
 subst he;rw[lB,da]at hc;have cl:xO A bd ag met:=by
  rcases hc with z|z
  ·have:=g.len;omega
  ·exact z
 have fin:decide (j∈met)=iY A i j ag:=by rw[jZ,dZ,rH];unfold k8;rw[<- eU,<- hR];exact⟨g.r j,all met cl hm j⟩
 unfold rE HS;rw[t8];rw[show([ab (W.d (am ac A)),ab (W.d (.str i)),ab (W.d (.str j)),ab (W.d (af ag))]++cK (10-4) ae)=[ab (W.d (am ac A)),ab (W.d (.str i)),ab (W.d (.str j)),ab (W.d (af ag)),ae,ae,ae,ae,ae,ae]from rfl];have l2:m2 ba (mN bx [(mV 1),(mV 2)]) (mN eP [(mV 3)]) [ab (W.d (am ac A)),ab (W.d (.str i)),ab (W.d (.str j)),ab (W.d (af ag)),ae,ae,ae,ae,ae,ae]=.ok (af ([i,j]++ag)):=by refine(aC (x:=af [i,j]) (y:=af ag) (jS rfl rfl) ((eJ (x:=af ag) rfl).trans rfl) (oD _ _)).trans ?_;rw[aX (by rw[aO,aO];simp only[cx,f7];omega)];rfl
 rw[aN (e':=[ab (W.d (am ac A)),ab (W.d (.str i)),ab (W.d (.str j)),ab (W.d (af ag)),ab (W.d (af bd)),ae,ae,ae,ae,ae]) (bL (call2 rfl (bq l2) hh))];rw[aN (e':=eD ac A i j ag bd [] ae ae ae ae) rfl];rw[aN ((fh (dG (a:=mV 4) (x:=af bd) rfl rfl)).trans ff)];rw[aN (e':=eD ac A i j ag bd bd o6 (ab (.d (af [i]))) ae ae) (bL (kn rfl))];rw[aN ((fh (jT ((eJ (x:=af bd) rfl).trans (by unfold af;rw[As,aO])) (pe bd.length h8))).trans f2)];rw[c8 (bq (aC rfl rfl (j5 met j)))];rw[fin];rfl
end
end Mr
namespace Mr
open PySem Mi
open Vp
abbrev Qn:=Str×Str×List Str
def Pa(ac:List Str)(a b:Str):List Qn:=(Bq (rst ac a b).reverse).map λl=>(a,b,l)
def Ol(ac:List Str)(k:Nat):List Qn:=(ac.drop (k+1)).flatMap λb=>Pa ac (nth ac k) b
def qs(ac:List Str):List Qn:=(cu ac.length).flatMap (Ol ac)
end Mr
namespace Vp
section
variable{α:Type}
def Fj(A:α->α->Prop)(S:α->Prop)(s t:α×Bool):Prop:=¬ S s.1/\A s.1 t.1/\t.2=true
def eM(A:α->α->Prop)(S:α->Prop)(x:α):Prop:=∃z,S z/\Up A x z
def Goes(A:α->α->Prop)(S:α->Prop)(s:α×Bool):Prop:=(s.2=true/\eM A S s.1)\/(s.2=false/\¬ S s.1)
def ED(A:α->α->Prop)(S:α->Prop)(s t:α×Bool):Prop:=Goes A S s/\A t.1 s.1/\t.2=false
def mS(A:α->α->Prop)(S:α->Prop)(s t:α×Bool):Prop:=Fj A S s t\/ED A S s t
def wp(A:α->α->Prop)(i:α)(t:α×Bool):Prop:=(A i t.1/\t.2=true)\/(A t.1 i/\t.2=false)
inductive Rc(st:α×Bool->Prop)(nx:α×Bool->α×Bool->Prop):α×Bool->Prop
 |base {t:α×Bool}:st t->Rc st nx t
 |step {s t:α×Bool}:Rc st nx s->nx s t->Rc st nx t
variable{A:α->α->Prop}{S:α->Prop}{i j:α}
abbrev Wk(A:α->α->Prop)(S:α->Prop)(i:α):α×Bool->Prop:=Rc (wp A i) (mS A S)
theorem eM.hi{T:α->Prop}(h:∀z,S z->T z){x:α}(b:eM A S x):Hi A T x:=let ⟨z,s,u⟩:=b;⟨z,h z s,u⟩
theorem S9(ni:¬ S i)(nj:¬ S j){b:Bool}(w:Wk A S i (j,b)):k8 A i j S:=by
 obtain⟨T,hT⟩ : ∃T,T=Tg i j S:=⟨_,rfl⟩;have tS:∀z,S z->T z:=λz h=>by rw[hT];exact .inr (.inr h)
 have ti:Hi A T i:=.of (by rw[hT];exact .inl rfl);have tj:Hi A T j:=.of (by rw[hT];exact .inr (.inl rfl));have down:∀x t,Hi A T x->Met (lU A (Hi A T)) S i x->A x t->(¬ Hi A T t)\/(Hi A T t/\(¬ S t->Met (lU A (Hi A T)) S i t)/\∃y,A y t/\Met (lU A (Hi A T)) S i y):=λx t hx m a=>
  (J4 (Hi A T t)).elim (λh=>.inr ⟨h,λns=>.step m ⟨t,h,.inr a,.inl rfl⟩ ns,x,a,m⟩) .inl
 have key:∀s,Wk A S i s->(s.2=true/\¬ Hi A T s.1)\/(Hi A T s.1/\(¬ S s.1->Met (lU A (Hi A T)) S i s.1)/\(s.2=true->∃y,A y s.1/\Met (lU A (Hi A T)) S i y)):=λs w=>by
  induction w with
  |base h=>
   rcases h with ⟨a,e⟩|⟨a,e⟩
   ·rcases down i _ ti .base a with h|⟨h1,h2,h3⟩
    ·exact .inl ⟨e,h⟩
    ·exact .inr ⟨h1,h2,λ_=>h3⟩
   ·exact .inr ⟨.up a ti,λns=>.step .base ⟨i,ti,.inl rfl,.inr a⟩ ns,λq=>by rw[e]at q;cases q⟩
  | @step s t w h ih=>
   rcases h with ⟨ns,a,e⟩|⟨g,a,e⟩
   ·rcases ih with ⟨_,ih⟩|⟨ih,im,_⟩
    ·exact .inl ⟨e,λh=>ih (.up a h)⟩
    ·rcases down s.1 _ ih (im ns) a with h|⟨h1,h2,h3⟩
     ·exact .inl ⟨e,h⟩
     ·exact .inr ⟨h1,h2,λ_=>h3⟩
   ·have hs:Hi A T s.1:=by
     rcases ih with ⟨d,ih⟩|⟨ih,_⟩
     ·rcases g with ⟨_,g⟩|⟨g,_⟩
      ·exact g.hi tS
      ·rw[d]at g;cases g
     ·exact ih
    refine .inr ⟨.up a hs,λns=>?_,λq=>by rw[e]at q;cases q⟩;rcases ih with ⟨_,ih⟩|⟨_,im,iy⟩
    ·exact absurd hs ih
    ·rcases g with ⟨g,_⟩|⟨_,g⟩
     ·obtain⟨y,ay,my⟩:=iy g;exact .step my ⟨s.1,hs,.inr ay,.inr a⟩ ns
     ·exact .step (im g) ⟨s.1,hs,.inl rfl,.inr a⟩ ns
 rcases key _ w with ⟨_,h⟩|⟨_,h,_⟩
 ·exact absurd tj h
 ·unfold k8;rw[<- hT];exact h nj
def Rd(A:α->α->Prop)(S:α->Prop)(i x:α):Prop:=x=i\/∃b,Wk A S i (x,b)
def Rb(A:α->α->Prop)(S:α->Prop)(i x:α):Prop:=x=i\/∃b,Wk A S i (x,b)/\Goes A S (x,b)
theorem Rd.down{x t:α}(r:Rd A S i x)(ns:¬ S x)(a:A x t):Wk A S i (t,true):=by
 rcases r with rfl|⟨b,w⟩
 ·exact .base (.inl ⟨a,rfl⟩)
 ·exact .step w (.inl ⟨ns,a,rfl⟩)
theorem Rb.up{x t:α}(r:Rb A S i x)(a:A t x):Wk A S i (t,false):=by
 rcases r with rfl|⟨b,w,g⟩
 ·exact .base (.inr ⟨a,rfl⟩)
 ·exact .step w (.inr ⟨g,a,rfl⟩)
theorem eM.no{x:α}(n:¬ eM A S x):¬ S x:=λh=>n ⟨x,h,.refl x⟩
theorem eM.Bp{x y:α}(n:¬ eM A S x)(a:A x y):¬ eM A S y:=λ⟨z,s,u⟩=>n ⟨z,s,.step a u⟩
theorem LH{x y:α}(u:Up A x y):Rd A S i x->¬ eM A S x->Rd A S i y:=by
 induction u with
 |refl=>exactλr _=>r
 |step a _ ih=>exactλr n=>ih (.inr ⟨true,r.down (eM.no n) a⟩) (eM.Bp n a)
theorem RO{x:α}(u:Up A x i)(n:¬ eM A S x):x=i\/Wk A S i (x,false):=by
 obtain⟨k,hk⟩ : ∃k,k=i:=⟨_,rfl⟩;rw[<- hk]at u
 induction u with
 |refl=>exact .inl hk
 |step a _ ih=>
  have n':=eM.Bp n a;rcases ih n' hk with e|w
  ·rw[e]at a;exact .inr (.base (.inr ⟨a,rfl⟩))
  ·exact .inr (.step w (.inr ⟨.inr ⟨rfl,eM.no n'⟩,a,rfl⟩))
theorem Oc(ij:i≠j)(ni:¬ S i)(h:k8 A i j S):∃b,Wk A S i (j,b):=by
 have both:∀x,Hi A (Tg i j S) x->¬ eM A S x->Rd A S i x->Rb A S i x\/∃b,Wk A S i (j,b):=λx hx n r=>by
  obtain⟨z,t,u⟩:=hx;rcases t with rfl|rfl|t
  ·rcases RO u n with e|w
   ·exact .inl (.inl e)
   ·exact .inl (.inr ⟨false,w,.inr ⟨rfl,eM.no n⟩⟩)
  ·rcases LH u r n with e|w
   ·exact absurd e.symm ij
   ·exact .inr w
  ·exact absurd ⟨z,t,u⟩ n
 have fin:∀x,Hi A (Tg i j S) x->¬ S x->Wk A S i (x,true)->Rb A S i x\/∃b,Wk A S i (j,b):=λx hx ns w=>
  (J4 (eM A S x)).elim (λb=>.inl (.inr ⟨true,w,.inl ⟨rfl,b⟩⟩)) λn=>both x hx n (.inr ⟨_,w⟩)
 have key:∀v,Met (lU A (Hi A (Tg i j S))) S i v->¬ S v/\(Rb A S i v\/∃b,Wk A S i (j,b)):=λv m=>by
  induction m with
  |base=>exact⟨ni,.inl (.inl rfl)⟩
  | @step u v _ a sv ih=>
   refine⟨sv,?_⟩;obtain⟨su,ih⟩:=ih;rcases ih with r|r
   ·obtain⟨n,hn,f1,f2⟩:=a;have rd:Rd A S i u:=by
     rcases r with e|⟨b,w,_⟩
     ·exact .inl e
     ·exact .inr ⟨b,w⟩
    rcases f1 with e|a1
    ·subst e;rcases f2 with e|a2
     ·subst e;exact .inl r
     ·exact .inl (.inr ⟨false,r.up a2,.inr ⟨rfl,sv⟩⟩)
    ·have w:=rd.down su a1;rcases f2 with e|a2
     ·subst e;exact fin _ hn sv w
     ·by_cases hb:eM A S n
      ·exact .inl (.inr ⟨false,.step w (.inr ⟨.inl ⟨rfl,hb⟩,a2,rfl⟩),.inr ⟨rfl,sv⟩⟩)
      ·rcases both n hn hb (.inr ⟨_,w⟩)with rb|q
       ·exact .inl (.inr ⟨false,rb.up a2,.inr ⟨rfl,sv⟩⟩)
       ·exact .inr q
   ·exact .inr r
 rcases(key j h).2 with r|r
 ·rcases r with e|⟨b,w,_⟩
  ·exact absurd e.symm ij
  ·exact⟨b,w⟩
 ·exact r
theorem zQ(ij:i≠j)(ni:¬ S i)(nj:¬ S j):(∃b,Wk A S i (j,b))↔k8 A i j S:=⟨λ⟨_,w⟩=>S9 ni nj w,Oc ij ni⟩
end
end Vp
namespace Mr
open PySem Mi
open Vp
abbrev Spot:=Str×Bool
def aG(s:Spot):D:=.tup [.str s.1,.bl s.2]
def k4(s:Spot):List Ky:=[.inr s.1,.inl s.2]
theorem GC{s t:Spot}(h:k4 s=k4 t):s=t:=by unfold k4 at h;simp only[List.cons.injEq,Sum.inr.injEq,Sum.inl.injEq,and_true]at h;exact sM h.1 h.2
abbrev Bf:=Spot×Option Spot
def i4:Option Spot->D
 |none=>.non
 |some s=>aG s
def cR(b:Bf):List Ky×D:=(k4 b.1,i4 b.2)
abbrev jv(bs:List Bf):W:=.dt (bs.map cR)
def bZ(bs:List Bf):List Spot:=bs.map (·.1)
theorem Rx{bs:List Bf}{s:Spot}:s∈bZ bs↔∃o,(s,o)∈bs:=by unfold bZ;rw[ce];exact⟨λ⟨⟨a,o⟩,h,e⟩=>⟨o,by cases e;exact h⟩,λ⟨o,h⟩=>⟨(s,o),h,rfl⟩⟩
theorem IL(bs:List Bf)(s:Spot):((bs.map cR).any λkv=>decide (kv.1=k4 s))=decide (s∈bZ bs):=by
 rw[jZ,dZ,vt,List.any_eq_true,Rx];constructor
 ·rintro⟨⟨t,o⟩,h,e⟩;have:=GC (jI e);exact⟨o,by rw[<- this];exact h⟩
 ·rintro⟨o,h⟩;exact⟨(s,o),h,bP rfl⟩
theorem GJ{α:Type}(p:α->Bool):∀l:List α,(l.find? p).isSome=l.any p
 |[]=>rfl
 |x::r=>by
  rw[jW,kK];cases h:p x with
  |true=>rfl
  |false=>simp only[yq];exact GJ p r
theorem PK(bs:List Bf)(s:Spot):∃o,rW (jv bs) (aG s)=.ok o/\o.isSome=decide (s∈bZ bs):=by refine⟨fM (bs.map cR) (k4 s),rfl,?_⟩;unfold fM;rw[yu,GJ,IL]
theorem E6{bs:List Bf}{s:Spot}{o:Option Spot}(hn:s∉bZ bs)(hl:bs.length<=1000):o0 (jv bs) (aG s) (i4 o)=.ok (jv (bs++[(s,o)])):=by show bp ((bs.map cR).length<16777216) (Rs.ok (W.dt (Mi.putK (k4 s) (i4 o) (bs.map cR))))=_;rw[aX (by rw[aO];omega)];unfold Mi.putK;rw[IL,cD hn,a8 cZ];unfold jv;rw[fv];rfl
inductive jH(st:List Spot)(nx:Spot->List Spot):List Bf->Prop
 |nil:jH st nx []
 |from{bs:List Bf} {s:Spot}:jH st nx bs->s∈st->jH st nx (bs++[(s,ae)])
 |on {bs:List Bf} {s h:Spot} {pre post:List Spot}:jH st nx bs->bZ bs=pre++h::post->(∀t∈pre,s∉nx t)->s∉st->s∈nx h->jH st nx (bs++[(s,ab h)])
theorem lE(bs:List Bf)(b:Bf):bZ (bs++[b])=bZ bs++[b.1]:=by unfold bZ;rw[fv];rfl
theorem kys_len(bs:List Bf):(bZ bs).length=bs.length:=by unfold bZ;exact aO _
theorem jH.rc{st:List Spot}{nx:Spot->List Spot}{bs:List Bf}(h:jH st nx bs):∀s∈bZ bs,Rc (·∈st) (λs t=>t∈nx s) s:=by
 induction h with
 |nil=>exactλs h=>nomatch h
 | «from» _ hs ih=>
  intro s h;rw[lE]at h;rcases bT.mp h with h|h
  ·exact ih s h
  ·rw[bQ.mp h];exact .base hs
 |on _ hh _ _ hs ih=>
  intro s h;rw[lE]at h;rcases bT.mp h with h|h
  ·exact ih s h
  ·rw[bQ.mp h];exact .step (ih _ (by rw[hh];exact dE _ cJ)) hs
abbrev A3(κ:Kp)(f:Fn):S:=(cQ (bv (pJ κ 1 f (mV 5))) (.n 4)
 (bu (cB (gV 2 (mV 4)))
 (aE (dA 2 (mV 4) (mV 5))
 (cH 3 (mV 4)))
 bI))
abbrev AM(κ:Kp)(f:Fn):S:=(aE (nZ 5 3 (mC (.int 0))) (A3 κ f))
abbrev Jr(κ:Kp)(f:Fn):S:=
 (aE (ki 2 (λ_=>.ok (.dt [])))
 (aE (bh 3 (mN bx []))
 (aE (cQ (bv (mV 0)) (.n 4)
 (aE (dA 2 (mV 4) (mC .non))
 (cH 3 (mV 4))))
 (aE (jk 40 (dQ (mV 3)) (AM κ f))
 (bw (wV 2))))))
abbrev ca(l:List Spot):D:=.lst (l.map aG)
section
variable{κ:Kp}{f:Fn}{aM:List D}{X:D}{st U:List Spot}{nx:Spot->List Spot}
abbrev fE(X:D)(κ:Kp)(aM:List D)(bs:List Bf)(ws:List Spot)(o4 o5:Option W):Mi.Env:=[ab (.d X),ab (.fn κ aM),ab (jv bs),ab (.d (ca ws)),o4,o5]
theorem LO(nd:st.Nodup)(hl:st.length<=100):∃o4,gI (.n 4) (aE (dA 2 (mV 4) (mC .non)) (cH 3 (mV 4))) (st.map aG) (fE X κ aM [] [] ae ae)=.ok (.nx (fE X κ aM (st.map λs=>(s,ae)) st o4 ae)):=by
 obtain⟨e',g,o4,he⟩:=fQ (tg:=.n 4) (body:=(aE (dA 2 (mV 4) (mC .non)) (cH 3 (mV 4))))
  (λn e=>∃o4:Option W,e=fE X κ aM ((st.take n).map λs=>(s,ae)) (st.take n) o4 ae) (st.map aG) 0 (λn d e hi ⟨o4,he⟩=>by
   subst he;rw[da];rw[cS]at hi;obtain⟨s,hs,rfl⟩:=gR.mp hi;have nl:=(cv.mp hs).1;have tl:(st.take n).length<=100:=by rw[iJ];omega
   have hk:bZ ((st.take n).map λs=>((s,ae):Bf))=st.take n:=by unfold bZ;rw[dF];exact Cs _
   have p:=E6 (bs:=(st.take n).map λs=>(s,ae)) (s:=s) (o:=ae) (by rw[hk];exact u5 nd hs) (by rw[aO];omega);have s1:dA 2 (mV 4) (mC .non) (fE X κ aM ((st.take n).map λs=>(s,ae)) (st.take n) (ab (.d (aG s))) ae)=.ok (.nx (fE X κ aM ((st.take n).map (λs=>((s,ae):Bf))++[(s,ae)]) (st.take n) (ab (.d (aG s))) ae)):=by show Rs.bind (o0 (jv ((st.take n).map λs=>((s,ae):Bf))) (aG s) .non) _=_;rw[show(D.non)=i4 ae from rfl,p];rfl
   refine⟨_,fE X κ aM ((st.take (n+1)).map λs=>(s,ae)) (st.take (n+1)) (ab (.d (aG s))) ae,rfl,(aN s1).trans ?_,_,rfl⟩;rw[kB (d:=aG s) (ds:=(st.take n).map aG) rfl rfl (by rw[aO];omega)];rw[Ae hs,fv];show Rs.ok (Out.nx [_,_,_,ab (W.d (D.lst ((st.take n).map aG++[aG s]))),_,_])=_;unfold fE ca;rw[fv];rfl) (fE X κ aM [] [] ae ae) ⟨ae,rfl⟩
 subst he;rw[da,aO,xT]at g;exact⟨o4,g⟩
structure gB(st U:List Spot)(nx:Spot->List Spot)(bs:List Bf)(ws:List Spot):Prop where
 tr:jH st nx bs
 nd:(bZ bs).Nodup
 u:∀s∈bZ bs,s∈U
 st:∀s∈st,s∈bZ bs
 q:∃dn,bZ bs=dn++ws/\∀s∈dn,∀t∈nx s,t∈bZ bs
theorem gB.w{bs:List Bf}{ws:List Spot}(w:gB st U nx bs ws):∀s∈ws,s∈bZ bs:=λs hs=>by
 obtain⟨dn,e,_⟩:=w.q;rw[e];exact dE _ hs
theorem gB.ex{bs:List Bf}{ws:List Spot}(w:gB st U nx bs ws):∀s∈bZ bs,s∉ws->∀t∈nx s,t∈bZ bs:=λs hs hn=>by
 obtain⟨dn,e,h⟩:=w.q;rw[e]at hs;rcases bT.mp hs with z|z
 ·exact h s z
 ·exact absurd z hn
theorem gB.len{bs:List Bf}{ws:List Spot}(w:gB st U nx bs ws):bs.length<=U.length:=by rw[<- kys_len];exact dJ w.nd w.u
theorem SM(hU:U.length<=100)(hnU:∀s∈U,∀t∈nx s,t∈U)(hnl:∀s∈U,(nx s).length<=1000)(hf:∀s∈U,f (.d (aG s)::aM.map W.d)=.ok (.d (ca (nx s)))){bs:List Bf}{h:Spot}{r:List Spot}(rl:r.length<=1000)(w:gB st U nx bs (h::r))(o4:Option W) :
 ∃bs' ws' o4',A3 κ f (fE X κ aM bs r o4 (ab (.d (aG h))))=.ok (.nx (fE X κ aM bs' ws' o4' (ab (.d (aG h)))))/\gB st U nx bs' ws'/\ws'.length+bs.length=r.length+bs'.length:=by
 have hk:=w.w h cJ;have hu:=w.u h hk;obtain⟨dn,hq,hdn⟩:=w.q;obtain⟨e',g,bs',ws',o4',he,tr,nd,u,sub,kq,ln,al⟩:=fQ (tg:=.n 4) (body:=(bu (cB (gV 2 (mV 4))) (aE (dA 2 (mV 4) (mV 5)) (cH 3 (mV 4))) bI))
  (λn e=>∃(bs':List Bf) (ws':List Spot) (o4:Option W),e=fE X κ aM bs' ws' o4 (ab (.d (aG h)))/\jH st nx bs'/\(bZ bs').Nodup/\(∀s∈bZ bs',s∈U)/\(∀s∈bZ bs,s∈bZ bs')/\bZ bs'=dn++h::ws'/\ws'.length+bs.length=r.length+bs'.length/\∀a t,a<n->(nx h)[a]? = ab t->t∈bZ bs') ((nx h).map aG) 0 (λn d e hi ⟨bs',ws',o4,he,tr,nd,u,sub,kq,ln,al⟩=>by
   subst he;rw[da]at al ⊢;rw[cS]at hi;obtain⟨t,ht,rfl⟩:=gR.mp hi;have tm:=eS ht;obtain⟨o,hg,ho⟩:=PK bs' t;have bl:bs'.length<=100:=by have:=dJ nd u;rw[kys_len]at this;omega
   have ct:cB (gV 2 (mV 4)) (fE X κ aM bs' ws' (ab (.d (aG t))) (ab (.d (aG h))))=.ok (!decide (t∈bZ bs')):=bO (by
    show Rs.bind (rW (jv bs') (aG t)) (λo=>Rs.ok (D.bl (!o.isSome)))=_;rw[hg,aH,ho])
   by_cases hm:t∈bZ bs'
   ·rw[bP hm]at ct;refine⟨_,_,rfl,(dN ct).trans rfl,bs',ws',_,rfl,tr,nd,u,sub,kq,ln,λa t' ha h'=>?_⟩;by_cases e:a=n
    ·subst e;rw[ht]at h';cases h';exact hm
    ·exact al a t' (by omega) h'
   ·rw[cD hm]at ct;have p:=E6 (bs:=bs') (s:=t) (o:=ab h) hm (by omega);have s1:dA 2 (mV 4) (mV 5) (fE X κ aM bs' ws' (ab (.d (aG t))) (ab (.d (aG h))))=.ok (.nx (fE X κ aM (bs'++[(t,ab h)]) ws' (ab (.d (aG t))) (ab (.d (aG h))))):=by
     show Rs.bind (o0 (jv bs') (aG t) (aG h)) _=_;rw[show aG h=i4 (ab h)from rfl,p];rfl
    have ka:=lE bs' (t,ab h);refine⟨_,fE X κ aM (bs'++[(t,ab h)]) (ws'++[t]) (ab (.d (aG t))) (ab (.d (aG h))),rfl,(fw ct).trans ((aN s1).trans ?_),_,_,_,rfl,.on tr kq (λv hv z=>hm (sub _ (hdn v hv t z))) (λz=>hm (sub _ (w.st t z))) tm,?_,?_,?_,?_,?_,?_⟩
    ·rw[kB (d:=aG t) (ds:=ws'.map aG) rfl rfl (by rw[aO];omega)];show Rs.ok (Out.nx [_,_,_,ab (W.d (D.lst (ws'.map aG++[aG t]))),_,_])=_;unfold fE ca;rw[fv];rfl
    ·rw[ka];exact et.mpr ⟨nd,by simp,λa ha b hb e=>by rw[bQ.mp hb]at e;exact hm (by rw[e]at ha;exact ha)⟩
    ·rw[ka];intro s hs;rcases bT.mp hs with z|z
     ·exact u s z
     ·rw[bQ.mp z];exact hnU h hu t tm
    ·rw[ka];exactλs hs=>eo _ (sub s hs)
    ·rw[ka,kq,jV,qk]
    ·rw[bU,bU,ft,ft];omega
    ·rw[ka];intro a t' ha h';by_cases e:a=n
     ·subst e;rw[ht]at h';cases h';exact dE _ (bQ.mpr rfl)
     ·exact eo _ (al a t' (by omega) h')) (fE X κ aM bs r o4 (ab (.d (aG h)))) ⟨bs,r,o4,rfl,w.tr,w.nd,w.u,λs hs=>hs,hq,rfl,λa t ha=>absurd ha (mx _)⟩
 subst he;have hcl:∀t∈nx h,t∈bZ bs':=λt ht=>by
  obtain⟨a,ha⟩:=li ht;exact al a t (by rw[da,aO];exact(cv.mp ha).1) ha
 refine⟨bs',ws',o4',?_,⟨tr,nd,u,λs hs=>sub s (w.st s hs),dn++[h],by rw[kq,jV];rfl,λs hs t ht=>?_⟩,ln⟩
 ·refine(fh (dG (x:=ca (nx h)) ?_ rfl)).trans g;show(if κ = κ then Rs.bind (.ok (aG h)) λx=>(f (.d x::aM.map W.d)).bind ma else .no)=_;rw[bc rfl,aH,hf h hu];rfl
 ·rcases bT.mp hs with z|z
  ·exact sub t (hdn s z t ht)
  ·rw[bQ.mp z]at ht;exact hcl t ht
theorem Is(hU:U.length<=100)(hnU:∀s∈U,∀t∈nx s,t∈U)(hnl:∀s∈U,(nx s).length<=1000)(hf:∀s∈U,f (.d (aG s)::aM.map W.d)=.ok (.d (ca (nx s)))):∀(n:Nat) (bs:List Bf) (ws:List Spot) (o4 o5:Option W),n<=100->gB st U nx bs ws->(U.length-bs.length)+ws.length<n ->
 ∃bs' p4 p5,gJ (dQ (mV 3)) (AM κ f) n (fE X κ aM bs ws o4 o5)=.ok (.nx (fE X κ aM bs' [] p4 p5))/\gB st U nx bs' []
 |0,_,_,_,_,_,_,h=>absurd h (mx _)
 |n+1,bs,[],o4,o5,_,w,h=>⟨bs,o4,o5,rfl,w⟩
 |n+1,bs,x::r,o4,o5,hn,w,h=>by
  have hc:dQ (mV 3) (fE X κ aM bs (x::r) o4 o5)=.ok true:=rfl;rw[cx]at h;obtain⟨bs',ws',p4,g,w',ln⟩:=SM (X:=X) (κ:=κ) hU hnU hnl hf (by omega) w o4;have l3:=w'.len;have l4:=w.len;obtain⟨b2,q4,q5,g2,w2⟩:=Is hU hnU hnl hf n bs' ws' p4 (ab (.d (aG x))) (by omega) w' (by omega);refine⟨b2,q4,q5,?_,w2⟩;have pop:nZ 5 3 (mC (.int 0)) (fE X κ aM bs (x::r) o4 o5)=.ok (.nx (fE X κ aM bs r o4 (ab (.d (aG x))))):=by
   show Rs.bind (qb (aG x::r.map aG) 0) _=_;unfold qb;rw[aX (by decide)];have:gP (aG x::r.map aG).length 0=ab 0:=by unfold gP;rw[bc (by decide),bc (by rw[cx];omega)];rfl
   rw[this];rfl
  rw[gJ,hc,aH,bc rfl];show Rs.bind (aE (nZ 5 3 (mC (.int 0))) (A3 κ f) _) _=_;rw[aN pop,g,aH];exact g2
theorem Qt(nd:st.Nodup)(hst:∀s∈st,s∈U)(hU:U.length<=30)(hnU:∀s∈U,∀t∈nx s,t∈U)(hnl:∀s∈U,(nx s).length<=1000)(hf:∀s∈U,f (.d (aG s)::aM.map W.d)=.ok (.d (ca (nx s)))) :
 ∃bs,eh 2 6 (Jr κ f) [.d (ca st),.fn κ aM]=.ok (jv bs)/\gB st U nx bs []:=by
 have hk:bZ (st.map λs=>((s,ae):Bf))=st:=by unfold bZ;rw[dF];exact Cs _
 have tr:∀l:List Spot,(∀s∈l,s∈st)->jH st nx (l.map λs=>(s,ae)):=λl=>by
  have:∀l:List Spot,(∀s∈l.reverse,s∈st)->jH st nx (l.reverse.map λs=>(s,ae)):=λl=>by
   induction l with
   |nil=>exactλ_=>.nil
   |cons x r ih=>
    intro h;rw[sB]at h ⊢;rw[fv];exact .from (ih λs hs=>h s (eo _ hs)) (h x (dE _ (bQ.mpr rfl)))
  have:=this l.reverse;rw[JJ]at this;exact this
 have sl:st.length<=U.length:=dJ nd hst;obtain⟨o4,g1⟩:=LO (X:=ca st) (κ:=κ) (aM:=aM) nd (by omega);obtain⟨bs,p4,p5,g2,w⟩:=Is (X:=ca st) (κ:=κ) (f:=f) (aM:=aM) (st:=st) (by omega) hnU hnl hf 40 (st.map λs=>(s,ae)) st o4 ae (by decide) ⟨tr st λs h=>h,by rw[hk];exact nd,by rw[hk];exact hst,by rw[hk];exactλs h=>h,[],by rw[hk];rfl,(by intro s h;cases h)⟩ (by rw[aO];omega);refine⟨bs,?_,w⟩;rw[jx];rw[show([ab (W.d (ca st)),ab (W.fn κ aM)]++cK (6-2) ae)=[ab (W.d (ca st)),ab (W.fn κ aM),ae,ae,ae,ae]from rfl];unfold Jr;rw[aN (e':=[ab (W.d (ca st)),ab (W.fn κ aM),ab (jv []),ae,ae,ae]) rfl];rw[aN (e':=fE (ca st) κ aM [] [] ae ae) (bL (jO _))];rw[aN ((fh (dG (x:=ca st) rfl rfl)).trans g1)];rw[aN (show jk 40 (dQ (mV 3)) (AM κ f) _=_ from g2)];rfl
end
theorem gB.iff{st U:List Spot}{nx:Spot->List Spot}{bs:List Bf}(w:gB st U nx bs [])(s:Spot):s∈bZ bs↔Rc (·∈st) (λs t=>t∈nx s) s:=
 ⟨w.tr.rc s,λr=>by
  induction r with
  |base h=>exact w.st _ h
  |step _ h ih=>exact w.ex _ ih (λq=>nomatch q) _ h⟩
end Mr
namespace Mr
open PySem Mi
open Vp
theorem DU{A:List Ar}{x y:Str}(h:fX A x y):Up (ar A) x y:=by
 induction h with
 |refl=>exact .refl _
 |step _ a ih=>exact ih.trans (.step a (.refl _))
theorem Fb{A:List Ar}{x y:Str}(h:Up (ar A) x y):fX A x y:=by
 have key:∀{a b:Str},Up (ar A) a b->∀{z:Str},fX A z a->fX A z b:=λ{a b} h=>by
  induction h with
  |refl=>exactλk=>k
  |step a _ ih=>exactλk=>ih (.step k a)
 exact key h .refl
theorem Lk.aK{ac:List Str}{A:List Ar}(G:Lk ac A)(pos:1<=ac.length):iN ac A:=by obtain⟨r,h⟩:=G.rk;exact⟨G.nd,pos,G.le,G.al,λp hp=>(G.inn p hp).1,r,h⟩
theorem pk{ac:List Str}{A:List Ar}(L:Lk ac A){ag:List Str}{x:Str}(hx:x∈ac):hb ac A ag x=true↔eM (ar A) (·∈ag) x:=by
 unfold hb eM kQ;rw[List.any_eq_true];constructor
 ·rintro⟨y,h1,h2⟩;exact⟨y,jI h2,DU (oY.mp (cC.mp h1).2)⟩
 ·rintro⟨y,h1,h2⟩;refine⟨y,cC.mpr ⟨?_,oY.mpr (Fb h2)⟩,bP h1⟩;have:∀{a b:Str},Up (ar A) a b->a∈ac->b∈ac:=λ{a b} h=>by
   induction h with
   |refl=>exact id
   |step a _ ih=>exactλ_=>ih (L.inn _ a).2
  exact this h2 hx
def kg(A:List Ar)(x:Str):List Spot:=(iC A x).map λy=>(y,true)
def jA(A:List Ar)(x:Str):List Spot:=(ig A x).map λy=>(y,false)
noncomputable def nxS (ac:List Str) (A:List Ar) (ag:List Str) (s:Spot):List Spot:=
 (if s.1∈ag then[]else kg A s.1)++(if(if s.2=true then hb ac A ag s.1 else !decide (s.1∈ag))=true then jA A s.1 else[])
def gi(A:List Ar)(x:Str):List Spot:=kg A x++jA A x
theorem zD{A:List Ar}{x:Str}(hl:A.length<=64):(iC A x).length<=64:=by unfold iC;rw[aO];exact cU (lh _ _) hl
theorem Lk.NX{ac:List Str}{ak:List Ar}(G:Lk ac ak)(x:Str):(iC ak x).Nodup:=by unfold iC;refine oE.mpr ((G.nda.filter _).imp_of_mem λ{p q} hp hq h z=>h ?_);have h1:=jI (cC.mp hp).2;have h2:=jI (cC.mp hq).2;exact sM (h1.trans h2.symm) z
theorem HK{ac:List Str}{A:List Ar}{x:Str}(hx:x∈ac)(hl:A.length<=64):mY [.d (am ac A),.d (.str x)]=.ok (.d (ca (kg A x))):=by
 unfold mY Fe;rw[jx];have hc:dv (.n 0) dc (mN dTup [(mV 0),(mC (.bl true))]) [ae] ((iC A x).map D.str)=.ok (((iC A x).filter λ_=>true).map λy=>aG (y,true)):=
  fe D.str (λy=>aG (y,true)) _ _ λy _=>⟨[ab (.d (.str y))],rfl,rfl,λ_=>fA rfl rfl⟩
 rw[mi.mpr (λ_ _=>rfl)]at hc;rw[c8 (bq (d5 (dG (call2 rfl rfl (DR hx hl)) rfl) (by rw[aO];have:=zD (x:=x) hl;omega) hc))];unfold ca kg;rw[dF];rfl
theorem Iq{ac:List Str}{A:List Ar}{x:Str}(hx:x∈ac)(hl:A.length<=64):mM [.d (am ac A),.d (.str x)]=.ok (.d (ca (jA A x))):=by
 unfold mM IZ;rw[jx];have hc:dv (.n 0) dc (mN dTup [(mV 0),(mC (.bl false))]) [ae] ((ig A x).map D.str)=.ok (((ig A x).filter λ_=>true).map λy=>aG (y,false)):=
  fe D.str (λy=>aG (y,false)) _ _ λy _=>⟨[ab (.d (.str y))],rfl,rfl,λ_=>fA rfl rfl⟩
 rw[mi.mpr (λ_ _=>rfl)]at hc;rw[c8 (bq (d5 (dG (call2 rfl rfl (QN hx hl)) rfl) (by rw[aO];have:=vM (x:=x) hl;omega) hc))];unfold ca jA;rw[dF];rfl
theorem B3{A:List Ar}{x:Str}(hl:A.length<=64):(kg A x).length<=64:=by unfold kg;rw[aO];exact zD hl
theorem zj{A:List Ar}{x:Str}(hl:A.length<=64):(jA A x).length<=64:=by unfold jA;rw[aO];exact vM hl
theorem uo{c:C}{a b:E}{e:Mi.Env}{k:Bool}{x y:D}(hc:c e=.ok k)(ha:k=true->a e=.ok x)(hb:k=false->b e=.ok y):jN c a b e=.ok (if k=true then x else y):=by
 unfold jN;rw[hc,aH];cases k with
 |true=>exact ha rfl
 |false=>exact hb rfl
theorem PB{ac:List Str}{A:List Ar}(N:iN ac A)(hd:∀p∈A,p.2∈ac)(ag:List Str){s:Spot}(hs:s.1∈ac):rN [.d (am ac A),.d (aG s),.d (af ag)]=.ok (.d (ca (nxS ac A ag s))):=by
 obtain⟨x,b⟩:=s;have hs:x∈ac:=hs;have hl:=N.al;unfold rN GX;rw[rh];obtain⟨g,hg⟩ : ∃g,g=(if b=true then hb ac A ag x else !decide (x∈ag)):=⟨_,rfl⟩;rw[show([ab (W.d (am ac A)),ab (W.d (aG (x,b))),ab (W.d (af ag))]++cK (9-3) ae)=[ab (W.d (am ac A)),ab (W.d (aG (x,b))),ab (W.d (af ag)),ae,ae,ae,ae,ae,ae]from rfl];rw[aN (e':=[ab (W.d (am ac A)),ab (W.d (aG (x,b))),ab (W.d (af ag)),ab (W.d (.str x)),ab (W.d (.bl b)),ae,ae,ae,ae]) rfl];rw[aN (e':=[ab (W.d (am ac A)),ab (W.d (aG (x,b))),ab (W.d (af ag)),ab (W.d (.str x)),ab (W.d (.bl b)),ab (W.d (.bl (!decide (x∈ag)))),ae,ae,ae]) (bL (aC rfl rfl (j5 _ _)))];have e6:jN (dQ (mV 4)) (aL m4 [(wD (mV 0)),(wD (mV 3)),(wD (mV 2))]) (mV 5) [ab (W.d (am ac A)),ab (W.d (aG (x,b))),ab (W.d (af ag)),ab (W.d (.str x)),ab (W.d (.bl b)),ab (W.d (.bl (!decide (x∈ag)))),ae,ae,ae]=.ok (.bl g):=by rw[uo (k:=b) (x:=.bl (hb ac A ag x)) (y:=.bl (!decide (x∈ag))) rfl (λ_=>iG rfl rfl rfl (Fl N hd hs ag)) (λ_=>rfl),hg];cases b<;>rfl
 rw[aN (e':=[ab (W.d (am ac A)),ab (W.d (aG (x,b))),ab (W.d (af ag)),ab (W.d (.str x)),ab (W.d (.bl b)),ab (W.d (.bl (!decide (x∈ag)))),ab (W.d (.bl g)),ae,ae]) (bL e6)];obtain⟨dn,hdn⟩ : ∃dn,dn=(if x∈ag then[]else kg A x):=⟨_,rfl⟩;obtain⟨up,hup⟩ : ∃up,up=(if g=true then jA A x else[]):=⟨_,rfl⟩;have ld:dn.length<=64:=by
  rw[hdn];split
  ·exact g9 _
  ·exact B3 hl
 have lu:up.length<=64:=by
  rw[hup];split
  ·exact zj hl
  ·exact g9 _
 have e7:jN (dQ (mV 5)) (aL mY [(wD (mV 0)),(wD (mV 3))]) (mN bx []) [ab (W.d (am ac A)),ab (W.d (aG (x,b))),ab (W.d (af ag)),ab (W.d (.str x)),ab (W.d (.bl b)),ab (W.d (.bl (!decide (x∈ag)))),ab (W.d (.bl g)),ae,ae]=.ok (ca dn):=by
  rw[uo (k:=!decide (x∈ag)) (x:=ca (kg A x)) (y:=.lst []) rfl (λ_=>call2 rfl rfl (HK hs hl)) (λ_=>jO _),hdn];by_cases h:x∈ag
  ·rw[bP h,bc h];rfl
  ·rw[cD h,a8 h];rfl
 rw[aN (e':=[ab (W.d (am ac A)),ab (W.d (aG (x,b))),ab (W.d (af ag)),ab (W.d (.str x)),ab (W.d (.bl b)),ab (W.d (.bl (!decide (x∈ag)))),ab (W.d (.bl g)),ab (W.d (ca dn)),ae]) (bL e7)];have e8:jN (dQ (mV 6)) (aL mM [(wD (mV 0)),(wD (mV 3))]) (mN bx []) [ab (W.d (am ac A)),ab (W.d (aG (x,b))),ab (W.d (af ag)),ab (W.d (.str x)),ab (W.d (.bl b)),ab (W.d (.bl (!decide (x∈ag)))),ab (W.d (.bl g)),ab (W.d (ca dn)),ae]=.ok (ca up):=by rw[uo (k:=g) (x:=ca (jA A x)) (y:=.lst []) rfl (λ_=>call2 rfl rfl (Iq hs hl)) (λ_=>jO _),hup];cases g<;>rfl
 rw[aN (e':=[ab (W.d (am ac A)),ab (W.d (aG (x,b))),ab (W.d (af ag)),ab (W.d (.str x)),ab (W.d (.bl b)),ab (W.d (.bl (!decide (x∈ag)))),ab (W.d (.bl g)),ab (W.d (ca dn)),ab (W.d (ca up))]) (bL e8)];have e9:m2 ba (mV 7) (mV 8) [ab (W.d (am ac A)),ab (W.d (aG (x,b))),ab (W.d (af ag)),ab (W.d (.str x)),ab (W.d (.bl b)),ab (W.d (.bl (!decide (x∈ag)))),ab (W.d (.bl g)),ab (W.d (ca dn)),ab (W.d (ca up))]=.ok (ca (dn++up)):=by refine(aC (x:=ca dn) (y:=ca up) rfl rfl (oD _ _)).trans ?_;rw[aX (by rw[aO,aO];omega)];unfold ca;rw[fv]
 rw[c8 (bq e9)];rw[hdn,hup,hg];rfl
def kh(ac:List Str):List Spot:=ac.map (λx=>(x,true))++ac.map λx=>(x,false)
theorem rC{ac:List Str}{s:Spot}:s∈kh ac↔s.1∈ac:=by
 unfold kh;rw[bT,ce,ce];obtain⟨x,b⟩:=s;constructor
 ·rintro(⟨y,h,e⟩|⟨y,h,e⟩)<;>cases e<;>exact h
 ·intro h;cases b
  ·exact .inr ⟨x,h,rfl⟩
  ·exact .inl ⟨x,h,rfl⟩
theorem qQ{A:List Ar}{x:Str}{t:Spot}:t∈kg A x↔(x,t.1)∈A/\t.2=true:=by
 unfold kg;rw[ce];constructor
 ·rintro⟨y,h,rfl⟩;exact⟨Fz.mp h,rfl⟩
 ·rintro⟨h,e⟩;exact⟨t.1,Fz.mpr h,sM rfl e.symm⟩
theorem vR{A:List Ar}{x:Str}{t:Spot}:t∈jA A x↔(t.1,x)∈A/\t.2=false:=by
 unfold jA;rw[ce];constructor
 ·rintro⟨y,h,rfl⟩;exact⟨vW.mp h,rfl⟩
 ·rintro⟨h,e⟩;exact⟨t.1,vW.mpr h,sM rfl e.symm⟩
theorem oV{ac:List Str}{A:List Ar}(L:Lk ac A){ag:List Str}{s t:Spot}(hs:s.1∈ac):t∈nxS ac A ag s↔mS (ar A) (·∈ag) s t:=by
 unfold nxS mS Fj ED Goes;rw[bT];refine or_congr ?_ ?_
 ·by_cases h:s.1∈ag
  ·rw[bc h];exact⟨λz=>(by cases z),λz=>absurd h z.1⟩
  ·rw[a8 h,qQ];exact⟨λz=>⟨h,z.1,z.2⟩,λz=>z.2⟩
 ·cases hb2:s.2 with
  |true=>
   rw[bc rfl];by_cases h:hb ac A ag s.1=true
   ·rw[bc h,vR];exact⟨λz=>⟨.inl ⟨rfl,(pk L hs).mp h⟩,z.1,z.2⟩,λz=>z.2⟩
   ·rw[a8 h];refine⟨λz=>(by cases z),λz=>?_⟩;rcases z.1 with q|q
    ·exact absurd ((pk L hs).mpr q.2) h
    ·cases q.1
  |false=>
   rw[a8 cZ];by_cases h:s.1∈ag
   ·rw[bP h,a8 (by decide)];refine⟨λz=>(by cases z),λz=>?_⟩;rcases z.1 with q|q
    ·cases q.1
    ·exact absurd h q.2
   ·rw[cD h,bc (by decide),vR];exact⟨λz=>⟨.inr ⟨rfl,h⟩,z.1,z.2⟩,λz=>z.2⟩
theorem qC{A:List Ar}{x:Str}{t:Spot}:t∈gi A x↔wp (ar A) x t:=by unfold gi wp;rw[bT,qQ,vR];rfl
theorem Ly{ac:List Str}{A:List Ar}(L:Lk ac A)(x:Str):(gi A x).Nodup:=by
 unfold gi;refine et.mpr ⟨?_,?_,λa ha b hb e=>?_⟩
 ·exact oE.mpr ((L.NX x).imp λh e=>h (congrArg yD e))
 ·exact oE.mpr ((L.GK x).imp λh e=>h (congrArg yD e))
 ·have h1:=(qQ.mp ha).2;have h2:=(vR.mp hb).2;rw[e,h2]at h1;cases h1
theorem Fp:∀bs:List Bf,kj ((bs.map cR).map (·.2))=true
 |[]=>rfl
 |(s,o)::r=>by
  rw[cP,cP,kj,Fp r];cases o<;>rfl
theorem IB{ac:List Str}{A:List Ar}(L:Lk ac A){i:Str}(hi:i∈ac)(ag:List Str) :
 ∃bs,lf [.d (am ac A),.d (.str i),.d (af ag)]=.ok (jv bs)/\gB (gi A i) (kh ac) (nxS ac A ag) bs []:=by
 have N:=L.aK (sy hi);have hd:∀p∈A,p.2∈ac:=λp hp=>(L.inn p hp).2;have hl:=L.al;have n8:=L.le;obtain⟨bs,hw,w⟩:=Qt (κ:=⟨0,0, "", []⟩) (f:=v5) (aM:=[am ac A,af ag]) (st:=gi A i) (U:=kh ac) (nx:=nxS ac A ag) (Ly L i) (λs hs=>by
  rw[rC];rcases qC.mp hs with h|h
  ·exact(L.inn _ h.1).2
  ·exact(L.inn _ h.1).1) (by unfold kh;rw[bU,aO,aO];omega) (λs hs t ht=>by
  rw[rC]at hs ⊢;rcases(oV L hs).mp ht with h|h
  ·exact(L.inn _ h.2.1).2
  ·exact(L.inn _ h.2.1).1) (λs hs=>by
  unfold nxS;rw[bU];have h1:(if s.1∈ag then[]else kg A s.1).length<=64:=by
   split
   ·exact g9 _
   ·exact B3 hl
  have h2:(if(if s.2=true then hb ac A ag s.1 else !decide (s.1∈ag))=true then jA A s.1 else[]).length<=64:=by
   generalize (if s.2=true then hb ac A ag s.1 else !decide (s.1∈ag))=g;cases g
   ·exact g9 _
   ·exact zj hl
  omega) (λs hs=>by
  rw[rC]at hs;show Rs.bind (aL rN [(wD (mV 1)),(wD (mV 0)),(wD (mV 2))] [ab (.d (aG s)),ab (.d (am ac A)),ab (.d (af ag))]) _=_;rw[iG rfl rfl rfl (PB N hd ag hs)];rfl)
 refine⟨bs,?_,w⟩;unfold lf Jh;rw[rf];rw[show([ab (W.d (am ac A)),ab (W.d (.str i)),ab (W.d (af ag))]++cK (4-3) ae)=[ab (W.d (am ac A)),ab (W.d (.str i)),ab (W.d (af ag)),ae]from rfl];have e3:m2 ba (aL mY [(wD (mV 0)),(wD (mV 1))]) (aL mM [(wD (mV 0)),(wD (mV 1))]) [ab (W.d (am ac A)),ab (W.d (.str i)),ab (W.d (af ag)),ae]=.ok (ca (gi A i)):=by refine(aC (x:=ca (kg A i)) (y:=ca (jA A i)) (call2 rfl rfl (HK hi hl)) (call2 rfl rfl (Iq hi hl)) (oD _ _)).trans ?_;have:=B3 (x:=i) hl;have:=zj (x:=i) hl;rw[aX (by rw[aO,aO];omega)];unfold ca gi;rw[fv]
 rw[aN (e':=[ab (W.d (am ac A)),ab (W.d (.str i)),ab (W.d (af ag)),ab (W.d (ca (gi A i)))]) (bL e3)];have e4:yN uY [0,2] (mV 3) [ab (W.d (am ac A)),ab (W.d (.str i)),ab (W.d (af ag)),ab (W.d (ca (gi A i)))]=.ok (jv bs):=by show Rs.bind (uY (ca (gi A i)) [am ac A,af ag]) GL=_;rw[show uY (ca (gi A i)) [am ac A,af ag]=.ok (jv bs)from hw];show(if kj ((bs.map cR).map (·.2))=true then Rs.ok (W.dt (bs.map cR))else .no)=_;rw[bc (Fp bs)]
 rw[c8 e4];rfl
theorem _root_.Vp.Rc.congr{α:Type}{st st':α×Bool->Prop}{nx nx':α×Bool->α×Bool->Prop}{P:α×Bool->Prop}(hs:∀t,st t->st' t)(hp:∀t,st t->P t)(hn:∀s t,P s->nx s t->nx' s t/\P t){s:α×Bool}(r:Rc st nx s):Rc st' nx' s/\P s:=by
 induction r with
 |base h=>exact⟨.base (hs _ h),hp _ h⟩
 |step _ h ih=>exact⟨.step ih.1 (hn _ _ ih.2 h).1,(hn _ _ ih.2 h).2⟩
theorem xl{ac:List Str}{A:List Ar}(L:Lk ac A){i:Str}(hi:i∈ac){ag:List Str}{bs:List Bf}(w:gB (gi A i) (kh ac) (nxS ac A ag) bs [])(s:Spot):s∈bZ bs↔Vp.Wk (ar A) (·∈ag) i s:=by
 rw[w.iff];have i1:∀t,wp (ar A) i t->t.1∈ac:=λt h=>by
  rcases h with h|h
  ·exact(L.inn _ h.1).2
  ·exact(L.inn _ h.1).1
 have i2:∀s t,mS (ar A) (·∈ag) s t->t.1∈ac:=λs t h=>by
  rcases h with h|h
  ·exact(L.inn _ h.2.1).2
  ·exact(L.inn _ h.2.1).1
 constructor
 ·intro r;exact(r.congr (P:=λt=>t.1∈ac) (λt h=>qC.mp h) (λt h=>i1 t (qC.mp h)) λs t hs h=>⟨(oV L hs).mp h,i2 s t ((oV L hs).mp h)⟩).1
 ·intro r;exact(r.congr (P:=λt=>t.1∈ac) (λt h=>qC.mpr h) i1 λs t hs h=>⟨(oV L hs).mpr h,i2 s t h⟩).1
def gm(bs:List Bf)(j:Str):List Spot:=(bZ bs).filter λs=>decide (s.1=j)
theorem HU(bs:List Bf)(hl:bs.length<=1000)(j:Str):n9 [.d (.str j),.df (bs.map cR)]=.ok (.d (ca (gm bs j))):=by
 unfold n9 EB;rw[jx];have hc:dv (.n 1) (cB (m2 cy (m2 az (mV 1) (mC (.int 0))) (mV 0))) (mV 1) [ab (.d (.str j)),ae] ((bZ bs).map aG)=.ok (((bZ bs).filter λs=>decide (s.1=j)).map aG):=
  fe aG aG _ _ λs _=>⟨[ab (.d (.str j)),ab (.d (aG s))],rfl,bO (aC (x:=.str s.1) (aC (x:=aG s) rfl rfl (by show c6 (dM [D.str s.1,D.bl s.2] 0)=_;rw[at0];rfl)) rfl (ny _ _)),λ_=>rfl⟩
 have it:qT 1 [ab (W.d (.str j)),ab (W.df (bs.map cR))]=.ok ((bZ bs).map aG):=by show Rs.ok ((bs.map cR).map λkv=>D.tup (kv.1.map wX))=_;unfold bZ;rw[dF,dF];rfl
 rw[show([ab (W.d (.str j)),ab (W.df (bs.map cR))]++cK (2-2) ae)=[ab (W.d (.str j)),ab (W.df (bs.map cR))]from rfl];rw[c8 (bq (d5 (e:=[ab (W.d (.str j)),ab (W.df (bs.map cR))]) it (by rw[aO,kys_len];omega) hc))];rfl
theorem vf{ac asked:List Str}(h:∀x∈asked,x∈ac)(nd:asked.Nodup)(hl:asked.length<=1000):kz [.d (a7 ac),.d (af asked)]=.ok (.d .non):=by unfold kz Gw;rw[ss];rw[aN (e':=[ab (.d (a7 ac)),ab (.d (af asked))]) (by unfold ej;rw[call2 rfl rfl (pf h)];rfl)];show Rs.bind (ej _ _) _=_;unfold ej;rw[IR rfl (Nq nd hl)];rfl
theorem Sn{ac:List Str}{A:List Ar}(L:Lk ac A){i j:Str}(hi:i∈ac)(hj:j∈ac)(ij:i≠j){ag:List Str}(hs:∀x∈ag,x∈ac)(nd:ag.Nodup)(ni:i∉ag)(nj:j∉ag) :
 ph [.d (am ac A),.d (.str i),.d (.str j),.d (af ag)]=.ok (.d (.bl (!iY A i j ag))):=by
 have ndS:([i,j]++ag).Nodup:=by
  refine et.mpr ⟨by simp[ij],nd,λa ha b hb e=>?_⟩;subst e;rcases bB.mp ha with rfl|z
  ·exact ni hb
  ·rw[bQ.mp z]at hb;exact nj hb
 have n8:=L.le;have hl8:ag.length<=8:=cU (dJ nd hs) n8;obtain⟨bs,hbf,w⟩:=IB L hi ag;have bl:bs.length<=16:=by have:=w.len;unfold kh at this;rw[bU,aO,aO]at this;omega
 unfold ph IP;rw[t8];rw[show([ab (W.d (am ac A)),ab (W.d (.str i)),ab (W.d (.str j)),ab (W.d (af ag))]++cK (4-4) ae)=[ab (W.d (am ac A)),ab (W.d (.str i)),ab (W.d (.str j)),ab (W.d (af ag))]from rfl];have l2:m2 ba (mN bx [(mV 1),(mV 2)]) (mN eP [(mV 3)]) [ab (W.d (am ac A)),ab (W.d (.str i)),ab (W.d (.str j)),ab (W.d (af ag))]=.ok (af ([i,j]++ag)):=by refine(aC (x:=af [i,j]) (y:=af ag) (jS rfl rfl) ((eJ (x:=af ag) rfl).trans rfl) (oD _ _)).trans ?_;rw[aX (by rw[aO,aO];simp only[cx,f7];omega)];rfl
 have asks:=vf (ac:=ac) (asked:=[i,j]++ag) (λx hx=>by
  rcases bT.mp hx with z|z
  ·rcases bB.mp z with rfl|z
   ·exact hi
   ·rw[bQ.mp z];exact hj
  ·exact hs x z) ndS (by simp only[bU,cx,f7];omega)
 rw[aN (e':=[ab (W.d (am ac A)),ab (W.d (.str i)),ab (W.d (.str j)),ab (W.d (af ag))]) (by unfold ej;rw[call2 (bq (aC rfl rfl (fY ac A))) (bq l2) asks];rfl)];have fz:rY (ie lf [(wD (mV 0)),(wD (mV 1)),(wD (mV 3))]) [ab (W.d (am ac A)),ab (W.d (.str i)),ab (W.d (.str j)),ab (W.d (af ag))]=.ok (.df (bs.map cR)):=by show Rs.bind (lf [.d (am ac A),.d (.str i),.d (af ag)]) Am=_;rw[hbf];rfl
 have sp:=call2 (f:=n9) (a:=wD (mV 2)) (e:=[ab (W.d (am ac A)),ab (W.d (.str i)),ab (W.d (.str j)),ab (W.d (af ag))]) (x:=.d (.str j)) rfl fz (HU bs (by omega) j);have fin:(!(gm bs j).isEmpty)=iY A i j ag:=by
  rw[jZ,rH,<- zQ (A:=ar A) (S:=(·∈ag)) ij ni nj];constructor
  ·intro h;cases ho:gm bs j with
   |nil=>rw[ho]at h;cases h
   |cons s r=>
    have hm:s∈gm bs j:=by rw[ho];exact cJ
    obtain⟨h1,h2⟩:=cC.mp hm;have h2:s.1=j:=jI h2;refine⟨s.2,?_⟩;rw[<- h2];exact(xl L hi w s).mp h1
  ·rintro⟨b,h⟩;have hm:(j,b)∈gm bs j:=cC.mpr ⟨(xl L hi w _).mpr h,bP rfl⟩;cases ho:gm bs j with
   |nil=>rw[ho]at hm;cases hm
   |cons s r=>rfl
 have nt:v6 (aL n9 [(wD (mV 2)),(rY (ie lf [(wD (mV 0)),(wD (mV 1)),(wD (mV 3))]))]) [ab (W.d (am ac A)),ab (W.d (.str i)),ab (W.d (.str j)),ab (W.d (af ag))]=.ok (.bl (!iY A i j ag)):=by unfold v6 dQ;rw[sp,aH,show Hg (ca (gm bs j))=.ok (!((gm bs j).map aG).isEmpty)from rfl,aH];rw[<- fin];cases gm bs j<;>rfl
 rw[c8 (bq nt)];rfl
end Mr
namespace Mr
open PySem Mi
open Vp
theorem ahead{α:Type}{l1 l2 pre post:List α}{c:α}(h:(l1++c::l2).Sublist (pre++c::post))(nd:(pre++c::post).Nodup):∀y∈l1,y∈pre:=λy hy=>by
 have h2:[y,c].Sublist (pre++c::post):=by refine List.Sublist.trans ?_ h;exact(List.singleton_sublist.mpr hy).append ((List.nil_sublist _).cons_cons c)
 obtain⟨n1,n2,n3⟩:=et.mp nd;obtain⟨nc,_⟩:=iU.mp n2;obtain⟨a,b,e,s1,s2⟩:=List.sublist_append_iff.mp h2;cases a with
 |nil=>
  rw[mj]at e;rw[<- e]at s2;cases s2 with
  |cons _ s2=>exact absurd (s2.mem (by simp)) nc
  |cons_cons _ s2=>exact absurd (s2.mem (by simp)) nc
 |cons x r=>
  rw[qk]at e;injection e with e1 _;rw[e1];exact s1.mem cJ
structure mR(st:List Spot)(nx:Spot->List Spot)(bs:List Bf)(l:List Spot):Prop where
 hd:∃x r,l=x::r/\x∈st/\(x,ae)∈bs
 sub:l.Sublist (bZ bs)
 step:∀(k:Nat) (u v:Spot),l[k]? = ab u->l[k+1]? = ab v->v∈nx u/\v∉st/\(v,ab u)∈bs/\∃pre post,bZ bs=pre++u::post/\∀t∈pre,v∉nx t
theorem mR.more{st:List Spot}{nx:Spot->List Spot}{bs:List Bf}{l:List Spot}(p:mR st nx bs l)(b:Bf):mR st nx (bs++[b]) l:=by obtain⟨x,r,e,h1,h2⟩:=p.hd;refine⟨⟨x,r,e,h1,eo _ h2⟩,by rw[lE];exact p.sub.trans (List.sublist_append_left _ _),λk u v hu hv=>?_⟩;obtain⟨s1,s2,s3,pre,post,e2,s4⟩:=p.step k u v hu hv;exact⟨s1,s2,eo _ s3,pre,post++[b.1],by rw[lE,e2,jV];rfl,s4⟩
theorem jH.N4{st:List Spot}{nx:Spot->List Spot}{bs:List Bf}(h:jH st nx bs):∀s∈bZ bs,∃l,mR st nx bs (l++[s]):=by
 induction h with
 |nil=>exactλs h=>nomatch h
 | @«from» bs s _ hs ih=>
  intro t ht;rw[lE]at ht;rcases bT.mp ht with z|z
  ·obtain⟨l,p⟩:=ih t z;exact⟨l,p.more _⟩
  ·rw[bQ.mp z];refine⟨[],⟨s,[],rfl,hs,dE _ (bQ.mpr rfl)⟩,by rw[lE];exact List.sublist_append_right _ _,λk u v hu hv=>?_⟩;have:=(cv.mp hv).1;simp at this
 | @on bs s h pre post tr e hp hn hs ih=>
  intro t ht;rw[lE]at ht;rcases bT.mp ht with z|z
  ·obtain⟨l,p⟩:=ih t z;exact⟨l,p.more _⟩
  ·rw[bQ.mp z];obtain⟨l,p⟩:=ih h (by rw[e];exact dE _ cJ);have pm:=p.more (s,ab h);obtain⟨x,r,e0,h1,h2⟩:=pm.hd;refine⟨l++[h],⟨x,r++[s],by rw[e0];rfl,h1,h2⟩,by rw[lE];exact p.sub.append (List.Sublist.refl _),λk u v hu hv=>?_⟩;have kl:=(cv.mp hv).1;rw[bU,ft]at kl;by_cases hk:k+1<(l++[h]).length
   ·rw[mf (by omega)]at hu;rw[mf hk]at hv;exact pm.step k u v hu hv
   ·have ek:k+1=(l++[h]).length:=by omega
    rw[mf (by omega)]at hu;rw[kG (by omega),ek,oN]at hv;have ev:s=v:=by simpa using hv
    have eu:h=u:=by
     have:k=l.length:=by rw[bU,ft]at ek;omega
     rw[this,kG (bK _),oN]at hu;simpa using hu
    subst ev eu;exact⟨hs,hn,dE _ (bQ.mpr rfl),pre,post++[s],by rw[lE,e,jV];rfl,hp⟩
section
variable{ac:List Str}{A:List Ar}(L:Lk ac A){ag:List Str}{i j:Str}{b:Bool}{bs:List Bf}(w:gB (gi A i) (kh ac) (nxS ac A ag) bs [])
theorem FT(nxt:Spot->Spot->Prop)(hn:∀s t,nxt s t->mS (ar A) (·∈ag) s t)(x:Str):∀(l:List Spot) (z:Str),Up (ar A) x z->(∀(k:Nat) (u v:Spot),((z,true)::l)[k]? = ab u->((z,true)::l)[k+1]? = ab v->nxt u v)->(∃y,(y,false)∈l)->eM (ar A) (·∈ag) x
 |[],z,_,_,h=>by obtain⟨y,h⟩:=h;cases h
 |(y,c)::l,z,up,st,h=>by
  have s0:=hn _ _ (st 0 (z,true) (y,c) rfl rfl);cases c with
  |false=>
   rcases s0 with ⟨_,_,e⟩|⟨g,_,_⟩
   ·cases e
   ·rcases g with ⟨_,t,ht,u⟩|⟨e,_⟩
    ·exact⟨t,ht,up.trans u⟩
    ·cases e
  |true=>
   rcases s0 with ⟨_,a,_⟩|⟨_,_,e⟩
   ·refine FT nxt hn x l y (up.trans (.step a (.refl _))) (λk u v hu hv=>st (k+1) u v hu hv) ?_;obtain⟨q,hq⟩:=h;rcases bB.mp hq with z|z
    ·cases z
    ·exact⟨q,z⟩
   ·cases e
include L w in
theorem MB(hi:i∈ac)(ij:i≠j)(first:∀pre post,bZ bs=pre++(j,b)::post->∀s∈pre,s.1≠j){l:List Spot}(p:mR (gi A i) (nxS ac A ag) bs (l++[(j,b)])):(i::(l++[(j,b)]).map (·.1)).Nodup:=by
 obtain⟨m,hm⟩ : ∃m,m=l++[(j,b)]:=⟨_,rfl⟩;rw[<- hm]at p ⊢;have mn:∀s∈m,s.1∈ac:=λs hs=>rC.mp (w.u s (p.sub.mem hs));have nxt:∀(k:Nat) (u v:Spot),m[k]? = ab u->m[k+1]? = ab v->mS (ar A) (·∈ag) u v:=λk u v hu hv=>(oV L (mn u (eS hu))).mp (p.step k u v hu hv).1;have mnd:m.Nodup:=p.sub.nodup w.nd;have lst:∀(q:Nat) (s:Spot),m[q]? = ab s->s.1≠j\/q+1=m.length->q+1=m.length\/∃t,m[q+1]? = ab t:=λq s hs h=>by
  have:=(cv.mp hs).1;by_cases e:q+1=m.length
  ·exact .inl e
  ·exact .inr ⟨m[q+1]'(by omega),en _⟩
 have last:∀(q:Nat) (s:Spot),m[q]? = ab s->q+1=m.length->s=(j,b):=λq s hs e=>by
  rw[hm]at hs e;rw[bU,ft]at e;rw[kG (by omega),show q-l.length=0 by omega]at hs;simpa using hs.symm
 refine iU.mpr ⟨λh=>?_,?_⟩
 ·-- the first name does not come again
  obtain⟨s,hs,e⟩:=ce.mp h;obtain⟨q,hq⟩:=li hs;rcases lst q s hq (.inl (by rw[e];exact ij))with z|⟨t,ht⟩
  ·rw[last q s hq z]at e;exact ij e.symm
  ·have st:=p.step q s t hq ht;refine st.2.1 (qC.mpr ?_);rcases nxt q s t hq ht with ⟨_,a,c⟩|⟨_,a,c⟩
   ·exact .inl ⟨by rw[<- e];exact a,c⟩
   ·exact .inr ⟨by rw[<- e];exact a,c⟩
 ·refine oE.mpr (List.pairwise_iff_getElem.mpr λx y hx hy xy e=>?_);obtain⟨u,hu⟩ : ∃u,u=m[x]:=⟨_,rfl⟩;obtain⟨v,hv⟩ : ∃v,v=m[y]:=⟨_,rfl⟩;rw[<- hu,<- hv]at e;have gu:m[x]? = ab u:=by rw[en hx,hu]
  have gv:m[y]? = ab v:=by rw[en hy,hv]
  have uv:u≠v:=λz=>by rw[hu,hv]at z;have:=(qj mnd).mp z;omega
  have split:m=m.take y++v::m.drop (y+1):=by rw[hv,<- sx hy,List.take_append_drop]
  have um:u∈m.take y:=by rw[hu];exact List.mem_take_iff_getElem.mpr ⟨x,by omega,rfl⟩
  by_cases ly:y+1=m.length
  ·-- the last name
   have ev:=last y v gv ly;obtain⟨pre,post,ek⟩:=List.append_of_mem (p.sub.mem (eS gv));have su:=p.sub;rw[split,ek]at su;have:=ahead su (by rw[<- ek];exact w.nd) u um;rw[ev]at ek;exact first pre post ek u this (by rw[e,ev])
  ·obtain⟨t,ht⟩ : ∃t,m[y+1]? = ab t:=⟨m[y+1]'(by omega),en _⟩;obtain⟨h1,_,_,pre,post,ek,fp⟩:=p.step y v t gv ht;have su:=p.sub;rw[split,ek]at su;have up:=ahead su (by rw[<- ek];exact w.nd) u um;refine fp u up ((oV L (mn u (eS gu))).mpr ?_);have nu:mS (ar A) (·∈ag) u m[x+1]:=nxt x u _ gu (en (by omega));obtain⟨xn,ub⟩:=u;obtain⟨xn',vb⟩:=v;have e:xn=xn':=e;subst e;rcases nxt y _ t gv ht with ⟨ns,a,c⟩|⟨g,a,c⟩
   ·exact .inl ⟨ns,a,c⟩
   ·refine .inr ⟨?_,a,c⟩;cases vb with
    |true=>
     cases ub with
     |true=>exact absurd rfl uv
     |false=>
      rcases nu with ⟨ns,_⟩|⟨gu',_⟩
      ·exact .inr ⟨rfl,ns⟩
      ·exact gu'
    |false=>
     cases ub with
     |false=>exact absurd rfl uv
     |true=>
      refine .inl ⟨rfl,FT (A:=A) (ag:=ag) (λs t=>mS (ar A) (·∈ag) s t) (λ_ _ h=>h) xn (m.drop (x+1)) xn (.refl _) (λk s t' hs ht'=>?_) ⟨xn,?_⟩⟩
      ·have ed:(xn,true)::m.drop (x+1)=m.drop x:=by rw[sx hx,<- hu]
       rw[ed,vo]at hs ht';exact nxt (x+k) s t' hs (by rw[<- Nat.add_assoc]at ht';exact ht')
      ·refine Cd.mpr ⟨y-(x+1),?_⟩;rw[vo,show x+1+(y-(x+1))=y by omega];exact gv
end
end Mr
namespace Mr
open PySem Mi
open Vp
def nA(i:Str)(m:List Spot):Nat->Str
 |0=>i
 |q+1=>((m[q]?).map (·.1)).getD i
section
variable{ac:List Str}{A:List Ar}(L:Lk ac A){ag:List Str}{i j:Str}{bs:List Bf}(w:gB (gi A i) (kh ac) (nxS ac A ag) bs []){m:List Spot}(p:mR (gi A i) (nxS ac A ag) bs m)
include L in
theorem Lk.AV{x y:Str}(h:(x,y)∈A)(k:(y,x)∈A):False:=by obtain⟨r,hr⟩:=L.rk;have h1:=hr _ h;have h2:=hr _ k;simp only at h1 h2;omega
include L w p in
theorem AX(k:Nat)(u v:Spot)(hu:m[k]? = ab u)(hv:m[k+1]? = ab v):mS (ar A) (·∈ag) u v:=(oV L (rC.mp (w.u u (p.sub.mem (eS hu))))).mp (p.step k u v hu hv).1
include L w p in
theorem zp(q:Nat)(u:Spot)(hu:m[q]? = ab u):((nA i m q,u.1)∈A/\u.2=true)\/((u.1,nA i m q)∈A/\u.2=false):=by
 cases q with
 |zero=>
  obtain⟨x,r,e,hx,_⟩:=p.hd;rw[e]at hu;have:x=u:=by simpa using hu
  subst this;rcases qC.mp hx with ⟨a,c⟩|⟨a,c⟩
  ·exact .inl ⟨a,c⟩
  ·exact .inr ⟨a,c⟩
 |succ q=>
  have ql:=(cv.mp hu).1;obtain⟨t,ht⟩ : ∃t,m[q]? = ab t:=⟨m[q]'(by omega),en _⟩;have e:nA i m (q+1)=t.1:=by show((m[q]?).map (·.1)).getD i=_;rw[ht];rfl
  rw[e];rcases AX L w p q t u ht hu with ⟨_,a,c⟩|⟨_,a,c⟩
  ·exact .inl ⟨a,c⟩
  ·exact .inr ⟨a,c⟩
include L w p in
theorem Mh(q:Nat)(u:Spot)(hu:m[q]? = ab u):tie A (nA i m q) u.1=true:=by
 rw[sn];rcases zp L w p q u hu with h|h
 ·exact .inl h.1
 ·exact .inr h.1
include L w p in
theorem N7(q:Nat)(u v:Spot)(hu:m[q]? = ab u)(hv:m[q+1]? = ab v)(h1:(nA i m q,u.1)∈A)(h2:(v.1,u.1)∈A):eM (ar A) (·∈ag) u.1:=by
 have fu:u.2=true:=by
  rcases zp L w p q u hu with h|h
  ·exact h.2
  ·exact(L.AV h1 h.1).elim
 rcases AX L w p q u v hu hv with ⟨_,a,_⟩|⟨g,_,_⟩
 ·exact(L.AV a h2).elim
 ·rcases g with g|g
  ·exact g.2
  ·rw[fu]at g;cases g.1
include L w p in
theorem LZ(q:Nat)(u v:Spot)(hu:m[q]? = ab u)(hv:m[q+1]? = ab v)(h:¬ ((nA i m q,u.1)∈A/\(v.1,u.1)∈A)):u.1∉ag:=by
 rcases AX L w p q u v hu hv with ⟨ns,_,_⟩|⟨g,a,_⟩
 ·exact ns
 ·rcases zp L w p q u hu with f|f
  ·exact absurd ⟨f.1,a⟩ h
  ·rcases g with g|g
   ·rw[f.2]at g;cases g.1
   ·exact g.2
end
theorem QT{bs:List Bf}(nd:(bZ bs).Nodup){j:Str}{s:Spot}{r:List Spot}(h:gm bs j=s::r):s.1=j/\s∈bZ bs/\∀pre post,bZ bs=pre++s::post->∀t∈pre,t.1≠j:=by
 have hm:s∈gm bs j:=by rw[h];exact cJ
 obtain⟨h1,h2⟩:=cC.mp hm;refine⟨jI h2,h1,λpre post e t ht tj=>?_⟩;unfold gm at h;rw[e,Ci]at h;have ht':t∈pre.filter λs=>decide (s.1=j):=cC.mpr ⟨ht,bP tj⟩;cases hf:pre.filter λs=>decide (s.1=j)with
 |nil=>rw[hf]at ht';cases ht'
 |cons a q=>
  rw[hf,qk]at h;injection h with ha _;have:a∈pre:=(cC.mp (by rw[hf];exact cJ)).1;rw[e]at nd;exact(et.mp nd).2.2 a this s cJ ha
theorem LC{ac:List Str}{A:List Ar}(L:Lk ac A){ag:List Str}{i j:Str}(hi:i∈ac)(ij:i≠j){bs:List Bf}(w:gB (gi A i) (kh ac) (nxS ac A ag) bs []){s:Spot}{r:List Spot}(h:gm bs j=s::r) :
 ∃l,mR (gi A i) (nxS ac A ag) bs (l++[s])/\s.1=j/\(i::(l++[s]).map (·.1)).Nodup:=by
 obtain⟨e,hk,hf⟩:=QT w.nd h;obtain⟨l,p⟩:=w.tr.N4 s hk;obtain⟨x,b⟩:=s;have e:x=j:=e;subst e;exact⟨l,p,rfl,MB L w hi ij hf p⟩
end Mr
namespace Vp
section
variable{α:Type}{A:α->α->Prop}{S:α->Prop}{i j:α}
theorem Met.sym{adj:α->α->Prop}(hs:∀u v,adj u v->adj v u)(ni:¬ S i){v:α}(m:Met adj S i v):Met adj S v i:=by
 have key:∀{u w:α},Met adj S u w->∀{x:α},adj x u->¬ S u->Met adj S x w:=λ{u w} m=>by
  induction m with
  |base=>exactλ{x} a ns=>.step .base a ns
  |step _ a s ih=>exactλ{x} b ns=>.step (ih b ns) a s
 have nv:∀{v:α},Met adj S i v->¬ S v:=λ{v} m=>by
  cases m with
  |base=>exact ni
  |step _ _ s=>exact s
 induction m with
 |base=>exact .base
 |step m a s ih=>exact key ih (hs _ _ a) (nv m)
theorem k8.sym(ni:¬ S i)(h:k8 A i j S):k8 A j i S:=by
 have e:Tg i j S=Tg j i S:=by funext x;unfold Tg;exact propext ⟨λh=>by rcases h with h|h|h;exact .inr (.inl h);exact .inl h;exact .inr (.inr h),λh=>by rcases h with h|h|h;exact .inr (.inl h);exact .inl h;exact .inr (.inr h)⟩
 unfold k8 at h ⊢;rw[e]at h;exact h.sym (λu v ⟨n,hn,f1,f2⟩=>⟨n,hn,f2,f1⟩) ni
end
end Vp
namespace Mr
open PySem Mi
open Vp
theorem N2{A:List Ar}{i j:Str}{ag:List Str}(ni:i∉ag)(nj:j∉ag):iY A i j ag=iY A j i ag:=by rw[jZ,rH,rH];exact⟨λh=>h.sym ni,λh=>h.sym nj⟩
end Mr
namespace Mr
open PySem Mi
open Vp
theorem Ta{a:E}{e:Mi.Env}{s:Spot}(h:a e=.ok (aG s)):m2 az a (mC (.int 0)) e=.ok (.str s.1):=aC h rfl (by show c6 (dM [D.str s.1,D.bl s.2] 0)=_;rw[at0];rfl)
theorem Pd{a:E}{e:Mi.Env}{b:Bool}(h:a e=.ok (.bl b)):dQ a e=.ok b:=by unfold dQ;rw[h];rfl
end Mr
namespace Mr
open PySem Mi
open Vp
open My (words fi fH)
end Mr
namespace Mr
open PySem Mi
open Vp
open My (words fi fH)
structure Ask(ac:List Str)(i j:Str)(ag:List Str):Prop where
 im:i∈ac
 jm:j∈ac
 ij:i≠j
 hs:∀x∈ag,x∈ac
 nd:ag.Nodup
 ni:i∉ag
 nj:j∉ag
end Mr
namespace Mr
open PySem Mi
open Vp
theorem RK{bs:List Bf}(nd:(bZ bs).Nodup){s:Spot}{o:Option Spot}(h:(s,o)∈bs):fM (bs.map cR) (k4 s)=ab (i4 o):=by
 unfold fM
 induction bs with
 |nil=>cases h
 |cons b r ih=>
  unfold bZ at nd;rw[cP,iU]at nd;rw[cP,jW];by_cases e:b.1=s
  ·have:b=(s,o):=by
    rcases bB.mp h with z|z
    ·exact z.symm
    ·exact absurd (ce.mpr ⟨(s,o),z,e.symm⟩) nd.1
   subst this;rw[show decide ((cR (s,o)).1=k4 s)=true from bP rfl];rfl
  ·rw[show decide ((cR b).1=k4 s)=false from cD λz=>e (GC z)];rcases bB.mp h with z|z
   ·exact absurd (by rw[<- z]) e
   ·exact ih nd.2 z
theorem Mm{bs:List Bf}(nd:(bZ bs).Nodup){s:Spot}{o:Option Spot}(h:(s,o)∈bs){i:Nat}{k:E}{e:Mi.Env}(hk:k e=.ok (aG s))(hi:e[i]? = ab (ab (W.df (bs.map cR)))):hW i k e=.ok (i4 o):=by unfold hW;rw[hk,aH,show wV i e=.ok (W.df (bs.map cR))by unfold wV;rw[hi],aH];show Rs.bind (Rs.ok (fM (bs.map cR) (k4 s))) c6=_;rw[RK nd h];rfl
theorem Ec{st:List Spot}{nx:Spot->List Spot}{bs:List Bf}(nd:(bZ bs).Nodup){m:List Spot}(p:mR st nx bs m)(ml:m.length<=30):∀(k n:Nat),k<=m.length->k<n ->
 gJ (cB (m2 xD (mV 0) (mC .non))) (aE (cH 2 (m2 az (mV 0) (mC (.int 0)))) (bh 0 (hW 1 (mV 0)))) n [ab (W.d (i4 (if k=0 then ae else m[k-1]?))),ab (W.df (bs.map cR)),ab (W.d (af ((m.drop k).reverse.map (·.1))))] =
  .ok (.nx [ab (W.d .non),ab (W.df (bs.map cR)),ab (W.d (af (m.reverse.map (·.1))))])
 |_,0,_,h=>absurd h (mx _)
 |0,n+1,_,_=>by
  rw[gJ];rw[show(cB (m2 xD (mV 0) (mC .non)) [ab (W.d (i4 (if 0=0 then ae else m[0-1]?))),ab (W.df (bs.map cR)),ab (W.d (af ((m.drop 0).reverse.map (·.1))))])=.ok false from rfl,aH,a8 cZ,qp];rfl
 |k+1,n+1,hk,hn=>by
  have kl:k<m.length:=hk;have ih:=Ec nd p ml k n (by omega) (by omega);obtain⟨u,hu⟩ : ∃u,m[k]? = ab u:=⟨_,en kl⟩;have hb:(u,if k=0 then ae else m[k-1]?)∈bs:=by
   cases k with
   |zero=>
    obtain⟨x,r,e,_,hx⟩:=p.hd;rw[e]at hu;have:x=u:=by simpa using hu
    rw[<- this,bc rfl];exact hx
   |succ q=>
    obtain⟨t,ht⟩ : ∃t,m[q]? = ab t:=⟨m[q]'(by omega),en _⟩;rw[a8 (by omega),show q+1-1=q by omega,ht];exact(p.step q t u ht hu).2.2.1
  rw[a8 (by omega),show k+1-1=k by omega,hu];have hc:cB (m2 xD (mV 0) (mC .non)) [ab (W.d (i4 (ab u))),ab (W.df (bs.map cR)),ab (W.d (af ((m.drop (k+1)).reverse.map (·.1))))]=.ok true:=rfl;rw[gJ,hc,aH,bc rfl];have hl:((m.drop (k+1)).reverse.map (·.1)).length<=30:=by rw[aO,Cg,kH];omega
  have ap:cH 2 (m2 az (mV 0) (mC (.int 0))) [ab (W.d (i4 (ab u))),ab (W.df (bs.map cR)),ab (W.d (af ((m.drop (k+1)).reverse.map (·.1))))]=.ok (.nx [ab (W.d (i4 (ab u))),ab (W.df (bs.map cR)),ab (W.d (af ((m.drop k).reverse.map (·.1))))]):=by
   rw[kB (d:=.str u.1) (ds:=((m.drop (k+1)).reverse.map (·.1)).map D.str) (Ta rfl) rfl (by rw[aO];omega)];show Rs.ok (Out.nx [_,_,ab (W.d (D.lst (((m.drop (k+1)).reverse.map (·.1)).map D.str++[D.str u.1])))])=_;rw[qI];rw[show(m.drop k)=u::m.drop (k+1)by
    obtain⟨h1,h2⟩:=cv.mp hu;rw[<- h2,<- sx h1]]
   rw[sB,fv];rfl
  rw[aN ap,bL (Mm nd hb rfl rfl)];exact ih
theorem SK{st:List Spot}{nx:Spot->List Spot}{bs:List Bf}(nd:(bZ bs).Nodup){l:List Spot}{s:Spot}(p:mR st nx bs (l++[s]))(ml:(l++[s]).length<=30) :
 wQ [.d (aG s),.df (bs.map cR)]=.ok (.d (af ((l++[s]).map (·.1)))):=by
 have h:=Ec nd p ml (l++[s]).length 40 (bK _) (by omega);unfold wQ FO;rw[jx];rw[aN (e':=[ab (W.d (aG s)),ab (W.df (bs.map cR)),ab (W.d (af []))]) (bL (jO _))];rw[show aG s=i4 (ab s)from rfl];have e0:(if(l++[s]).length=0 then ae else(l++[s])[(l++[s]).length-1]?)=ab s:=by rw[bU,ft,a8 (by omega),show l.length+1-1=l.length by omega,kG (bK _),oN];rfl
 rw[e0,vm (bK _)]at h;rw[aN (show jk 40 _ _ [ab (W.d (i4 (ab s))),ab (W.df (bs.map cR)),ab (W.d (af []))]=_ from h)];have:m1 Gr (mV 2) [ab (W.d .non),ab (W.df (bs.map cR)),ab (W.d (af ((l++[s]).reverse.map (·.1))))]=.ok (af ((l++[s]).map (·.1))):=by show bp ((((l++[s]).reverse.map (·.1)).map D.str).length<=1000) (Rs.ok (D.lst (((l++[s]).reverse.map (·.1)).map D.str).reverse))=_;rw[aX (by rw[aO,aO,Cg];omega)];unfold af;rw[<- Ck,<- Ck,JJ]
 rw[c8 (bq this)];rfl
structure m7(A:List Ar)(ag:List Str)(x:Str)(way:List Str):Prop where
 hd:∃r,way=x::r
 st:∀(k:Nat) (u v:Str),way[k]? = ab u->way[k+1]? = ab v->(u,v)∈A
 inn:∀(k:Nat) (u:Str),way[k]? = ab u->k+1<way.length->u∉ag
theorem IC{A:List Ar}{r:Str->Int}(hr:∀p∈A,r p.1<r p.2):∀(way:List Str),(∀(k:Nat) (u v:Str),way[k]? = ab u->way[k+1]? = ab v->(u,v)∈A)->way.Pairwise λa b=>r a<r b
 |[],_=>.nil
 |[x],_=>by simp
 |x::y::t,h=>by
  have ih:=IC hr (y::t) λk u v hu hv=>h (k+1) u v hu hv;have xy:=hr _ (h 0 x y rfl rfl);refine xR.mpr ⟨λz hz=>?_,ih⟩;rcases bB.mp hz with e|e
  ·rw[e];exact xy
  ·exact Int.lt_trans xy ((xR.mp ih).1 z e)
theorem IW{ac:List Str}{A:List Ar}(L:Lk ac A){way:List Str}(h:∀(k:Nat) (u v:Str),way[k]? = ab u->way[k+1]? = ab v->(u,v)∈A):way.Nodup:=by obtain⟨r,hr⟩:=L.rk;exact(IC hr way h).imp λ{a b} h e=>by rw[e]at h;exact Int.lt_irrefl _ h
theorem Ej{ds:List Str}{y:Str}:az (af (ds++[y])) (.int (-1))=.ok (.str y):=by
 rw[I0 (by simp)];have:nth (ds++[y]) ((ds++[y]).length-1)=y:=by unfold nth;rw[bU,ft,fN,kG (by omega),show ds.length+1-1-ds.length=0 by omega];rfl
 rw[this]
section
variable{ac:List Str}{A:List Ar}(L:Lk ac A){ag:List Str}
include L in
theorem GY{x:Str}:∀(n:Nat) (ds:List Str) (y:Str) (o4:Option W),m7 A ag x (ds++[y])->(∀z∈ds++[y],z∈ac)->eM (ar A) (·∈ag) y->ac.length<n+(ds++[y]).length ->
 ∃way p4,gJ (cB (m2 cF (m2 az (mV 3) (m1 gW (mC (.int 1)))) (mV 2))) (aE (bh 4 (b8 [ab 0,ab 2,ae] (bv (aL oy [(wD (mV 0)),(wD (m2 az (mV 3) (m1 gW (mC (.int 1)))))])) (.n 2) (cB (aL m4 [(wD (mV 0)),(wD (mV 2)),(wD (mV 1))])) (mV 2)))
 (cH 3 (m2 az (mV 4) (mC (.int 0))))) n [ab (W.d (am ac A)),ab (W.d (.str x)),ab (W.d (af ag)),ab (W.d (af (ds++[y]))),o4]=.ok (.nx [ab (W.d (am ac A)),ab (W.d (.str x)),ab (W.d (af ag)),ab (W.d (af way)),p4])/\m7 A ag x way/\(∀z∈way,z∈ac)/\∃es z,way=es++[z]/\z∈ag
 |0,ds,y,o4,d,hn,hb,hl=>by
  have:=dJ (IW L d.st) hn;omega
 |n+1,ds,y,o4,d,hn,hy,hl=>by
  have yn:y∈ac:=hn y (dE _ (bQ.mpr rfl));have wl:=dJ (IW L d.st) hn;have n8:=L.le;have hN:=L.aK (sy yn);have hdn:∀p∈A,p.2∈ac:=λp hp=>(L.inn p hp).2;have ix:m2 az (mV 3) (m1 gW (mC (.int 1))) [ab (W.d (am ac A)),ab (W.d (.str x)),ab (W.d (af ag)),ab (W.d (af (ds++[y]))),o4]=.ok (.str y):=aC rfl rfl Ej;have hc:cB (m2 cF (m2 az (mV 3) (m1 gW (mC (.int 1)))) (mV 2)) [ab (W.d (am ac A)),ab (W.d (.str x)),ab (W.d (af ag)),ab (W.d (af (ds++[y]))),o4]=.ok (!decide (y∈ag)):=bO (aC ix rfl (j5 _ _));rw[gJ,hc,aH];by_cases yh:y∈ag
  ·rw[bP yh,CG,a8 cZ];exact⟨_,_,rfl,d,hn,ds,y,rfl,yh⟩
  rw[cD yh,Bool.not_false,bc rfl];have cp:b8 [ab 0,ab 2,ae] (bv (aL oy [(wD (mV 0)),(wD (m2 az (mV 3) (m1 gW (mC (.int 1)))))])) (.n 2) (cB (aL m4 [(wD (mV 0)),(wD (mV 2)),(wD (mV 1))])) (mV 2) [ab (W.d (am ac A)),ab (W.d (.str x)),ab (W.d (af ag)),ab (W.d (af (ds++[y]))),o4]=.ok (af ((iC A y).filter λz=>hb ac A ag z)):=by
   refine d5 (dG (call2 rfl (bq ix) (DR yn L.al)) rfl) (by rw[aO];have:=zD (x:=y) L.al;omega) ?_;exact fe D.str D.str _ _ λz hz=>⟨[ab (W.d (am ac A)),ab (W.d (af ag)),ab (W.d (.str z))],rfl,bO (iG rfl rfl rfl (Fl hN hdn (by
    exact hdn (y,z) (qQ.mp (ce.mpr ⟨z,hz,rfl⟩)).1) ag)),λ_=>rfl⟩
  obtain⟨z,zr,hz⟩ : ∃z zr,((iC A y).filter λz=>hb ac A ag z)=z::zr:=by
   obtain⟨t,ht,u⟩:=hy;cases u with
   |refl=>exact absurd ht yh
   | @step _ c _ a u=>
    have hcm:c∈(iC A y).filter λz=>hb ac A ag z:=by refine cC.mpr ⟨?_,(pk L (hdn (y,c) a)).mpr ⟨t,ht,u⟩⟩;obtain⟨q,hq,e⟩:=ce.mp (qQ (t:=(c,true)).mpr ⟨a,rfl⟩);cases e;exact hq
    cases hf:(iC A y).filter λz=>hb ac A ag z with
    |nil=>rw[hf]at hcm;cases hcm
    |cons z zr=>exact⟨z,zr,rfl⟩
  have zm:z∈(iC A y).filter λz=>hb ac A ag z:=by rw[hz];exact cJ
  obtain⟨zh,zb⟩:=cC.mp zm;have ya:(y,z)∈A:=(qQ.mp (ce.mpr ⟨z,zh,rfl⟩)).1;have zn:=hdn (y,z) ya;have zB:=(pk L zn).mp zb;have d':m7 A ag x ((ds++[y])++[z]):=by
   obtain⟨r,e⟩:=d.hd;refine⟨⟨r++[z],by rw[e];rfl⟩,λk u v hu hv=>?_,λk u hu hk=>?_⟩
   ·have kl:=(cv.mp hv).1;rw[bU,ft]at kl;by_cases hk:k+1<(ds++[y]).length
    ·rw[mf (by omega)]at hu;rw[mf hk]at hv;exact d.st k u v hu hv
    ·have ek:k+1=(ds++[y]).length:=by omega
     rw[mf (by omega)]at hu;rw[kG (by omega),ek,oN]at hv;have ev:z=v:=by simpa using hv
     have eu:y=u:=by
      have:k=ds.length:=by rw[bU,ft]at ek;omega
      rw[this,kG (bK _),oN]at hu;simpa using hu
     subst ev eu;exact ya
   ·rw[bU,ft]at hk;rw[mf (by omega)]at hu;by_cases hk2:k+1<(ds++[y]).length
    ·exact d.inn k u hu hk2
    ·have:k=ds.length:=by rw[bU,ft]at hk hk2;omega
     rw[this,kG (bK _),oN]at hu;have:y=u:=by simpa using hu
     rw[<- this];exact yh
  have hn':∀w∈(ds++[y])++[z],w∈ac:=λw hw=>by
   rcases bT.mp hw with q|q
   ·exact hn w q
   ·rw[bQ.mp q];exact zn
  obtain⟨way,p4,g,r⟩:=GY n (ds++[y]) z (ab (W.d (af (z::zr)))) d' hn' zB (by rw[bU,ft];omega);refine⟨way,p4,?_,r⟩;rw[hz]at cp;rw[aN (e':=[ab (W.d (am ac A)),ab (W.d (.str x)),ab (W.d (af ag)),ab (W.d (af (ds++[y]))),ab (W.d (af (z::zr)))]) (bL cp)];have fY:m2 az (mV 4) (mC (.int 0)) [ab (W.d (am ac A)),ab (W.d (.str x)),ab (W.d (af ag)),ab (W.d (af (ds++[y]))),ab (W.d (af (z::zr)))]=.ok (.str z):=aC rfl rfl (by show c6 (dM (D.str z::zr.map D.str) 0)=_;rw[at0];rfl);rw[kB (d:=.str z) (ds:=(ds++[y]).map D.str) fY rfl (by rw[aO];omega)];rw[show putL [ab (W.d (am ac A)),ab (W.d (.str x)),ab (W.d (af ag)),ab (W.d (af (ds++[y]))),ab (W.d (af (z::zr)))] 3 ((ds++[y]).map D.str++[D.str z])=[ab (W.d (am ac A)),ab (W.d (.str x)),ab (W.d (af ag)),ab (W.d (D.lst ((ds++[y]).map D.str++[D.str z]))),ab (W.d (af (z::zr)))]from rfl,qI];exact g
include L in
theorem RQ{x:Str}(hx:x∈ac)(hb:eM (ar A) (·∈ag) x):∃way,rm [.d (am ac A),.d (.str x),.d (af ag)]=.ok (.d (af way))/\m7 A ag x way/\(∀z∈way,z∈ac)/\∃es z,way=es++[z]/\z∈ag:=by
 have n8:=L.le;obtain⟨way,p4,g,r⟩:=GY L (ag:=ag) (x:=x) 20 [] x ae ⟨⟨[],rfl⟩,λk u v hu hv=>by
  have:=(cv.mp hv).1;simp at this,λk u hu hk=>by simp at hk⟩ (λz hz=>by rw[mj]at hz;rw[bQ.mp hz];exact hx) hb (by simp;omega)
 refine⟨way,?_,r⟩;unfold rm Hm;rw[rf];rw[show([ab (W.d (am ac A)),ab (W.d (.str x)),ab (W.d (af ag))]++cK (5-3) ae)=[ab (W.d (am ac A)),ab (W.d (.str x)),ab (W.d (af ag)),ae,ae]from rfl];rw[aN (e':=[ab (W.d (am ac A)),ab (W.d (.str x)),ab (W.d (af ag)),ab (W.d (af ([]++[x]))),ae]) (bL (kn rfl))];rw[aN (show jk 20 _ _ _=_ from g)];rfl
end
end Mr
namespace Mr
open PySem Mi
open Vp
structure cY(ac:List Str)(A:List Ar)(ag:List Str)(i j:Str)(ax:List Str)(ways:List (List Str)):Prop where
 r2:2<=ax.length
 nd:ax.Nodup
 sub:∀x∈ax,x∈ac
 h0:nth ax 0=i
 hl:nth ax (ax.length-1)=j
 td:∀k,k+1<ax.length->tie A (nth ax k) (nth ax (k+1))=true
 ps:∀k,k+2<ax.length->mt A (ee ax k)=false->nth ax (k+1)∉ag
 wd:∃g:Str->List Str,ways=(meets A ax).map g/\∀x∈meets A ax,m7 A ag x (g x)/\(∀z∈g x,z∈ac)/\∃es z,g x=es++[z]/\z∈ag
theorem N0{ac:List Str}{A:List Ar}(L:Lk ac A){i j:Str}(hi:i∈ac)(ij:i≠j){ag:List Str}(ni:i∉ag)(nj:j∉ag){bs:List Bf}(w:gB (gi A i) (kh ac) (nxS ac A ag) bs []):(!(gm bs j).isEmpty)=iY A i j ag:=by
 rw[jZ,rH,<- zQ (A:=ar A) (S:=(·∈ag)) ij ni nj];constructor
 ·intro h;cases ho:gm bs j with
  |nil=>rw[ho]at h;cases h
  |cons s r=>
   have hm:s∈gm bs j:=by rw[ho];exact cJ
   obtain⟨h1,h2⟩:=cC.mp hm;have h2:s.1=j:=jI h2;refine⟨s.2,?_⟩;rw[<- h2];exact(xl L hi w s).mp h1
 ·rintro⟨b,h⟩;have hm:(j,b)∈gm bs j:=cC.mpr ⟨(xl L hi w _).mpr h,bP rfl⟩;cases ho:gm bs j with
  |nil=>rw[ho]at hm;cases hm
  |cons s r=>rfl
theorem S5(i:Str)(m:List Spot)(q:Nat)(hq:q<=m.length):nth (i::m.map (·.1)) q=nA i m q:=by
 cases q with
 |zero=>rfl
 |succ q=>
  unfold nth;rw[fN,jq,cS];show((m[q]?).map (·.1)).getD oQ=((m[q]?).map (·.1)).getD i;rw[en (by omega)];rfl
theorem OI{i:Str}{m:List Spot}{q:Nat}{u:Spot}(h:m[q]? = ab u):nA i m (q+1)=u.1:=by show((m[q]?).map (·.1)).getD i=_;rw[h];rfl
theorem MV{A:List Ar}{ax:List Str}{x:Str}(h:x∈meets A ax):∃k,k+2<ax.length/\x=nth ax (k+1)/\mt A (ee ax k)=true:=by unfold meets at h;obtain⟨t,ht,e⟩:=ce.mp h;obtain⟨h1,h2⟩:=cC.mp ht;obtain⟨k,hk,rfl⟩:=ve h1;exact⟨k,hk,e.symm,h2⟩
theorem Nr{ac:List Str}{A:List Ar}(L:Lk ac A){i j:Str}{ag:List Str}(K:Ask ac i j ag) :
 ∃d,GO [.d (am ac A),.d (.str i),.d (.str j),.d (af ag)]=.ok (.d d)/\((iY A i j ag=false/\d=.non)\/(iY A i j ag=true/\∃ax ways,d=.tup [af ax,.lst (ways.map af)]/\cY ac A ag i j ax ways)):=by
 obtain⟨hi,hj,ij,hs,nd,ni,nj⟩:=K;have ndS:([i,j]++ag).Nodup:=by
  refine et.mpr ⟨by simp[ij],nd,λa ha b hb e=>?_⟩;subst e;rcases bB.mp ha with rfl|z
  ·exact ni hb
  ·rw[bQ.mp z]at hb;exact nj hb
 have n8:=L.le;have hl8:ag.length<=8:=cU (dJ nd hs) n8;obtain⟨bs,hbf,w⟩:=IB L hi ag;have bl:bs.length<=16:=by have:=w.len;unfold kh at this;rw[bU,aO,aO]at this;omega
 have fin:=N0 L hi ij ni nj w;have l2:∀r:List (Option W),m2 ba (mN bx [(mV 1),(mV 2)]) (mN eP [(mV 3)]) (ab (W.d (am ac A))::ab (W.d (.str i))::ab (W.d (.str j))::ab (W.d (af ag))::r)=.ok (af ([i,j]++ag)):=λr=>by
  refine(aC (x:=af [i,j]) (y:=af ag) (jS rfl rfl) ((eJ (x:=af ag) rfl).trans rfl) (oD _ _)).trans ?_;rw[aX (by rw[aO,aO];simp only[cx,f7];omega)];rfl
 have asks:=vf (ac:=ac) (asked:=[i,j]++ag) (λx hx=>by
  rcases bT.mp hx with z|z
  ·rcases bB.mp z with rfl|z
   ·exact hi
   ·rw[bQ.mp z];exact hj
  ·exact hs x z) ndS (by simp only[bU,cx,f7];omega)
 unfold GO G6;rw[t8];rw[show([ab (W.d (am ac A)),ab (W.d (.str i)),ab (W.d (.str j)),ab (W.d (af ag))]++cK (7-4) ae)=[ab (W.d (am ac A)),ab (W.d (.str i)),ab (W.d (.str j)),ab (W.d (af ag)),ae,ae,ae]from rfl];rw[aN (e':=[ab (W.d (am ac A)),ab (W.d (.str i)),ab (W.d (.str j)),ab (W.d (af ag)),ae,ae,ae]) (by unfold ej;rw[call2 (bq (aC rfl rfl (fY ac A))) (bq (l2 _)) asks];rfl)];have fz:rY (ie lf [(wD (mV 0)),(wD (mV 1)),(wD (mV 3))]) [ab (W.d (am ac A)),ab (W.d (.str i)),ab (W.d (.str j)),ab (W.d (af ag)),ae,ae,ae]=.ok (.df (bs.map cR)):=by show Rs.bind (lf [.d (am ac A),.d (.str i),.d (af ag)]) Am=_;rw[hbf];rfl
 rw[aN (e':=[ab (W.d (am ac A)),ab (W.d (.str i)),ab (W.d (.str j)),ab (W.d (af ag)),ab (W.df (bs.map cR)),ae,ae]) (by unfold ki;rw[fz];rfl)];rw[aN (e':=[ab (W.d (am ac A)),ab (W.d (.str i)),ab (W.d (.str j)),ab (W.d (af ag)),ab (W.df (bs.map cR)),ab (W.d (ca (gm bs j))),ae]) (bL (call2 rfl rfl (HU bs (by omega) j)))];cases ho:gm bs j with
 |nil=>
  rw[ho]at fin;refine⟨.non,?_,.inl ⟨fin.symm,rfl⟩⟩;rw[pz ((fw (show fZ (dQ (mV 5)) [ab (W.d (am ac A)),ab (W.d (.str i)),ab (W.d (.str j)),ab (W.d (af ag)),ab (W.df (bs.map cR)),ab (W.d (ca [])),ae]=.ok true from rfl)).trans (c8 (bq rfl)))];rfl
 |cons s r=>
  rw[ho]at fin;rw[aN ((dN (show fZ (dQ (mV 5)) [ab (W.d (am ac A)),ab (W.d (.str i)),ab (W.d (.str j)),ab (W.d (af ag)),ab (W.df (bs.map cR)),ab (W.d (ca (s::r))),ae]=.ok false from rfl)).trans rfl)];obtain⟨l,p,sj,qg⟩:=LC L hi ij w ho;obtain⟨m,hm⟩ : ∃m,m=l++[s]:=⟨_,rfl⟩;have ml1:m.length=l.length+1:=by rw[hm,bU,ft]
  have T3:m[l.length]? = ab s:=by rw[hm,kG (bK _),oN];rfl
  rw[<- hm]at p qg;have Kw:∀t∈m,t.1∈ac:=λt ht=>rC.mp (w.u t (p.sub.mem ht));obtain⟨ax,hroad⟩ : ∃ax,ax=i::m.map (·.1):=⟨_,rfl⟩;have rl:ax.length=m.length+1:=by rw[hroad,cx,aO]
  have Dt:∀x∈ax,x∈ac:=λx hx=>by
   rw[hroad]at hx;rcases bB.mp hx with e|e
   ·rw[e];exact hi
   ·obtain⟨t,ht,e⟩:=ce.mp e;rw[<- e];exact Kw t ht
  rw[<- hroad]at qg;have rl8:ax.length<=8:=cU (dJ qg Dt) n8;have vK:∀q,q<=m.length->nth ax q=nA i m q:=λq hq=>by rw[hroad];exact S5 i m q hq
  have mH:∀q u,m[q]? = ab u->nth ax (q+1)=u.1:=λq u hu=>by
   rw[vK (q+1) (by have:=(cv.mp hu).1;omega),OI hu]
  have getM:∀q,q<m.length->∃u,m[q]? = ab u:=λq hq=>⟨_,en hq⟩;have hmb:∀x∈meets A ax,x∈ac/\eM (ar A) (·∈ag) x:=λx hx=>by
   obtain⟨k,hk,e,hmt⟩:=MV hx;obtain⟨u,hu⟩:=getM k (by omega);obtain⟨v,hv⟩:=getM (k+1) (by omega);unfold mt ee at hmt;rw[gZ,dZ,dZ]at hmt;obtain⟨m1,m2⟩:=hmt;simp only at m1 m2;rw[mH k u hu,vK k (by omega)]at m1;rw[mH k u hu,mH (k+1) v hv]at m2;rw[e,mH k u hu];exact⟨Kw u (eS hu),N7 L w p k u v hu hv m1 m2⟩
  obtain⟨g,hg⟩ : ∃g:Str->List Str,∀x,x∈meets A ax->rm [.d (am ac A),.d (.str x),.d (af ag)]=.ok (.d (af (g x)))/\m7 A ag x (g x)/\(∀z∈g x,z∈ac)/\∃es z,g x=es++[z]/\z∈ag:=by
   refine Classical.axiomOfChoice (r:=λx way=>x∈meets A ax->rm [.d (am ac A),.d (.str x),.d (af ag)]=.ok (.d (af way))/\m7 A ag x way/\(∀z∈way,z∈ac)/\∃es z,way=es++[z]/\z∈ag) λx=>?_;by_cases hx:x∈meets A ax
   ·obtain⟨way,h⟩:=RQ L (hmb x hx).1 (hmb x hx).2;exact⟨way,λ_=>h⟩
   ·exact⟨[],λh=>absurd h hx⟩
  have cat:m2 dCat (mN bx [(mV 1)]) (aL wQ [(wD (m2 az (mV 5) (mC (.int 0)))),(wV 4)]) [ab (W.d (am ac A)),ab (W.d (.str i)),ab (W.d (.str j)),ab (W.d (af ag)),ab (W.df (bs.map cR)),ab (W.d (ca (s::r))),ae]=.ok (af ax):=by have up:=SK w.nd (hm ▸ p) (by rw[<- hm];omega);rw[<- hm]at up;have ix:m2 az (mV 5) (mC (.int 0)) [ab (W.d (am ac A)),ab (W.d (.str i)),ab (W.d (.str j)),ab (W.d (af ag)),ab (W.df (bs.map cR)),ab (W.d (ca (s::r))),ae]=.ok (aG s):=aC rfl rfl (by show c6 (dM (aG s::r.map aG) 0)=_;rw[at0];rfl);refine(aC (x:=af [i]) (y:=af (m.map (·.1))) (kn rfl) (call2 (bq ix) rfl up) rfl).trans ?_;show bp (([i].map D.str).length+((m.map (·.1)).map D.str).length<=16777216) _=_;rw[aX (by rw[aO,aO,aO];simp only[cx,f7];omega),hroad];rfl
  rw[aN (e':=[ab (W.d (am ac A)),ab (W.d (.str i)),ab (W.d (.str j)),ab (W.d (af ag)),ab (W.df (bs.map cR)),ab (W.d (ca (s::r))),ab (W.d (af ax))]) (bL cat)];have cw:b8 [ab 0,ab 3,ae] (bv (aL pH [(wD (mV 0)),(wD (mV 6))])) (.n 2) dc (aL rm [(wD (mV 0)),(wD (mV 2)),(wD (mV 1))]) [ab (W.d (am ac A)),ab (W.d (.str i)),ab (W.d (.str j)),ab (W.d (af ag)),ab (W.df (bs.map cR)),ab (W.d (ca (s::r))),ab (W.d (af ax))]=.ok (.lst (((meets A ax).map g).map af)):=by refine d5 (dG (call2 rfl rfl (HM Dt rl8)) rfl) (by rw[aO];have:=NK A ax;omega) ?_;refine(fe D.str (λx=>af (g x)) (λ_=>true) (meets A ax) λx hx=>⟨[ab (W.d (am ac A)),ab (W.d (af ag)),ab (W.d (.str x))],rfl,rfl,λ_=>iG rfl rfl rfl (hg x hx).1⟩).trans ?_;rw[mi.mpr λ_ _=>rfl,dF];rfl
  refine⟨.tup [af ax,.lst (((meets A ax).map g).map af)],?_,.inr ⟨fin.symm,ax,(meets A ax).map g,rfl,⟨by omega,qg,Dt,by rw[vK 0 (g9 _)];rfl,?_,λk hk=>?_,λk hk hn=>?_,g,rfl,λx hx=>(hg x hx).2⟩⟩⟩
  ·rw[c8 (bq (fA (x:=af ax) rfl cw))];rfl
  ·rw[show ax.length-1=l.length+1 by omega,mH _ _ T3,sj]
  ·obtain⟨u,hu⟩:=getM k (by omega);rw[mH k u hu,vK k (by omega)];exact Mh L w p k u hu
  ·obtain⟨u,hu⟩:=getM k (by omega);obtain⟨v,hv⟩:=getM (k+1) (by omega);rw[mH k u hu];refine LZ L w p k u v hu hv λ⟨m1,m2⟩=>?_;have:mt A (ee ax k)=true:=by
    unfold mt ee;rw[gZ,dZ,dZ];refine⟨?_,?_⟩
    ·show(nth ax k,nth ax (k+1))∈A;rw[mH k u hu,vK k (by omega)];exact m1
    ·show(nth ax (k+2),nth ax (k+1))∈A;rw[mH k u hu,mH (k+1) v hv];exact m2
   rw[this]at hn;cases hn
end Mr
namespace Mr
open PySem Mi
open Vp
section
variable{ac:List Str}{A:List Ar}{ag:List Str}
theorem rA{ax:List Str}{e:Mi.Env}{a b:E}{i:Nat}{z:Int}(ha:a e=.ok (af ax))(hb:b e=.ok (.int z))(hz:z=(i:Int))(hi:i<ax.length):m2 az a b e=.ok (.str (nth ax i)):=by subst hz;exact aC ha hb ((Q9 (by omega) (by omega)).trans (by rw[kM]))
theorem R9{ax:List Str}(nd:ax.Nodup){n:Nat}(hn:n<ax.length):nth ax n∉ax.take n:=u5 nd (mX hn)
def inn(A:List Ar)(ax:List Str):List Nat:=(cu (ax.length-2)).filter λi=>mt A (ee ax i)
end
end Mr
namespace Mr
open PySem Mi
open Vp
open My (words fi fH)
theorem y9{f:Fn}{a b c g k:EW}{e:Mi.Env}{x y z u v:W}{d:D}(h:a e=.ok x)(h':b e=.ok y)(h'':c e=.ok z)(h3:g e=.ok u)(h4:k e=.ok v)(hf:f [x,y,z,u,v]=.ok (.d d)):aL f [a,b,c,g,k] e=.ok d:=by unfold aL ie;rw[dm,h,aH,dm,h',aH,dm,h'',aH,dm,h3,aH,dm,h4,aH,dm,aH,aH,aH,aH,aH,aH,hf];rfl
end Mr
namespace Mr
open PySem Mi
open Vp
noncomputable def hiB (A:List Ar) (some_:List Str) (y:Str):Bool:=@decide (Hi (ar A) (·∈some_) y) (sK _)
theorem pQ{A:List Ar}{some_:List Str}{y:Str}:hiB A some_ y=true↔Hi (ar A) (·∈some_) y:=by unfold hiB;exact@dZ _ (sK _)
noncomputable def ovr (ac:List Str) (A:List Ar) (some_:List Str):List Str:=some_.flatMap (lA ac A)
theorem P8{ac:List Str}{A:List Ar}{x:Str}(h8:ac.length<=8):(lA ac A x).length<=8:=by unfold lA kQ;exact cU (lh _ _) h8
theorem xt{ac:List Str}{A:List Ar}{some_:List Str}{y:Str}(hy:y∈ac):decide (y∈ovr ac A some_)=hiB A some_ y:=by
 rw[jZ,dZ,pQ];unfold ovr Hi;rw[qm];constructor
 ·rintro⟨x,h1,h2⟩;exact⟨x,h1,DU (oY.mp ((G7 hy).mp h2))⟩
 ·rintro⟨x,h1,h2⟩;exact⟨x,h1,(G7 hy).mpr (oY.mpr (Fb h2))⟩
theorem Ag{ac:List Str}{A:List Ar}(L:Lk ac A)(pos:1<=ac.length){some_:List Str}(hs:∀x∈some_,x∈ac)(hl:some_.length<=20):lL [.d (am ac A),.d (af some_)]=.ok (.d (af (ovr ac A some_))):=by
 have N:=L.aK pos;have hd:∀p∈A,p.2∈ac:=λp hp=>(L.inn p hp).2;have ol:((some_.flatMap λx=>(lA ac A x).map D.str)).length<=1000:=by
  have:=uh (g:=λx=>(lA ac A x).map D.str) (m:=8) (l:=some_) λx _=>by rw[aO];exact P8 L.le
  omega
 obtain⟨e',f,o3,he⟩:=tG (tg:=.n 3) (body:=(lb 2 (aL qZ [(wD (mV 0)),(wD (mV 3))]))) D.str (λx=>(lA ac A x).map D.str)
  (λacc e=>∃o3:Option W,e=[ab (W.d (am ac A)),ab (W.d (af some_)),ab (W.d (.lst acc)),o3]) some_ [] [ab (W.d (am ac A)),ab (W.d (af some_)),ab (W.d (.lst [])),ae] (by simp only[f7];omega) ⟨ae,rfl⟩
  (λx hx acc e hl ⟨o3,he⟩=>by
   subst he;refine⟨[ab (W.d (am ac A)),ab (W.d (af some_)),ab (W.d (.lst acc)),ab (W.d (.str x))],[ab (W.d (am ac A)),ab (W.d (af some_)),ab (W.d (.lst (acc++(lA ac A x).map D.str))),ab (W.d (.str x))],rfl,?_,_,rfl⟩;unfold lb;rw[call2 (x:=.d (am ac A)) (y:=.d (.str x)) rfl rfl (P6 N hd (hs x hx)),aH];show bp (acc.length+((lA ac A x).map D.str).length<=16777216) _=_;rw[aX hl];rfl)
 subst he;unfold lL Iv;rw[jx];rw[show([ab (W.d (am ac A)),ab (W.d (af some_))]++cK (4-2) ae)=[ab (W.d (am ac A)),ab (W.d (af some_)),ae,ae]from rfl];rw[aN (e':=[ab (W.d (am ac A)),ab (W.d (af some_)),ab (W.d (.lst [])),ae]) (bL (jO _))];rw[aN ((fh (dG (a:=mV 1) (x:=af some_) rfl rfl)).trans f)];rw[mj];show Rs.ok (W.d (D.lst _))=_;unfold af ovr;rw[wF]
theorem lZ{a b:E}{e:Mi.Env}{x y:List Str}(ha:a e=.ok (af x))(hb:b e=.ok (af y))(hl:x.length+y.length<=1000):m2 ba a b e=.ok (af (x++y)):=by refine(aC ha hb (oD _ _)).trans ?_;rw[aX (by rw[aO,aO];omega)];unfold af;rw[fv]
structure Vl(ac:List Str)(A:List Ar)(ns ag:List Str):Prop where
 L:Lk ac A
 hs:∀x∈ag,x∈ac
 hn:ag.Nodup
 sb:∀x∈ns,x∈ac
 nn:ns.Nodup
 no:∀x∈ns,x∉ag
section
variable{ac:List Str}{A:List Ar}{ns ag:List Str}(V:Vl ac A ns ag){i j:Str}(hi:i∈ns)(hj:j∈ns)(ij:i≠j)
include V
theorem Vl.hl:ag.length<=8:=cU (dJ V.hn V.hs) V.L.le
theorem Vl.nl:ns.length<=8:=cU (dJ V.nn V.sb) V.L.le
noncomputable def yL (A:List Ar) (ag:List Str) (i j:Str):D:=.str (if hiB A ([j]++ag) i then "tail" else "head")
include hi hj in
theorem G2:me [.d (am ac A),.d (af ag),.d (.str i),.d (.str j)]=.ok (.d (yL A ag i j)):=by
 have hl:=V.hl;have in_:=V.sb i hi;unfold me F7;rw[t8];rw[show([ab (W.d (am ac A)),ab (W.d (af ag)),ab (W.d (.str i)),ab (W.d (.str j))]++cK (4-4) ae)=[ab (W.d (am ac A)),ab (W.d (af ag)),ab (W.d (.str i)),ab (W.d (.str j))]from rfl];have l2:m2 ba (mN bx [(mV 3)]) (mN eP [(mV 1)]) [ab (W.d (am ac A)),ab (W.d (af ag)),ab (W.d (.str i)),ab (W.d (.str j))]=.ok (af ([j]++ag)):=lZ (kn rfl) ((eJ (x:=af ag) rfl).trans rfl) (by simp only[ft];omega)
 have ov:=Ag V.L (sy in_) (some_:=[j]++ag) (λx hx=>by
  rcases bT.mp hx with z|z
  ·rw[bQ.mp z];exact V.sb j hj
  ·exact V.hs x z) (by rw[bU,ft];omega)
 have ct:cB (m2 bz (mV 2) (aL lL [(wD (mV 0)),(wD (m2 ba (mN bx [(mV 3)]) (mN eP [(mV 1)])))])) [ab (W.d (am ac A)),ab (W.d (af ag)),ab (W.d (.str i)),ab (W.d (.str j))]=.ok (hiB A ([j]++ag) i):=by rw[<- xt in_];exact bO (aC rfl (call2 rfl (bq l2) ov) (lC _ _))
 rw[c8 (bq (uo ct (λ_=>rfl) λ_=>rfl))];unfold yL;cases hiB A ([j]++ag) i<;>rfl
include hi hj ij in
noncomputable def btw (A:List Ar) (ns ag:List Str) (i j:Str):List Str:=ns.filter λz=>hiB A ([i,j]++ag) z && !decide (z∈[i,j])
include hi hj in
theorem FM:lP [.d (am ac A),.d (a7 ns),.d (af ag),.d (.str i),.d (.str j)]=.ok (.d (af (btw A ns ag i j))):=by
 have hl:=V.hl;have nl:=V.nl;have l2:m2 ba (mN bx [(mV 3),(mV 4)]) (mN eP [(mV 2)]) [ab (W.d (am ac A)),ab (W.d (a7 ns)),ab (W.d (af ag)),ab (W.d (.str i)),ab (W.d (.str j)),ae]=.ok (af ([i,j]++ag)):=lZ (jS rfl rfl) ((eJ (x:=af ag) rfl).trans rfl) (by simp only[cx,f7];omega)
 have ov:=Ag V.L (sy (V.sb i hi)) (some_:=[i,j]++ag) (λx hx=>by
  rcases bT.mp hx with z|z
  ·rcases bB.mp z with rfl|z
   ·exact V.sb _ hi
   ·rw[bQ.mp z];exact V.sb j hj
  ·exact V.hs x z) (by simp only[bU,cx,f7];omega)
 obtain⟨up,hup⟩ : ∃up,up=ovr ac A ([i,j]++ag):=⟨_,rfl⟩;rw[<- hup]at ov;have hc:dv (.n 3) (cE (cB (m2 bz (mV 3) (mV 0))) (cB (m2 cF (mV 3) (mN dTup [(mV 1),(mV 2)])))) (mV 3) [ab (.d (af up)),ab (.d (.str i)),ab (.d (.str j)),ae] (ns.map D.str)=.ok ((btw A ns ag i j).map D.str):=
  fe D.str D.str _ _ λz hz=>⟨[ab (.d (af up)),ab (.d (.str i)),ab (.d (.str j)),ab (.d (.str z))],rfl,by
   rw[<- xt (ac:=ac) (V.sb z hz),<- hup];exact oo (bO (aC rfl rfl (lC _ _))) λ_=>bO (aC (y:=.tup ([i,j].map D.str)) rfl (fA rfl rfl) (AQ _ _)),λ_=>rfl⟩
 unfold lP GR;show Rs.bind (aE _ _ [ab (W.d (am ac A)),ab (W.d (a7 ns)),ab (W.d (af ag)),ab (W.d (.str i)),ab (W.d (.str j)),ae]) _=_;rw[aN (e':=[ab (W.d (am ac A)),ab (W.d (a7 ns)),ab (W.d (af ag)),ab (W.d (.str i)),ab (W.d (.str j)),ab (W.d (af up))]) (bL (call2 rfl (bq l2) ov))];rw[c8 (bq (d5 (ρ:=[ab 5,ab 3,ab 4,ae]) (dG (a:=mV 1) (x:=a7 ns) rfl rfl) (by rw[aO];omega) hc))];rfl
noncomputable def joi (A:List Ar) (ns ag:List Str) (i j:Str):Bool:=iY A i j (btw A ns ag i j++ag)
theorem Vl.app{Z:List Str}(hz:∀z∈Z,z∈ns)(nd:Z.Nodup):(∀x∈Z++ag,x∈ac)/\(Z++ag).Nodup:=by
 refine⟨λx hx=>?_,et.mpr ⟨nd,V.hn,λa ha b hb e=>V.no a (hz a ha) (e ▸ hb)⟩⟩;rcases bT.mp hx with h|h
 ·exact V.sb x (hz x h)
 ·exact V.hs x h
include hi hj ij in
theorem HL:kA [.d (am ac A),.d (a7 ns),.d (af ag),.d (.str i),.d (.str j)]=.ok (.d (.bl (joi A ns ag i j))):=by
 have hl:=V.hl;have nl:=V.nl;have bin:∀z∈btw A ns ag i j,z∈ns/\z≠i/\z≠j:=λz hz=>by
  obtain⟨h1,h2⟩:=cC.mp hz;simp only[gZ,mv,l7,bB,xU,or_false,not_or]at h2;exact⟨h1,h2.2.1,h2.2.2⟩
 have bnd:(btw A ns ag i j).Nodup:=V.nn.filter _;have bl:(btw A ns ag i j).length<=8:=cU (lh _ _) nl;obtain⟨a1,a2⟩:=V.app (λz hz=>(bin z hz).1) bnd;have pt:=Sn V.L (V.sb i hi) (V.sb j hj) ij a1 a2 (λh=>by
  rcases bT.mp h with h|h
  ·exact(bin i h).2.1 rfl
  ·exact V.no i hi h) (λh=>by
  rcases bT.mp h with h|h
  ·exact(bin j h).2.2 rfl
  ·exact V.no j hj h)
 unfold kA IU;show Rs.bind (bw _ [ab (W.d (am ac A)),ab (W.d (a7 ns)),ab (W.d (af ag)),ab (W.d (.str i)),ab (W.d (.str j))]) _=_;have cb:aL lP [(wD (mV 0)),(wD (mV 1)),(wD (mV 2)),(wD (mV 3)),(wD (mV 4))] [ab (W.d (am ac A)),ab (W.d (a7 ns)),ab (W.d (af ag)),ab (W.d (.str i)),ab (W.d (.str j))]=.ok (af (btw A ns ag i j)):=by show Rs.bind (lP [.d (am ac A),.d (a7 ns),.d (af ag),.d (.str i),.d (.str j)]) ma=_;rw[FM V hi hj];rfl
 have cp:=tF (f:=ph) (a:=wD (mV 0)) (b:=wD (mV 3)) (c:=wD (mV 4)) (e:=[ab (W.d (am ac A)),ab (W.d (a7 ns)),ab (W.d (af ag)),ab (W.d (.str i)),ab (W.d (.str j))]) (x:=.d (am ac A)) (y:=.d (.str i)) (z:=.d (.str j)) rfl rfl rfl (bq (lZ (b:=mN eP [(mV 2)]) cb ((eJ (a:=mV 2) (x:=af ag) rfl).trans rfl) (by omega))) pt;have nt:xq (aL ph [(wD (mV 0)),(wD (mV 3)),(wD (mV 4)),(wD (m2 ba (aL lP [(wD (mV 0)),(wD (mV 1)),(wD (mV 2)),(wD (mV 3)),(wD (mV 4))]) (mN eP [(mV 2)])))]) [ab (W.d (am ac A)),ab (W.d (a7 ns)),ab (W.d (af ag)),ab (W.d (.str i)),ab (W.d (.str j))]=.ok (.bl (joi A ns ag i j)):=by unfold xq;rw[cp,aH,pc,aH,Bool.not_not];rfl
 rw[c8 (bq nt)];rfl
include hi hj ij in
include hi hj ij in
end
end Mr
namespace Mr
open PySem Mi
open Vp
inductive kF(A:List Ar):Str->List Str->Str->Prop
 |nil (y:Str):kF A y [] y
 |cons {y z w:Str} {t:List Str}:tie A y z=true->kF A z t w->kF A y (z::t) w
theorem kF.fin{A:List Ar}{y w:Str}{t:List Str}(h:kF A y t w):t=[]/\y=w\/w∈t:=by
 induction h with
 |nil y=>exact .inl ⟨rfl,rfl⟩
 | @cons y z w t _ _ ih=>
  rcases ih with ⟨e,e2⟩|h
  ·exact .inr (by rw[e2];exact cJ)
  ·exact .inr (dR _ h)
theorem kF.last{A:List Ar}{y w:Str}{t:List Str}(h:kF A y t w):nth (y::t) t.length=w:=by
 induction h with
 |nil y=>rfl
 | @cons y z w t _ _ ih=>exact ih
def i7(ac:List Str)(A:List Ar)(x:Str):List Str:=ac.filter λy=>tie A x y
def cX(ac:List Str)(A:List Ar)(l:List Str):List (Ky×D):=l.map λx=>(.inr x,af (i7 ac A x))
theorem QW{ac:List Str}{A:List Ar}{l:List Str}{x:Str}(h:x∉l):((cX ac A l).any λkv=>decide (kv.1=(.inr x:Ky)))=false:=by rw[xS];intro kv hk;obtain⟨y,hy,rfl⟩:=ce.mp hk;intro z;have:=jI z;simp only[Sum.inr.injEq]at this;exact h (this ▸ hy)
theorem Nk{ac:List Str}{A:List Ar}{x:Str}:∀{l:List Str},x∈l->fM (cX ac A l) (.inr x:Ky)=ab (af (i7 ac A x)):=λ{l} h=>by
 unfold fM cX
 induction l with
 |nil=>cases h
 |cons y r ih=>
  rw[cP,jW];by_cases e:y=x
  ·subst e;rw[show decide (((.inr y:Ky),af (i7 ac A y)).1=(.inr y:Ky))=true from bP rfl];rfl
  ·rw[show decide (((.inr y:Ky),af (i7 ac A y)).1=(.inr x:Ky))=false from cD λz=>e (by simpa using z)];rcases bB.mp h with z|z
   ·exact absurd z.symm e
   ·exact ih z
theorem Q7{ac:List Str}{A:List Ar}(nd:ac.Nodup)(n8:ac.length<=8):oW [.d (am ac A)]=.ok (.dk (cX ac A ac)):=by
 obtain⟨e',f,o2,he⟩:=fQ (tg:=.n 2) (body:=(dA 1 (mV 2) (b8 [ab 0,ab 2,ae] (bv (m2 az (mV 0) (mC (.int 0)))) (.n 2) (cB (aL pP [(wD (mV 0)),(wD (mV 1)),(wD (mV 2))])) (mV 2))))
  (λn e=>∃o2:Option W,e=[ab (W.d (am ac A)),ab (W.dk (cX ac A (ac.take n))),o2]) (ac.map D.str) 0 (λn x e hx ⟨o2,he⟩=>by
   subst he;rw[cS]at hx;obtain⟨x,hq,rfl⟩:=gR.mp hx;have hx:=hq;rw[da];have xn:=eS hx;have new:=u5 nd hx;have ts:ac.take (n+1)=ac.take n++[x]:=by rw[xW,hx];rfl
   have cp:b8 [ab 0,ab 2,ae] (bv (m2 az (mV 0) (mC (.int 0)))) (.n 2) (cB (aL pP [(wD (mV 0)),(wD (mV 1)),(wD (mV 2))])) (mV 2) [ab (W.d (am ac A)),ab (W.dk (cX ac A (ac.take n))),ab (W.d (.str x))]=.ok (af (i7 ac A x)):=by refine d5 (dG (aC rfl rfl (fY _ _)) rfl) (by rw[aO];omega) ?_;exact fe D.str D.str _ _ λy hy=>⟨[ab (W.d (am ac A)),ab (W.d (.str x)),ab (W.d (.str y))],rfl,bO (iG rfl rfl rfl (Ma xn hy)),λ_=>rfl⟩
   refine⟨[ab (W.d (am ac A)),ab (W.dk (cX ac A (ac.take n))),ab (W.d (.str x))],[ab (W.d (am ac A)),ab (W.dk (cX ac A (ac.take (n+1)))),ab (W.d (.str x))],rfl,?_,_,rfl⟩;unfold dA;rw[cp,aH,show mV 2 [ab (W.d (am ac A)),ab (W.dk (cX ac A (ac.take n))),ab (W.d (.str x))]=.ok (.str x)from rfl,aH,show wV 1 [ab (W.d (am ac A)),ab (W.dk (cX ac A (ac.take n))),ab (W.d (.str x))]=.ok (W.dk (cX ac A (ac.take n)))from rfl,aH];have:o0 (W.dk (cX ac A (ac.take n))) (.str x) (af (i7 ac A x))=.ok (W.dk (cX ac A (ac.take (n+1)))):=by show bp ((cX ac A (ac.take n)).length<16777216) (Rs.ok (W.dk (Mi.putK (.inr x:Ky) (af (i7 ac A x)) (cX ac A (ac.take n)))))=_;rw[aX (by unfold cX;rw[aO,iJ];omega)];unfold Mi.putK;rw[QW new,a8 cZ,ts];unfold cX;rw[fv];rfl
   rw[this,aH];rfl) [ab (W.d (am ac A)),ab (W.dk (cX ac A (ac.take 0))),ae] ⟨ae,rfl⟩
 subst he;rw[da,aO,xT]at f;unfold oW DZ;rw[Ea];rw[show([ab (W.d (am ac A))]++cK (3-1) ae)=[ab (W.d (am ac A)),ae,ae]from rfl];rw[aN (e':=[ab (W.d (am ac A)),ab (W.dk (cX ac A (ac.take 0))),ae]) rfl];rw[aN ((fh (dG (aC rfl rfl (fY _ _)) rfl)).trans f)];rfl
section
variable(ac:List Str)(A:List Ar)(j:Str)
def rb:Nat->List Str->Str->List (List Str)
 |0,_,_=>[]
 |n+1,ds,y=>if y=j then[ds++[y]]else(i7 ac A y).flatMap λz=>if z∈ds++[y]then[]else rb n (ds++[y]) z
variable{ac A j}
theorem Hw{α β:Type}{f:α->List β}{m:Nat}:∀{l:List α},(∀x∈l,(f x).length<=m)->(l.flatMap f).length<=l.length*m
 |[],_=>by simp
 |x::r,h=>by
  rw[lj,bU,cx,Nat.succ_mul];have h1:=h x cJ;have h2:=Hw (l:=r) λy hy=>h y (dR _ hy);omega
theorem Qf(n8:ac.length<=8)(x:Str):(i7 ac A x).length<=8:=by unfold i7;exact cU (lh _ _) n8
theorem B8(n8:ac.length<=8):∀(n:Nat) (ds:List Str) (y:Str),(rb ac A j n ds y).length<=8 ^ n
 |0,_,_=>by simp[rb]
 |n+1,ds,y=>by
  rw[rb];split
  ·simp only[cx,f7];exact Nat.pow_pos (by decide)
  ·have h1:=Hw (l:=i7 ac A y) (f:=λz=>if z∈ds++[y]then[]else rb ac A j n (ds++[y]) z) (m:=8 ^ n) λz _=>by
    split
    ·exact g9 _
    ·exact B8 n8 n _ z
   refine cU h1 ?_;rw[Nat.pow_succ,Nat.mul_comm (8 ^ n)];exact Nat.mul_le_mul_right _ (Qf n8 y)
theorem Gv(n8:ac.length<=8):∀(n:Nat) (ds:List Str) (y:Str),n<=8->(ds++[y]).Nodup->(∀z∈ds++[y],z∈ac)->ac.length<n+(ds++[y]).length ->
 lc n [.dk (cX ac A ac),.d (af (ds++[y])),.d (.str j)]=.ok (.d (.lst ((rb ac A j n ds y).map af)))
 |0,ds,y,_,nd,sb,hl=>by
  have:=dJ nd sb;omega
 |n+1,ds,y,hn,nd,sb,hl=>by
  have bl:=dJ nd sb;have yn:y∈ac:=sb y (dE _ (bQ.mpr rfl));rw[lc,rf];unfold EU;rw[show([ab (W.dk (cX ac A ac)),ab (W.d (af (ds++[y]))),ab (W.d (.str j))]++cK (5-3) ae)=[ab (W.dk (cX ac A ac)),ab (W.d (af (ds++[y]))),ab (W.d (.str j)),ae,ae]from rfl];have ix:∀r:List (Option W),m2 az (mV 1) (m1 gW (mC (.int 1))) (ab (W.dk (cX ac A ac))::ab (W.d (af (ds++[y])))::r)=.ok (.str y):=λr=>aC rfl rfl Ej;have c1:cB (m2 cy (m2 az (mV 1) (m1 gW (mC (.int 1)))) (mV 2)) [ab (W.dk (cX ac A ac)),ab (W.d (af (ds++[y]))),ab (W.d (.str j)),ae,ae]=.ok (decide (y=j)):=bO (aC (ix _) rfl (ny _ _));rw[rb];by_cases yj:y=j
  ·rw[bP yj]at c1;rw[bc yj,pz ((fw c1).trans (c8 (bq (kn rfl))))];rfl
  rw[cD yj]at c1;rw[a8 yj,aN ((dN c1).trans rfl)];rw[aN (e':=[ab (W.dk (cX ac A ac)),ab (W.d (af (ds++[y]))),ab (W.d (.str j)),ab (W.d (.lst [])),ae]) (bL (jO _))];have p8:8 ^ (n+1)<=16777216:=cU (Nat.pow_le_pow_right (by decide) hn) (by decide);have tl:=B8 (A:=A) (j:=j) n8 (n+1) ds y;rw[rb,a8 yj]at tl;obtain⟨e',f,o4,he⟩:=tG (tg:=.n 4) (body:=(bu (cB (m2 cF (mV 4) (mV 1))) (lb 3 (aL (lc n) [(wV 0),(wD (m2 ba (mV 1) (mN bx [(mV 4)]))),(wD (mV 2))])) bI)) D.str (λz=>(if z∈ds++[y]then[]else rb ac A j n (ds++[y]) z).map af)
   (λacc e=>∃o4:Option W,e=[ab (W.dk (cX ac A ac)),ab (W.d (af (ds++[y]))),ab (W.d (.str j)),ab (W.d (.lst acc)),o4]) (i7 ac A y) [] [ab (W.dk (cX ac A ac)),ab (W.d (af (ds++[y]))),ab (W.d (.str j)),ab (W.d (.lst [])),ae] (by
    rw[<- List.map_flatMap,aO,f7];omega) ⟨ae,rfl⟩ (λz hz acc e hacc ⟨o4,he⟩=>by
    subst he;have zn:z∈ac:=(cC.mp hz).1;have c2:cB (m2 cF (mV 4) (mV 1)) [ab (W.dk (cX ac A ac)),ab (W.d (af (ds++[y]))),ab (W.d (.str j)),ab (W.d (.lst acc)),ab (W.d (.str z))]=.ok (!decide (z∈ds++[y])):=bO (aC rfl rfl (j5 _ _));by_cases zb:z∈ds++[y]
    ·rw[bP zb]at c2;refine⟨[ab (W.dk (cX ac A ac)),ab (W.d (af (ds++[y]))),ab (W.d (.str j)),ab (W.d (.lst acc)),ab (W.d (.str z))],_,rfl,(dN c2).trans rfl,ab (W.d (.str z)),?_⟩;rw[bc zb,vq,qo]
    ·rw[cD zb]at c2;rw[a8 zb]at hacc ⊢;have nd':((ds++[y])++[z]).Nodup:=et.mpr ⟨nd,by simp,λa ha b hb e=>by rw[bQ.mp hb]at e;exact zb (e ▸ ha)⟩;have sb':∀w∈(ds++[y])++[z],w∈ac:=λw hw=>by
      rcases bT.mp hw with q|q
      ·exact sb w q
      ·rw[bQ.mp q];exact zn
     have ih:=Gv n8 n (ds++[y]) z (by omega) nd' sb' (by rw[bU (bs:=[z]),ft];omega);have ad:m2 ba (mV 1) (mN bx [(mV 4)]) [ab (W.dk (cX ac A ac)),ab (W.d (af (ds++[y]))),ab (W.d (.str j)),ab (W.d (.lst acc)),ab (W.d (.str z))]=.ok (af ((ds++[y])++[z])):=lZ (x:=ds++[y]) (y:=[z]) rfl (kn rfl) (by rw[ft];omega);refine⟨[ab (W.dk (cX ac A ac)),ab (W.d (af (ds++[y]))),ab (W.d (.str j)),ab (W.d (.lst acc)),ab (W.d (.str z))],[ab (W.dk (cX ac A ac)),ab (W.d (af (ds++[y]))),ab (W.d (.str j)),ab (W.d (.lst (acc++(rb ac A j n (ds++[y]) z).map af))),ab (W.d (.str z))],rfl,(fw c2).trans ?_,_,rfl⟩;unfold lb;rw[iG (x:=.dk (cX ac A ac)) (z:=.d (.str j)) rfl (bq ad) rfl ih,aH];show Rs.bind (Rs.ok acc) _=_;rw[aH];show bp (acc.length+((rb ac A j n (ds++[y]) z).map af).length<=16777216) _=_;rw[aX hacc];rfl)
  subst he;have it:bv (hW 0 (m2 az (mV 1) (m1 gW (mC (.int 1))))) [ab (W.dk (cX ac A ac)),ab (W.d (af (ds++[y]))),ab (W.d (.str j)),ab (W.d (.lst [])),ae]=.ok ((i7 ac A y).map D.str):=by refine dG (x:=af (i7 ac A y)) ?_ rfl;unfold hW;rw[ix,aH,show wV 0 [ab (W.dk (cX ac A ac)),ab (W.d (af (ds++[y]))),ab (W.d (.str j)),ab (W.d (.lst [])),ae]=.ok (W.dk (cX ac A ac))from rfl,aH];show Rs.bind (Rs.ok (fM (cX ac A ac) (.inr y:Ky))) c6=_;rw[Nk yn];rfl
  rw[aN ((fh it).trans f),mj,<- List.map_flatMap];rfl
end
end Mr
namespace Mr
open PySem Mi
open Vp
section
variable{ac:List Str}{A:List Ar}{j:Str}
theorem wy:∀(n:Nat) (ds:List Str) (y:Str),(ds++[y]).Nodup->(∀z∈ds++[y],z∈ac)->ac.length<n+(ds++[y]).length->∀r,r∈rb ac A j n ds y↔∃t,r=ds++y::t/\kF A y t j/\r.Nodup/\∀z∈t,z∈ac
 |0,ds,y,nd,sb,hl,r=>by
  have:=dJ nd sb;omega
 |n+1,ds,y,nd,sb,hl,r=>by
  have bl:=dJ nd sb;rw[rb];by_cases yj:y=j
  ·rw[bc yj,bQ];constructor
   ·intro e;exact⟨[],e,by rw[yj];exact .nil j,by rw[e];exact nd,λz hz=>nomatch hz⟩
   ·rintro⟨t,e,tk,rn,_⟩;rcases tk.fin with ⟨e2,_⟩|h
    ·rw[e,e2]
    ·exfalso;rw[e]at rn;have:=(et.mp rn).2.1;rw[iU]at this;exact this.1 (by rw[yj];exact h)
  ·rw[a8 yj,qm];constructor
   ·rintro⟨z,hz,h⟩;obtain⟨zn,zt⟩:=cC.mp hz;by_cases zb:z∈ds++[y]
    ·rw[bc zb]at h;cases h
    ·rw[a8 zb]at h;have nd':((ds++[y])++[z]).Nodup:=et.mpr ⟨nd,by simp,λa ha b hb e=>by rw[bQ.mp hb]at e;exact zb (e ▸ ha)⟩;have sb':∀w∈(ds++[y])++[z],w∈ac:=λw hw=>by
      rcases bT.mp hw with q|q
      ·exact sb w q
      ·rw[bQ.mp q];exact zn
     obtain⟨t,e,tk,rn,tn⟩:=(wy n (ds++[y]) z nd' sb' (by rw[bU (bs:=[z]),ft];omega) r).mp h;refine⟨z::t,by rw[e,jV];rfl,.cons zt tk,rn,λw hw=>?_⟩;rcases bB.mp hw with q|q
     ·rw[q];exact zn
     ·exact tn w q
   ·rintro⟨t,e,tk,rn,tn⟩;cases tk with
    |nil=>exact absurd rfl yj
    | @cons _ z _ t a tk=>
     have zn:z∈ac:=tn z cJ;have e2:r=(ds++[y])++z::t:=by rw[e,jV];rfl
     have zb:z∉ds++[y]:=λh=>by
      rw[e2]at rn;exact(et.mp rn).2.2 z h z cJ rfl
     refine⟨z,cC.mpr ⟨zn,a⟩,?_⟩;rw[a8 zb];have nd':((ds++[y])++[z]).Nodup:=et.mpr ⟨nd,by simp,λa ha b hb e=>by rw[bQ.mp hb]at e;exact zb (e ▸ ha)⟩;have sb':∀w∈(ds++[y])++[z],w∈ac:=λw hw=>by
      rcases bT.mp hw with q|q
      ·exact sb w q
      ·rw[bQ.mp q];exact zn
     exact(wy n (ds++[y]) z nd' sb' (by rw[bU (bs:=[z]),ft];omega) r).mpr ⟨t,e2,tk,rn,λw hw=>tn w (dR _ hw)⟩
theorem EJ{α β:Type}{f:α->List β}:∀{l:List α},l.Nodup->(∀x∈l,(f x).Nodup)->(∀x∈l,∀y∈l,∀b,b∈f x->b∈f y->x=y)->(l.flatMap f).Nodup
 |[],_,_,_=>by simp
 |x::r,nd,h1,h2=>by
  rw[iU]at nd;rw[lj];refine et.mpr ⟨h1 x cJ,EJ nd.2 (λy hy=>h1 y (dR _ hy)) (λy hy z hz=>h2 y (dR _ hy) z (dR _ hz)),λa ha b hb e=>?_⟩;subst e;obtain⟨y,hy,hb⟩:=qm.mp hb;have:=h2 x cJ y (dR _ hy) a ha hb;exact nd.1 (this ▸ hy)
theorem A6:∀(n:Nat) (ds:List Str) (y:Str) (r:List Str),r∈rb ac A j n ds y->∃t,r=ds++y::t
 |0,_,_,_,h=>by rw[rb]at h;cases h
 |n+1,ds,y,r,h=>by
  rw[rb]at h;split at h
  ·exact⟨[],bQ.mp h⟩
  ·obtain⟨z,_,h⟩:=qm.mp h;split at h
   ·cases h
   ·obtain⟨t,e⟩:=A6 n _ z r h;exact⟨z::t,by rw[e,jV];rfl⟩
theorem G8(nd:ac.Nodup):∀(n:Nat) (ds:List Str) (y:Str),(rb ac A j n ds y).Nodup
 |0,_,_=>by rw[rb];exact .nil
 |n+1,ds,y=>by
  rw[rb];split
  ·simp
  ·refine EJ (nd.sublist List.filter_sublist) (λz _=>?_) λx _ z _ b h1 h2=>?_
   ·split
    ·exact .nil
    ·exact G8 nd n _ z
   ·split at h1
    ·cases h1
    split at h2
    ·cases h2
    obtain⟨t1,e1⟩:=A6 n _ x b h1;obtain⟨t2,e2⟩:=A6 n _ z b h2;rw[e1]at e2;have:=JF e2;injection this
def SR(ac:List Str)(A:List Ar)(i j:Str)(r:List Str):Prop:=∃t,r=i::t/\kF A i t j/\r.Nodup/\∀z∈t,z∈ac
theorem LI(nd:ac.Nodup)(n8:ac.length<=8){i:Str}(hi:i∈ac)(hj:j∈ac)(ij:i≠j):∃Rs:List (List Str),q8 [.d (am ac A),.d (.str i),.d (.str j)]=.ok (.d (.lst (Rs.map af)))/\Rs.Nodup/\∀r,r∈Rs↔SR ac A i j r:=by
 have sb:∀z∈([]:List Str)++[i],z∈ac:=λz hz=>by rw[mj]at hz;rw[bQ.mp hz];exact hi
 have hb:=Gv (A:=A) (j:=j) n8 8 [] i (by decide) (by simp) sb (by simp;omega);refine⟨rb ac A j 8 [] i,?_,G8 nd 8 [] i,λr=>?_⟩
 ·unfold q8 FV;rw[rf];rw[show([ab (W.d (am ac A)),ab (W.d (.str i)),ab (W.d (.str j))]++cK (3-3) ae)=[ab (W.d (am ac A)),ab (W.d (.str i)),ab (W.d (.str j))]from rfl];have asks:=vf (ac:=ac) (asked:=[i,j]) (λx hx=>by
   rcases bB.mp hx with rfl|z
   ·exact hi
   ·rw[bQ.mp z];exact hj) (by simp[ij]) (by simp)
  rw[aN (e':=[ab (W.d (am ac A)),ab (W.d (.str i)),ab (W.d (.str j))]) (by unfold ej;rw[call2 (y:=.d (af [i,j])) (bq (aC rfl rfl (fY ac A))) (bq (jS rfl rfl)) asks];rfl)];have nw:ie oW [(wD (mV 0))] [ab (W.d (am ac A)),ab (W.d (.str i)),ab (W.d (.str j))]=.ok (.dk (cX ac A ac)):=by show oW [.d (am ac A)]=_;exact Q7 nd n8
  rw[c8 (bq (iG (y:=.d (af ([]++[i]))) nw (bq (kn rfl)) rfl hb))];rfl
 ·rw[wy 8 [] i (by simp) sb (by simp;omega) r];exact Iff.rfl
variable(ac A j) in
def SQ(r:List Str)(z:Str):Bool:=!decide (z∈r)&&(!decide (z=j)&&tie A (nth r (r.length-1)) z)
variable(ac A j) in
def gr(i:Str):Nat->List (List Str)
 |0=>[[i]]
 |k+1=>(gr i k).flatMap λr=>(ac.filter (SQ A j r)).map λz=>r++[z]
variable(ac A j) in
end
end Mr
namespace Mr
open PySem Mi
open Vp
section
variable{ac:List Str}{A:List Ar}{j:Str}
def dz(A:List Ar)(j:Str)(r:List Str)(z:Str):List (List Str):=if(decide (z=j)&&tie A (nth r (r.length-1)) z)=true then[r++[z]]else[]
end
end Mr
namespace Mr
open PySem Mi
open Vp
theorem D8{A:List Ar}:∀(t:List Str) (i:Str),(∀k,k+1<(i::t).length->tie A (nth (i::t) k) (nth (i::t) (k+1))=true)->kF A i t (nth (i::t) t.length)
 |[],i,_=>.nil i
 |z::t,i,h=>.cons (h 0 (by simp)) (D8 t z λk hk=>h (k+1) (by rw[cx];omega))
theorem kF.Pp{A:List Ar}{y w:Str}{t:List Str}(h:kF A y t w):∀k,k+1<(y::t).length->tie A (nth (y::t) k) (nth (y::t) (k+1))=true:=by
 induction h with
 |nil y=>intro k hk;simp at hk
 | @cons y z w t a _ ih=>
  intro k hk;cases k with
  |zero=>exact a
  |succ k=>exact ih k (by rw[cx]at hk;omega)
section
variable{ac:List Str}{A:List Ar}
theorem m7.hasB{ag:List Str}{x:Str}{way:List Str}(D0:m7 A ag x way){es:List Str}{z:Str}(e:way=es++[z])(hz:z∈ag):eM (ar A) (·∈ag) x:=by
 have up:∀(k:Nat) (u:Str),way[k]? = ab u->Up (ar A) x u:=λk=>by
  induction k with
  |zero=>
   intro u hu;obtain⟨r,e⟩:=D0.hd;rw[e]at hu;have:x=u:=by simpa using hu
   rw[this];exact .refl u
  |succ k ih=>
   intro u hu;have kl:=(cv.mp hu).1;have h0:way[k]? = ab (way[k]'(by omega)):=en _;exact(ih _ h0).trans (.step (D0.st k _ _ h0 hu) (.refl u))
 refine⟨z,hz,up es.length z ?_⟩;rw[e,kG (bK _),oN];rfl
theorem cY.sr{ag:List Str}{i j:Str}{ax:List Str}{ways:List (List Str)}(R:cY ac A ag i j ax ways):SR ac A i j ax:=by
 cases hr:ax with
 |nil=>have:=R.r2;rw[hr]at this;simp at this
 |cons x t=>
  have e0:x=i:=by have:=R.h0;rw[hr]at this;exact this
  subst e0;have el:nth (x::t) t.length=j:=by have:=R.hl;rw[hr]at this;exact this
  refine⟨t,rfl,?_,hr ▸ R.nd,λz hz=>R.sub z (by rw[hr];exact dR _ hz)⟩;rw[<- el];exact D8 t x λk hk=>by have:=R.td k (by rw[hr];exact hk);rw[hr]at this;exact this
theorem cY.mU(L:Lk ac A){ag:List Str}{i j:Str}{ax:List Str}{ways:List (List Str)}(R:cY ac A ag i j ax ways):mU ac A ag ax=true:=by
 unfold Mr.mU;rw[kI];intro t ht;obtain⟨k,hk,rfl⟩:=ve ht;cases hm:mt A (ee ax k)with
 |true=>
  rw[bc rfl];obtain⟨g,_,hg⟩:=R.wd;have mm:nth ax (k+1)∈meets A ax:=ce.mpr ⟨ee ax k,cC.mpr ⟨ht,hm⟩,rfl⟩;obtain⟨d1,_,es,z,ez,zh⟩:=hg _ mm;exact(pk L (R.sub _ (eS (mX (by omega))))).mpr (d1.hasB ez zh)
 |false=>
  rw[a8 cZ,mv,l7];exact R.ps k hk hm
theorem SR.ends{i j:Str}{r:List Str}(h:SR ac A i j r)(ij:i≠j)(hi:i∈ac):2<=r.length/\r.Nodup/\(∀x∈r,x∈ac)/\nth r 0=i/\nth r (r.length-1)=j/\∀k,k+1<r.length->tie A (nth r k) (nth r (k+1))=true:=by
 obtain⟨t,rfl,tk,nd,tn⟩:=h;refine⟨?_,nd,λx hx=>?_,rfl,tk.last,tk.Pp⟩
 ·cases t with
  |nil=>cases tk;exact absurd rfl ij
  |cons z t=>simp
 ·rcases bB.mp hx with e|e
  ·rw[e];exact hi
  ·exact tn x e
theorem Su(L:Lk ac A){S:List Str}{i j:Str}{r:List Str}(h:SR ac A i j r)(ij:i≠j)(hi:i∈ac)(ho:mU ac A S r=true):∃b,Vp.Wk (ar A) (·∈S) i (j,b):=by
 obtain⟨r2,nd,sb,h0,hl,td⟩:=h.ends ij hi;unfold mU at ho;rw[kI]at ho;have key:∀q,q+1<r.length->∃b,Vp.Wk (ar A) (·∈S) i (nth r (q+1),b)/\((b=true/\(nth r q,nth r (q+1))∈A)\/(b=false/\(nth r (q+1),nth r q)∈A)):=λq=>by
  induction q with
  |zero=>
   intro hq;have t0:=td 0 hq;rw[sn]at t0;rcases t0 with a|a
   ·refine⟨true,.base (.inl ⟨?_,rfl⟩),.inl ⟨rfl,a⟩⟩;rw[h0]at a;exact a
   ·refine⟨false,.base (.inr ⟨?_,rfl⟩),.inr ⟨rfl,a⟩⟩;rw[h0]at a;exact a
  |succ q ih=>
   intro hq;obtain⟨b,wk,fb⟩:=ih (by omega);have tq:=td (q+1) hq;rw[sn]at tq;have tm:ee r q∈tri r:=by rw[pA];exact ce.mpr ⟨q,gz.mpr (by omega),rfl⟩
   have o:=ho _ tm;cases hm:mt A (ee r q)with
   |true=>
    rw[hm,bc rfl]at o;unfold mt ee at hm;rw[gZ,dZ,dZ]at hm;obtain⟨m1,m2⟩:=hm;simp only at m1 m2;have hB:=(pk L (sb _ (eS (mX (by omega))))).mp o;have b1:b=true:=by
     rcases fb with f|f
     ·exact f.1
     ·exact(L.AV m1 f.2).elim
    subst b1;exact⟨false,.step wk (.inr ⟨.inl ⟨rfl,hB⟩,m2,rfl⟩),.inr ⟨rfl,m2⟩⟩
   |false=>
    rw[hm,a8 cZ,mv,l7]at o;rcases tq with a|a
    ·exact⟨true,.step wk (.inl ⟨o,a,rfl⟩),.inl ⟨rfl,a⟩⟩
    ·have b0:b=false:=by
      rcases fb with f|f
      ·exfalso;have:mt A (ee r q)=true:=by
        unfold mt ee;rw[gZ,dZ,dZ];exact⟨f.2,a⟩
       rw[this]at hm;cases hm
      ·exact f.1
     subst b0;exact⟨false,.step wk (.inr ⟨.inr ⟨rfl,o⟩,a,rfl⟩),.inr ⟨rfl,a⟩⟩
 obtain⟨b,wk,_⟩:=key (r.length-2) (by omega);rw[show r.length-2+1=r.length-1 by omega,hl]at wk;exact⟨b,wk⟩
theorem OP(L:Lk ac A){S:List Str}{i j:Str}(K:Ask ac i j S):iY A i j S=true↔∃r,SR ac A i j r/\mU ac A S r=true:=by
 constructor
 ·intro h;obtain⟨d,_,c⟩:=Nr L K;rcases c with ⟨z,_⟩|⟨_,ax,ways,_,R⟩
  ·rw[h]at z;cases z
  ·exact⟨ax,R.sr,R.mU L⟩
 ·rintro⟨r,hr,ho⟩;rw[rH,<- zQ (A:=ar A) (S:=(·∈S)) K.ij K.ni K.nj];exact Su L hr K.ij K.im ho
end
end Mr
namespace Mr
open PySem Mi
open Vp
open My (words fi fH)
noncomputable def joD (A:List Ar) (ag:List Str) (p:Ar):D:=.tup [.str p.1,.str p.2,yL A ag p.1 p.2,yL A ag p.2 p.1]
noncomputable def jns (A:List Ar) (ns ag:List Str):List D:=(prs ns).flatMap λp=>if joi A ns ag p.1 p.2=true then[joD A ag p]else[]
noncomputable def vlD (A:List Ar) (ns ag:List Str):D:=.tup [a7 ns,.tup (jns A ns ag)]
theorem Ee{A:List Ar}{ns ag:List Str}(h8:ns.length<=8):(jns A ns ag).length<=64:=by
 have:=uh (g:=λp:Ar=>if joi A ns ag p.1 p.2=true then[joD A ag p]else[]) (m:=1) (l:=prs ns) λp _=>by
  split
  ·exact bK _
  ·exact g9 _
 have:=FG h8;unfold jns;omega
section
variable{ac:List Str}{A:List Ar}{ns ag:List Str}(V:Vl ac A ns ag)
def d8(ac hidden ag:List Str):List Str:=ac.filter λx=>!decide (x∈hidden) && !decide (x∈ag)
theorem Sl{ac hidden ag:List Str}{ρ:List (Option Nat)}{a:E}{e:Mi.Env}(hn:ac.length<=8)(ha:bv a e=.ok (ac.map D.str))(hp:jw ρ e=[ab (W.d (af hidden)),ab (W.d (af ag)),ae]) :
 b8 ρ (bv a) (.n 2) (cE (cB (m2 cF (mV 2) (mV 0))) (cB (m2 cF (mV 2) (mV 1)))) (mV 2) e=.ok (af (d8 ac hidden ag)):=
 d5 ha (by rw[aO];omega) (by
  rw[hp];exact fe D.str D.str _ ac λx _=>⟨[ab (W.d (af hidden)),ab (W.d (af ag)),ab (W.d (.str x))],rfl,oo (bO (aC rfl rfl (j5 _ _))) λ_=>bO (aC rfl rfl (j5 _ _)),λ_=>rfl⟩)
theorem Ez{ac hidden ag:List Str}{A:List Ar}(hn:ac.length<=8)(h1:∀x∈hidden++ag,x∈ac)(h2:(hidden++ag).Nodup):pO [.d (am ac A),.d (af hidden),.d (af ag)]=.ok (.d (a7 (d8 ac hidden ag))):=by
 have hl:=dJ h2 h1;rw[bU]at hl;unfold pO Hs;rw[rh];rw[show([ab (W.d (am ac A)),ab (W.d (af hidden)),ab (W.d (af ag))]++cK (3-3) ae)=[ab (W.d (am ac A)),ab (W.d (af hidden)),ab (W.d (af ag))]from rfl];have l2:m2 ba (mN eP [(mV 1)]) (mN eP [(mV 2)]) [ab (W.d (am ac A)),ab (W.d (af hidden)),ab (W.d (af ag))]=.ok (af (hidden++ag)):=lZ ((eJ (x:=af hidden) rfl).trans rfl) ((eJ (x:=af ag) rfl).trans rfl) (by omega)
 rw[aN (e':=[ab (W.d (am ac A)),ab (W.d (af hidden)),ab (W.d (af ag))]) (by unfold ej;rw[call2 (bq (aC rfl rfl (fY ac A))) (bq l2) (vf h1 h2 (by rw[bU];omega))];rfl)];rw[c8 (bq ((eJ (Sl (ac:=ac) (hidden:=hidden) (ag:=ag) hn (dG (aC rfl rfl (fY ac A)) rfl) rfl)).trans rfl))];rfl
include V in
theorem SO:∃o5 o6,gI (.t [5,6]) (bu (cB (aL kA [(wD (mV 0)),(wD (mV 3)),(wD (mV 2)),(wD (mV 5)),(wD (mV 6))]))
 (cH 4 (mN dTup [(mV 5),(mV 6),(aL me [(wD (mV 0)),(wD (mV 2)),(wD (mV 5)),(wD (mV 6))]),(aL me [(wD (mV 0)),(wD (mV 2)),(wD (mV 6)),(wD (mV 5))])]))
 bI) ((prs ns).map pairD) [ab (W.d (am ac A)),ab (W.d H),ab (W.d (af ag)),ab (W.d (a7 ns)),ab (W.d (.lst [])),ae,ae]=.ok (.nx [ab (W.d (am ac A)),ab (W.d H),ab (W.d (af ag)),ab (W.d (a7 ns)),ab (W.d (.lst (jns A ns ag))),o5,o6]):=by
 have jl:=Ee (A:=A) (ag:=ag) V.nl;obtain⟨e',f,o5,o6,he⟩:=tG (tg:=.t [5,6]) (body:=(bu (cB (aL kA [(wD (mV 0)),(wD (mV 3)),(wD (mV 2)),(wD (mV 5)),(wD (mV 6))]))
 (cH 4 (mN dTup [(mV 5),(mV 6),(aL me [(wD (mV 0)),(wD (mV 2)),(wD (mV 5)),(wD (mV 6))]),(aL me [(wD (mV 0)),(wD (mV 2)),(wD (mV 6)),(wD (mV 5))])]))
 bI)) pairD (λp=>if joi A ns ag p.1 p.2=true then[joD A ag p]else[])
  (λacc e=>∃o5 o6:Option W,e=[ab (W.d (am ac A)),ab (W.d H),ab (W.d (af ag)),ab (W.d (a7 ns)),ab (W.d (.lst acc)),o5,o6]) (prs ns) [] [ab (W.d (am ac A)),ab (W.d H),ab (W.d (af ag)),ab (W.d (a7 ns)),ab (W.d (.lst [])),ae,ae] (by
   show 0+(jns A ns ag).length<=_;omega) ⟨ae,ae,rfl⟩
  (λp hp acc e hl ⟨o5,o6,he⟩=>by
   subst he;obtain⟨x,y⟩:=p;obtain⟨m1,m2⟩:=ND hp;have ne:=(Rh V.nn hp).2.2;have jo:=HL V m1 m2 ne;have e1:=G2 V m1 m2;have e2:=G2 V m2 m1;have ct:cB (aL kA [(wD (mV 0)),(wD (mV 3)),(wD (mV 2)),(wD (mV 5)),(wD (mV 6))]) [ab (W.d (am ac A)),ab (W.d H),ab (W.d (af ag)),ab (W.d (a7 ns)),ab (W.d (.lst acc)),ab (W.d (.str x)),ab (W.d (.str y))]=.ok (joi A ns ag x y):=bO (by
    show Rs.bind (kA [.d (am ac A),.d (a7 ns),.d (af ag),.d (.str x),.d (.str y)]) ma=_;rw[jo];rfl)
   cases hj:joi A ns ag x y with
   |false=>
    rw[hj]at ct;refine⟨[ab (W.d (am ac A)),ab (W.d H),ab (W.d (af ag)),ab (W.d (a7 ns)),ab (W.d (.lst acc)),ab (W.d (.str x)),ab (W.d (.str y))],_,rfl,(dN ct).trans rfl,ab (W.d (.str x)),ab (W.d (.str y)),?_⟩;rw[a8 cZ,qo]
   |true=>
    rw[hj]at ct;have hl:acc.length+(if joi A ns ag x y=true then[joD A ag (x,y)]else[]).length<=16777216:=hl;rw[hj,bc rfl,ft]at hl;refine⟨[ab (W.d (am ac A)),ab (W.d H),ab (W.d (af ag)),ab (W.d (a7 ns)),ab (W.d (.lst acc)),ab (W.d (.str x)),ab (W.d (.str y))],[ab (W.d (am ac A)),ab (W.d H),ab (W.d (af ag)),ab (W.d (a7 ns)),ab (W.d (.lst (acc++[joD A ag (x,y)]))),ab (W.d (.str x)),ab (W.d (.str y))],rfl,(fw ct).trans ?_,ab (W.d (.str x)),ab (W.d (.str y)),?_⟩
    ·rw[kB (d:=joD A ag (x,y)) (ds:=acc) ((Pl rfl rfl (tF rfl rfl rfl rfl e1) (tF rfl rfl rfl rfl e2)).trans (aX (by show(4:Nat)<=_;decide))) rfl (by omega)];rfl
    ·rw[bc rfl])
 subst he;exact⟨o5,o6,f⟩
include V in
end
structure r6(ac:List Str)(hidden ag:List Str):Prop where
 sub:∀x∈hidden++ag,x∈ac
 nd:(hidden++ag).Nodup
theorem r6.vl{ac hidden ag:List Str}{A:List Ar}(S:r6 ac hidden ag)(L:Lk ac A):Vl ac A (d8 ac hidden ag) ag:=by have nd:=et.mp S.nd;refine⟨L,λx hx=>S.sub x (dE _ hx),nd.2.1,λx hx=>(cC.mp hx).1,L.nd.filter _,λx hx=>?_⟩;have:=(cC.mp hx).2;simp only[gZ,mv,l7]at this;exact this.2
theorem Tu{ac hidden ag:List Str}{A:List Ar}(L:Lk ac A)(S:r6 ac hidden ag):tH [.d (am ac A),.d (af hidden),.d (af ag)]=.ok (.d (vlD A (d8 ac hidden ag) ag)):=by have V:=S.vl L;obtain⟨o5,o6,f⟩:=SO (H:=af hidden) V;unfold tH FX;rw[rh];rw[show([ab (W.d (am ac A)),ab (W.d (af hidden)),ab (W.d (af ag))]++cK (7-3) ae)=[ab (W.d (am ac A)),ab (W.d (af hidden)),ab (W.d (af ag)),ae,ae,ae,ae]from rfl];rw[aN (e':=[ab (W.d (am ac A)),ab (W.d (af hidden)),ab (W.d (af ag)),ab (W.d (a7 (d8 ac hidden ag))),ae,ae,ae]) (bL (iG rfl rfl rfl (Ez L.le S.sub S.nd)))];rw[aN (e':=[ab (W.d (am ac A)),ab (W.d (af hidden)),ab (W.d (af ag)),ab (W.d (a7 (d8 ac hidden ag))),ab (W.d (.lst [])),ae,ae]) (bL (jO _))];rw[aN ((fh (dG (IR rfl (Oa V.nl)) rfl)).trans f)];rw[c8 (bq (fA (x:=a7 (d8 ac hidden ag)) (y:=.tup (jns A (d8 ac hidden ag) ag)) rfl ((eJ (x:=.lst (jns A (d8 ac hidden ag) ag)) rfl).trans rfl)))];rfl
theorem RI{ac:List Str}{A:List Ar}(nd:ac.Nodup)(h8:ac.length<=8)(c:Int):∃hidden ag,qR [.d (am ac A),.d (.int c)]=.ok (.d (.lst [af hidden,af ag]))/\r6 ac hidden ag:=by
 obtain⟨w,hw0,hwk⟩ : ∃w:Int,0<w/\∀e:Mi.Env,e[1]? = ab (ab (W.d (.int c)))->m2 az (mN bx [(mC (.int 5)),(mC (.int 4)),(mC (.int 9))]) (m2 bY (mV 1) (mC (.int 3))) e=.ok (.int w):=by
  have r0:=j1 c (b:=3) (by decide);have r1:=j0 c (b:=3) (by decide);have hm:∀e:Mi.Env,e[1]? = ab (ab (W.d (.int c)))->m2 bY (mV 1) (mC (.int 3)) e=.ok (.int (c%3)):=λe h1=>aC (a:=mV 1) (x:=.int c) (by unfold mV;rw[h1]) rfl ((rO _ _).trans (aX (by decide)));have hl:∀e:Mi.Env,mN bx [(mC (.int 5)),(mC (.int 4)),(mC (.int 9))] e=.ok (.lst ([5,4,9].map D.int)):=λe=>by
   show bp (([5,4,9].map D.int).length<=16777216) _=_;exact aX (by simp)
  obtain⟨z,hz⟩ : ∃z,z=c%3:=⟨_,rfl⟩;rw[<- hz]at r0 r1 hm;have:z=0\/z=1\/z=2:=by omega
  rcases this with h|h|h<;>subst h
  ·exact⟨5,by decide,λe h1=>aC (hl e) (hm e h1) rfl⟩
  ·exact⟨4,by decide,λe h1=>aC (hl e) (hm e h1) rfl⟩
  ·exact⟨9,by decide,λe h1=>aC (hl e) (hm e h1) rfl⟩
 have way:∀(k:Nat) (e:Mi.Env),k<8->e[1]? = ab (ab (W.d (.int c)))->e[4]? = ab (ab (W.d (.int (k:Int))))->∃v:Int,m2 bY (m2 dP (m2 bY (m2 cI (mV 1) (m2 ba (mC (.int 48271)) (m2 cI (m2 cI (mC (.int 614)) (mV 4)) (mV 4)))) (mC (.int 2147483647))) (mC (.int 16))) (m2 az (mN bx [(mC (.int 5)),(mC (.int 4)),(mC (.int 9))]) (m2 bY (mV 1) (mC (.int 3)))) e=.ok (.int v):=λk e hk h1 h4=>by
  have v1:mV 1 e=.ok (.int c):=by unfold mV;rw[h1]
  have v4:mV 4 e=.ok (.int (k:Int)):=by unfold mV;rw[h4]
  have k1:614*(k:Int)*(k:Int)<614*64:=by have:(k:Int)*(k:Int)<=7*7:=Int.mul_le_mul (by omega) (by omega) (by omega) (by omega);rw[Int.mul_assoc];omega
  have k2:0<=614*(k:Int)*(k:Int):=Int.mul_nonneg (by omega) (by omega);refine⟨_,aC (aC (aC (aC v1 (aC rfl (aC (aC rfl v4 ((tZ _ _).trans (aX (kY (by decide) (by decide))))) v4 ((tZ _ _).trans (aX (vh (by omega) (by omega))))) (sV _ _)) ((tZ _ _).trans (aX (vh (by omega) (by omega))))) rfl ((rO _ _).trans (aX (by decide)))) rfl ((div_ii _ _).trans (aX (lM (by decide) (by decide))))) (hwk e h1) ((rO _ _).trans (aX hw0))⟩
 obtain⟨e',f,hid,hel,o4,o5,o6,he,s1,s2,n1⟩:=fQ (tg:=.t [4,5]) (body:=(aE (bh 6 (m2 bY (m2 dP (m2 bY (m2 cI (mV 1) (m2 ba (mC (.int 48271)) (m2 cI (m2 cI (mC (.int 614)) (mV 4)) (mV 4)))) (mC (.int 2147483647))) (mC (.int 16))) (m2 az (mN bx [(mC (.int 5)),(mC (.int 4)),(mC (.int 9))]) (m2 bY (mV 1) (mC (.int 3))))))
 (aE (bu (cB (m2 cy (mV 6) (mC (.int 0))))
 (cH 2 (mV 5))
 bI)
 (bu (cB (m2 cy (mV 6) (mC (.int 1))))
 (cH 3 (mV 5))
 bI))))
  (λn e=>∃(hid hel:List Str) (o4 o5 o6:Option W),e=[ab (W.d (am ac A)),ab (W.d (.int c)),ab (W.d (af hid)),ab (W.d (af hel)),o4,o5,o6]/\(∀x∈hid,x∈ac.take n)/\(∀x∈hel,x∈ac.take n)/\(hid++hel).Nodup) ((cu ac.length).map λk=>D.tup [.int (k:Nat),.str (nth ac k)]) 0 (λn d e hi ⟨hid,hel,o4,o5,o6,he,s1,s2,n1⟩=>by
   subst he;rw[da]at s1 s2 ⊢;rw[cS]at hi;obtain⟨k,hk,rfl⟩:=gR.mp hi;obtain⟨kl,ek⟩:=cv.mp hk;rw[vp]at kl;have ek:n=k:=by rw[Ch]at ek;exact ek
   subst ek;obtain⟨x,hx⟩ : ∃x,x=nth ac n:=⟨_,rfl⟩;have gx:ac[n]? = ab x:=by rw[hx];unfold nth;rw[fN,en kl];rfl
   have new:=u5 nd gx;have ts:=Ae gx;obtain⟨v,hv⟩:=way n [ab (W.d (am ac A)),ab (W.d (.int c)),ab (W.d (af hid)),ab (W.d (af hel)),ab (W.d (.int (n:Int))),ab (W.d (.str x)),o6] (by omega) rfl rfl;have ndl:=et.mp n1;have ll:(hid++hel).length<=8:=cU (dJ n1 λy hy=>by
    rcases bT.mp hy with z|z
    ·exact sA (s1 y z)
    ·exact sA (s2 y z)) h8
   rw[bU]at ll;have mono:∀y,y∈ac.take n->y∈ac.take (n+1):=λy hy=>by rw[ts];exact eo _ hy
   have here:x∈ac.take (n+1):=by rw[ts];exact dE _ (bQ.mpr rfl)
   have c0:cB (m2 cy (mV 6) (mC (.int 0))) [ab (W.d (am ac A)),ab (W.d (.int c)),ab (W.d (af hid)),ab (W.d (af hel)),ab (W.d (.int (n:Int))),ab (W.d (.str x)),ab (W.d (.int v))]=.ok (decide (v=0)):=bO (aC rfl rfl (tL _ _));have c1:∀hid,cB (m2 cy (mV 6) (mC (.int 1))) [ab (W.d (am ac A)),ab (W.d (.int c)),ab (W.d (af hid)),ab (W.d (af hel)),ab (W.d (.int (n:Int))),ab (W.d (.str x)),ab (W.d (.int v))]=.ok (decide (v=1)):=λ_=>bO (aC rfl rfl (tL _ _));have st6:=aN (t:=(aE (bu (cB (m2 cy (mV 6) (mC (.int 0)))) (cH 2 (mV 5)) bI) (bu (cB (m2 cy (mV 6) (mC (.int 1)))) (cH 3 (mV 5)) bI))) (e':=[ab (W.d (am ac A)),ab (W.d (.int c)),ab (W.d (af hid)),ab (W.d (af hel)),ab (W.d (.int (n:Int))),ab (W.d (.str x)),ab (W.d (.int v))]) (bL (i:=6) hv);by_cases v0:v=0
   ·rw[bP v0]at c0;have c1:=c1 (hid++[x]);rw[cD (by omega)]at c1;refine⟨[ab (W.d (am ac A)),ab (W.d (.int c)),ab (W.d (af hid)),ab (W.d (af hel)),ab (W.d (.int (n:Int))),ab (W.d (.str x)),o6],[ab (W.d (am ac A)),ab (W.d (.int c)),ab (W.d (af (hid++[x]))),ab (W.d (af hel)),ab (W.d (.int (n:Int))),ab (W.d (.str x)),ab (W.d (.int v))],by rw[hx];rfl,st6.trans ?_,hid++[x],hel,_,_,_,rfl,λy hy=>?_,λy hy=>mono y (s2 y hy),?_⟩
    ·rw[aN (e':=[ab (W.d (am ac A)),ab (W.d (.int c)),ab (W.d (af (hid++[x]))),ab (W.d (af hel)),ab (W.d (.int (n:Int))),ab (W.d (.str x)),ab (W.d (.int v))]) ((fw c0).trans (by
      rw[kB (d:=.str x) (ds:=hid.map D.str) rfl rfl (by rw[aO];omega),<- qI];rfl))]
     exact(dN c1).trans rfl
    ·rcases bT.mp hy with z|z
     ·exact mono y (s1 y z)
     ·rw[bQ.mp z];exact here
    ·rw[jV];refine et.mpr ⟨ndl.1,iU.mpr ⟨λz=>new (s2 x z),ndl.2.1⟩,λa ha b hb e=>?_⟩;rcases bB.mp hb with z|z
     ·exact new (by rw[<- z,<- e];exact s1 a ha)
     ·exact ndl.2.2 a ha b z e
   ·rw[cD v0]at c0;have c1:=c1 hid;by_cases v1:v=1
    ·rw[bP v1]at c1;refine⟨[ab (W.d (am ac A)),ab (W.d (.int c)),ab (W.d (af hid)),ab (W.d (af hel)),ab (W.d (.int (n:Int))),ab (W.d (.str x)),o6],[ab (W.d (am ac A)),ab (W.d (.int c)),ab (W.d (af hid)),ab (W.d (af (hel++[x]))),ab (W.d (.int (n:Int))),ab (W.d (.str x)),ab (W.d (.int v))],by rw[hx];rfl,st6.trans ?_,hid,hel++[x],_,_,_,rfl,λy hy=>mono y (s1 y hy),λy hy=>?_,?_⟩
     ·rw[aN ((dN c0).trans rfl)];refine(fw c1).trans ?_;rw[kB (d:=.str x) (ds:=hel.map D.str) rfl rfl (by rw[aO];omega),<- qI];rfl
     ·rcases bT.mp hy with z|z
      ·exact mono y (s2 y z)
      ·rw[bQ.mp z];exact here
     ·rw[<- jV];refine et.mpr ⟨n1,by simp,λa ha b hb e=>?_⟩;rw[bQ.mp hb]at e;subst e;rcases bT.mp ha with z|z
      ·exact new (s1 _ z)
      ·exact new (s2 _ z)
    ·rw[cD v1]at c1;refine⟨[ab (W.d (am ac A)),ab (W.d (.int c)),ab (W.d (af hid)),ab (W.d (af hel)),ab (W.d (.int (n:Int))),ab (W.d (.str x)),o6],[ab (W.d (am ac A)),ab (W.d (.int c)),ab (W.d (af hid)),ab (W.d (af hel)),ab (W.d (.int (n:Int))),ab (W.d (.str x)),ab (W.d (.int v))],by rw[hx];rfl,st6.trans ?_,hid,hel,_,_,_,rfl,λy hy=>mono y (s1 y hy),λy hy=>mono y (s2 y hy),n1⟩;rw[aN ((dN c0).trans rfl)];exact(dN c1).trans rfl) [ab (W.d (am ac A)),ab (W.d (.int c)),ab (W.d (af [])),ab (W.d (af [])),ae,ae,ae] ⟨[],[],ae,ae,ae,rfl,(by intro x h;cases h),(by intro x h;cases h),(by simp)⟩
 subst he;obtain⟨hd,hif,hpe⟩ : ∃hd:List Str,(bu (cB (m2 cy (m2 bY (m2 dP (mV 1) (mC (.int 3))) (mC (.int 2))) (mC (.int 1)))) (z0 2) bI) [ab (W.d (am ac A)),ab (W.d (.int c)),ab (W.d (af hid)),ab (W.d (af hel)),o4,o5,o6]=.ok (.nx [ab (W.d (am ac A)),ab (W.d (.int c)),ab (W.d (af hd)),ab (W.d (af hel)),o4,o5,o6])/\hd.Perm hid:=by
  have ct:cB (m2 cy (m2 bY (m2 dP (mV 1) (mC (.int 3))) (mC (.int 2))) (mC (.int 1))) [ab (W.d (am ac A)),ab (W.d (.int c)),ab (W.d (af hid)),ab (W.d (af hel)),o4,o5,o6]=.ok (decide (c/3%2=1)):=bO (aC (aC (aC rfl rfl ((div_ii _ _).trans (aX (lM (by decide) (by decide))))) rfl ((rO _ _).trans (aX (by decide)))) rfl (tL _ _))
  by_cases h:c/3%2=1
  ·rw[bP h]at ct;refine⟨hid.reverse,(fw ct).trans ?_,List.reverse_perm _⟩;show Rs.ok (Out.nx [_,_,ab (W.d (.lst (hid.map D.str).reverse)),_,_,_,_])=_;unfold af;rw[Ck]
  ·rw[cD h]at ct;exact⟨hid,(dN ct).trans rfl,List.Perm.refl _⟩
 refine⟨hd,hel,?_,λx hx=>?_,(hpe.append_right hel).nodup_iff.mpr n1⟩
 ·unfold qR DV;rw[jx];rw[show([ab (W.d (am ac A)),ab (W.d (.int c))]++cK (7-2) ae)=[ab (W.d (am ac A)),ab (W.d (.int c)),ae,ae,ae,ae,ae]from rfl];rw[aN (e':=[ab (W.d (am ac A)),ab (W.d (.int c)),ab (W.d (af [])),ae,ae,ae,ae]) (bL (jO _))];rw[aN (e':=[ab (W.d (am ac A)),ab (W.d (.int c)),ab (W.d (af [])),ab (W.d (af [])),ae,ae,ae]) (bL (jO _))];have hit:sd (m2 az (mV 0) (mC (.int 0))) [ab (W.d (am ac A)),ab (W.d (.int c)),ab (W.d (af [])),ab (W.d (af [])),ae,ae,ae]=.ok ((cu ac.length).map λk=>D.tup [.int (k:Nat),.str (nth ac k)]):=by
   rw[<- EF];unfold sd;rw[aC rfl rfl (fY ac A)];rfl
  rw[aN ((fh hit).trans f),aN hif];have rt:bw (wD (mN bx [(mV 2),(mV 3)])) [ab (W.d (am ac A)),ab (W.d (.int c)),ab (W.d (af hd)),ab (W.d (af hel)),o4,o5,o6]=.ok (.rt (.d (.lst [af hd,af hel]))):=c8 (bq (jS rfl rfl));unfold uX;rw[rt];rfl
 ·rcases bT.mp hx with z|z
  ·exact sA (s1 x (hpe.mem_iff.mp z))
  ·exact sA (s2 x z)
theorem RU(a b:List Str):ib (.lst [af a,af b]) (.lst [af a,af b])=.ok (.bl false):=by
 unfold ib;rw[aX (by
  rw[BP];show dW [D.lst (a.map D.str),D.lst (b.map D.str)]+1<=_;rw[xi,xi,BP,BP,NC,qX,qX];omega),bR,gY,gY,gY]
 show Rs.ok (D.bl (!(bR (.lst (a.map D.str)) (.lst (a.map D.str))&&(bR (.lst (b.map D.str)) (.lst (b.map D.str))&&true))))=_;rw[bR,bR,xf,xf,bP rfl,bP rfl];rfl
end Mr
namespace Mr
open PySem Mi
open Vp
def pR(A:List Ar)(hidden up:List Str)(r:List Str):Bool:=(tri r).all λt=>if mt A t=true then decide (t.2.1∈up)else decide (t.2.1∈hidden)
theorem uB{α:Type}(f:α->Bool):∀l:List α,ju (l.map λt=>D.bl (f t))=ab (l.map f)
 |[]=>rfl
 |x::r=>by rw[cP,cP,ju,uB f r];rfl
theorem RF{α:Type}(l:List α)(f:α->Bool):oZ [.lst (l.map λt=>D.bl (f t))]=.ok (.bl (l.all f)):=by rw[IQ,uB,m3,aH,xX];rfl
theorem NY{ac:List Str}{A:List Ar}{ax hidden up:List Str}(r2:2<=ax.length)(r8:ax.length<=8)(nd:ax.Nodup)(rs:∀x∈ax,x∈ac):sw [.d (am ac A),.d (af ax),.d (af hidden),.d (af up)]=.ok (.d (.bl (pR A hidden up ax))):=by
 unfold sw FK;rw[t8];rw[show([ab (W.d (am ac A)),ab (W.d (af ax)),ab (W.d (af hidden)),ab (W.d (af up))]++cK (5-4) ae)=[ab (W.d (am ac A)),ab (W.d (af ax)),ab (W.d (af hidden)),ab (W.d (af up)),ae]from rfl];rw[aN (e':=[ab (W.d (am ac A)),ab (W.d (af ax)),ab (W.d (af hidden)),ab (W.d (af up)),ab (W.d (af (meets A ax)))]) (bL (call2 rfl rfl (HM rs r8)))];have it:bv (d3 fW (mV 1) (ab (mC (.int 1))) (ab (m1 gW (mC (.int 1))))) [ab (W.d (am ac A)),ab (W.d (af ax)),ab (W.d (af hidden)),ab (W.d (af up)),ab (W.d (af (meets A ax)))]=.ok ((tri ax).map λt=>D.str t.2.1):=by refine dG (x:=af (mids ax)) ?_ (by unfold af mids;rw[dF];rfl);show Rs.ok (D.lst (iK (ax.map D.str) (ab 1) (ab (-1))))=_;rw[Ps r2];rfl
 have hc:dv (.n 3) dc (jN (cB (m2 bz (mV 3) (mV 0))) (m2 bz (mV 3) (mV 1)) (m2 bz (mV 3) (mV 2))) [ab (W.d (af (meets A ax))),ab (W.d (af up)),ab (W.d (af hidden)),ae] ((tri ax).map λt=>D.str t.2.1)=.ok ((tri ax).map λt=>D.bl (if mt A t=true then decide (t.2.1∈up)else decide (t.2.1∈hidden))):=by
  refine(fe (λt:mL=>D.str t.2.1) (λt=>D.bl (if mt A t=true then decide (t.2.1∈up)else decide (t.2.1∈hidden))) (λ_=>true) (tri ax) λt ht=>⟨[ab (W.d (af (meets A ax))),ab (W.d (af up)),ab (W.d (af hidden)),ab (W.d (.str t.2.1))],rfl,rfl,λ_=>?_⟩).trans (by rw[mi.mpr λ_ _=>rfl]);have ct:cB (m2 bz (mV 3) (mV 0)) [ab (W.d (af (meets A ax))),ab (W.d (af up)),ab (W.d (af hidden)),ab (W.d (.str t.2.1))]=.ok (mt A t):=by rw[<- in_meets nd ht];exact bO (aC rfl rfl (lC _ _))
  refine(uo ct (λ_=>aC rfl rfl (lC _ _)) λ_=>aC rfl rfl (lC _ _)).trans ?_;cases mt A t<;>rfl
 have al:mN oZ [(b8 [ab 4,ab 3,ab 2,ae] (bv (d3 fW (mV 1) (ab (mC (.int 1))) (ab (m1 gW (mC (.int 1)))))) (.n 3) dc (jN (cB (m2 bz (mV 3) (mV 0))) (m2 bz (mV 3) (mV 1)) (m2 bz (mV 3) (mV 2))))] [ab (W.d (am ac A)),ab (W.d (af ax)),ab (W.d (af hidden)),ab (W.d (af up)),ab (W.d (af (meets A ax)))]=.ok (.bl (pR A hidden up ax)):=by refine(eJ (d5 it (by rw[aO,A7];omega) hc)).trans ?_;exact RF (tri ax) _
 rw[c8 (bq al)];rfl
section
variable{ac:List Str}{A:List Ar}(L:Lk ac A){i j:Str}{S up:List Str}
include L in
theorem Rm{T:Str->Prop}(hT:∀z,z∈S->Hi (ar A) T z)(Ti:T i)(Tj:T j){r:List Str}(h:SR ac A i j r)(ij:i≠j)(hi:i∈ac)(ho:mU ac A S r=true):(∀k,k+2<r.length->mt A (ee r k)=true->Hi (ar A) T (nth r (k+1)))/\∀k,k+2<r.length->mt A (ee r k)=false->Hi (ar A) T (nth r (k+1)):=by
 obtain⟨r2,nd,sb,h0,hl,td⟩:=h.ends ij hi;unfold mU at ho;rw[kI]at ho;have tm:∀k,k+2<r.length->ee r k∈tri r:=λk hk=>by rw[pA];exact ce.mpr ⟨k,gz.mpr (by omega),rfl⟩
 have meet:∀k,k+2<r.length->mt A (ee r k)=true->Hi (ar A) T (nth r (k+1)):=λk hk hm=>by
  have o:=ho _ (tm k hk);rw[hm,bc rfl]at o;obtain⟨z,hz,u⟩:=(pk L (sb _ (eS (mX (by omega))))).mp o;obtain⟨w,hw,u2⟩:=hT z hz;exact⟨w,hw,u.trans u2⟩
 refine⟨meet,?_⟩;have mtI:∀k,(nth r k,nth r (k+1))∈A->(nth r (k+2),nth r (k+1))∈A->mt A (ee r k)=true:=λk a b=>by
  unfold mt ee;rw[gZ,dZ,dZ];exact⟨a,b⟩
 have right:∀n p,r.length=p+1+n->1<=n->(nth r p,nth r (p+1))∈A->Hi (ar A) T (nth r p):=λn=>by
  induction n with
  |zero=>intro p _ h1;omega
  |succ n ih=>
   intro p hp _ a;refine Hi.up a ?_;by_cases e:n=0
   ·have:nth r (p+1)=j:=by rw[<- hl];congr 1;omega
    rw[this];exact .of Tj
   ·have hk:p+2<r.length:=by omega
    cases hm:mt A (ee r p)with
    |true=>exact meet p hk hm
    |false=>
     have t:=td (p+1) (by omega);rw[sn]at t;rcases t with t|t
     ·exact ih (p+1) (by omega) (by omega) t
     ·rw[mtI p a t]at hm;cases hm
 have left:∀p,p+1<r.length->(nth r (p+1),nth r p)∈A->Hi (ar A) T (nth r (p+1)):=λp=>by
  induction p with
  |zero=>intro _ a;refine Hi.up a ?_;rw[h0];exact .of Ti
  |succ p ih=>
   intro hp a;refine Hi.up a ?_;cases hm:mt A (ee r p)with
   |true=>exact meet p (by omega) hm
   |false=>
    have t:=td p (by omega);rw[sn]at t;rcases t with t|t
    ·rw[mtI p t a]at hm;cases hm
    ·exact ih (by omega) t
 intro k hk hm;have t1:=td k (by omega);have t2:=td (k+1) (by omega);rw[sn]at t1 t2;rcases t2 with t2|t2
 ·exact right (r.length-(k+2)) (k+1) (by omega) (by omega) t2
 ·rcases t1 with t1|t1
  ·rw[mtI k t1 t2]at hm;cases hm
  ·exact left k (by omega) t1
end
theorem RX{ac hidden ag:List Str}{x:Str}:x∈d8 ac hidden ag↔x∈ac/\x∉hidden/\x∉ag:=by unfold d8;rw[cC,gZ,mv,mv,l7,l7]
theorem uP{A:List Ar}{ns ag:List Str}{i j z:Str}:z∈btw A ns ag i j↔z∈ns/\Hi (ar A) (·∈[i,j]++ag) z/\z≠i/\z≠j:=by unfold btw;rw[cC,gZ,pQ,mv,l7];simp only[bB,xU,or_false,not_or]
section
variable{ac:List Str}{A:List Ar}(L:Lk ac A){hidden ag:List Str}(Sp:r6 ac hidden ag){i j:Str}(hi:i∈d8 ac hidden ag)(hj:j∈d8 ac hidden ag)(ij:i≠j)
include L Sp hi hj ij
theorem Bi:Ask ac i j (btw A (d8 ac hidden ag) ag i j++ag):=by
 have V:=Sp.vl L;obtain⟨a1,a2⟩:=V.app (λz hz=>(uP (A:=A) (ag:=ag) (i:=i) (j:=j).mp hz).1) (V.nn.filter _);refine⟨V.sb i hi,V.sb j hj,ij,a1,a2,λh=>?_,λh=>?_⟩
 ·rcases bT.mp h with h|h
  ·exact(uP.mp h).2.2.1 rfl
  ·exact V.no i hi h
 ·rcases bT.mp h with h|h
  ·exact(uP.mp h).2.2.2 rfl
  ·exact V.no j hj h
theorem L0(hJ:joi A (d8 ac hidden ag) ag i j=true):∃r,SR ac A i j r/\pR A hidden (ovr ac A ([i,j]++ag)) r=true:=by
 have K:=Bi L Sp hi hj ij;obtain⟨r,hr,ho⟩:=(OP L K).mp hJ;have hr':=hr;obtain⟨r2,nd,sb,h0,hl,td⟩:=hr'.ends ij K.im;obtain⟨hm,hp⟩:=Rm L (T:=(·∈[i,j]++ag)) (λz hz=>by
  rcases bT.mp hz with z1|z1
  ·exact(uP.mp z1).2.1
  ·exact .of (dE _ z1)) (by simp) (by simp) hr ij K.im ho
 refine⟨r,hr,?_⟩;unfold pR;rw[kI];intro t ht;obtain⟨k,hk,rfl⟩:=ve ht;have xn:nth r (k+1)∈ac:=sb _ (eS (mX (by omega)));show(if mt A (ee r k)=true then decide (nth r (k+1)∈ovr ac A ([i,j]++ag))else decide (nth r (k+1)∈hidden))=true;cases h:mt A (ee r k)with
 |true=>rw[bc rfl,xt xn,pQ];exact hm k hk h
 |false=>
  rw[a8 cZ,dZ];have o:=(kI.mp (show(tri r).all _=true from ho)) _ ht;rw[h,a8 cZ,mv,l7]at o;refine nD λnh=>o (eo _ (uP.mpr ⟨RX.mpr ⟨xn,nh,λz=>o (dE _ z)⟩,hp k hk h,λe=>?_,λe=>?_⟩))
  ·rw[<- h0]at e;have:=nz nd (by omega) (by omega) e;omega
  ·rw[<- hl]at e;have:=nz nd (by omega) (by omega) e;omega
theorem PZ:∃d,uS [.d (am ac A),.d (af hidden),.d (af ag),.d (.str i),.d (.str j)]=.ok (.d d)/\((joi A (d8 ac hidden ag) ag i j=true/\∃r,d=.tup [.str "road",af r]/\SR ac A i j r/\pR A hidden (ovr ac A ([i,j]++ag)) r=true)\/(joi A (d8 ac hidden ag) ag i j=false/\d=.tup [.str "list", af (btw A (d8 ac hidden ag) ag i j)])):=by
 have V:=Sp.vl L;have hl8:=V.hl;have im:=V.sb i hi;have jm:=V.sb j hj;obtain⟨ns,hns⟩ : ∃ns,ns=d8 ac hidden ag:=⟨_,rfl⟩;have lo:=Ez (A:=A) L.le Sp.sub Sp.nd;have jo:=HL V hi hj ij;have bt:=FM V hi hj;rw[<- hns]at lo jo bt;have jr:=L0 L Sp hi hj ij;rw[<- hns]at jr hi hj ⊢;unfold uS D1;rw[EN];rw[show([ab (W.d (am ac A)),ab (W.d (af hidden)),ab (W.d (af ag)),ab (W.d (.str i)),ab (W.d (.str j))]++cK (8-5) ae)=[ab (W.d (am ac A)),ab (W.d (af hidden)),ab (W.d (af ag)),ab (W.d (.str i)),ab (W.d (.str j)),ae,ae,ae]from rfl];rw[aN (e':=[ab (W.d (am ac A)),ab (W.d (af hidden)),ab (W.d (af ag)),ab (W.d (.str i)),ab (W.d (.str j)),ab (W.d (a7 ns)),ae,ae]) (bL (iG rfl rfl rfl lo))];have asks:=vf (ac:=ns) (asked:=[i,j]) (λx hx=>by
  rcases bB.mp hx with rfl|z
  ·exact hi
  ·rw[bQ.mp z];exact hj) (by simp[ij]) (by simp)
 rw[aN (e':=[ab (W.d (am ac A)),ab (W.d (af hidden)),ab (W.d (af ag)),ab (W.d (.str i)),ab (W.d (.str j)),ab (W.d (a7 ns)),ae,ae]) (by unfold ej;rw[call2 (x:=.d (a7 ns)) (y:=.d (af [i,j])) rfl (bq (jS rfl rfl)) asks];rfl)];have ct:cB (aL kA [(wD (mV 0)),(wD (mV 5)),(wD (mV 2)),(wD (mV 3)),(wD (mV 4))]) [ab (W.d (am ac A)),ab (W.d (af hidden)),ab (W.d (af ag)),ab (W.d (.str i)),ab (W.d (.str j)),ab (W.d (a7 ns)),ae,ae]=.ok (joi A ns ag i j):=bO (y9 rfl rfl rfl rfl rfl jo);cases hJ:joi A ns ag i j with
 |false=>
  rw[hJ]at ct;refine⟨_,?_,.inr ⟨rfl,rfl⟩⟩;rw[aN ((dN ct).trans rfl),c8 (bq (fA rfl (y9 rfl rfl rfl rfl rfl bt)))];rfl
 |true=>
  rw[hJ]at ct;obtain⟨r0,hr0,hb0⟩:=jr hJ;obtain⟨Rs0,hall,qg,vL⟩:=LI (A:=A) L.nd L.le im jm ij;obtain⟨up,hup⟩ : ∃up,up=ovr ac A ([i,j]++ag):=⟨_,rfl⟩;rw[<- hup]at hb0 ⊢;have l2:m2 ba (mN bx [(mV 3),(mV 4)]) (mN eP [(mV 2)]) [ab (W.d (am ac A)),ab (W.d (af hidden)),ab (W.d (af ag)),ab (W.d (.str i)),ab (W.d (.str j)),ab (W.d (a7 ns)),ae,ae]=.ok (af ([i,j]++ag)):=
   lZ (jS rfl rfl) ((eJ (x:=af ag) rfl).trans rfl) (by simp only[cx,f7];omega)
  have ov:=Ag L (sy im) (some_:=[i,j]++ag) (λx hx=>by
   rcases bT.mp hx with z|z
   ·rcases bB.mp z with rfl|z
    ·exact im
    ·rw[bQ.mp z];exact jm
   ·exact V.hs x z) (by simp only[bU,cx,f7];omega)
  rw[<- hup]at ov;obtain⟨F,hF⟩ : ∃F,F=Rs0.filter λr=>pR A hidden up r:=⟨_,rfl⟩;have cp:b8 [ab 0,ab 1,ab 6,ae] (bv (aL q8 [(wD (mV 0)),(wD (mV 3)),(wD (mV 4))])) (.n 3) (cB (aL sw [(wD (mV 0)),(wD (mV 3)),(wD (mV 1)),(wD (mV 2))])) (mV 3) [ab (W.d (am ac A)),ab (W.d (af hidden)),ab (W.d (af ag)),ab (W.d (.str i)),ab (W.d (.str j)),ab (W.d (a7 ns)),ab (W.d (af up)),ae]=.ok (.lst (F.map af)):=by
   have rl:Rs0.length<=16777216:=by
    have h1:Rs0.length<=(rb ac A j 8 [] i).length:=dJ qg λr h=>by
     have sb:∀z∈([]:List Str)++[i],z∈ac:=λz hz=>by rw[mj]at hz;rw[bQ.mp hz];exact im
     exact(wy 8 [] i (by simp) sb (by have:=L.le;simp;omega) r).mpr ((vL r).mp h)
    exact cU h1 (cU (B8 L.le 8 [] i) (by decide))
   refine d5 (dG (iG rfl rfl rfl hall) rfl) (by rw[aO];exact rl) ?_;rw[hF];exact fe af af _ _ λr hr=>by
    obtain⟨r2,nd,sb,_⟩:=((vL r).mp hr).ends ij im;exact⟨[ab (W.d (am ac A)),ab (W.d (af hidden)),ab (W.d (af up)),ab (W.d (af r))],rfl,bO (tF rfl rfl rfl rfl (NY r2 (cU (dJ nd sb) L.le) nd sb)),λ_=>rfl⟩
  have mF:r0∈F:=by rw[hF];exact cC.mpr ⟨(vL r0).mpr hr0,hb0⟩
  cases hFc:F with
  |nil=>rw[hFc]at mF;cases mF
  |cons r q=>
   rw[hFc]at cp;have rF:r∈F:=by rw[hFc];exact cJ
   rw[hF]at rF;obtain⟨rR,rB⟩:=cC.mp rF;have rS:=(vL r).mp rR;obtain⟨t,er,_⟩:=rS;refine⟨.tup [.str "road", af r],?_,.inl ⟨rfl,r,rfl,(vL r).mp rR,rB⟩⟩;have ls:qE (m2 az (mV 7) (mC (.int 0))) [ab (W.d (am ac A)),ab (W.d (af hidden)),ab (W.d (af ag)),ab (W.d (.str i)),ab (W.d (.str j)),ab (W.d (a7 ns)),ab (W.d (af up)),ab (W.d (.lst ((r::q).map af)))]=.ok (af r):=by unfold qE;rw[show m2 az (mV 7) (mC (.int 0)) [ab (W.d (am ac A)),ab (W.d (af hidden)),ab (W.d (af ag)),ab (W.d (.str i)),ab (W.d (.str j)),ab (W.d (a7 ns)),ab (W.d (af up)),ab (W.d (.lst ((r::q).map af)))]=.ok (af r)from aC rfl rfl (by show c6 (dM (af r::q.map af) 0)=_;rw[at0];rfl),aH,er];rfl
   refine congrArg (λx=>Rs.bind x jD) (pz ((fw ct).trans ?_));rw[aN (e':=[ab (W.d (am ac A)),ab (W.d (af hidden)),ab (W.d (af ag)),ab (W.d (.str i)),ab (W.d (.str j)),ab (W.d (a7 ns)),ab (W.d (af up)),ae]) (bL (call2 rfl (bq l2) ov))];rw[aN (e':=[ab (W.d (am ac A)),ab (W.d (af hidden)),ab (W.d (af ag)),ab (W.d (.str i)),ab (W.d (.str j)),ab (W.d (a7 ns)),ab (W.d (af up)),ab (W.d (.lst ((r::q).map af)))]) (bL cp)];exact c8 (bq (fA rfl ls))
end
end Mr
namespace Mr
open PySem Mi
open Vp
open My (words fi fH)
section
variable{ac:List Str}{A:List Ar}{hidden ag:List Str}{i j:Str}
theorem OL(L:Lk ac A){met r:List Str}(hm:∀y∈ac,y∈ovr ac A ([i,j]++ag)->y∈met)(im:i∈ac)(ij:i≠j)(h:SR ac A i j r)(hb:pR A hidden (ovr ac A ([i,j]++ag)) r=true):sg [.d (am ac A),.d (af r),.d (.str i),.d (.str j),.d (af hidden),.d (af met)]=.ok (.d (.bl true)):=by
 obtain⟨r2,nd,sb,h0,hl,td⟩:=h.ends ij im;have r8:r.length<=8:=cU (dJ nd sb) L.le;have hlen:∀o,mN d6 [(mV 1)] [ab (W.d (am ac A)),ab (W.d (af r)),ab (W.d (.str i)),ab (W.d (.str j)),ab (W.d (af hidden)),ab (W.d (af met)),o]=.ok (.int (r.length:Int)):=λo=>(eJ (x:=af r) rfl).trans (by unfold af;rw[As,aO]);unfold sg Ei;rw[show du 6 7 _ [W.d (am ac A),W.d (af r),W.d (.str i),W.d (.str j),W.d (af hidden),W.d (af met)]=Rs.bind _ jD from aX rfl];rw[show([W.d (am ac A),W.d (af r),W.d (.str i),W.d (.str j),W.d (af hidden),W.d (af met)].map ab++cK (7 - [W.d (am ac A),W.d (af r),W.d (.str i),W.d (.str j),W.d (af hidden),W.d (af met)].length) ae)=[ab (W.d (am ac A)),ab (W.d (af r)),ab (W.d (.str i)),ab (W.d (.str j)),ab (W.d (af hidden)),ab (W.d (af met)),ae]from rfl];have c1:gA (fZ (cB (m1 (lJ ["list"]) (mV 1)))) (gA (cB (m2 gt (mN d6 [(mV 1)]) (mC (.int 2)))) (gA (cB (m2 ib (m2 az (mV 1) (mC (.int 0))) (mV 2))) (cB (m2 ib (m2 az (mV 1) (m1 gW (mC (.int 1)))) (mV 3))))) [ab (W.d (am ac A)),ab (W.d (af r)),ab (W.d (.str i)),ab (W.d (.str j)),ab (W.d (af hidden)),ab (W.d (af met)),ae]=.ok false:=by
  refine oX (p:=false) (q:=false) (uN (p:=true) rfl) λ_=>oX (p:=false) (q:=false) ?_ λ_=>oX (p:=false) (q:=false) ?_ λ_=>?_
  ·refine(bO (aC (hlen ae) rfl (w9 _ _))).trans ?_;rw[cD (by omega)]
  ·refine(bO (aC (rA (i:=0) rfl rfl rfl (by omega)) rfl (BH _ _))).trans ?_;rw[h0,bP rfl];rfl
  ·refine(bO (aC (aC rfl rfl (I0 (by omega))) rfl (BH _ _))).trans ?_;rw[hl,bP rfl];rfl
 rw[aN ((dN c1).trans rfl)];obtain⟨e',f,o6,he⟩:=fQ (tg:=.n 6) (body:=(aE (bu (gA (fZ (cB (m1 (lJ ["str"]) (m2 az (mV 1) (mV 6))))) (gA (cB (m2 cF (m2 az (mV 1) (mV 6)) (m2 az (mV 0) (mC (.int 0))))) (cB (m2 bz (m2 az (mV 1) (mV 6)) (d3 fW (mV 1) ae (ab (mV 6)))))))
 (bw (wD (mC (.bl false))))
 bI)
 (bu (cE (cB (m2 l0 (mV 6) (mC (.int 0)))) (fZ (cB (aL pi [(wD (mV 0)),(wD (m2 az (mV 1) (m2 gF (mV 6) (mC (.int 1))))),(wD (m2 az (mV 1) (mV 6)))]))))
 (bw (wD (mC (.bl false))))
 bI)))
  (λn e=>∃o6:Option W,e=[ab (W.d (am ac A)),ab (W.d (af r)),ab (W.d (.str i)),ab (W.d (.str j)),ab (W.d (af hidden)),ab (W.d (af met)),o6]) (dL 0 (r.length:Int)) 0 (λn y e hy ⟨o6,he⟩=>by
   subst he;obtain⟨hn,rfl⟩:=wb hy;refine⟨[ab (W.d (am ac A)),ab (W.d (af r)),ab (W.d (.str i)),ab (W.d (.str j)),ab (W.d (af hidden)),ab (W.d (af met)),ab (W.d (.int (n:Int)))],[ab (W.d (am ac A)),ab (W.d (af r)),ab (W.d (.str i)),ab (W.d (.str j)),ab (W.d (af hidden)),ab (W.d (af met)),ab (W.d (.int (n:Int)))],rfl,?_,_,rfl⟩;have x1:m2 az (mV 1) (mV 6) [ab (W.d (am ac A)),ab (W.d (af r)),ab (W.d (.str i)),ab (W.d (.str j)),ab (W.d (af hidden)),ab (W.d (af met)),ab (W.d (.int (n:Int)))]=.ok (.str (nth r n)):=rA rfl rfl rfl hn;have sl:d3 fW (mV 1) ae (ab (mV 6)) [ab (W.d (am ac A)),ab (W.d (af r)),ab (W.d (.str i)),ab (W.d (.str j)),ab (W.d (af hidden)),ab (W.d (af met)),ab (W.d (.int (n:Int)))]=.ok (af (r.take n)):=by show Rs.ok (D.lst (iK (r.map D.str) ae (ab (n:Int))))=_;rw[OX];unfold af;rw[List.map_take]
   have ct:gA (fZ (cB (m1 (lJ ["str"]) (m2 az (mV 1) (mV 6))))) (gA (cB (m2 cF (m2 az (mV 1) (mV 6)) (m2 az (mV 0) (mC (.int 0))))) (cB (m2 bz (m2 az (mV 1) (mV 6)) (d3 fW (mV 1) ae (ab (mV 6)))))) [ab (W.d (am ac A)),ab (W.d (af r)),ab (W.d (.str i)),ab (W.d (.str j)),ab (W.d (af hidden)),ab (W.d (af met)),ab (W.d (.int (n:Int)))]=.ok false:=by
    refine oX (p:=false) (q:=false) (uN (p:=true) (bO (b:=true) (by unfold m1;rw[x1];rfl))) λ_=>oX (p:=false) (q:=false) ?_ λ_=>?_
    ·refine(bO (aC x1 (aC rfl rfl (fY _ _)) (AQ _ _))).trans ?_;rw[bP (sb _ (eS (mX hn)))];rfl
    ·refine(bO (aC x1 sl (lC _ _))).trans ?_;rw[cD (R9 nd hn)]
   rw[aN ((dN ct).trans rfl)];have c3:cE (cB (m2 l0 (mV 6) (mC (.int 0)))) (fZ (cB (aL pi [(wD (mV 0)),(wD (m2 az (mV 1) (m2 gF (mV 6) (mC (.int 1))))),(wD (m2 az (mV 1) (mV 6)))]))) [ab (W.d (am ac A)),ab (W.d (af r)),ab (W.d (.str i)),ab (W.d (.str j)),ab (W.d (af hidden)),ab (W.d (af met)),ab (W.d (.int (n:Int)))]=.ok false:=by
    by_cases n0:n=0
    ·subst n0;exact oo (p:=false) (q:=false) rfl (λz=>by cases z)
    ·refine(oo (p:=true) (q:=false) ?_ λ_=>uN (p:=true) ?_).trans rfl
     ·refine(bO (aC rfl rfl (Fm _ _))).trans ?_;rw[bP (by omega)]
     ·have x0:m2 az (mV 1) (m2 gF (mV 6) (mC (.int 1))) [ab (W.d (am ac A)),ab (W.d (af r)),ab (W.d (.str i)),ab (W.d (.str j)),ab (W.d (af hidden)),ab (W.d (af met)),ab (W.d (.int (n:Int)))]=.ok (.str (nth r (n-1))):=rA rfl (aC rfl rfl rfl) (by omega) (by omega);refine(bO (iG rfl (bq x0) (bq x1) (M5 _ _))).trans ?_;have:=td (n-1) (by omega);rw[show n-1+1=n by omega]at this;rw[this]
   exact(dN c3).trans rfl) [ab (W.d (am ac A)),ab (W.d (af r)),ab (W.d (.str i)),ab (W.d (.str j)),ab (W.d (af hidden)),ab (W.d (af met)),ae] ⟨ae,rfl⟩
 subst he;rw[aN ((fh (jT (hlen ae) (pe r.length r8))).trans f)];obtain⟨e',f2,p6,he⟩:=fQ (tg:=.n 6) (body:=(bu (cE (cB (m2 bz (mN dTup [(m2 az (mV 1) (m2 gF (mV 6) (mC (.int 1)))),(m2 az (mV 1) (mV 6))]) (m2 az (mV 0) (mC (.int 1))))) (cB (m2 bz (mN dTup [(m2 az (mV 1) (m2 ba (mV 6) (mC (.int 1)))),(m2 az (mV 1) (mV 6))]) (m2 az (mV 0) (mC (.int 1))))))
 (bu (cB (m2 cF (m2 az (mV 1) (mV 6)) (mV 5)))
 (bw (wD (mC (.bl false))))
 bI)
 (bu (cB (m2 cF (m2 az (mV 1) (mV 6)) (mV 4)))
 (bw (wD (mC (.bl false))))
 bI)))
  (λn e=>∃o6:Option W,e=[ab (W.d (am ac A)),ab (W.d (af r)),ab (W.d (.str i)),ab (W.d (.str j)),ab (W.d (af hidden)),ab (W.d (af met)),o6]) ((cu (r.length-2)).map λ(k:Nat)=>D.int (1+(k:Int))) 0 (λn y e hy ⟨o6,he⟩=>by
   subst he;rw[cS]at hy;obtain⟨k,hk,rfl⟩:=gR.mp hy;have hk:=gz.mp (eS hk);refine⟨_,[ab (W.d (am ac A)),ab (W.d (af r)),ab (W.d (.str i)),ab (W.d (.str j)),ab (W.d (af hidden)),ab (W.d (af met)),ab (W.d (.int (1+(k:Int))))],rfl,?_,_,rfl⟩;have x0:m2 az (mV 1) (m2 gF (mV 6) (mC (.int 1))) [ab (W.d (am ac A)),ab (W.d (af r)),ab (W.d (.str i)),ab (W.d (.str j)),ab (W.d (af hidden)),ab (W.d (af met)),ab (W.d (.int (1+(k:Int))))]=.ok (.str (nth r k)):=rA rfl (aC rfl rfl rfl) (by omega) (by omega);have x1:m2 az (mV 1) (mV 6) [ab (W.d (am ac A)),ab (W.d (af r)),ab (W.d (.str i)),ab (W.d (.str j)),ab (W.d (af hidden)),ab (W.d (af met)),ab (W.d (.int (1+(k:Int))))]=.ok (.str (nth r (k+1))):=rA rfl rfl (by omega) (by omega);have x2:m2 az (mV 1) (m2 ba (mV 6) (mC (.int 1))) [ab (W.d (am ac A)),ab (W.d (af r)),ab (W.d (.str i)),ab (W.d (.str j)),ab (W.d (af hidden)),ab (W.d (af met)),ab (W.d (.int (1+(k:Int))))]=.ok (.str (nth r (k+2))):=rA rfl (aC rfl rfl rfl) (by omega) (by omega);have ct:cE (cB (m2 bz (mN dTup [(m2 az (mV 1) (m2 gF (mV 6) (mC (.int 1)))),(m2 az (mV 1) (mV 6))]) (m2 az (mV 0) (mC (.int 1))))) (cB (m2 bz (mN dTup [(m2 az (mV 1) (m2 ba (mV 6) (mC (.int 1)))),(m2 az (mV 1) (mV 6))]) (m2 az (mV 0) (mC (.int 1))))) [ab (W.d (am ac A)),ab (W.d (af r)),ab (W.d (.str i)),ab (W.d (.str j)),ab (W.d (af hidden)),ab (W.d (af met)),ab (W.d (.int (1+(k:Int))))]=.ok (mt A (ee r k)):=
    oo (bO ((aC (fA x0 x1) (aC rfl rfl (jp _ _)) rfl).trans (oz A (nth r k,nth r (k+1))))) λ_=>bO ((aC (fA x2 x1) (aC rfl rfl (jp _ _)) rfl).trans (oz A (nth r (k+2),nth r (k+1))))
   have b:=(kI.mp hb) (ee r k) (by rw[pA];exact ce.mpr ⟨k,gz.mpr hk,rfl⟩);cases hmt:mt A (ee r k)with
   |true=>
    rw[hmt]at ct;rw[hmt,bc rfl,dZ]at b;have xm:=hm _ (sb _ (eS (mX (show k+1<r.length by omega)))) b;have c2:cB (m2 cF (m2 az (mV 1) (mV 6)) (mV 5)) [ab (W.d (am ac A)),ab (W.d (af r)),ab (W.d (.str i)),ab (W.d (.str j)),ab (W.d (af hidden)),ab (W.d (af met)),ab (W.d (.int (1+(k:Int))))]=.ok false:=(bO (aC x1 rfl (j5 _ _))).trans (by rw[bP xm];rfl);exact(fw ct).trans ((dN c2).trans rfl)
   |false=>
    rw[hmt]at ct;rw[hmt,a8 cZ,dZ]at b;have b:nth r (k+1)∈hidden:=b;have c2:cB (m2 cF (m2 az (mV 1) (mV 6)) (mV 4)) [ab (W.d (am ac A)),ab (W.d (af r)),ab (W.d (.str i)),ab (W.d (.str j)),ab (W.d (af hidden)),ab (W.d (af met)),ab (W.d (.int (1+(k:Int))))]=.ok false:=(bO (aC x1 rfl (j5 _ _))).trans (by rw[bP b];rfl);exact(dN ct).trans ((dN c2).trans rfl)) [ab (W.d (am ac A)),ab (W.d (af r)),ab (W.d (.str i)),ab (W.d (.str j)),ab (W.d (af hidden)),ab (W.d (af met)),o6] ⟨o6,rfl⟩
 subst he;have it:uW (mC (.int 1)) (m2 gF (mN d6 [(mV 1)]) (mC (.int 1))) [ab (W.d (am ac A)),ab (W.d (af r)),ab (W.d (.str i)),ab (W.d (.str j)),ab (W.d (af hidden)),ab (W.d (af met)),o6]=.ok ((cu (r.length-2)).map λ(k:Nat)=>D.int (1+(k:Int))):=by rw[<- QS];exact NZ rfl (aC (hlen o6) rfl rfl) ⟨qA (by decide) (by decide),qA (by omega) (by omega)⟩
 rw[aN ((fh it).trans f2)];rw[c8 (bq rfl)];rfl
end
theorem xz:∀xs:List Str,A.iI (xs.map D.str)=true
 |[]=>rfl
 |x::r=>by rw[cP,A.iI,xz r];rfl
theorem EC:∀xs:List Ar,A.iI (xs.map pairD)=true
 |[]=>rfl
 |x::r=>by rw[cP,A.iI,EC r];rfl
theorem Om(ac:List Str)(A:List Ar):_root_.A.ir (am ac A)=true:=by unfold am a7 eZ;rw[A.ir,A.iI,A.ir,A.iI,A.ir,xz,EC];rfl
theorem R7(a b:List Str):BG (.lst [af a,af b])=true:=by show(A.iI (a.map D.str)&&(A.iI (b.map D.str)&&true))=true;rw[xz,xz];rfl
theorem Mw{A:List Ar}{ns ag:List Str}{i j:Str}:btw A ns ag i j=btw A ns ag j i:=by
 unfold btw;refine JN λz _=>?_;have e1:hiB A ([i,j]++ag) z=hiB A ([j,i]++ag) z:=by
  rw[jZ,pQ,pQ];have:∀(a b:Str),Hi (ar A) (·∈[a,b]++ag) z->Hi (ar A) (·∈[b,a]++ag) z:=λa b ⟨y,hy,u⟩=>⟨y,by
   simp only[qk,mj,bB]at hy ⊢;rcases hy with h|h|h
   ·exact .inr (.inl h)
   ·exact .inl h
   ·exact .inr (.inr h),u⟩
  exact⟨this i j,this j i⟩
 rw[e1]
 congr 2
 rw[decide_eq_decide];simp only[bB,xU,or_false];exact Or.comm
section
variable{ac:List Str}{A:List Ar}(L:Lk ac A){hidden ag:List Str}(Sp:r6 ac hidden ag){i j:Str}(hi:i∈d8 ac hidden ag)(hj:j∈d8 ac hidden ag)(ij:i≠j)
include L Sp hi hj ij
theorem Nb:joi A (d8 ac hidden ag) ag i j=joi A (d8 ac hidden ag) ag j i:=by have K:=Bi L Sp hi hj ij;unfold joi;rw[N2 K.ni K.nj,Mw]
theorem L4(o3:D)(ho3:o3=.tup [.str i,.str j]):nr [.d (am ac A),.d (af hidden),.d (af ag),.d o3,.d (.bl (joi A (d8 ac hidden ag) ag i j))]=.ok (.d (.bl true)):=by
 have V:=Sp.vl L;have hl8:=V.hl;have im:=V.sb i hi;have jm:=V.sb j hj;have h8:hidden.length<=8:=cU (dJ (et.mp Sp.nd).1 λx h=>Sp.sub x (eo _ h)) L.le;have kZ:([i,j]++ag).Nodup:=by
  refine et.mpr ⟨by simp[ij],V.hn,λa ha b hb e=>?_⟩;subst e;rcases bB.mp ha with rfl|z
  ·exact V.no _ hi hb
  ·rw[bQ.mp z]at hb;exact V.no j hj hb
 obtain⟨met,hh,_,mh⟩:=Et L.nt (some_:=[i,j]++ag) kZ (λx hx=>by
  rcases bT.mp hx with z|z
  ·rcases bB.mp z with rfl|z
   ·exact im
   ·rw[bQ.mp z];exact jm
  ·exact V.hs x z)
 obtain⟨d,hd,c⟩:=PZ L Sp hi hj ij;obtain⟨J,hJ⟩ : ∃J,J=joi A (d8 ac hidden ag) ag i j:=⟨_,rfl⟩;rw[<- hJ];rw[<- hJ]at c;obtain⟨NT,hNT⟩ : ∃NT,NT=am ac A:=⟨_,rfl⟩;have nN:_root_.A.ir NT=true:=by rw[hNT];exact Om ac A
 unfold nr I9;rw[EN,<- hNT];rw[show([ab (W.d NT),ab (W.d (af hidden)),ab (W.d (af ag)),ab (W.d o3),ab (W.d (.bl J))]++cK (13-5) ae)=[ab (W.d NT),ab (W.d (af hidden)),ab (W.d (af ag)),ab (W.d o3),ab (W.d (.bl J)),ae,ae,ae,ae,ae,ae,ae,ae]from rfl];rw[aN (e':=[ab (W.d NT),ab (W.d (af hidden)),ab (W.d (af ag)),ab (W.d o3),ab (W.d (.bl J)),ab (W.d (.str i)),ab (W.d (.str j)),ae,ae,ae,ae,ae,ae]) (by rw[ho3];rfl)];have l2:m2 ba (mN bx [(mV 5),(mV 6)]) (mV 2) [ab (W.d NT),ab (W.d (af hidden)),ab (W.d (af ag)),ab (W.d o3),ab (W.d (.bl J)),ab (W.d (.str i)),ab (W.d (.str j)),ae,ae,ae,ae,ae,ae]=.ok (af ([i,j]++ag)):=
  lZ (jS rfl rfl) rfl (by simp only[cx,f7];omega)
 rw[<- hNT]at hh hd;rw[aN (e':=[ab (W.d NT),ab (W.d (af hidden)),ab (W.d (af ag)),ab (W.d o3),ab (W.d (.bl J)),ab (W.d (.str i)),ab (W.d (.str j)),ab (W.d (af met)),ae,ae,ae,ae,ae]) (bL (call2 rfl (bq l2) hh))];have mk:mN bx [(mN eP [(mV 1)]),(mN eP [(mV 2)])] [ab (W.d NT),ab (W.d (af hidden)),ab (W.d (af ag)),ab (W.d o3),ab (W.d (.bl J)),ab (W.d (.str i)),ab (W.d (.str j)),ab (W.d (af met)),ae,ae,ae,ae,ae]=.ok (.lst [af hidden,af ag]):=jS ((eJ (x:=af hidden) rfl).trans rfl) ((eJ (x:=af ag) rfl).trans rfl);have rs:lX [0,5,6] 8 (.lst [af hidden,af ag]) ([ab (W.d NT),ab (W.d (af hidden)),ab (W.d (af ag)),ab (W.d o3),ab (W.d (.bl J)),ab (W.d (.str i)),ab (W.d (.str j)),ab (W.d (af met)),ae,ae,ae,ae,ae].set 8 (ab (W.d (.lst [af hidden,af ag]))))=[ab (W.d NT),ae,ae,ae,ae,ab (W.d (.str i)),ab (W.d (.str j)),ae,ab (W.d (.lst [af hidden,af ag])),ae,ae,ae,ae]:=by show[(if _root_.A.ir NT=true then ab (W.d NT)else ae),ae,ae,ae,ae,ab (W.d (.str i)),ab (W.d (.str j)),ae,ab (W.d (.lst [af hidden,af ag])),ae,ae,ae,ae]=_;rw[bc nN]
 have ar:dm [(wD (mV 0)),(wD (m2 az (mV 8) (mC (.int 0)))),(wD (m2 az (mV 8) (mC (.int 1)))),(wD (mV 5)),(wD (mV 6))] [ab (W.d NT),ae,ae,ae,ae,ab (W.d (.str i)),ab (W.d (.str j)),ae,ab (W.d (.lst [af hidden,af ag])),ae,ae,ae,ae]=.ok [.d NT,.d (af hidden),.d (af ag),.d (.str i),.d (.str j)]:=rfl;unfold zF;rw[mk,aH,aX ⟨R7 hidden ag,yr rfl,yr rfl⟩,rs,ar,aH,hd,aH,show ma (.d d)=.ok d from rfl,aH];rw[show(([ab (W.d NT),ab (W.d (af hidden)),ab (W.d (af ag)),ab (W.d o3),ab (W.d (.bl J)),ab (W.d (.str i)),ab (W.d (.str j)),ab (W.d (af met)),ae,ae,ae,ae,ae].set 8 (ab (W.d (.lst [af hidden,af ag])))).set 9 (ab (W.d d)))=[ab (W.d NT),ab (W.d (af hidden)),ab (W.d (af ag)),ab (W.d o3),ab (W.d (.bl J)),ab (W.d (.str i)),ab (W.d (.str j)),ab (W.d (af met)),ab (W.d (.lst [af hidden,af ag])),ab (W.d d),ae,ae,ae]from rfl];have shp:∃s x,d=.tup [.str s,af x]:=by
  rcases c with ⟨_,r,e,_⟩|⟨_,e⟩
  ·exact⟨_,_,e⟩
  ·exact⟨_,_,e⟩
 have c1:gA (fZ (cB (m1 (lJ ["tuple"]) (mV 9)))) (gA (cB (m2 ib (mN d6 [(mV 9)]) (mC (.int 2)))) (cB (m2 ib (mV 8) (mN bx [(mV 1),(mV 2)])))) [ab (W.d NT),ab (W.d (af hidden)),ab (W.d (af ag)),ab (W.d o3),ab (W.d (.bl J)),ab (W.d (.str i)),ab (W.d (.str j)),ab (W.d (af met)),ab (W.d (.lst [af hidden,af ag])),ab (W.d d),ae,ae,ae]=.ok false:=by obtain⟨s,x,e⟩:=shp;refine oX (p:=false) (q:=false) (uN (p:=true) (by rw[e];rfl)) λ_=>oX (p:=false) (q:=false) (by rw[e];rfl) λ_=>?_;exact bO (aC rfl (jS rfl rfl) (RU hidden ag))
 rw[c1,aH,a8 cZ];have tt:B7 d=true:=by obtain⟨s,x,e⟩:=shp;rw[e];rfl
 have cj:dQ (mV 4) [ab (W.d NT),ab (W.d (af hidden)),ab (W.d (af ag)),ab (W.d o3),ab (W.d (.bl J)),ab (W.d (.str i)),ab (W.d (.str j)),ab (W.d (af met)),ab (W.d (.lst [af hidden,af ag])),ab (W.d d),ae,ae,ae]=.ok J:=Pd rfl;have fin:∀(b:Bool) (o11 o12:Option W),Rs.bind (Rs.bind (Rs.ok (Out.nx [ab (W.d NT),ab (W.d (af hidden)),ab (W.d (af ag)),ab (W.d o3),ab (W.d (.bl b)),ab (W.d (.str i)),ab (W.d (.str j)),ab (W.d (af met)),ab (W.d (.lst [af hidden,af ag])),ab (W.d d),ab (W.d (.bl true)),o11,o12])) (Jm 10 d)) jD=.ok (.d (.bl true)):=λb o11 o12=>by
  have h:Bh d (ab (ab (W.d (.bl true))))=Rs.ok (Out.rt (W.d (.bl true))):=by show(if true=true then bp (B7 d=true) (Rs.ok (Out.rt (W.d (.bl true))))else Rs.ok (Out.rt (W.d (.bl true))))=_;rw[bc rfl,aX tt]
  exact(congrArg (λx=>Rs.bind x jD) h).trans rfl
 rcases c with ⟨hJ1,r,e,hr,hb⟩|⟨hJ0,e⟩
 ·rw[hJ1]at cj ⊢;have lr:=OL L (hidden:=hidden) (ag:=ag) (met:=met) (λy yn hy=>(mh y).mpr (pQ.mp (by rw[<- xt yn];exact bP hy))) im ij hr hb;rw[<- hNT]at lr;have g:ko (m2 cy (m2 az (mV 9) (mC (.int 0))) (mC (.str "road"))) (aL sg [(wD (mV 0)),(wD (m2 az (mV 9) (mC (.int 1)))),(wD (mV 5)),(wD (mV 6)),(wD (mV 1)),(wD (mV 7))]) [ab (W.d NT),ab (W.d (af hidden)),ab (W.d (af ag)),ab (W.d o3),ab (W.d (.bl true)),ab (W.d (.str i)),ab (W.d (.str j)),ab (W.d (af met)),ab (W.d (.lst [af hidden,af ag])),ab (W.d d),ae,ae,ae]=.ok (.bl true):=by
   refine uC (p:=true) (q:=true) ?_ λ_=>?_
   ·refine(aC (x:=.str "road") (y:=.str "road") (aC rfl rfl (by rw[e];rfl)) rfl (ny _ _)).trans ?_;rw[bP rfl]
   ·have w1:wD (m2 az (mV 9) (mC (.int 1))) [ab (W.d NT),ab (W.d (af hidden)),ab (W.d (af ag)),ab (W.d o3),ab (W.d (.bl true)),ab (W.d (.str i)),ab (W.d (.str j)),ab (W.d (af met)),ab (W.d (.lst [af hidden,af ag])),ab (W.d d),ae,ae,ae]=.ok (.d (af r)):=bq (aC rfl rfl (by rw[e];rfl));unfold aL ie;rw[show dm [(wD (mV 0)),(wD (m2 az (mV 9) (mC (.int 1)))),(wD (mV 5)),(wD (mV 6)),(wD (mV 1)),(wD (mV 7))] [ab (W.d NT),ab (W.d (af hidden)),ab (W.d (af ag)),ab (W.d o3),ab (W.d (.bl true)),ab (W.d (.str i)),ab (W.d (.str j)),ab (W.d (af met)),ab (W.d (.lst [af hidden,af ag])),ab (W.d d),ae,ae,ae]=.ok [.d NT,.d (af r),.d (.str i),.d (.str j),.d (af hidden),.d (af met)]by
     rw[dm,show wD (mV 0) _=.ok (.d NT)from rfl,aH,dm,w1];rfl,aH,lr];rfl
  rw[fw cj,bL g];exact fin true ae ae
 ·rw[hJ0]at cj ⊢;obtain⟨B,hB⟩ : ∃B,B=btw A (d8 ac hidden ag) ag i j:=⟨_,rfl⟩;rw[<- hB]at e;have Bl:B.length<=8:=by rw[hB];exact cU (lh _ _) V.nl
  have K:=Bi L Sp hi hj ij;rw[<- hB]at K;have pt:=Qb L K.im K.jm K.ij K.hs K.nd K.ni K.nj;have cf:iY A i j (B++ag)=false:=by rw[hB];rw[hJ]at hJ0;exact hJ0
  rw[cf,<- hNT]at pt;have gn:m2 ba (m2 ba (mV 1) (mV 2)) (mN bx [(mV 5),(mV 6)]) [ab (W.d NT),ab (W.d (af hidden)),ab (W.d (af ag)),ab (W.d o3),ab (W.d (.bl false)),ab (W.d (.str i)),ab (W.d (.str j)),ab (W.d (af met)),ab (W.d (.lst [af hidden,af ag])),ab (W.d d),ae,ae,ae]=.ok (af ((hidden++ag)++[i,j])):=
   lZ (lZ rfl rfl (by omega)) (jS rfl rfl) (by rw[bU];simp only[cx,f7];omega)
  have due:b8 [ab 7,ab 11,ae] (bv (m2 az (mV 0) (mC (.int 0)))) (.n 2) (cE (cB (m2 bz (mV 2) (mV 0))) (cB (m2 cF (mV 2) (mV 1)))) (mV 2) [ab (W.d NT),ab (W.d (af hidden)),ab (W.d (af ag)),ab (W.d o3),ab (W.d (.bl false)),ab (W.d (.str i)),ab (W.d (.str j)),ab (W.d (af met)),ab (W.d (.lst [af hidden,af ag])),ab (W.d d),ae,ab (W.d (af ((hidden++ag)++[i,j]))),ae]=.ok (af B):=by
   have hc:dv (.n 2) (cE (cB (m2 bz (mV 2) (mV 0))) (cB (m2 cF (mV 2) (mV 1)))) (mV 2) [ab (W.d (af met)),ab (W.d (af ((hidden++ag)++[i,j]))),ae] (ac.map D.str)=.ok ((ac.filter λz=>decide (z∈met) && !decide (z∈(hidden++ag)++[i,j])).map D.str):=fe D.str D.str _ _ λz _=>⟨[ab (W.d (af met)),ab (W.d (af ((hidden++ag)++[i,j]))),ab (W.d (.str z))],rfl,oo (bO (aC rfl rfl (lC _ _))) λ_=>bO (aC rfl rfl (j5 _ _)),λ_=>rfl⟩
   refine(d5 (dG (aC rfl rfl (by rw[hNT];exact fY _ _)) rfl) (by rw[aO];have:=L.le;omega) hc).trans ?_;have:(ac.filter λz=>decide (z∈met) && !decide (z∈(hidden++ag)++[i,j]))=B:=by
    rw[hB];unfold btw d8;rw[List.filter_filter];refine JN λz _=>?_;rw[show decide (z∈met)=hiB A ([i,j]++ag) z by rw[jZ,dZ,pQ];exact mh z];rw[show decide (z∈(hidden++ag)++[i,j])=((decide (z∈hidden)||decide (z∈ag))||decide (z∈[i,j]))by
     rw[jZ,vA,vA,dZ,dZ,dZ,dZ,bT,bT]]
    cases hiB A ([i,j]++ag) z<;>cases decide (z∈hidden)<;>cases decide (z∈ag)<;>cases decide (z∈[i,j])<;>rfl
   rw[this];rfl
  have g1:ko (m2 cy (m2 az (mV 9) (mC (.int 0))) (mC (.str "list"))) (ko (m1 (lJ ["list"]) (m2 az (mV 9) (mC (.int 1)))) (m2 cy (m2 az (mV 9) (mC (.int 1))) (mV 12))) [ab (W.d NT),ab (W.d (af hidden)),ab (W.d (af ag)),ab (W.d o3),ab (W.d (.bl false)),ab (W.d (.str i)),ab (W.d (.str j)),ab (W.d (af met)),ab (W.d (.lst [af hidden,af ag])),ab (W.d d),ae,ab (W.d (af ((hidden++ag)++[i,j]))),ab (W.d (af B))]=.ok (.bl true):=by
   have x1:m2 az (mV 9) (mC (.int 1)) [ab (W.d NT),ab (W.d (af hidden)),ab (W.d (af ag)),ab (W.d o3),ab (W.d (.bl false)),ab (W.d (.str i)),ab (W.d (.str j)),ab (W.d (af met)),ab (W.d (.lst [af hidden,af ag])),ab (W.d d),ae,ab (W.d (af ((hidden++ag)++[i,j]))),ab (W.d (af B))]=.ok (af B):=aC rfl rfl (by rw[e];rfl);refine uC (p:=true) (q:=true) ?_ λ_=>uC (p:=true) (q:=true) ?_ λ_=>?_
   ·refine(aC (x:=.str "list") (y:=.str "list") (aC rfl rfl (by rw[e];rfl)) rfl (ny _ _)).trans ?_;rw[bP rfl]
   ·unfold m1;rw[x1];rfl
   ·refine(aC x1 rfl (OE B B)).trans ?_;rw[bP rfl]
  have g2:ko (mV 10) (aL rE [(wD (mV 0)),(wD (mV 5)),(wD (mV 6)),(wD (m2 ba (mV 12) (mV 2)))]) [ab (W.d NT),ab (W.d (af hidden)),ab (W.d (af ag)),ab (W.d o3),ab (W.d (.bl false)),ab (W.d (.str i)),ab (W.d (.str j)),ab (W.d (af met)),ab (W.d (.lst [af hidden,af ag])),ab (W.d d),ab (W.d (.bl true)),ab (W.d (af ((hidden++ag)++[i,j]))),ab (W.d (af B))]=.ok (.bl true):=uC (p:=true) (q:=true) rfl λ_=>tF rfl rfl rfl (bq (lZ (x:=B) (y:=ag) rfl rfl (by omega))) pt
  rw[dN cj];rw[aN (e':=[ab (W.d NT),ab (W.d (af hidden)),ab (W.d (af ag)),ab (W.d o3),ab (W.d (.bl false)),ab (W.d (.str i)),ab (W.d (.str j)),ab (W.d (af met)),ab (W.d (.lst [af hidden,af ag])),ab (W.d d),ae,ab (W.d (af ((hidden++ag)++[i,j]))),ae]) (bL gn)];rw[aN (e':=[ab (W.d NT),ab (W.d (af hidden)),ab (W.d (af ag)),ab (W.d o3),ab (W.d (.bl false)),ab (W.d (.str i)),ab (W.d (.str j)),ab (W.d (af met)),ab (W.d (.lst [af hidden,af ag])),ab (W.d d),ae,ab (W.d (af ((hidden++ag)++[i,j]))),ab (W.d (af B))]) (bL due)];rw[aN (e':=[ab (W.d NT),ab (W.d (af hidden)),ab (W.d (af ag)),ab (W.d o3),ab (W.d (.bl false)),ab (W.d (.str i)),ab (W.d (.str j)),ab (W.d (af met)),ab (W.d (.lst [af hidden,af ag])),ab (W.d d),ab (W.d (.bl true)),ab (W.d (af ((hidden++ag)++[i,j]))),ab (W.d (af B))]) (bL g1)];rw[bL g2];exact fin false (ab (W.d (af ((hidden++ag)++[i,j])))) (ab (W.d (af B)))
end
end Mr
namespace Mr
open PySem Mi
open Vp
open My (words fi fH)
theorem Gs(xs:List Ar)(p:Ar):bz (pairD p) (.lst (xs.map pairD))=.ok (.bl (decide (p∈xs))):=by show bp _ _=_;rw[aX (by have:=BC xs;omega),Fx]
theorem E9{α β:Type}(p:α->Bool)(f:α->β):∀l:List α,(l.flatMap λx=>if p x=true then[f x]else[])=(l.filter p).map f
 |[]=>rfl
 |x::r=>by
  rw[lj,E9 p f r,List.filter_cons];split<;>rfl
theorem Jw(ns:List Int)(hl:ns.length<=63):At [.d (.lst (ns.map D.int))]=.ok (.d (.bl true)):=by
 obtain⟨ac,A0,r,yM,IN,cw,mw,hm8,hnm⟩:=QL ns 7 (by decide) (by decide);rw[show((7:Nat):Int)=7 from rfl]at yM;have hw:∀x∈ac,vc [.d (.str x)]=.ok (.d (.bl true)):=λx hx=>by
  rw[hnm]at hx;obtain⟨l,hl,rfl⟩:=ce.mp hx;exact Mk (fH cw mw hm8 l hl)
 have G:=IN.gd hw;generalize A0.map (arrOf ac)=A at yM G;have L:=G.lk;obtain⟨c,hc⟩:=qF ns 33 (by decide);rw[show((33:Nat):Int)=33 from rfl]at hc;obtain⟨hid,hel,hsp,S⟩:=RI (A:=A) G.nd G.le c;have v1:=Tu L S;obtain⟨vs,hvs⟩ : ∃vs,vs=d8 ac hid hel:=⟨_,rfl⟩;have V:=S.vl L;have vl:=V.nl;rw[<- hvs]at vl;obtain⟨Q,hQ⟩ : ∃Q,Q=(prs vs).filter λp=>joi A vs hel p.1 p.2:=⟨_,rfl⟩;have jQ:jns A vs hel=Q.map (joD A hel):=by unfold jns;rw[hQ,E9 (λp:Ar=>joi A vs hel p.1 p.2) (joD A hel)]
 have ql:Q.length<=64:=by have:=Ee (A:=A) (ns:=vs) (ag:=hel) vl;rw[jQ,aO]at this;exact this
 rw[<- hvs]at v1;unfold vlD at v1;rw[jQ]at v1;obtain⟨Ls,hLs⟩ : ∃Ls,Ls=D.lst (ns.map D.int):=⟨_,rfl⟩;rw[<- hLs]at yM hc ⊢;obtain⟨VD,hVD⟩ : ∃VD,VD=D.tup [a7 vs,.tup (Q.map (joD A hel))]:=⟨_,rfl⟩;rw[<- hVD]at v1;obtain⟨P,hP⟩ : ∃P,P=D.lst (Q.map pairD):=⟨_,rfl⟩;have jn:∀i∈vs,∀j∈vs,i≠j->(decide ((i,j)∈Q)||decide ((j,i)∈Q))=joi A vs hel i j:=λi hi j hj ij=>by
  have cm:joi A vs hel i j=joi A vs hel j i:=by rw[hvs]at hi hj ⊢;exact Nb L S hi hj ij
  rw[jZ,vA,dZ,dZ,hQ,cC,cC];constructor
  ·rintro(h|h)
   ·exact h.2
   ·rw[cm];exact h.2
  ·intro h;rcases Nl hi hj ij with z|z
   ·exact .inl ⟨z,h⟩
   ·exact .inr ⟨z,by rw[<- cm];exact h⟩
 have inner:∀i∈vs,∀o7 o8:Option W,∃p7 p8,gI (.n 7) (bu (cB (m2 ib (mV 6) (mV 7)))
 (aE (bh 8 (jE (m2 bz (mN dTup [(mV 6),(mV 7)]) (mV 5)) (m2 bz (mN dTup [(mV 7),(mV 6)]) (mV 5))))
 (bu (fZ (cB (aL nr [(wD (mV 1)),(wD (mV 2)),(wD (mV 3)),(wD (mN dTup [(mV 6),(mV 7)])),(wD (mV 8))])))
 (bw (wD (mC (.bl false))))
 bI))
 bI) (vs.map D.str) [ab (W.d Ls),ab (W.d (am ac A)),ab (W.d (af hid)),ab (W.d (af hel)),ab (W.d VD),ab (W.d P),ab (W.d (.str i)),o7,o8]=.ok (.nx [ab (W.d Ls),ab (W.d (am ac A)),ab (W.d (af hid)),ab (W.d (af hel)),ab (W.d VD),ab (W.d P),ab (W.d (.str i)),p7,p8]):=λi hi o7 o8=>by
  obtain⟨e',f,p7,p8,he⟩:=fQ (tg:=.n 7) (body:=(bu (cB (m2 ib (mV 6) (mV 7)))
 (aE (bh 8 (jE (m2 bz (mN dTup [(mV 6),(mV 7)]) (mV 5)) (m2 bz (mN dTup [(mV 7),(mV 6)]) (mV 5))))
 (bu (fZ (cB (aL nr [(wD (mV 1)),(wD (mV 2)),(wD (mV 3)),(wD (mN dTup [(mV 6),(mV 7)])),(wD (mV 8))])))
 (bw (wD (mC (.bl false))))
 bI))
 bI))
   (λn e=>∃o7 o8:Option W,e=[ab (W.d Ls),ab (W.d (am ac A)),ab (W.d (af hid)),ab (W.d (af hel)),ab (W.d VD),ab (W.d P),ab (W.d (.str i)),o7,o8]) (vs.map D.str) 0 (λn x e hx ⟨o7,o8,he⟩=>by
    subst he;rw[cS]at hx;obtain⟨j,hj,rfl⟩:=gR.mp hx;have hj:=eS hj;have ct:cB (m2 ib (mV 6) (mV 7)) [ab (W.d Ls),ab (W.d (am ac A)),ab (W.d (af hid)),ab (W.d (af hel)),ab (W.d VD),ab (W.d P),ab (W.d (.str i)),ab (W.d (.str j)),o8]=.ok (!decide (i=j)):=bO (aC rfl rfl (BH _ _));by_cases ij:i=j
    ·rw[bP ij]at ct;exact⟨_,_,rfl,(dN ct).trans rfl,_,_,rfl⟩
    ·rw[cD ij]at ct;have pp:=L4 L S (hvs ▸ hi) (hvs ▸ hj) ij _ rfl;rw[<- hvs,<- jn i hi j hj ij]at pp;have jo:jE (m2 bz (mN dTup [(mV 6),(mV 7)]) (mV 5)) (m2 bz (mN dTup [(mV 7),(mV 6)]) (mV 5)) [ab (W.d Ls),ab (W.d (am ac A)),ab (W.d (af hid)),ab (W.d (af hel)),ab (W.d VD),ab (W.d P),ab (W.d (.str i)),ab (W.d (.str j)),o8]=.ok (.bl (decide ((i,j)∈Q)||decide ((j,i)∈Q))):=
      Iz ((aC (y:=P) (fA rfl rfl) rfl rfl).trans (by rw[hP];exact Gs Q (i,j))) λ_=>(aC (y:=P) (fA rfl rfl) rfl rfl).trans (by rw[hP];exact Gs Q (j,i))
     refine⟨_,[ab (W.d Ls),ab (W.d (am ac A)),ab (W.d (af hid)),ab (W.d (af hel)),ab (W.d VD),ab (W.d P),ab (W.d (.str i)),ab (W.d (.str j)),ab (W.d (.bl (decide ((i,j)∈Q)||decide ((j,i)∈Q))))],rfl,(fw ct).trans ((aN (bL jo)).trans ?_),_,_,rfl⟩;have c2:fZ (cB (aL nr [(wD (mV 1)),(wD (mV 2)),(wD (mV 3)),(wD (mN dTup [(mV 6),(mV 7)])),(wD (mV 8))])) [ab (W.d Ls),ab (W.d (am ac A)),ab (W.d (af hid)),ab (W.d (af hel)),ab (W.d VD),ab (W.d P),ab (W.d (.str i)),ab (W.d (.str j)),ab (W.d (.bl (decide ((i,j)∈Q)||decide ((j,i)∈Q))))]=.ok false:=uN (p:=true) (bO (y9 rfl rfl rfl (bq (fA rfl rfl)) rfl pp));exact(dN c2).trans rfl) [ab (W.d Ls),ab (W.d (am ac A)),ab (W.d (af hid)),ab (W.d (af hel)),ab (W.d VD),ab (W.d P),ab (W.d (.str i)),o7,o8] ⟨o7,o8,rfl⟩
  subst he;exact⟨p7,p8,f⟩
 have v0:∀rr:List (Option W),bv (m2 az (mV 4) (mC (.int 0))) (ab (W.d Ls)::ab (W.d (am ac A))::ab (W.d (af hid))::ab (W.d (af hel))::ab (W.d VD)::rr)=.ok (vs.map D.str):=λrr=>dG (x:=a7 vs) (aC rfl rfl (by rw[hVD];rfl)) rfl;obtain⟨e',f,o6,o7,o8,he⟩:=fQ (tg:=.n 6) (body:=(cQ (bv (m2 az (mV 4) (mC (.int 0)))) (.n 7)
 (bu (cB (m2 ib (mV 6) (mV 7)))
 (aE (bh 8 (jE (m2 bz (mN dTup [(mV 6),(mV 7)]) (mV 5)) (m2 bz (mN dTup [(mV 7),(mV 6)]) (mV 5))))
 (bu (fZ (cB (aL nr [(wD (mV 1)),(wD (mV 2)),(wD (mV 3)),(wD (mN dTup [(mV 6),(mV 7)])),(wD (mV 8))])))
 (bw (wD (mC (.bl false))))
 bI))
 bI)))
  (λn e=>∃o6 o7 o8:Option W,e=[ab (W.d Ls),ab (W.d (am ac A)),ab (W.d (af hid)),ab (W.d (af hel)),ab (W.d VD),ab (W.d P),o6,o7,o8]) (vs.map D.str) 0 (λn x e hx ⟨o6,o7,o8,he⟩=>by
   subst he;rw[cS]at hx;obtain⟨i,hi,rfl⟩:=gR.mp hx;obtain⟨p7,p8,g⟩:=inner i (eS hi) o7 o8;exact⟨[ab (W.d Ls),ab (W.d (am ac A)),ab (W.d (af hid)),ab (W.d (af hel)),ab (W.d VD),ab (W.d P),ab (W.d (.str i)),o7,o8],_,rfl,(fh (v0 _)).trans g,_,_,_,rfl⟩) [ab (W.d Ls),ab (W.d (am ac A)),ab (W.d (af hid)),ab (W.d (af hel)),ab (W.d VD),ab (W.d P),ae,ae,ae] ⟨ae,ae,ae,rfl⟩
 subst he;unfold At Ef;rw[AB];rw[show([ab (W.d Ls)]++cK (9-1) ae)=[ab (W.d Ls),ae,ae,ae,ae,ae,ae,ae,ae]from rfl];rw[aN (e':=[ab (W.d Ls),ab (W.d (am ac A)),ae,ae,ae,ae,ae,ae,ae]) (bL (call2 rfl rfl yM))];have s3:wZ [2,3] (aL qR [(wD (mV 1)),(wD (aL ii [(wD (mV 0)),(wD (mC (.int 33)))]))]) [ab (W.d Ls),ab (W.d (am ac A)),ae,ae,ae,ae,ae,ae,ae]=.ok (.nx [ab (W.d Ls),ab (W.d (am ac A)),ab (W.d (af hid)),ab (W.d (af hel)),ae,ae,ae,ae,ae]):=by unfold wZ;rw[call2 (x:=.d (am ac A)) (y:=.d (.int c)) rfl (bq (call2 rfl rfl hc)) hsp];rfl
 rw[aN s3];rw[aN (e':=[ab (W.d Ls),ab (W.d (am ac A)),ab (W.d (af hid)),ab (W.d (af hel)),ab (W.d VD),ae,ae,ae,ae]) (bL (iG rfl rfl rfl v1))];have cp:b8 [ae] (bv (m2 az (mV 4) (mC (.int 1)))) (.n 0) dc (mN dTup [(m2 az (mV 0) (mC (.int 0))),(m2 az (mV 0) (mC (.int 1)))]) [ab (W.d Ls),ab (W.d (am ac A)),ab (W.d (af hid)),ab (W.d (af hel)),ab (W.d VD),ae,ae,ae,ae]=.ok P:=by rw[hP];refine d5 (dG (x:=.tup (Q.map (joD A hel))) (aC rfl rfl (by rw[hVD];rfl)) rfl) (by rw[aO];omega) ?_;refine(fe (joD A hel) pairD (λ_=>true) Q λp _=>⟨[ab (W.d (joD A hel p))],rfl,rfl,λ_=>fA (x:=.str p.1) (y:=.str p.2) (aC rfl rfl rfl) (aC rfl rfl rfl)⟩).trans ?_;rw[mi.mpr λ_ _=>rfl]
 rw[aN (e':=[ab (W.d Ls),ab (W.d (am ac A)),ab (W.d (af hid)),ab (W.d (af hel)),ab (W.d VD),ab (W.d P),ae,ae,ae]) (bL cp)];rw[aN ((fh (v0 _)).trans f)];rw[c8 (bq rfl)];rfl
end Mr
namespace qy
open PySem L2 PyProof.Rows
abbrev cN:ai:=150
abbrev tN:ai:=146
instance T5:A.bS:=⟨[(tN,wR "spots_before")],λc=>0⟩
theorem walk{l:Cw}{q:bG}{loose:List Str}{XP:(Str->Option aj)->aZ->Prop}{YP:bi->aZ->Prop}{d:DefRec}{K:Params->aU}(hn:l.most=ab 63)(hdf:d.params.defaults=[])
 (hY:∀(w:bi) (h:aZ),YP w h->(K w.params).In h) (hL:∀w:bi,EI (K w.params)=true) (hK:∀w:bi,(K w.params).lookup tN=ae) (hrec:∃d,(recsOf q).find? (λe=>e.name==("spots_before" : Str))=ab d) (htab:∀w:bi,PySem.W.tabIn (K w.params) "spots_before" = ab (cN,tN))
 (F:∀(w:bi) (mg:Str->Option aj) (fa:ai) (h:aZ),(K w.params).In h->h.Ns mainGlobals mg->mg d.name=ab (.ref fa) ->
  ∃fd:bJ,(∀(s:aB) (u:aj),nC s fd ⟨[u],[]⟩ [("_law_script",u)])/\∀base:aZ,(K w.params).In base->base.Ns mainGlobals mg->BM mg base->jX base cN tN->bH l.prog w (K w.params) mg base aF 15 fa fd ["_law_script"] A.uR) :
 PySem.W.WalkO q loose XP YP l.row.toRowW d [] (λf vs=>CC f vs):=
 L2.SJ (x := "_law_script") (dn := "spots_before") (qn:=wR "spots_before") (k:=15) rfl hn hdf ⟨rfl,by decide,by decide⟩ hY (λw a o e c=>PR (hL w) e c) hK hrec htab F
theorem RE{K:aU}{h:aZ}{mg:Str->Option aj}(X:K.In h)(G:h.Ns mainGlobals mg)(Du:f8 K mainGlobals "len" = ab ae)(Dv:f8 K mainGlobals "range" = ab ae)(Dw:f8 K mainGlobals "max" = ab ae)(Dx:f8 K mainGlobals "min" = ab ae)(Dy:f8 K mainGlobals "tuple" = ab ae)(Dz:f8 K mainGlobals "list" = ab ae)(DA:f8 K mainGlobals "isinstance" = ab ae)(DB:f8 K mainGlobals "all" = ab ae)(DC:f8 K mainGlobals "any" = ab ae)(DD:f8 K mainGlobals "bool" = ab ae)(DE:f8 K mainGlobals "str" = ab ae)(DF:f8 K mainGlobals "int" = ab ae)(DG:f8 K mainGlobals "zip" = ab ae)(DH:f8 K mainGlobals "enumerate" = ab ae)(DI:f8 K mainGlobals "sorted" = ab ae)(DJ:f8 K mainGlobals "reversed" = ab ae)(DK:f8 K mainGlobals "set" = ab ae){Kx:Tok}(DL:f8 K mainGlobals "TAIL" = ab (ab (.str "tail" Kx))){Kz:Tok}(DM:f8 K mainGlobals "HEAD" = ab (ab (.str "head" Kz))):Txt mg:=⟨ip X G Du,ip X G Dv,ip X G Dw,ip X G Dx,ip X G Dy,ip X G Dz,ip X G DA,ip X G DB,ip X G DC,ip X G DD,ip X G DE,ip X G DF,ip X G DG,ip X G DH,ip X G DI,ip X G DJ,ip X G DK,⟨Kx,x5 X G DL⟩,⟨Kz,x5 X G DM⟩⟩
theorem PJ{l:Cw}{w:bi}{K:aU}{mg:Str->Option aj}{fa:ai}(hfa:mg "law" = ab (.ref fa))(T:Txt mg)(KA:cr K mg "pairs_of" A1 ["names"])(KD:cr K mg "refuse_strangers" Bm ["names","asked"])(KH:cr K mg "refuse_repeats" BE ["asked"])(KI:cr K mg "refuse_wrong_asks" y8 ["names","asked"])(KJ:cr K mg "names_left" zE ["net","hidden","held"])(KL:cr K mg "names_along" Al ["names","steps","name"])(KN:cr K mg "names_below" B4 ["net","name"])(KO:cr K mg "has_held_below" BB ["net","name","held"])(KP:cr K mg "heirs_of" Ao ["net","name"])(KQ:cr K mg "heir_spots" z8 ["net","name"])(KR:cr K mg "elders_of" yU ["net","name"])(KS:cr K mg "elder_spots" zf ["net","name"])(KU:cr K mg "spots_from" Ay ["net","spot","held"])(KW:cr K mg "spots_walked" BR ["starts","onward"])(DN:xF K mg "spots_before" Bx ["net","one","held"] cN)(KY:cr K mg "spots_of" BV ["name","before"])(KZ:cr K mg "are_parted" zG ["net","one","other","held"])(K0:cr K mg "names_above" yO ["net","name"])(K1:cr K mg "names_over" B5 ["net","some"])(K2:cr K mg "list_between" zJ ["net","names","held","one","other"])(K3:cr K mg "are_joined" B6 ["net","names","held","one","other"])(K4:cr K mg "end_at" Bo ["net","held","name","beyond"])(K5:cr K mg "veil_of" zK ["net","hidden","held"])(K6:cr K mg "_law_cell" Ax ["_law_script","_law_k"])(K7:cr K mg "_law_words" zP ["_law_cell_here","_law_many"])(K8:cr K mg "_law_ranks" Bs ["_law_cell_here","_law_many"])(K9:cr K mg "_law_net" za ["_law_script","_law_most"])(La:cr K mg "_law_split" BO ["_law_net_here","_law_cell_here"])(Lb:cr K mg "are_tied" Bj ["net","one","other"])(Lc:cr K mg "neighbours_in" A8 ["net"])(Ld:cr K mg "roads_begun" zC ["neighbours","begun","other"])(Le:cr K mg "all_roads" zc ["net","one","other"])(Lf:cr K mg "meetings_of" zI ["net","road"])(Lg:cr K mg "bears_join" Ad ["net","road","hidden","uppers"])(Lh:cr K mg "join_paper" zv ["net","hidden","held","one","other"])(Li:cr K mg "_law_high" yV ["_law_net_here","_law_some"])(Lj:cr K mg "_law_parted" yS ["_law_net_here","_law_one","_law_other","_law_held"])(Ll:cr K mg "_law_tied" zu ["_law_net_here","_law_one","_law_other"])(Lm:cr K mg "_law_road" Ba ["_law_net_here","_law_road_here","_law_one","_law_other","_law_hidden","_law_high_here"])(Ln:cr K mg "_law_paper" zl ["_law_net_here","_law_hidden","_law_held","_law_pair","_law_joined"])(Lo:cr K mg "law" Bg ["_law_script"]) :
 ∃fd:bJ,(∀(s:aB) (u:aj),nC s fd ⟨[u],[]⟩ [("_law_script",u)])/\∀base:aZ,K.In base->base.Ns mainGlobals mg->BM mg base->jX base cN tN->bH l.prog w K mg base aF 15 fa fd ["_law_script"] A.uR:=
 cr.S8 Lo hfa λbase kb nb hB hC f fd F=>by
  have C7:=KA.cal (P:=l.prog) (w:=w) (base:=base) (CX:=aF) λf fd F=>Pt F T;have f9:=KD.cal (P:=l.prog) (w:=w) (base:=base) (CX:=aF) λf fd F=>Mu F T;have CV:=KH.cal (P:=l.prog) (w:=w) (base:=base) (CX:=aF) λf fd F=>Ts F T;have kP:=KI.cal (P:=l.prog) (w:=w) (base:=base) (CX:=aF) λf fd F=>Oq F T f9 CV;have sS:=KJ.cal (P:=l.prog) (w:=w) (base:=base) (CX:=aF) λf fd F=>TC F T kP;have sO:=KL.cal (P:=l.prog) (w:=w) (base:=base) (CX:=aF) λf fd F=>Lu F T;have CW:=KN.cal (P:=l.prog) (w:=w) (base:=base) (CX:=aF) λf fd F=>MT F T f9 sO;have C0:=KO.cal (P:=l.prog) (w:=w) (base:=base) (CX:=aF) λf fd F=>N8 F T CW;have CY:=KP.cal (P:=l.prog) (w:=w) (base:=base) (CX:=aF) λf fd F=>SH F T f9;have sP:=KQ.cal (P:=l.prog) (w:=w) (base:=base) (CX:=aF) λf fd F=>QU F T CY;have CZ:=KR.cal (P:=l.prog) (w:=w) (base:=base) (CX:=aF) λf fd F=>Np F T f9;have sQ:=KS.cal (P:=l.prog) (w:=w) (base:=base) (CX:=aF) λf fd F=>N5 F T CZ;have C2:=KU.cal (P:=l.prog) (w:=w) (base:=base) (CX:=aF) λf fd F=>NN F T C0 sP sQ;have C1:=KW.M7 l.prog w base λf fd F=>Rz F T;have C3:=DN.cal (P:=l.prog) (w:=w) (base:=base) (CX:=aF) λf fd F=>N1 F T hB hC (bQ.mpr rfl) C1 C2 sP sQ;have C4:=KY.cal (P:=l.prog) (w:=w) (base:=base) (CX:=aF) λf fd F=>NP F T;have C6:=KZ.cal (P:=l.prog) (w:=w) (base:=base) (CX:=aF) λf fd F=>OU F T kP C3 C4;have C5:=K0.cal (P:=l.prog) (w:=w) (base:=base) (CX:=aF) λf fd F=>NA F T f9 sO;have nG:=K1.cal (P:=l.prog) (w:=w) (base:=base) (CX:=aF) λf fd F=>MD F T C5;have sR:=K2.cal (P:=l.prog) (w:=w) (base:=base) (CX:=aF) λf fd F=>Sf F T nG;have sT:=K3.cal (P:=l.prog) (w:=w) (base:=base) (CX:=aF) λf fd F=>Rf F T C6 sR;have yK:=K4.cal (P:=l.prog) (w:=w) (base:=base) (CX:=aF) λf fd F=>Qa F T nG;have Do:=K5.cal (P:=l.prog) (w:=w) (base:=base) (CX:=aF) λf fd F=>Tv F T C7 sS sT yK;have mG:=K6.cal (P:=l.prog) (w:=w) (base:=base) (CX:=aF) λf fd F=>Ru F T;have C8:=K7.cal (P:=l.prog) (w:=w) (base:=base) (CX:=aF) λf fd F=>L7 F T;have C9:=K8.cal (P:=l.prog) (w:=w) (base:=base) (CX:=aF) λf fd F=>QE F T;have Dp:=K9.cal (P:=l.prog) (w:=w) (base:=base) (CX:=aF) λf fd F=>QH F T mG C8 C9;have Dq:=La.cal (P:=l.prog) (w:=w) (base:=base) (CX:=aF) λf fd F=>Q2 F T;have Db:=Lb.cal (P:=l.prog) (w:=w) (base:=base) (CX:=aF) λf fd F=>S1 F T f9;have De:=Lc.cal (P:=l.prog) (w:=w) (base:=base) (CX:=aF) λf fd F=>QX F T Db;have qz:=Mn (P:=l.prog) (w:=w) (base:=base) (CX:=aF) Ld λf fd F self=>Jj F T self;have Dg:=Le.cal (P:=l.prog) (w:=w) (base:=base) (CX:=aF) λf fd F=>QK F T kP De qz;have Df:=Lf.cal (P:=l.prog) (w:=w) (base:=base) (CX:=aF) λf fd F=>Sy F T f9;have Dh:=Lg.cal (P:=l.prog) (w:=w) (base:=base) (CX:=aF) λf fd F=>Sb F T Df;have Dj:=Lh.cal (P:=l.prog) (w:=w) (base:=base) (CX:=aF) λf fd F=>RV F T kP Dg sS sT sR nG Dh;have sU:=Li.cal (P:=l.prog) (w:=w) (base:=base) (CX:=aF) λf fd F=>MX F T;have Dk:=Lj.cal (P:=l.prog) (w:=w) (base:=base) (CX:=aF) λf fd F=>RT F T sU;have Di:=Ll.cal (P:=l.prog) (w:=w) (base:=base) (CX:=aF) λf fd F=>SU F T;have Dl:=Lm.cal (P:=l.prog) (w:=w) (base:=base) (CX:=aF) λf fd F=>NF F T Di;have Dr:=Ln.cal (P:=l.prog) (w:=w) (base:=base) (CX:=aF) λf fd F=>Nw F T Dj sU Dk Dl;exact A.RS (O4 F T Do mG Dp Dq Dr) λns hl=>by first|exact Mr.Jw ns|exact Mr.Jw ns hl
end qy
namespace PySem.W.Fast
def tw6953530550477493248:=0
def tw7786911139295804544:=0
def tw8113985117208716448:=0
def tw7903179257872428448:=0
def tw2909072435654584864:=0
def tw8394136911736563424:=0
def tw10595691574697801632:=0
def tw13675108331234173089:=0
def tw3986300228510117217:=0
def tw7413205827033210369:=0
def tw2229837924870053409:=0
def tw14367315728672890689:=0
def tw14597109198702322561:=0
def tw17140314233893661601:=0
def tw513086635861492738:=0
def tw6751096464442465282:=0
def tw195874343996593602:=0
def tw2755443417751783170:=0
def tw11199540143493887011:=0
def tw15319298597765779843:=0
def tw12156328174427890179:=0
def tw9176422824077519811:=0
def tw13331269196968183844:=0
def tw16594985519881156708:=0
def tw13094140311301409892:=0
def tw14744079829582707876:=0
def tw8578804441456762116:=0
def tw15916633386831327556:=0
def tw16335689840111353220:=0
def tw7391468760506858948:=0
def tw10166201252366853668:=0
def tw15314425224785153604:=0
def tw16947984344676052644:=0
def tw2535850955783736004:=0
def tw3856861755889296709:=0
def tw731948899676864901:=0
def tw275362042326859717:=0
def tw801025595513021446:=0
def tw4871005307393613862:=0
def tw12643229493591465190:=0
def tw9686546115676355846:=0
def tw5498473776274256134:=0
def tw17806631731852874022:=0
def tw9796927591359740198:=0
def tw15312060687003399526:=0
def tw12360326681289204102:=0
def tw8559510769967566214:=0
def tw6015160965138872742:=0
def tw1079379788691423750:=0
def tw4438399289178108518:=0
def tw15495220022105330278:=0
def tw15682020259601169094:=0
def tw14298947573214022374:=0
def tw4872559320051067686:=0
def tw4061429192136538151:=0
def tw2486184726841627719:=0
def tw13528608834577033319:=0
def tw11445045424382589383:=0
def tw10899806151885458983:=0
def tw17156860246931087943:=0
def tw12023817770634347239:=0
def tw9979645090985615143:=0
def tw16243117653499027303:=0
def tw18385335838140713959:=0
def tw14531898706857761960:=0
def tw10494342492528055528:=0
def tw2857479527350458632:=0
def tw3955674059836294472:=0
def tw14499838412518405480:=0
def tw3842827540975123112:=0
def tw11308695285776424840:=0
def tw5514533008848697256:=0
def tw14216683067600710632:=0
def tw7902631513826693096:=0
def tw5585266227032471689:=0
def tw6388094777424211177:=0
def tw7144449531572038889:=0
def tw17488662649337341545:=0
def tw258474849047986825:=0
def tw12696070979628633065:=0
def tw12881977083418975882:=0
def tw15136884543795747594:=0
def tw12391882889493095242:=0
def tw2132397680425879819:=0
def tw9656311659689773515:=0
def tw12062804054510393803:=0
def tw1675456866675744203:=0
def tw7312799031180191307:=0
def tw5774498105261559467:=0
def tw11493028595826178795:=0
def tw8891840981038557035:=0
def tw15765398564778911627:=0
def tw1789541280803454859:=0
def tw16407014527650735019:=0
def tw18351955619292026827:=0
def tw10995356014212523020:=0
def tw3892753363071215820:=0
def tw7256812628625419500:=0
def tw11924600372279473484:=0
def tw6014073756468657516:=0
def tw2499646082999106092:=0
def tw16867986520707793772:=0
def tw14293279341173648332:=0
def tw1184473764071054316:=0
def tw1784165109278694413:=0
def tw4874570828712741933:=0
def tw11497782345592204461:=0
def tw29957894005534989:=0
def tw8895155588900804269:=0
def tw16814669105347404781:=0
def tw17428767618223045742:=0
def tw9475679047352380558:=0
def tw8995989107570447598:=0
def tw9876802751421615374:=0
def tw6079549057348092238:=0
def tw5757438348524835534:=0
def tw18384143766472729358:=0
def tw15541831284137935790:=0
def tw6867085213305102447:=0
def tw8101621895384095951:=0
def tw11975718521927357679:=0
def tw15237631883532665167:=0
def tw3320369581556300367:=0
def tw11284485990482706095:=0
def tw3530636893269842639:=0
def tw11370667295223258831:=0
def tw16665135927370350415:=0
def tw14843391013802969136:=0
def tw16160691314526832816:=0
def tw9926119974494094576:=0
def tw4174146048773894416:=0
def tw13465791307067030064:=0
def tw10373384088084556336:=0
def tw10650754025156150928:=0
def tw13711661495511431856:=0
def tw18175060651958854384:=0
def tw14946266628553869329:=0
def tw13744417503258078289:=0
def tw1808108938014198961:=0
def tw102023888641119569:=0
def tw12224356556997116337:=0
def tw10001758793757233:=0
def tw10279142716076564273:=0
def tw5735162267134631026:=0
def tw16327178322541613170:=0
def tw16606282075353458802:=0
def tw13348373460966254866:=0
def tw13376579097426243890:=0
def tw15783120519590917458:=0
def tw18089752796860732786:=0
def tw11359404021669263954:=0
def tw17024854346442721906:=0
def tw5352930437319670514:=0
def tw7269232981855256306:=0
def tw7392999567502921586:=0
def tw8389777581130558386:=0
def tw6780548665476101042:=0
def tw7025743519628058675:=0
def tw9655459793211600115:=0
def tw15513875353044410643:=0
def tw1192170124571963731:=0
def tw9086997219882089939:=0
def tw4515691156687642451:=0
def tw10777904768311983955:=0
def tw16329988066426091443:=0
def tw8237507323736486068:=0
def tw4763628084360454708:=0
def tw5377411603353198132:=0
def tw14378593322157660980:=0
def tw16878661234031606740:=0
def tw3521155061331345364:=0
def tw17640647412635716661:=0
def tw9528389271031348277:=0
def tw10670042018121075893:=0
def tw16488830317523264757:=0
def tw17066290952204277109:=0
def tw3955788245971239509:=0
def tw9131433668159861557:=0
def tw3139176339401756565:=0
def tw283944952885863510:=0
def tw14190269019341499062:=0
def tw8854396179783329462:=0
def tw9571963800520621782:=0
def tw11627609382103981079:=0
def tw6206152162415505687:=0
def tw14651670627350878551:=0
def tw4464219762775210359:=0
def tw2846249783078600279:=0
def tw11221954481777347319:=0
def tw3465361924033998615:=0
def tw12130623811369328503:=0
def tw14542916975186691224:=0
def tw17426776360582315256:=0
def tw1865875661409511704:=0
def tw7591690582420261208:=0
def tw9347758605508178328:=0
def tw13240543023600737752:=0
def tw14441193532340099704:=0
def tw978365356250682136:=0
def tw6079523020714192728:=0
def tw1400693135212585848:=0
def tw17108496701314754456:=0
def tw14080669525768206232:=0
def tw14057191562304832504:=0
def tw5999557391680754809:=0
def tw18180555966479247481:=0
def tw12802379302732806329:=0
def tw3207148093682114937:=0
def tw7896105306378655129:=0
def tw18177191091171227321:=0
def tw9317534794382619321:=0
def tw17932259863368971993:=0
def tw17089202574684361465:=0
def tw15929749441069945114:=0
def tw7378038544616504666:=0
def tw2084300752420302170:=0
def tw15584313684841605562:=0
def tw12538353531968432794:=0
def tw14803109078261372890:=0
def tw5422623596184706139:=0
def tw16088434729457200219:=0
def tw2080136991742473339:=0
def tw197934445161309339:=0
def tw11619150174280554715:=0
def tw7001411086620076315:=0
def tw14048399637851687387:=0
def tw16460489098618986011:=0
def tw8189999796471405211:=0
def tw1244343856433635067:=0
def tw7117824085183218459:=0
def tw2497590750218163003:=0
def tw16423112115425796284:=0
def tw16436003653041376540:=0
def tw17919635078679475964:=0
def tw6304248173865720572:=0
def tw5991089387075431485:=0
def tw1186959865332480093:=0
def tw4879533470029850781:=0
def tw6372051078550162653:=0
def tw4507780937904076029:=0
def tw9994250135872736541:=0
def tw5556456160965066109:=0
def tw7661257329339802077:=0
def tw11026175373968682493:=0
def tw2098509244360302141:=0
def tw11033590763078006365:=0
def tw11043194981740723805:=0
def tw9750043772618855101:=0
def tw12151881603450863389:=0
def tw11077622673298677725:=0
def tw15547258767610155038:=0
def tw7585187302239909022:=0
def tw4317993515468645534:=0
def tw14140150737515542014:=0
def tw17914956243564897822:=0
def tw4345501558509625982:=0
def tw9646087029775495870:=0
def tw11740839083549069278:=0
def tw15483622231654527966:=0
def tw9050434732023792703:=0
def tw2139498398696892543:=0
def tw14335818388768479455:=0
def tw8025420799078348031:=0
def tw3784125864438179103:=0
def tw1043577554642913663:=0
def tw14644621664058510815:=0
def tw11716346389495093791:=0
def tw5551502778516900575:=0
def tw8614690327647849279:=0
def tw11449962948909213599:=0
end PySem.W.Fast
open PySem PySem.W PyProof.Rows
set_option maxRecDepth 100000 in
set_option maxHeartbeats 0 in
theorem PySem.Challenge.cw_arrowfind_k71_join_papers_walked_holds : PySem.Challenge.rw_arrowfind_k71_join_papers_walked.Holds := by
 w_on;o_law;k_head;(case hw=>w_witness2)
 k_fill
 refine qy.walk (l:=PySem.Challenge.rw_arrowfind_k71_join_papers_walked) rfl rfl (λw h Y=>PySem.W.km_in_of Y) ?L ?K ⟨_,rfl⟩ ?H ?F
 case L=>
  intro w
  kernel_rfl
 case K=>
  intro w
  kernel_rfl
 case H=>
  intro w
  kernel_rfl
 case F=>
  intro w mg fa h KX G hmg
  refine' qy.PJ hmg ?T ?KA ?KD ?KH ?KI ?KJ ?KL ?KN ?KO ?KP ?KQ ?KR ?KS ?KU ?KW ?DN ?KY ?KZ ?K0 ?K1 ?K2 ?K3 ?K4 ?K5 ?K6 ?K7 ?K8 ?K9 ?La ?Lb ?Lc ?Ld ?Le ?Lf ?Lg ?Lh ?Li ?Lj ?Ll ?Lm ?Ln ?Lo
  case T=>
   refine' qy.RE KX G ?Du ?Dv ?Dw ?Dx ?Dy ?Dz ?DA ?DB ?DC ?DD ?DE ?DF ?DG ?DH ?DI ?DJ ?DK ?DL ?DM
   (case Du=>k_is)
   (case Dv=>k_is)
   (case Dw=>k_is)
   (case Dx=>k_is)
   (case Dy=>k_is)
   (case Dz=>k_is)
   (case DA=>k_is)
   (case DB=>k_is)
   (case DC=>k_is)
   (case DD=>k_is)
   (case DE=>k_is)
   (case DF=>k_is)
   (case DG=>k_is)
   (case DH=>k_is)
   (case DI=>k_is)
   (case DJ=>k_is)
   (case DK=>k_is)
   (case DL=>k_is)
   (case DM=>k_is)
  case DN=>
   refine' L2.Sj (c:=qy.cN) KX G (λ_ _ _ _ _ _ us hl=>match us,hl with|[_,_,_],_=>rfl) ?a ?l ?c ?k
   (case a=>k_is);(case l=>k_is);(case c=>k_is);(case k=>k_is)
  all_goals
   first
    |(refine' L2.rJ KX G (λ_ _ _ _ _ _ us hl=>match us,hl with|[_],_=>rfl) ?a ?l ?c ?k;(case a=>k_is);(case l=>k_is);(case c=>k_is);(case k=>k_is))
    |(refine' L2.rJ KX G (λ_ _ _ _ _ _ us hl=>match us,hl with|[_,_],_=>rfl) ?a ?l ?c ?k;(case a=>k_is);(case l=>k_is);(case c=>k_is);(case k=>k_is))
    |(refine' L2.rJ KX G (λ_ _ _ _ _ _ us hl=>match us,hl with|[_,_,_],_=>rfl) ?a ?l ?c ?k;(case a=>k_is);(case l=>k_is);(case c=>k_is);(case k=>k_is))
    |(refine' L2.rJ KX G (λ_ _ _ _ _ _ us hl=>match us,hl with|[_,_,_,_],_=>rfl) ?a ?l ?c ?k;(case a=>k_is);(case l=>k_is);(case c=>k_is);(case k=>k_is))
    |(refine' L2.rJ KX G (λ_ _ _ _ _ _ us hl=>match us,hl with|[_,_,_,_,_],_=>rfl) ?a ?l ?c ?k;(case a=>k_is);(case l=>k_is);(case c=>k_is);(case k=>k_is))
    |(refine' L2.rJ KX G (λ_ _ _ _ _ _ us hl=>match us,hl with|[_,_,_,_,_,_],_=>rfl) ?a ?l ?c ?k;(case a=>k_is);(case l=>k_is);(case c=>k_is);(case k=>k_is))
