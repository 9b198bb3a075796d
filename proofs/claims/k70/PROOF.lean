import PyProof.Rows.All
import Wide.All
import OpenK.AllK
import Wide.FinOn
import Lean
import PyProof.EqAt
import PyProof.EqKinds
import PyProof.TupleCall
import PySem.Str
import PyProof.NeKinds
import PyProof.Draws
import PyProof.EnumMake
import PyProof.ZipIter
import KE.KSortTup
import KE.KLam
import PyProof.Rows.SortStr
import PyProof.Rows.FactsT3
import PyProof.StrOps2
import KE.KDictList
import KE.KRevIter
import PyProof.CollectIter
import PyProof.TupleOfGen
import PyProof.Rows.StrNews2
import PyProof.Rows.StrFacts2
import PyProof.StrLawsRepr
import PyProof.Rows.StrCase
import PyProof.Rows.StrSplit
import PySem.Challenge.RW_arrowfind_k70_veils_joined
open List renaming length_map->aM,getElem?_eq_some_iff->cv,mem_singleton->bX,mem_append->bJ,length_append->cu,mem_cons->bH,mem_append_right->dI,getElem?_set_ne->dC,mem_cons_of_mem->dJ,mem_append_left->dL,size_toArray->cX,mem_cons_self->dj,getElem?_map->c9,length_cons->cR,replicate->cH,getD_eq_getElem?_getD->gj,mem_map->cq,mem_filter->dD,map_cons->cS,range->bQ,getElem?_eq_getElem->ib,map_map->dq,map_append->eV,nodup_append->fH,getElem?_cons_succ->jX,getElem?_cons_zero->jY,length_singleton->jd,length_take->gC,mem_of_getElem?->je,mem_range->gD,getElem?_of_mem->kF,getElem?_set_self->lq,length_nil->iE,length_drop->jf,length_set->jg,length_filter_le->mr,nodup_cons->jZ,find?_cons->j0,any_cons->iF,mem_map_of_mem->mv,filter_eq_self->mx,flatMap_cons->mz,take_of_length_le->pF,lookup_cons->mB,mem_of_mem_take->pH,pairwise_map->nO,all_eq_true->nP,append_nil->nQ,reverse_cons->pI,append_assoc->pJ,getElem_inj->pK,mem_flatMap->pL,map_congr_left->sj,drop_of_length_le->uV,length_pos_of_mem->uW,pairwise_lt_range->uX,length_range->sk,eq_nil_of_length_eq_zero->yN,not_mem_nil->sn,length_reverse->uY,mem_filterMap->uZ,getElem?_append_left->yO,drop_zero->sr,drop_eq_getElem_cons->yP,getElem?_take_of_lt->yQ,range_succ_eq_map->yR,of_mem_zip->u0,length_replicate->yS,any_map->ss,nil_append->u3,mem_of_mem_drop->yT,filterMap_cons->yU,getElem_range->yV,any_eq_false->yW,eraseIdxIfInBounds_toArray->FS,getElem?_set->yX,map_nil->u4,cons_append->yY,take_length->yZ,forIn_cons->y0,getElem?_append_right->FT,getElem?_replicate->FU,eraseIdx_cons_succ->FV,filter_cons_of_pos->FW,filter_cons_of_neg->FX,eq_nil_or_concat->FY,concat_eq_append->FZ,pairwise_flatMap->F1,reverse_reverse->F2,length->y3,lookup->y4,replicate_zero->F3,map_id->y6,set_cons_succ->F4,set_cons_zero->F5,pairwise_cons->F6
open PySem.W renaming Frag->aG,mg_none_of->gm,nsIn->fb,CodeHd->iG,kia_one->j1,keepIn->kG,fnOf->j2,kla_obj->pM,codeIn->pN,kitx_list->u5,kitx_dict->u6,cellsFrom_some->y7,tabObj->u7,kla_fn->u8,mg_of->u9,methodObj->y8,instObj->y9,OpenLaw->za,lookIn->zb,kitOne->zc,kitAny->zd,kitx_float->F7,kitx_tuple->F8,callWith_K->F9,codeRec_of->Ga,kitx_none->Gb,kitx_bool->Gc,plainGet->Ge,kitx_int->Gf,kitx_str->Gg,kitx_own->Gh,findIn->Gi
open PySem renaming wpAny_bind->aI,Value->ai,Shared->ap,Addr->ah,wpAny_pure->bE,FuncData->bx,Program->bh,sizeLine_eq->dS,World->a8,Around->bK,mem_of_lookup->lr,Heap->aK,wpAny_callSpecial?_slot->pO,Expr->aS,wpAny_call_entry->mD,wpAny_mono->iH,wpAny_truthy_bool->nR,boot_len->mE,wpAny_typeNameOfWhole_keyiter->vb,wpAny_passesOwn->nS,Stmt->bn,wpAny_typeNameOf_keyiter->vc,wpAny_Call_Name_kw->sw,wpAny_field->mF,wpAny_newObj_type->sx,wpAny_holding->pP,typeIs_bool->vd,Scope->d8,tupleKind_room_in1->ve,wpAny_setField_rec->vf,wpAny_seqItems->sy,wpAny_pyIter_list->vg,wpAny_specialOf->vh,wpAny_execs_nil->vi,wpAny_loadPart'->vj,NameKind->mG,call_meets->pQ,Paired->mH,wpAny_setField->vk,BindsTo->lw,Arguments->pR,TriplesOk->pT,wpAny_attempt->vm,wpAny_dictEntries->ze,codeAny_mono->vn,wpAny_dictEpoch->zf,wpAny_newFunctionEnv_cells->Gj,call->zg,wpAny_standAt->zh,wpAny_pyNext_list_item->Gk
open PySem.Heap renaming get?_push_of_some->cA,get?_push_size->dE,lt_size->b0,SameBut->mI,size_push->pU,get?_update_self->zi,ExtBut->vo
open Nat renaming le_refl->bA,zero_add->cY,le_trans->dr,lt_of_lt_of_le->fW,ne_of_lt->gn,zero_le->gE,lt_irrefl->jh,not_lt_zero->ly,ne_of_gt->sA,le_of_lt->vp,lt_succ_self->zj,min_eq_right->zk,min_eq_left->zm,le_total->zo
open Bool renaming false_ne_true->du,and_eq_true->ji,false_eq_true->nU,not_eq_true'->nV,eq_iff_iff->mJ,and_false->vq,false_or->vt
open PySem.F renaming plainAttrs_list->fX,slot_list_append->kH,type_list_append->kI,slot_dict_keyiterator_next->sB,slot_tuple_iterator_next->vv,slot_list_pop->zp,type_list_pop->zq,slot_bool_hash->vx,args_tuple_iterator_next_1->Gm,entry_tuple_iterator_next->Gn,slot_zip_next->vy,args_dict_keyiterator_next_1->Go,slot_list_extend->Gp,type_list_extend->Gq,entry_dict_keyiterator_next->Gr,slot_list_clear->Gs,type_list_clear->Gu,plainAttrs_str->Gv,slot_str_join->Gw,type_str_join->Gx
open Option renaming map_eq_some_iff->gF,isSome_map->vz,getD_none->Gy
open PySem.PassesOwn renaming never->er
open Option.some renaming inj->fY
open PySem.Value renaming ref->cI,bool->iI,none->iJ,str->mK,type->vA,float->zr
open Int renaming emod_lt_of_pos->iK,emod_nonneg->iL,toNat_natCast->j3
open Classical renaming byContradiction->mL,propDecidable->pV,em->Gz
open PySem.Builtin.SmallTypes renaming nextOf->nW,ownedTupleHandOut->GA,ownedTupleIsFree->GB
open Sum renaming inr->dM,inl->nX
open Ne renaming symm->dN
open Or renaming inl->cC,inr->fZ
open True renaming intro->gG
open PyProof.Rows renaming boot_isinstance->kJ,callWith_type1->vB,boot_list->iM,boot_tuple->lz,AllBare->mM,subscriptTail_builtinR->GC
open False renaming elim->gW
open ForInStep renaming yield->mO
open PySem.NameKind renaming free->lA,cell->zt
open PySem.Heap.SameBut renaming update->sC
open PySem.Str renaming join->jj,ofString->pW,length->nY,empty->nZ
open PySem.Builtin.List renaming listTooLong->zu
open Array renaming toList_append->vC,getElem?_toList->zv,getElem?_eq_getElem->GD,length_toList->GF
open PySem.Calls renaming spliced_cons->vD,spliced_nil->zw,Name_function_global->GG,callWith_builtin->GH
open PySem.Obj renaming data_mapFields->vE,mapSeq->sD,isFreed_of_fields->GI
open PySem.Paired renaming length->sE
open PySem.Builtin.Dict_items renaming ownsTuple->GJ
open Sum.inr renaming inj->sF
open PySem.Builtin.Str renaming strSliceIndices->GK
open PySem.Builtin.Dict renaming showsAll->GL
open List.Pairwise renaming filter->GN,nil->GO
open Prod renaming ext->pY,fst->vF
open PySem.SeqAt.EqAt renaming bool_bool->GP,bool_str->GQ,str_bool->GR
open PySem.Around renaming frames_deeper->GS
open PySem.Shared renaming heap->zx
open Function renaming comp->GU
open Option renaming some->aa,none->ab
abbrev bV:=@decide_eq_true
abbrev cE:=@decide_eq_false
abbrev bb:=@if_pos
abbrev bc:=@if_neg
abbrev ke:=@of_decide_eq_true
abbrev mR:=@decide_eq_false_iff_not
abbrev mj:=@decide_eq_true_iff
abbrev pA:=@decide_eq_true_eq
abbrev ik:=@if_false
abbrev qG:=@beq_self_eq_true
abbrev jE:=@if_true
abbrev xz:=@beq_eq_false_iff_ne
set_option maxRecDepth 100000
set_option maxHeartbeats 4000000
set_option Elab.async false
set_option linter.all false
namespace L2
open PySem PySem.Spec PyProof.Rows
abbrev Key:=Sum Bool Str
def DC(k:Bool):ai->Bool
 |.bool b=>b==k
 |_=>false
def rf:Key->ai->Bool
 |.inl k,v=>DC k v
 |.inr x,v=>Value.isStrOf x v
def Oa(w:a8):Key->Int
 |.inl k=>hashInt (if k then 1 else 0)
 |.inr x=>hashStr w x
theorem MC{k:Bool}:∀{v:ai},DC k v=true->v=.bool k
 |.bool b,h=>by rw[show b=k from eq_of_beq h]
theorem lb:∀{k:Key} {v:ai},rf k v=true->(∃i,k=nX i/\v=iI i)\/(∃x t,k=dM x/\v=mK x t)
 |.inl i,v,h=>.inl ⟨i,rfl,MC h⟩
 |.inr x,v,h=>by
  obtain⟨t,e⟩:=Value.isStrOf_shape (x:=x) (v:=v) h;exact .inr ⟨x,t,rfl,e⟩
theorem Nu(i:Bool):rf (.inl i) (.bool i)=true:=qG i
theorem Nx{prog:bh}{w:a8}{A:bK}{E:ai->ap->Prop}{s:ap}{b:Bool}{Q:Int->ap->Prop}(h:Q (hashInt (if b then 1 else 0)) { s with toks:=s.toks+1 }) :
 wpAny (model prog w) A (pyHash (.bool b)) Q E s:=by
 have hr:=rawHash_range (if b then 1 else 0);unfold pyHash;have hv:[iI b].any Value.onHeap=false:=rfl;refine aI ?_;rw[cRoomFor,bc (by rw[hv];exact du)];refine bE ?_;refine aI (vh (vd s b) vx.lookup ?_);show wpAny _ _ (if(aa (Value.builtin "int.__hash__")==aa iJ)=true then _ else _) Q E s;rw[bc (by rw[beq_builtin_none];exact du)];refine aI (vh (vd s b) vx.lookup ?_);show wpAny _ _ (callSpecialIfBoundUnlessNone? (.bool b) "__hash__" _ >>= _) Q E s;refine aI (wpAny_callSpecialIfBoundUnlessNone?_slot (vd s b) vx
  (mD vx (vd s b) F.entry_int_hash
   (show wpAny _ _ (do ret (<- mkInt (rawHash (if b then 1 else 0)))) _ _ s from wpAny_ret_mkInt ?_) (F.args_int_hash_1 _)))
 show wpAny _ _ (if(decide (-(2:Int) ^ 63<=rawHash (if b then 1 else 0))&&decide (rawHash (if b then 1 else 0)<2 ^ 63))=true then _ else _) Q E _;rw[bb (by rw[bV hr.1,bV hr.2];rfl)];exact bE h
theorem MP(x:Str)(t:Tok):rf (.inr x) (.str x t)=true:=by simp[rf,Value.isStrOf]
theorem LD(a b:Bool):decide ((nX a:Key)=nX b)=(a==b):=by
 by_cases e:a=b
 ·subst e;simp
 ·have h:¬ (nX a:Key)=nX b:=λq=>e (Sum.inl.inj q);rw[cE h];exact(xz.mpr e).symm
theorem Kz(a b:Str):decide ((dM a:Key)=dM b)=decide (a=b):=by
 by_cases e:a=b
 ·subst e;simp
 ·have h:¬ (dM a:Key)=dM b:=λq=>e (sF q);rw[cE h,cE e]
theorem IU(a:Bool)(b:Str):decide ((nX a:Key)=dM b)=false:=cE (λq=>nomatch q)
theorem NJ(a:Str)(b:Bool):decide ((dM a:Key)=nX b)=false:=cE (λq=>nomatch q)
def gu(prog:bh)(w:a8):PySem.KeyKind prog w Key where
 is:=rf
 hash:=Oa w
 inj:=λv a b ha hb=>by
  rcases lb ha with ⟨i,rfl,rfl⟩|⟨x,t,rfl,rfl⟩
  ·rcases lb hb with ⟨j,rfl,e⟩|⟨y,u,rfl,e⟩
   ·injection e with e1;rw[e1]
   ·exact nomatch e
  ·rcases lb hb with ⟨j,rfl,e⟩|⟨y,u,rfl,e⟩
   ·exact nomatch e
   ·injection e with e1 _;rw[e1]
 byValue:=λk v h=>by
  rcases lb h with ⟨i,rfl,rfl⟩|⟨x,t,rfl,rfl⟩<;>rfl
 pyHash:=λhv h=>by
  rcases lb hv with ⟨i,rfl,rfl⟩|⟨x,t,rfl,rfl⟩
  ·exact Nx h
  ·exact wpAny_pyHash_str h
 eqBool:=λhu hv h=>by
  rcases lb hu with ⟨i,rfl,rfl⟩|⟨x,t,rfl,rfl⟩
  ·rcases lb hv with ⟨j,rfl,rfl⟩|⟨y,u,rfl,rfl⟩
   ·rw[LD]at h;exact GP i j _ _ _ _ h
   ·rw[IU]at h;exact GQ i y u _ _ _ _ h
  ·rcases lb hv with ⟨j,rfl,rfl⟩|⟨y,u,rfl,rfl⟩
   ·rw[NJ]at h;exact GR x t j _ _ _ _ h
   ·rw[Kz]at h;exact wpAny_eqBool_str h
 «strs»:=λk x t v h=>by
  rcases lb h with ⟨i,rfl,e⟩|⟨y,u,rfl,e⟩
  ·exact nomatch e
  ·injection e with e1 _;subst e1;cases v<;>rfl
theorem MY(prog:bh)(w:a8)(i:Bool):(gu prog w).is (.inl i) (.bool i)=true:=Nu i
theorem JR(prog:bh)(w:a8)(x:Str)(t:Tok):(gu prog w).is (.inr x) (.str x t)=true:=MP x t
inductive V where
 |non|bl (b:Bool)|int (i:Int)|str (x:Str)|byt (b:Array UInt8)|flt (b:UInt64)|ref (a:ah)|ty (n:String)
 deriving DecidableEq
def RelV:V->ai->Prop
 |.non,u=>u=iJ
 |.bl b,u=>u=iI b
 |.int i,u=>∃t,u=Value.int i t
 |.str x,u=>∃t,u=mK x t
 |.byt b,u=>∃t,u=Value.bytes b t
 |.flt b,u=>∃t,u=zr b t
 |.ref a,u=>u=cI a
 |.ty n,u=>u=vA n
abbrev Vals:List V->List ai->Prop:=mH RelV
theorem Vals.length{xs:List V}{us:List ai}(r:Vals xs us):xs.length=us.length:=sE r
theorem Vals.get:∀{xs:List V} {us:List ai} {i:Nat} {x:V},Vals xs us->xs[i]? = aa x->∃u,us[i]? = aa u/\RelV x u
 |_,_,_,_,.nil,e=>by simp at e
 |_,_,0,_,.cons r _,e=>by simp at e;subst e;exact⟨_,rfl,r⟩
 |_,_,i+1,x,.cons _ t,e=>by
  obtain⟨u,h1,h2⟩:=Vals.get (i:=i) (x:=x) t (by simpa using e);exact⟨u,by simpa using h1,h2⟩
theorem Vals.append:∀{xs ys:List V} {us ws:List ai},Vals xs us->Vals ys ws->Vals (xs++ys) (us++ws)
 |_,_,_,_,.nil,s=>s
 |_,_,_,_,.cons r t,s=>.cons r (Vals.append t s)
theorem Vals.take:∀{xs:List V} {us:List ai} (n:Nat),Vals xs us->Vals (xs.take n) (us.take n)
 |_,_,0,_=>.nil
 |_,_,_+1,.nil=>.nil
 |_,_,n+1,.cons r t=>.cons r (Vals.take n t)
theorem Vals.drop:∀{xs:List V} {us:List ai} (n:Nat),Vals xs us->Vals (xs.drop n) (us.drop n)
 |_,_,0,r=>r
 |_,_,_+1,.nil=>.nil
 |_,_,n+1,.cons _ t=>Vals.drop n t
def jR:Option V->Option ai->Prop
 |some v,aa u=>RelV v u
 |none,ab=>True
 |_,_=>False
def KV{κ:Type}:List (κ×V)->List (κ×ai)->Prop:=mH λ(p:κ×V) (q:κ×ai)=>p.1=q.1/\RelV p.2 q.2
def kV:Key->V
 |.inl i=>.bl i
 |.inr x=>.str x
def pe(h:aK)(a:ah)(am:Array ai):Prop:=∃o,h.get? a=aa o/\o.cls=.type "tuple" /\ o.dict=ab/\∃n,o.data=.seq am n
theorem pe.tup{h:aK}{a:ah}{am:Array ai}(x:pe h a am):IsTup h a am:=let ⟨o,e,c,_,d⟩:=x;⟨o,e,c,d⟩
theorem pe.new(h:aK)(am:Array ai):pe (h.push { cls:=.type "tuple", data:=.seq am }) h.objs.size am:=⟨_,dE _ rfl,rfl,rfl,_,rfl⟩
inductive HO where
 /-- a list -/
 |lst (xs:List V)
 /-- a tuple (never changes) -/
 |tup (xs:List V)
 /-- a dict whose keys are ints and texts;one whose keys are tuples of ints and texts (the empty one is both) -/
 |dK (ak:List (Key×V))|dT (ak:List (List Key×V))
 /-- a set of ints: am members,am size -/
 |set (S:Int->Bool) (n:Nat)
 /-- an instance of the class at C,am dict at dx,am attributes -/
 |ins (C dx:ah) (fs:List (Str×V))
 /-- the dict of the instance at x -/
 |own (x:ah)
 /-- the dict of an exception -/
 |xd (fs:List (Str×V))
 /-- a bound method,f of x -/
 |met (f x:ah)
 /-- a range object lo,lo+1,.. below hi -/
 |rng (lo hi:Int)
 /-- a thing that is known to the object (the script;a dict while a loop walks it): read,never written while it is so -/
 |frz (o:Obj) (u:HO)
 /-- a code object's table -/
 |tbl (w:Str) (ps:Array ai)
 /-- any other thing,by what is true of am one object (a def of one's own: Pr a S n:=HO.ext λh=>..) -/
 |ext (φ : aK->Prop)
abbrev Hp:=ah->Option HO
def upd(H:Hp)(a:ah)(o:HO):Hp:=λb=>if b=a then aa o else H b
theorem bp{H:Hp}{a:ah}{o:HO}:upd H a o a=aa o:=by unfold upd;rw[bb rfl]
theorem aE{H:Hp}{a b:ah}{o:HO}(h:b≠a):upd H a o b=H b:=by unfold upd;rw[bc h]
theorem IF{H:Hp}{a b:ah}{o u:HO}(h:H a=aa o)(h':H b=aa u)(d:o≠u):a≠b:=by intro e;subst e;rw[h]at h';exact d (fY h')
theorem cG{H:Hp}{a b:ah}{o:HO}(h:H a=aa o)(h':H b=ab):a≠b:=by intro e;subst e;rw[h]at h';cases h'
section
variable(P:bh)(w:a8)
def cj(H:Hp)(h:aK)(a:ah):HO->Prop
 |.lst xs=>xs.length<=sizeLine/\∃(am:List ai) (n:Nat),Vals xs am/\h.get? a=aa { cls:=.type "list", data:=.seq am.toArray n }
 |.tup xs=>xs.length<=sizeLine/\∃am:List ai,Vals xs am/\pe h a am.toArray
 |.dK ak=>ak.length<=sizeLine/\(a==sysModules)=false/\∃vs,KV ak vs/\h.DictOf (gu P w) a vs
 | .dT ak=>ak.length<=sizeLine/\(a==sysModules)=false/\∃xs:List (List Key×ah×ai),
  mH (λ(p:List Key×V) (q:List Key×ah×ai)=>p.1=q.1/\H q.2.1=aa (.tup (p.1.map kV))/\RelV p.2 q.2.2) ak xs /\
  ∃o es ep,h.get? a=aa o/\o.ExactDict/\o.data=.dict es ep/\es.toList=xs.map (entryOfKey (tupleKind (gu P w)))/\(xs.map (·.1)).Nodup
 |.set S n=>h.SetOf (intKind P w) a S n
 | .ins C dx fs=>H dx=aa (.own a)/\fs.length<=1000/\dx≠a/\h.get? a=aa (y9 C dx) /\
  ∃mA,h.Ns1 dx mA/\(∀f,jR (fs.lookup f) (mA f))/\PySem.Within mA (fs.map (·.1))
 |.own _=>∃o,h.get? a=aa o
 |.xd fs=>∃mA,h.Ns1 a mA/\∀f,jR (fs.lookup f) (mA f)
 |.rng lo hi=>∃t u v,h.get? a=aa { cls:=.type "range", data:=.fields #[.int lo t,.int hi u,.int 1 v] }
 |.frz o u=>h.get? a=aa o/\cj H h a u
 |.tbl _ ps=>h.get? a=aa { cls:=.none,data:=.fields ps }
 |.met f x=>h.get? a=aa (y8 (.ref f) (.ref x))
 |.ext φ=>φ h/\(∃o,h.get? a=aa o)/\∀h1 h2:aK,φ h1->(∀o,h1.get? a=aa o->h2.get? a=aa o)->φ h2
def cP(H:Hp)(h:aK):Prop:=∀a o,H a=aa o->cj P w H h a o
end
section
variable{P:bh}{w:a8}{H H':Hp}{h h':aK}{a:ah}{o:HO}
theorem cj.lt(x:cj P w H h a o):a<h.objs.size:=by
 cases o with
 |lst xs=>obtain⟨_,_,_,_,e⟩:=x;exact b0 e
 |tup xs=>obtain⟨_,_,_,p⟩:=x;exact p.tup.lt
 |dK ak=>obtain⟨_,_,_,_,o,_,_,e,_⟩:=x;exact b0 e
 |dT ak=>obtain⟨_,_,_,_,o,_,_,e,_⟩:=x;exact b0 e
 |set S n=>obtain⟨o,_,_,_,e,_⟩:=x;exact b0 e
 |ins C dx fs=>obtain⟨_,_,_,e,_⟩:=x;exact b0 e
 |own y=>obtain⟨_,e⟩:=x;exact b0 e
 |xd fs=>obtain⟨_,⟨_,_,_,e,_⟩,_⟩:=x;exact b0 e
 |rng lo hi=>obtain⟨_,_,_,e⟩:=x;exact b0 e
 |frz ob u=>obtain⟨e,_⟩:=x;exact b0 e
 |tbl w ps=>exact b0 (show h.get? a=aa _ from x)
 |met f y=>exact b0 (show h.get? a=aa _ from x)
 |ext φ=>obtain⟨_,⟨_,e⟩,_⟩:=x;exact b0 e
theorem Paired.xM{α β:Type}{F G:α->β->Prop}:∀{l₁:List α} {l₂:List β},mH F l₁ l₂->(∀a b,F a b->G a b)->mH G l₁ l₂
 |_,_,.nil,_=>.nil
 |_,_,.cons r t,f=>.cons (f _ _ r) (Paired.xM t f)
theorem cj.stay(x:cj P w H h a o)(k:∀b u,(b=a\/H b=aa (.own a))->h.get? b=aa u->h'.get? b=aa u)
 (ho:∀b,H b=aa (.own a)->H' b=aa (.own a)) (ht:∀b xs,H b=aa (.tup xs)->H' b=aa (.tup xs)):cj P w H' h' a o:=by
 induction o with
 |lst xs=>obtain⟨z,am,n,r,e⟩:=x;exact⟨z,am,n,r,k _ _ (.inl rfl) e⟩
 |tup xs=>obtain⟨z,am,r,ob,e,c⟩:=x;exact⟨z,am,r,ob,k _ _ (.inl rfl) e,c⟩
 |dK ak=>obtain⟨z,y,vs,r,ob,es,ep,e,c⟩:=x;exact⟨z,y,vs,r,ob,es,ep,k _ _ (.inl rfl) e,c⟩
 |dT ak=>
  obtain⟨z,y,xs,r,ob,es,ep,e,c⟩:=x;exact⟨z,y,xs,Paired.xM r λp q z=>⟨z.1,ht _ _ z.2.1,z.2.2⟩,ob,es,ep,k _ _ (.inl rfl) e,c⟩
 |set S n=>obtain⟨ob,es,ep,t,e,c⟩:=x;exact⟨ob,es,ep,t,k _ _ (.inl rfl) e,c⟩
 |ins C dx fs=>
  obtain⟨d,z,ne,e,mA,⟨od,es,ep,e2,c⟩,r⟩:=x;exact⟨ho _ d,z,ne,k _ _ (.inl rfl) e,mA,⟨od,es,ep,k _ _ (.inr d) e2,c⟩,r⟩
 |own y=>obtain⟨ob,e⟩:=x;exact⟨ob,k _ _ (.inl rfl) e⟩
 |xd fs=>obtain⟨mA,⟨od,es,ep,e,c⟩,r⟩:=x;exact⟨mA,⟨od,es,ep,k _ _ (.inl rfl) e,c⟩,r⟩
 |rng lo hi=>obtain⟨t,u,v,e⟩:=x;exact⟨t,u,v,k _ _ (.inl rfl) e⟩
 |frz ob u ih=>obtain⟨e,q⟩:=x;exact⟨k _ _ (.inl rfl) e,ih q⟩
 |tbl w ps=>
  have e:h.get? a=aa { cls:=.none,data:=.fields ps }:=x;show h'.get? a=aa { cls:=.none,data:=.fields ps };exact k a _ (.inl rfl) e
 |met f y=>
  have e:h.get? a=aa (y8 (.ref f) (.ref y)):=x;show h'.get? a=aa (y8 (.ref f) (.ref y));exact k a _ (.inl rfl) e
 |ext φ=>obtain⟨p,⟨o,e⟩,st⟩:=x;exact⟨st _ _ p λo q=>k _ _ (.inl rfl) q,⟨o,k _ _ (.inl rfl) e⟩,st⟩
theorem cP.lt(x:cP P w H h)(e:H a=aa o):a<h.objs.size:=(x a o e).lt
theorem cP.fresh(x:cP P w H h)(e:h.objs.size<=a):H a=ab:=by
 cases q:H a with
 |none=>rfl
 |some u=>exact absurd (fW (x.lt q) e) (jh _)
theorem cP.kept(x:cP P w H h)(k:∀b u,h.get? b=aa u->h'.get? b=aa u):cP P w H h':=λa o e=>
 (x a o e).stay (λb u _ q=>k b u q) (λ_ q=>q) λ_ _ q=>q
theorem cP.laid(x:cP P w H h)(k:∀b u,h.get? b=aa u->h'.get? b=aa u)(hp:h.objs.size<=a)(new:cj P w (upd H a o) h' a o):cP P w (upd H a o) h':=λb u e=>by
 have hn:=x.fresh hp;by_cases hb:b=a
 ·subst hb;rw[bp]at e;cases e;exact new
 ·rw[aE hb]at e;exact(x b u e).stay (λc v _ q=>k c v q) (λc q=>by rw[aE (cG q hn)];exact q) λc xs q=>by rw[aE (cG q hn)];exact q
end
def Rd(H:Hp)(a:ah)(u:HO):Prop:=H a=aa u\/∃o,H a=aa (.frz o u)
theorem Rd.ok{P:bh}{w:a8}{H:Hp}{h:aK}{a:ah}{u:HO}(r:Rd H a u)(x:cP P w H h):cj P w H h a u:=by
 rcases r with r|⟨o,r⟩
 ·exact x a u r
 ·obtain⟨_,q⟩:=x a _ r;exact q
def rK:Option HO->Prop
 |some (.lst _)=>True
 |some (.dK _)=>True
 |some (.dT _)=>True
 |some (.set _ _)=>True
 |some (.ins _ _ _)=>True
 |some (.ext _)=>True
 |_=>False
section
variable{P:bh}{w:a8}{H:Hp}{h h':aK}{x e:ah}{o':HO}
theorem cP.write(ok:cP P w H h)(mu:rK (H x))(he:e=x\/H e=aa (.own x))(k:∀b u,b≠e->h.get? b=aa u->h'.get? b=aa u)(heo:∃u,h'.get? e=aa u)
 (new:cj P w (upd H x o') h' x o'):cP P w (upd H x o') h':=λb u q=>by
 have GV:∀c y,H c=aa (.own y)->c≠x:=λc y r z=>by subst z;rw[r]at mu;exact mu
 have O0:∀c xs,H c=aa (.tup xs)->c≠x:=λc xs r z=>by subst z;rw[r]at mu;exact mu
 by_cases hb:b=x
 ·subst hb;rw[bp]at q;cases q;exact new
 ·rw[aE hb]at q;by_cases hbe:b=e
  ·have q':H b=aa (.own x):=by
    rcases he with z|z
    ·exact absurd (hbe.trans z) hb
    ·rw[hbe];exact z
   rw[q]at q';cases q';obtain⟨v,hv⟩:=heo;exact⟨v,by rw[hbe];exact hv⟩
  ·refine(ok b u q).stay (λc v hc r=>k c v ?_ r) (λc r=>by rw[aE (GV c b r)];exact r) λc xs r=>by rw[aE (O0 c xs r)];exact r
   rcases hc with rfl|hc
   ·exact hbe
   ·rintro rfl;rcases he with z|z
    ·exact GV c b hc z
    ·rw[hc]at z;cases z;exact hb rfl
end
structure Un(fs ex:List ah)(H H':Hp)(h h':aK):Prop where
 keep:∀b o,h.get? b=aa o->H b=ab->b∉fs->b∉ex->h'.get? b=aa o
 slot:∀b o,h.get? b=aa o->H b=ab->b∈fs->b∉ex->∃sl,h'.get? b=aa { o with slots:=sl }
 free:∀b o,h.get? b=aa o->H b=ab->b∉ex->H' b=ab
 there:∀b o,h.get? b=aa o->b∉ex->∃o',h'.get? b=aa o'
 tups:∀b xs,H b=aa (.tup xs)->H' b=aa (.tup xs)
 kK:∀b o u,H b=aa (.frz o u)->H' b=aa (.frz o u)
 kL:∀b w ps,H b=aa (.tbl w ps)->∃more,H' b=aa (.tbl w (ps++more))
section
variable{fs fs' ex ex':List ah}{H H1 H2:Hp}{h h1 h2 h':aK}{a x e:ah}{o:HO}
theorem Un.any(u:Un fs ex H H1 h h1){b:ah}{ob:Obj}(q:h.get? b=aa ob)(n:H b=ab)(hx:b∉ex):∃sl,h1.get? b=aa { ob with slots:=sl }:=by
 by_cases hb:b∈fs
 ·exact u.slot b ob q n hb hx
 ·exact⟨ob.slots,u.keep b ob q n hb hx⟩
theorem Un.kept(k:∀b u,h.get? b=aa u->h'.get? b=aa u):Un fs ex H H h h':=⟨λb ob q _ _ _=>k b ob q,λb ob q _ _ _=>⟨ob.slots,k b ob q⟩,λ_ _ _ n _=>n,λb ob q _=>⟨ob,k b ob q⟩,λ_ _ q=>q,λ_ _ _ q=>q,λ_ w ps q=>⟨#[],by rw[q];simp⟩⟩
theorem Un.refl:Un fs ex H H h h:=Un.kept λ_ _ q=>q
theorem Un.laid(k:∀b u,h.get? b=aa u->h'.get? b=aa u)(hp:h.objs.size<=a)(hn:H a=ab):Un fs ex H (upd H a o) h h' where
 keep:=λb u q _ _ _=>k b u q
 slot:=λb u q _ _ _=>⟨u.slots,k b u q⟩
 free:=λb u q n _=>by rw[aE (gn (fW (b0 q) hp))];exact n
 there:=λb u q _=>⟨u,k b u q⟩
 tups:=λb xs q=>by rw[aE (cG q hn)];exact q
 kK:=λb u xs q=>by rw[aE (cG q hn)];exact q
 kL:=λb w ps q=>⟨#[],by rw[aE (cG q hn),q];simp⟩
theorem Un.write(mu:rK (H x))(he:e=x\/H e=aa (.own x))(k:∀b u,b≠e->h.get? b=aa u->h'.get? b=aa u)(heo:∃u,h'.get? e=aa u):Un fs ex H (upd H x o) h h':=by
 have hx:∀b,H b=ab->b≠x:=λb n z=>by subst z;rw[n]at mu;exact mu
 have hb:∀b,H b=ab->b≠e:=λb n z=>by
  subst z;rcases he with r|r
  ·exact hx b n r
  ·rw[n]at r;cases r
 have hm:∀b u,H b=aa u->¬ rK (aa u)->b≠x:=λb u q nm z=>by subst z;rw[q]at mu;exact nm mu
 refine⟨λb u q n _ _=>k b u (hb b n) q,λb u q n _ _=>⟨u.slots,k b u (hb b n) q⟩,λb u q n _=>by rw[aE (hx b n)];exact n,λb u q _=>?_,
  λb xs q=>by rw[aE (hm b _ q λz=>z)];exact q,λb u xs q=>by rw[aE (hm b _ q λz=>z)];exact q,λb w ps q=>⟨#[],by rw[aE (hm b _ q λz=>z),q];simp⟩⟩
 by_cases hbe:b=e
 ·subst hbe;exact heo
 ·exact⟨u,k b u hbe q⟩
end
def sQ(h:aK)(H:Hp):List ah:=(bQ h.objs.size).filter λa=>(H a).isSome
def jB(h:aK)(H:Hp):aK:=PySem.W.hideAll h (sQ h H)
theorem Md(h:aK)(H:Hp):(jB h H).objs.size=h.objs.size:=PySem.W.hideAll_size _ _
theorem KO{h:aK}{H:Hp}{b:ah}{o:Obj}(e:h.get? b=aa o)(n:H b=ab):(jB h H).get? b=aa o:=
 PySem.W.hideAll_get _ e λhm=>by
  have q:(H b).isSome=true:=(dD.mp hm).2;rw[n]at q;simp at q
theorem Mb{h:aK}{H:Hp}{b:ah}{o:Obj}(e:(jB h H).get? b=aa o):h.get? b=aa o/\H b=ab:=by
 have e':h.get? b=aa o:=PySem.W.of_hideAll (sQ h H) e;refine⟨e',?_⟩;cases q:H b with
 |none=>rfl
 |some x=>
  have hm:b∈sQ h H:=dD.mpr ⟨gD.mpr (b0 e'),by simp[q]⟩;have z:(jB h H).get? b=ab:=PySem.W.hideAll_none (sQ h H) hm;rw[z]at e;cases e
structure Mod(K:aG)(mg:Str->Option ai)(base:aK):Prop where
 kin:K.In base
 glob:base.Ns mainGlobals mg
 blt:∃mb,base.Ns builtinsNs mb/\∀x:Str,x ≠ "__name__" -> mb x=bootBuiltins x
 nolimit:base.NoLimit
structure Cx where
 prog:bh
 w:a8
 K:aG
 mg:Str->Option ai
 base:aK
 A:bK
 N:List Str
 s₀:ap
 H₀:Hp
 env:Env
 outer:List Env
 stack:List Env
 ex:List ah
 fn:Str->Bool
 calm:Bool
 pn:List (ah×Obj)
 xe:ai->ap->Prop
def frs(l:List Env):List ah:=l.filterMap (·.frame)
abbrev Cx.fs(X:Cx):List ah:=frs X.outer
def qL(sc:d8)(x:Str):Prop:=sc.names.lookup x=aa .local\/sc.names.lookup x=aa .cell\/sc.names.lookup x=aa .free
def Loc(sc:d8)(x:Str):Prop:=sc.names.lookup x=aa .local\/sc.names.lookup x=aa .cell
def Look(env:Env)(h:aK)(m:Str->Option ai)(x:Str)(u:ai):Prop:=(env.kindOf x=aa .local/\m x=aa u)\/((env.kindOf x=aa .cell\/env.kindOf x=aa .free)/\∃c,env.cells.lookup x=aa c/\h.IsCell c (aa u))
structure Cx.Ok(X:Cx):Prop where
 mod:Mod X.K X.mg X.base
 kind:X.env.scope.kind=.function
 glob:X.env.globals=mainGlobals
 blt:X.env.builtins=builtinsNs
 above:X.s₀.heap.objs.size<=X.env.locals
 inj:∀x y c,X.env.cells.lookup x=aa c->X.env.cells.lookup y=aa c->x=y
 has:∀x,(X.env.kindOf x=aa .cell\/X.env.kindOf x=aa .free)->∃c,X.env.cells.lookup x=aa c
 cab:∀x c,X.fn x=true->X.env.cells.lookup x=aa c->X.s₀.heap.objs.size<=c
 hd:X.calm=true->X.A.handled=ab
 frames:X.A.frames=aa X.stack
 stk:X.stack=X.outer\/(X.stack=X.env::X.outer/\X.env.frame=aa X.env.locals)
 exf:∀b∈X.ex,b≠X.env.locals/\∀x c,X.env.cells.lookup x=aa c->c≠b
 bs:∀b o,X.base.get? b=aa o->X.s₀.heap.get? b=aa o/\X.H₀ b=ab
 bsz:X.base.objs.size<=X.s₀.heap.objs.size
 sG:∀b o,X.base.get? b=aa o->b∉X.ex
 vG:∀b∈X.ex,b∉X.fs
 iq:X.s₀.heap.FunFrames X.base X.outer
 frf:∀b∈X.fs,X.H₀ b=ab
structure Inv(X:Cx)(ae:List (ah×Obj))(σ:List (Option V))(H:Hp)(s:ap):Prop where
 ok:X.Ok
 os:s.os=X.s₀.os
 bare:mM s.gens
 base:Un X.fs X.ex X.H₀ H X.s₀.heap s.heap
 loc:∃m,s.heap.Ns X.env.locals m/\∀(i:Nat) (x:Str) (v:V),X.N[i]? = aa x->σ[i]? = aa (aa v)->qL X.env.scope x->∃u,RelV v u/\Look X.env s.heap m x u
 cell:∀x c,X.env.cells.lookup x=aa c->∃v,s.heap.IsCell c v
 free:H X.env.locals=ab
 jk:∀x c,X.env.cells.lookup x=aa c->H c=ab
 pin:∀p∈X.pn++ae,s.heap.get? p.1=aa p.2/\H p.1=ab/\p.1≠X.env.locals/\p.1∉X.fs/\∀v,p.2.data≠.cell v
 hok:cP X.prog X.w H s.heap
 len:σ.length=X.N.length
section
variable{X:Cx}{ae:List (ah×Obj)}{σ:List (Option V)}{H H':Hp}{s:ap}{h':aK}
theorem Cx.Ok.Mp(ok:X.Ok){b:ah}{o:Obj}(e:X.base.get? b=aa o):b∉X.fs:=λhb=>by
 have:=(ok.iq.mem hb).1;rw[e]at this;cases this
theorem Inv.bs(I:Inv X ae σ H s):∀b o,X.base.get? b=aa o->s.heap.get? b=aa o/\H b=ab:=λb o e=>
 ⟨I.base.keep b o (I.ok.bs b o e).1 (I.ok.bs b o e).2 (I.ok.Mp e) (I.ok.sG b o e),I.base.free b o (I.ok.bs b o e).1 (I.ok.bs b o e).2 (I.ok.sG b o e)⟩
theorem Inv.bk(I:Inv X ae σ H s):∀b o,X.base.get? b=aa o->s.heap.get? b=aa o:=λb o e=>(I.bs b o e).1
theorem Inv.mod(I:Inv X ae σ H s):Mod X.K X.mg X.base:=I.ok.mod
theorem Inv.fe(I:Inv X ae σ H s):X.K.In s.heap:=I.ok.mod.kin.keeps I.bk
theorem Inv.lt(I:Inv X ae σ H s):X.env.locals<s.heap.objs.size:=let ⟨_,hn,_⟩:=I.loc;hn.lt
theorem Inv.sz(I:Inv X ae σ H s):X.s₀.heap.objs.size<=s.heap.objs.size:=dr I.ok.above (vp I.lt)
theorem Inv.N9(I:Inv X ae σ H s){a:ah}(h:s.heap.objs.size<=a):a∉X.fs:=λhb=>by
 obtain⟨_,o,ho,_⟩:=I.ok.iq.mem hb;exact absurd (fW (b0 ho) (dr I.sz h)) (jh _)
theorem Inv.mn(I:Inv X ae σ H s):∀x c,X.env.cells.lookup x=aa c->c≠X.env.locals:=λx c e z=>by
 obtain⟨v,o,ho,hd⟩:=I.cell x c e;obtain⟨m,⟨o',es,ep,ho',hd',_⟩,_⟩:=I.loc;rw[z,ho']at ho;cases ho;rw[hd']at hd;cases hd
theorem Inv.iq(I:Inv X ae σ H s):s.heap.FunFrames X.base X.outer:=by
 have all:∀(l:List Env),(∀b∈frs l,b∈X.fs)->X.s₀.heap.FunFrames X.base l->s.heap.FunFrames X.base l:=by
  intro l
  induction l with
  |nil=>intro _ _;trivial
  |cons env r ih=>
   intro hs hl;obtain⟨hk,⟨L,o,hf,hn,ho,hd⟩,hr⟩:=hl;have hL:L∈X.fs:=hs L (by unfold frs;rw[yU,hf];exact dj);obtain⟨sl,e⟩:=I.base.slot L o ho (I.ok.frf L hL) hL λz=>I.ok.vG L z hL;exact⟨hk,⟨L,_,hf,hn,e,hd⟩,ih (λb hb=>hs b (by unfold frs;rw[yU,hf];exact dJ _ hb)) hr⟩
 exact all X.outer (λ_ hb=>hb) I.ok.iq
theorem Inv.stack(I:Inv X ae σ H s):s.heap.FunFrames X.base X.stack:=by
 rcases I.ok.stk with e|⟨e,hf⟩
 ·rw[e];exact I.iq
 ·rw[e];obtain⟨m,hn,_⟩:=I.loc;refine .cons (by rw[I.ok.kind];decide) hf hn ?_ I.iq;exact Heap.get?_none_of_le (dr I.ok.bsz I.ok.above)
theorem Inv.rB(I:Inv X ae σ H s):∀b∈frs X.stack,b∈X.env.locals::X.fs:=λb hb=>by
 rcases I.ok.stk with e|⟨e,hf⟩
 ·rw[e]at hb;exact dJ _ hb
 ·rw[e]at hb;unfold frs at hb;rw[yU,hf]at hb;exact hb
theorem Inv.E4(I:Inv X ae σ H s):∀b∈frs X.stack,H b=ab:=λb hb=>by
 rcases bH.mp (I.rB b hb)with e|hb
 ·rw[e];exact I.free
 ·obtain⟨_,o,ho,_⟩:=I.ok.iq.mem hb;exact I.base.free b o ho (I.ok.frf b hb) λz=>I.ok.vG b z hb
theorem Inv.step{g':Array GenState}{t':Nat}{d':Drawn}{ch:List ah}(I:Inv X ae σ H s)
 (hch:∀b∈ch,(b∈X.ex\/X.s₀.heap.objs.size<=b)/\b≠X.env.locals/\(∀x c,X.env.cells.lookup x=aa c->c≠b)/\∀p∈X.pn++ae,p.1≠b)
 (keep:∀b o,b≠X.env.locals->b∉X.fs->b∉ch->s.heap.get? b=aa o->H b=ab->h'.get? b=aa o)
 (slot:∀b o,b≠X.env.locals->b∈X.fs->b∉ch->s.heap.get? b=aa o->H b=ab->∃sl,h'.get? b=aa { o with slots:=sl }) (free:∀b o,b∉ch->s.heap.get? b=aa o->H b=ab->H' b=ab)
 (there:∀b o,b∉ch->s.heap.get? b=aa o->∃o',h'.get? b=aa o')
 (tups:∀b xs,H b=aa (.tup xs)->H' b=aa (.tup xs)) (kK:∀b o u,H b=aa (.frz o u)->H' b=aa (.frz o u)) (kL:∀b w ps,H b=aa (.tbl w ps)->∃more,H' b=aa (.tbl w (ps++more)))
 (ns:∀m,s.heap.Ns X.env.locals m->h'.Ns X.env.locals m) (hok:cP X.prog X.w H' h') (hg:mM g') :
 Inv X ae σ H' { s with heap:=h',gens:=g',drawn:=d',toks:=t' }:=by
 have neL:∀b o,X.s₀.heap.get? b=aa o->b≠X.env.locals:=λb o e=>gn (fW (b0 e) I.ok.above);have neC:∀b o,X.s₀.heap.get? b=aa o->b∉X.ex->b∉ch:=λb o e hx hb=>by
  rcases(hch b hb).1 with z|z
  ·exact hx z
  ·exact absurd (fW (b0 e) z) (jh _)
 have cellK:∀x c,X.env.cells.lookup x=aa c->∀v,s.heap.IsCell c v->h'.IsCell c v:=λx c e v ⟨o,ho,hd⟩=>by
  have nch:c∉ch:=λz=>(hch c z).2.2.1 x c e rfl;by_cases hc:c∈X.fs
  ·obtain⟨sl,q⟩:=slot c o (I.mn x c e) hc nch ho (I.jk x c e);exact⟨_,q,hd⟩
  ·exact⟨o,keep c o (I.mn x c e) hc nch ho (I.jk x c e),hd⟩
 refine⟨I.ok,I.os,hg,⟨λb o e n hb hx=>?_,λb o e n hb hx=>?_,λb o e n hx=>?_,λb o e hx=>?_,λb xs e=>tups b xs (I.base.tups b xs e),λb o xs e=>kK b o xs (I.base.kK b o xs e),λb w ps e=>?_⟩,?_,λx c e=>?_,?_,λx c e=>?_,λp hp=>?_,hok,I.len⟩
 ·exact keep b o (neL b o e) hb (neC b o e hx) (I.base.keep b o e n hb hx) (I.base.free b o e n hx)
 ·obtain⟨sl,e1⟩:=I.base.slot b o e n hb hx;obtain⟨sl',e2⟩:=slot b _ (neL b o e) hb (neC b o e hx) e1 (I.base.free b o e n hx);exact⟨sl',e2⟩
 ·obtain⟨o',e1⟩:=I.base.there b o e hx;exact free b o' (neC b o e hx) e1 (I.base.free b o e n hx)
 ·obtain⟨o',e1⟩:=I.base.there b o e hx;exact there b o' (neC b o e hx) e1
 ·obtain⟨m1,e1⟩:=I.base.kL b w ps e;obtain⟨m2,e2⟩:=kL b w _ e1;exact⟨m1++m2,by rw[e2,Array.append_assoc]⟩
 ·obtain⟨m,hn,hl⟩:=I.loc;refine⟨m,ns m hn,λi x v e1 e2 e3=>?_⟩;obtain⟨u,r,l⟩:=hl i x v e1 e2 e3;refine⟨u,r,?_⟩;rcases l with l|⟨k,c,e,z⟩
  ·exact .inl l
  ·exact .inr ⟨k,c,e,cellK x c e _ z⟩
 ·obtain⟨v,z⟩:=I.cell x c e;exact⟨v,cellK x c e v z⟩
 ·obtain⟨m,⟨o,_,_,ho,_⟩,_⟩:=I.loc;exact free _ o (λz=>(hch _ z).2.1 rfl) ho I.free
 ·obtain⟨v,o,ho,hd⟩:=I.cell x c e;exact free c o (λz=>(hch c z).2.2.1 x c e rfl) ho (I.jk x c e)
 ·obtain⟨e,n,ne,nf,d⟩:=I.pin p hp;have nch:p.1∉ch:=λz=>(hch p.1 z).2.2.2 p hp rfl;exact⟨keep p.1 p.2 ne nf nch e n,free p.1 p.2 nch e n,ne,nf,d⟩
theorem Inv.un{t':Nat}(I:Inv X ae σ H s)(u:Un X.fs [] H H' s.heap h')(hok:cP X.prog X.w H' h'):Inv X ae σ H' { s with heap:=h',toks:=t' }:=by
 obtain⟨m,⟨o,es,ep,ho,r⟩,_⟩:=id I.loc;obtain⟨sl,hL⟩:=u.any ho I.free (by simp);exact I.step (g':=s.gens) (d':=s.drawn) (ch:=[]) (λ_ z=>nomatch z) (λb o _ hb _ e n=>u.keep b o e n hb (by simp)) (λb o _ hb _ e n=>u.slot b o e n hb (by simp)) (λb o _ e n=>u.free b o e n (by simp)) (λb o _ e=>u.there b o e (by simp)) u.tups u.kK u.kL (λm' hm=>by
  obtain⟨o',es',ep',ho',r'⟩:=hm;rw[ho]at ho';cases ho';exact⟨_,es',ep',hL,r'⟩) hok I.bare
theorem Inv.call{g':Array GenState}{t':Nat}{d':Drawn}{ch:List ah}(I:Inv X ae σ H s)(u:Un (frs X.stack) ch H H' s.heap h')(hok:cP X.prog X.w H' h')(hg:mM g')
 (hch:∀b∈ch,(b∈X.ex\/X.s₀.heap.objs.size<=b)/\b≠X.env.locals/\(∀x c,X.env.cells.lookup x=aa c->c≠b)/\∀p∈X.pn++ae,p.1≠b) :
 Inv X ae σ H' { s with heap:=h',gens:=g',drawn:=d',toks:=t' }:=by
 obtain⟨m,⟨o,es,ep,ho,r⟩,_⟩:=id I.loc;obtain⟨sl,hL⟩:=u.any ho I.free λz=>(hch _ z).2.1 rfl;exact I.step (ch:=ch) hch (λb o hL hb hc e n=>u.keep b o e n (λz=>(bH.mp (I.rB b z)).elim hL hb) hc) (λb o _ _ hc e n=>u.any e n hc) (λb o hc e n=>u.free b o e n hc) (λb o hc e=>u.there b o e hc) u.tups u.kK u.kL (λm' hm=>by
  obtain⟨o',es',ep',ho',r'⟩:=hm;rw[ho]at ho';cases ho';exact⟨_,es',ep',hL,r'⟩) hok hg
theorem Inv.turned{t':Nat}{it:ah}(I:Inv X ae σ H s)(k:∀b o,b≠it->s.heap.get? b=aa o->h'.get? b=aa o)(hn:H it=ab)(hL:it≠X.env.locals)
 (h1:it∈X.ex\/X.s₀.heap.objs.size<=it) (h2:∀x c,X.env.cells.lookup x=aa c->c≠it) (h3:∀p∈X.pn++ae,p.1≠it):Inv X ae σ H { s with heap:=h',toks:=t' }:=by
 have nit:∀b u,H b=aa u->b≠it:=λb u e z=>by rw[z,hn]at e;cases e
 refine I.step (g':=s.gens) (d':=s.drawn) (ch:=[it]) (λb hb=>?_) (λb o _ _ hc e _=>k b o (λz=>hc (by simp[z])) e) (λb o _ _ hc e _=>⟨o.slots,k b o (λz=>hc (by simp[z])) e⟩) (λ_ _ _ _ n=>n)
  (λb o hc e=>⟨o,k b o (λz=>hc (by simp[z])) e⟩) (λ_ _ e=>e) (λ_ _ _ e=>e) (λb w ps e=>⟨#[],by rw[e];simp⟩) (λm hm=>?_) (λb u e=>?_) I.bare
 ·have e:b=it:=by simpa using hb
  subst e;exact⟨h1,hL,h2,h3⟩
 ·obtain⟨o,es,ep,ho,r⟩:=hm;exact⟨o,es,ep,k _ o (dN hL) ho,r⟩
 ·refine(I.hok b u e).stay (λc v hc q=>k c v ?_ q) (λ_ q=>q) λ_ _ q=>q;rcases hc with z|z
  ·rw[z];exact nit b u e
  ·exact nit c _ z
theorem Inv.tok(I:Inv X ae σ H s)(t:Nat):Inv X ae σ H { s with toks:=t }:=I.un (h':=s.heap) (t':=t) Un.refl I.hok
theorem Inv.kept{t':Nat}(I:Inv X ae σ H s)(k:∀b u,s.heap.get? b=aa u->h'.get? b=aa u):Inv X ae σ H { s with heap:=h',toks:=t' }:=I.un (Un.kept k) (I.hok.kept k)
theorem Inv.laid{a:ah}{o:HO}{t':Nat}(I:Inv X ae σ H s)(k:∀b u,s.heap.get? b=aa u->h'.get? b=aa u)(hp:s.heap.objs.size<=a)(new:cj X.prog X.w (upd H a o) h' a o) :
 Inv X ae σ (upd H a o) { s with heap:=h',toks:=t' }:=I.un (Un.laid k hp (I.hok.fresh hp)) (I.hok.laid k hp new)
theorem Inv.write{x e:ah}{o:HO}{t':Nat}(I:Inv X ae σ H s)(mu:rK (H x))(he:e=x\/H e=aa (.own x))(k:∀b u,b≠e->s.heap.get? b=aa u->h'.get? b=aa u)(heo:∃u,h'.get? e=aa u)
 (new:cj X.prog X.w (upd H x o) h' x o):Inv X ae σ (upd H x o) { s with heap:=h',toks:=t' }:=I.un (Un.write mu he k heo) (I.hok.write mu he k heo new)
theorem Inv.weak{σ':List (Option V)}(I:Inv X ae σ H s)(hl:σ'.length = σ.length)(w:∀(i:Nat) v,σ'[i]? = aa (aa v)->σ[i]? = aa (aa v)):Inv X ae σ' H s:=⟨I.ok,I.os,I.bare,I.base,let ⟨m,hn,hl'⟩:=I.loc;⟨m,hn,λi x v e1 e2 e3=>hl' i x v e1 (w i v e2) e3⟩,I.cell,I.free,I.jk,I.pin,I.hok,hl.trans I.len⟩
theorem Inv.xr{pZ:List (ah×Obj)}(I:Inv X ae σ H s)(h:∀p∈pZ,s.heap.get? p.1=aa p.2/\H p.1=ab/\p.1≠X.env.locals/\p.1∉X.fs/\∀v,p.2.data≠.cell v):Inv X pZ σ H s:=⟨I.ok,I.os,I.bare,I.base,I.loc,I.cell,I.free,I.jk,λp hp=>(bJ.mp hp).elim (λz=>I.pin p (dL _ z)) (h p),I.hok,I.len⟩
theorem Bh{N:List Str}(hN:N.Nodup){i j:Nat}{x:Str}(a:N[i]? = aa x)(b:N[j]? = aa x):i=j:=by obtain⟨h1,e1⟩:=cv.mp a;obtain⟨h2,e2⟩:=cv.mp b;exact(pK hN).mp (e1.trans e2.symm)
theorem Ez{M:Model}{A:bK}{E:ai->ap->Prop}{i:Nat}{x:Str}{v:V}{u:ai}{Q:Unit->ap->Prop}(I:Inv X ae σ H s)(hN:X.N.Nodup)(hi:X.N[i]? = aa x)(hx:Loc X.env.scope x)(r:RelV v u)
 (h:∀s',Inv X ae (σ.set i (aa v)) H s'->(∃a,mI a s.heap s'.heap/\(a=X.env.locals\/X.env.cells.lookup x=aa a))->Q () s') (hf:X.fn x=true\/X.env.scope.names.lookup x=aa .local:=by first|exact .inl rfl|exact .inr rfl|assumption):wpAny M A (storeName X.env x u) Q E s:=by
 obtain⟨m,hn,hl⟩:=id I.loc;have hcls:(X.env.scope.kind==.class||(X.env.scope.kind==.module&&X.env.locals != X.env.globals))=false:=by rw[I.ok.kind];rfl
 have hiσ:i < σ.length:=by rw[I.len];exact(cv.mp hi).1
 have mn:=I.mn;have tracked:∀{a:ah} {h':aK},(∃o,s.heap.get? a=aa o/\H a=ab)->mI a s.heap h'->cP X.prog X.w H h':=λ{a h'} ha hs b ob e=>by
  obtain⟨_,_,hfree⟩:=ha;refine(I.hok b ob e).stay (λc w' hc q=>(hs.2 c ?_).trans q) (λ_ q=>q) λ_ _ q=>q;rintro rfl;rcases hc with rfl|hc
  ·rw[hfree]at e;cases e
  ·rw[hfree]at hc;cases hc
 rcases hx with hk|hk
 ·refine wpAny_storeName_local hk hn (λh' hn' hs=>?_) hcls;obtain⟨oL,_,_,hoL,_⟩:=id hn;refine h _ ⟨I.ok,I.os,I.bare,⟨λb o e n hb hx=>?_,λb o e n hb hx=>?_,I.base.free,λb o e hx=>?_,I.base.tups,I.base.kK,I.base.kL⟩,⟨_,hn',λj y v' e1 e2 e3=>?_⟩,λy c e=>?_,I.free,I.jk,λp hp=>?_,tracked ⟨oL,hoL,I.free⟩ hs,by simpa using I.len⟩ ⟨_,hs,.inl rfl⟩
  ·exact(hs.2 b (gn (fW (b0 e) I.ok.above))).trans (I.base.keep b o e n hb hx)
  ·obtain⟨sl,e1⟩:=I.base.slot b o e n hb hx;exact⟨sl,(hs.2 b (gn (fW (b0 e) I.ok.above))).trans e1⟩
  ·obtain⟨o',e1⟩:=I.base.there b o e hx;exact⟨o',(hs.2 b (gn (fW (b0 e) I.ok.above))).trans e1⟩
  ·by_cases hj:j=i
   ·subst hj;rw[hi]at e1;cases e1;rw[lq hiσ]at e2;cases e2;exact⟨u,r,.inl ⟨hk,by simp⟩⟩
   ·rw[dC (dN hj)]at e2;obtain⟨u',r',q⟩:=hl j y v' e1 e2 e3;refine⟨u',r',?_⟩;rcases q with ⟨k,e⟩|⟨k,c,e,z⟩
    ·refine .inl ⟨k,?_⟩;have:y≠x:=λe=>hj (Bh hN e1 (e ▸ hi));simp[this,e]
    ·exact .inr ⟨k,c,e,z.sameBut hs (mn y c e)⟩
  ·obtain⟨w',z⟩:=I.cell y c e;exact⟨w',z.sameBut hs (mn y c e)⟩
  ·obtain⟨e,n,ne,nf,d⟩:=I.pin p hp;exact⟨(hs.2 p.1 ne).trans e,n,ne,nf,d⟩
 ·have hfn:X.fn x=true:=by
   rcases hf with z|z
   ·exact z
   ·rw[z]at hk;cases hk
  obtain⟨c,hc⟩:=I.ok.has x (.inl hk);obtain⟨w',z⟩:=I.cell x c hc;refine wpAny_storeName_cell I.ok.kind hk hc z (λh' hc' hs=>?_);obtain⟨oc,hoc,O1⟩:=id z;refine h { s with heap:=h' } ⟨I.ok,I.os,I.bare,⟨λb o e n hb hx=>?_,λb o e n hb hx=>?_,I.base.free,λb o e hx=>?_,I.base.tups,I.base.kK,I.base.kL⟩,⟨m,hn.sameBut hs (dN (mn x c hc)),λj y v' e1 e2 e3=>?_⟩,λy c' e=>?_,I.free,I.jk,λp hp=>?_,tracked ⟨oc,hoc,I.jk x c hc⟩ hs,by simpa using I.len⟩ ⟨c,hs,.inr hc⟩
  ·exact(hs.2 b (gn (fW (b0 e) (I.ok.cab x c hfn hc)))).trans (I.base.keep b o e n hb hx)
  ·obtain⟨sl,e1⟩:=I.base.slot b o e n hb hx;exact⟨sl,(hs.2 b (gn (fW (b0 e) (I.ok.cab x c hfn hc)))).trans e1⟩
  ·obtain⟨o',e1⟩:=I.base.there b o e hx;exact⟨o',(hs.2 b (gn (fW (b0 e) (I.ok.cab x c hfn hc)))).trans e1⟩
  ·by_cases hj:j=i
   ·subst hj;rw[hi]at e1;cases e1;rw[lq hiσ]at e2;cases e2;exact⟨u,r,.inr ⟨.inl hk,c,hc,hc'⟩⟩
   ·rw[dC (dN hj)]at e2;obtain⟨u',r',q⟩:=hl j y v' e1 e2 e3;refine⟨u',r',?_⟩;rcases q with q|⟨k,c',e,z'⟩
    ·exact .inl q
    ·refine .inr ⟨k,c',e,z'.sameBut hs ?_⟩;rintro rfl;exact hj (Bh hN e1 (I.ok.inj _ _ _ e hc ▸ hi))
  ·by_cases hcc:c'=c
   ·subst hcc;exact⟨_,hc'⟩
   ·obtain⟨w2,z2⟩:=I.cell y c' e;exact⟨w2,z2.sameBut hs hcc⟩
  ·obtain⟨e,n,ne,nf,d⟩:=I.pin p hp;refine⟨(hs.2 p.1 ?_).trans e,n,ne,nf,d⟩;intro q;rw[q,hoc]at e;have q':oc=p.2:=fY e;exact d w' (by rw[<- q'];exact O1)
theorem C8{M:Model}{A:bK}{E:ai->ap->Prop}{i:Nat}{x:Str}{v:V}{u:ai}{Q:Unit->ap->Prop}(I:Inv X ae σ H s)(hN:X.N.Nodup)(hi:X.N[i]? = aa x)(hx:Loc X.env.scope x)(r:RelV v u)
 (h:∀s',Inv X ae (σ.set i (aa v)) H s'->Q () s') (hf:X.fn x=true\/X.env.scope.names.lookup x=aa .local:=by first|exact .inl rfl|exact .inr rfl|assumption):wpAny M A (storeName X.env x u) Q E s:=
 Ez I hN hi hx r (λs' I' _=>h s' I') hf
theorem Inv.call'{s':ap}{ch:List ah}(I:Inv X ae σ H s)(ho:s'.os=s.os)(u:Un (frs X.stack) ch H H' s.heap s'.heap)(hok:cP X.prog X.w H' s'.heap)(hg:mM s'.gens)
 (hch:∀b∈ch,(b∈X.ex\/X.s₀.heap.objs.size<=b)/\b≠X.env.locals/\(∀x c,X.env.cells.lookup x=aa c->c≠b)/\∀p∈X.pn++ae,p.1≠b):Inv X ae σ H' s':=by
 obtain⟨h',g',d',t',o'⟩:=s';have e:o'=s.os:=ho;subst e;exact I.call (g':=g') (t':=t') (d':=d') u hok hg hch
end
abbrev XK:=ai->Option ah->Hp->Prop
abbrev St:=List (Option V)
abbrev VK:=V->Hp->Prop
abbrev TE:=St->Hp->VK->Prop
abbrev TT:=St->Hp->(Bool->Hp->Prop)->Prop
abbrev TA:=St->Hp->(List V->Hp->Prop)->Prop
structure Ends where
 nx:St->Hp->Prop
 rt:VK
 bk:St->Hp->Prop:=λ_ _=>False
 ct:St->Hp->Prop:=λ_ _=>False
abbrev TS:=Ends->St->Hp->Prop
def EP(X:Cx)(ae:List (ah×Obj))(σ:St)(Q:VK)(u:ai)(s':ap):Prop:=∃v H',Inv X ae σ H' s'/\RelV v u/\Q v H'
def TP(X:Cx)(ae:List (ah×Obj))(σ:St)(Q:Bool->Hp->Prop)(b:Bool)(s':ap):Prop:=∃H',Inv X ae σ H' s'/\Q b H'
def AP(X:Cx)(ae:List (ah×Obj))(σ:St)(Q:List V->Hp->Prop)(us:List ai)(s':ap):Prop:=∃vs H',Inv X ae σ H' s'/\Vals vs us/\Q vs H'
def SP(X:Cx)(ae:List (ah×Obj))(D:Ends)(f:Flow)(s':ap):Prop:=
 match f with
 |.next=>∃σ' H',Inv X ae σ' H' s'/\D.nx σ' H'
 |.brk=>∃σ' H',Inv X ae σ' H' s'/\D.bk σ' H'
 |.cont=>∃σ' H',Inv X ae σ' H' s'/\D.ct σ' H'
 |.ret u=>∃v σ' H',Inv X ae σ' H' s'/\RelV v u/\D.rt v H'
def PE(X:Cx)(e:aS)(t:TE):Prop:=∀(ae:List (ah×Obj)) (s:ap) (σ:St) (H:Hp) (Q:VK),Inv X ae σ H s->t σ H Q->wpAny (model X.prog X.w) X.A (eval e X.env) (EP X ae σ Q) X.xe s
def PT(X:Cx)(e:aS)(t:TT):Prop:=∀(ae:List (ah×Obj)) (s:ap) (σ:St) (H:Hp) (Q:Bool->Hp->Prop),Inv X ae σ H s->t σ H Q->wpAny (model X.prog X.w) X.A (isTrue e X.env (eval e X.env)) (TP X ae σ Q) X.xe s
def PW(X:Cx)(e:aS)(t:TT):Prop:=∀(whole:Sem ai) (ae:List (ah×Obj)) (s:ap) (σ:St) (H:Hp) (Q:Bool->Hp->Prop),Inv X ae σ H s->t σ H Q->wpAny (model X.prog X.w) X.A (isTrue e X.env whole) (TP X ae σ Q) X.xe s
theorem PW.pt{X:Cx}{e:aS}{t:TT}(h:PW X e t):PT X e t:=h _
def PA(X:Cx)(es:List aS)(t:TA):Prop:=∀(pos:Pos) (ae:List (ah×Obj)) (s:ap) (σ:St) (H:Hp) (Q:List V->Hp->Prop),Inv X ae σ H s->t σ H Q->wpAny (model X.prog X.w) X.A (spliced (backTo pos (starEach es X.env))) (AP X ae σ Q) X.xe s
def PS(X:Cx)(st:bn)(t:TS):Prop:=∀(ae:List (ah×Obj)) (s:ap) (σ:St) (H:Hp) (D:Ends),Inv X ae σ H s->t D σ H->wpAny (model X.prog X.w) X.A (exec st X.env) (SP X ae D) X.xe s
def gc(X:Cx)(st:List bn)(t:TS):Prop:=∀(ae:List (ah×Obj)) (s:ap) (σ:St) (H:Hp) (D:Ends),Inv X ae σ H s->t D σ H->wpAny (model X.prog X.w) X.A (execs st X.env) (SP X ae D) X.xe s
theorem aX{α:Type}{t:Sem α}{Q Q':α->ap->Prop}{M:Model}{A:bK}{E:ai->ap->Prop}{s:ap}(h:wpAny M A t Q E s)(hQ:∀a s,Q a s->Q' a s):wpAny M A t Q' E s:=iH h hQ λ_ _ x=>x
section
variable{X:Cx}
def eA(i:Nat):TE:=λσ H Q=>∃v,σ[i]? = aa (aa v)/\Q v H
def tC(v:V):TE:=λ_ H Q=>Q v H
theorem IJ{i:Nat}{x:Str}{pos:Pos}(hN:X.N[i]? = aa x)(hv:qL X.env.scope x)(hd:(x==("__debug__" : Str))=false:=by decide)(hcd:(x==("__classdict__" : Str))=false:=by decide):PE X (.Name x pos) (eA i):=by
 intro ae s σ H Q I h;obtain⟨v,e,h⟩:=h;obtain⟨m,hn,hl⟩:=I.loc;obtain⟨u,r,l⟩:=hl i x v hN e hv;have fin:EP X ae σ Q u s:=⟨v,H,I,r,h⟩;rcases l with ⟨hk,hm⟩|⟨hk,c,hc,hcell⟩
 ·exact wpAny_Name (wpAny_loadName_local I.ok.kind hk hn hm fin) hd
 ·rcases hk with hk|hk
  ·exact wpAny_Name (wpAny_loadName_cell I.ok.kind hk hc hcell fin) hd
  ·exact wpAny_Name (wpAny_loadName_free I.ok.kind hk hc hcell fin hcd) hd
theorem aP{i j pos}:PE X (.Constant (.int i) j pos) (tC (.int i)):=λ_ _ _ H _ I h=>wpAny_Constant_int ⟨.int i,H,I.tok _,⟨_,rfl⟩,h⟩
theorem g7{b j pos}:PE X (.Constant (.bool b) j pos) (tC (.bl b)):=λ_ _ _ H _ I h=>Constant_bool ⟨.bl b,H,I,rfl,h⟩
theorem LR{j pos}:PE X (.Constant .none j pos) (tC .non):=λ_ _ _ H _ I h=>Constant_none ⟨.non,H,I,rfl,h⟩
theorem qp{x j pos}:PE X (.Constant (.str x) j pos) (tC (.str x)):=λ_ _ _ H _ I h=>Calls.Constant_str ⟨.str x,H,I.tok _,⟨_,rfl⟩,h⟩
def Gl(X:Cx)(x:Str):Prop:=X.env.kindOf x=aa .globalImplicit
theorem yb{E:ai->ap->Prop}{ae:List (ah×Obj)}{s:ap}{σ:St}{H:Hp}{x:Str}{u:ai}{pos:Pos}{Q:ai->ap->Prop}(I:Inv X ae σ H s)(hg:Gl X x)(hm:X.mg x=aa u)(h:Q u s)
 (hd:(x==("__debug__" : Str))=false:=by decide):wpAny (model X.prog X.w) X.A (eval (.Name x pos) X.env) Q E s:=
 GG I.ok.kind hg (Calls.loadGlobal_global (by rw[I.ok.glob];exact I.mod.glob.keeps I.bk) hm h) hd
theorem pj{E:ai->ap->Prop}{ae:List (ah×Obj)}{s:ap}{σ:St}{H:Hp}{x:Str}{u:ai}{pos:Pos}{Q:ai->ap->Prop}(I:Inv X ae σ H s)(hg:Gl X x)(hm:X.mg x=ab)(hv:bootBuiltins x=aa u)(h:Q u s)
 (hn:x ≠ "__name__" := by decide) (hd:(x==("__debug__" : Str))=false:=by decide):wpAny (model X.prog X.w) X.A (eval (.Name x pos) X.env) Q E s:=by
 obtain⟨mb,h1,h2⟩:=I.mod.blt;exact GG I.ok.kind hg (Calls.loadGlobal_builtin (by rw[I.ok.glob];exact I.mod.glob.keeps I.bk) hm (by rw[I.ok.blt];exact h1.keeps I.bk) ((h2 x hn).trans hv) h) hd
theorem D8{x:Str}{v:V}{u:ai}{pos:Pos}(hg:Gl X x)(hm:X.mg x=aa u)(r:RelV v u)(hd:(x==("__debug__" : Str))=false:=by decide):PE X (.Name x pos) (tC v):=λ_ _ _ H _ I h=>yb I hg hm ⟨v,H,I,r,h⟩ hd
theorem NR{x:Str}{v:V}{u:ai}{pos:Pos}(hg:Gl X x)(hm:X.mg x=ab)(hv:bootBuiltins x=aa u)(r:RelV v u)(hn:x ≠ "__name__" := by decide)(hd:(x==("__debug__" : Str))=false:=by decide):PE X (.Name x pos) (tC v):=λ_ _ _ H _ I h=>pj I hg hm hv ⟨v,H,I,r,h⟩ hn hd
variable{a b:aS}{ta tb:TE}{pos:Pos}
def PC(X:Cx)(op:CmpOp)(a b:aS)(t:TE):Prop:=
 ∀(ae:List (ah×Obj)) (s:ap) (σ:St) (H:Hp) (Q:VK),Inv X ae σ H s->t σ H Q ->
  wpAny (model X.prog X.w) X.A (eval a X.env) (λv s₁=>wpAny (model X.prog X.w) X.A (eval b X.env) (λu s₂=>wpAny (model X.prog X.w) X.A (compareOp op v u) (EP X ae σ Q) X.xe s₂) X.xe s₁) X.xe s
def tB(t:TE):TT:=λσ H Q=>t σ H λx H1=>∃c,x=.bl c/\Q c H1
theorem uN{op:CmpOp}{t:TE}(h:PC X op a b t)(h1:behindInMarks op b=false:=by first|exact Ps _ (by decide) (by decide)|rfl):PT X (.Compare a [op] [b] pos) (tB t):=by intro ae s σ H Q I hw;refine wpAny_isTrue_Compare1 (aX (h ae s σ H _ I hw) λv s1 h1=>aX h1 λu s2 h2=>aX h2 λc s3 ⟨x,H1,I1,r1,q1⟩=>?_) h1;obtain⟨d,rfl,q⟩:=q1;cases r1;exact nR ⟨H1,I1,q⟩
theorem la{e:aS}{t:TE}(h:PE X e t)(he:∀whole,isTrue e X.env whole=(do let v <- whole;standAt e.pos;holding [v] (truthy v)):=by intro _;rfl):PT X e (tB t):=by intro ae s σ H Q I hw;refine isTrue_plain (aX (h ae s σ H _ I hw) λv s1 ⟨x,H1,I1,r1,q1⟩=>?_) (he _);obtain⟨d,rfl,q⟩:=q1;cases r1;exact nR ⟨H1,I1,q⟩
variable{tA tB':TT}{rest:List aS}
def DS(t u:TT):TT:=λσ H Q=>t σ H λc H1=>if c=true then u σ H1 Q else Q false H1
def DV(t u:TT):TT:=λσ H Q=>t σ H λc H1=>if c=true then Q true H1 else u σ H1 Q
def Fb(t:TT):TT:=λσ H Q=>t σ H λc H1=>Q (!c) H1
theorem pw_and1(ha:PT X a tA):PW X (.BoolOp .And [a] pos) tA:=by
 intro wh ae s σ H Q I h;refine isTrue_and (aX (ha ae s σ H Q I h) λc s1 e=>?_);cases c with
 |true=>exact isTrue_and_nil e
 |false=>exact e
theorem pw_or1(ha:PT X a tA):PW X (.BoolOp .Or [a] pos) tA:=by
 intro wh ae s σ H Q I h;refine isTrue_or (aX (ha ae s σ H Q I h) λc s1 e=>?_);cases c with
 |false=>exact isTrue_or_nil e
 |true=>exact e
theorem pw_and(ha:PT X a tA)(hb:PW X (.BoolOp .And (b::rest) pos) tB'):PW X (.BoolOp .And (a::b::rest) pos) (DS tA tB'):=by
 intro wh ae s σ H Q I h;refine isTrue_and (aX (ha ae s σ H _ I h) λc s1 ⟨H1,I1,q1⟩=>?_);cases c with
 |true=>exact hb wh ae s1 σ H1 Q I1 q1
 |false=>exact⟨H1,I1,q1⟩
theorem pw_or(ha:PT X a tA)(hb:PW X (.BoolOp .Or (b::rest) pos) tB'):PW X (.BoolOp .Or (a::b::rest) pos) (DV tA tB'):=by
 intro wh ae s σ H Q I h;refine isTrue_or (aX (ha ae s σ H _ I h) λc s1 ⟨H1,I1,q1⟩=>?_);cases c with
 |true=>exact⟨H1,I1,q1⟩
 |false=>exact hb wh ae s1 σ H1 Q I1 q1
theorem tP(ha:PT X a tA):PT X (.UnaryOp .Not a pos) (Fb tA):=by intro ae s σ H Q I h;exact isTrue_not (ha ae s σ H (λc H1=>Q (!c) H1) I h)
def E9(ta tb:TE):TE:=λσ H Q=>ta σ H λx H1=>∃c,x=.bl c/\if c=true then tb σ H1 Q else Q (.bl false) H1
def CP(ta:TE):TE:=λσ H Q=>ta σ H λx H1=>∃c,x=.bl c/\Q (.bl (!c)) H1
theorem Dr{op}{t:TE}(h:PE X a t):PE X (.BoolOp op [a] pos) t:=λae s σ H Q I hw=>BoolOp_one (h ae s σ H Q I hw)
theorem B9(ha:PE X a ta)(hb:PE X (.BoolOp .And (b::rest) pos) tb):PE X (.BoolOp .And (a::b::rest) pos) (E9 ta tb):=by
 intro ae s σ H Q I h;refine BoolOp_and (aX (ha ae s σ H _ I h) λv s1 ⟨x,H1,I1,r1,q1⟩=>?_);obtain⟨c,rfl,q1⟩:=q1;cases r1;refine nR ?_;cases c with
 |true=>exact hb ae s1 σ H1 Q I1 q1
 |false=>exact⟨.bl false,H1,I1,rfl,q1⟩
theorem Kx(ha:PE X a ta):PE X (.UnaryOp .Not a pos) (CP ta):=by intro ae s σ H Q I h;refine UnaryOp_ (aX (ha ae s σ H _ I h) λv s1 ⟨x,H1,I1,r1,q1⟩=>?_);obtain⟨c,rfl,q1⟩:=q1;cases r1;exact not_of (nR ⟨.bl (!c),H1,I1,rfl,q1⟩)
def A1(t:TT)(ta tb:TE):TE:=λσ H Q=>t σ H λc H1=>if c=true then ta σ H1 Q else tb σ H1 Q
theorem tQ{c:aS}(hc:PT X c tA)(ha:PE X a ta)(hb:PE X b tb):PE X (.IfExp c a b pos) (A1 tA ta tb):=by
 intro ae s σ H Q I h;refine wpAny_IfExp (aX (hc ae s σ H _ I h) λd s1 ⟨H1,I1,q1⟩=>?_);cases d with
 |true=>exact ha ae s1 σ H1 Q I1 q1
 |false=>exact hb ae s1 σ H1 Q I1 q1
end
def d6(K:aG)(H:Hp)(a:ah)(xs:List V):Prop:=
 Rd H a (.lst xs) \/
  ∃(o:Obj) (am:Array ai) (n:Nat),K.lookup a=aa o/\o.cls=.type "list" /\ o.dict=ab/\o.data=.seq am n/\am.size<=sizeLine/\Vals xs am.toList
def eK(K:aG)(H:Hp)(a:ah)(xs:List V):Prop:=
 Rd H a (.tup xs) \/
  ∃(o:Obj) (am:Array ai) (n:Nat),K.lookup a=aa o/\o.cls=.type "tuple" /\ o.data=.seq am n/\am.size<=sizeLine/\Vals xs am.toList
def Mt:ai->Option V
 |.none=>aa .non
 |.bool b=>aa (.bl b)
 |.int i _=>aa (.int i)
 |.str x _=>aa (.str x)
 |.bytes b _=>aa (.byt b)
 |.float b _=>aa (.flt b)
 |.ref a=>aa (.ref a)
 |.type n=>aa (.ty n)
 |_=>ab
theorem RelV.abs{x:V}{u:ai}(r:RelV x u):Mt u=aa x:=by
 cases x with
 |non=>cases r;rfl
 |bl _=>cases r;rfl
 |int _=>obtain⟨t,rfl⟩:=r;rfl
 |str _=>obtain⟨t,rfl⟩:=r;rfl
 |byt _=>obtain⟨t,rfl⟩:=r;rfl
 |flt _=>obtain⟨t,rfl⟩:=r;rfl
 |ref _=>cases r;rfl
 |ty _=>cases r;rfl
theorem RelV.inj{x y:V}{u:ai}(r:RelV x u)(q:RelV y u):x=y:=fY (r.abs.symm.trans q.abs)
theorem Vals.inj:∀{xs ys:List V} {us:List ai},Vals xs us->Vals ys us->xs=ys
 |_,_,_,.nil,.nil=>rfl
 |_,_,_,.cons r t,.cons r' t'=>by rw[r.inj r',Vals.inj t t']
section
variable{X:Cx}{ae:List (ah×Obj)}{σ:St}{H:Hp}{s:ap}{a:ah}{xs ys:List V}
theorem Inv.list(I:Inv X ae σ H s)(h:d6 X.K H a xs):∃am:List ai,Vals xs am/\PlainL s.heap a am.toArray/\xs.length<=sizeLine:=by
 rcases h with h|⟨o,am,n,hk,hc,hd,hs,hz,r⟩
 ·obtain⟨z,am,n,r,e⟩:=h.ok I.hok;exact⟨am,r,⟨_,n,e,rfl,rfl,rfl⟩,z⟩
 ·refine⟨am.toList,r,⟨o,n,I.fe a o hk,hc,hd,by simpa using hs⟩,?_⟩;have e:=r.length;simp only[GF]at e;omega
theorem Inv.tuple(I:Inv X ae σ H s)(h:eK X.K H a xs):∃am:List ai,Vals xs am/\IsTup s.heap a am.toArray/\xs.length<=sizeLine:=by
 rcases h with h|⟨o,am,n,hk,hc,hs,hz,r⟩
 ·obtain⟨z,am,r,p⟩:=h.ok I.hok;exact⟨am,r,p.tup,z⟩
 ·refine⟨am.toList,r,⟨o,I.fe a o hk,hc,n,by simpa using hs⟩,?_⟩;have e:=r.length;simp only[GF]at e;omega
theorem Inv.wL(I:Inv X ae σ H s)(h:d6 X.K H a xs)(h':d6 X.K H a ys):xs=ys:=by
 obtain⟨am,r,⟨o,n,e,_,_,d⟩,_⟩:=I.list h;obtain⟨its',r',⟨o',n',e',_,_,d'⟩,_⟩:=I.list h';rw[e]at e';cases e';rw[d]at d';injection d' with d1 _;have:am=its':=by simpa using congrArg Array.toList d1
 subst this;exact r.inj r'
theorem Inv.vN(I:Inv X ae σ H s)(h:eK X.K H a xs)(h':eK X.K H a ys):xs=ys:=by
 obtain⟨am,r,⟨o,e,_,n,d⟩,_⟩:=I.tuple h;obtain⟨its',r',⟨o',e',_,n',d'⟩,_⟩:=I.tuple h';rw[e]at e';cases e';rw[d]at d';injection d' with d1 _;have:am=its':=by simpa using congrArg Array.toList d1
 subst this;exact r.inj r'
end
abbrev Cx.wish(X:Cx)(E:ai->ap->Prop):Cx:={ X with xe:=E }
abbrev Cx.kn(X:Cx):Cx:=X.wish λ_ _=>False
theorem Cx.Ok.wish{X:Cx}(ok:X.Ok)(E:ai->ap->Prop):(X.wish E).Ok:=⟨ok.mod,ok.kind,ok.glob,ok.blt,ok.above,ok.inj,ok.has,ok.cab,ok.hd,ok.frames,ok.stk,ok.exf,ok.bs,ok.bsz,ok.sG,ok.vG,ok.iq,ok.frf⟩
theorem Cx.Ok.l7{X:Cx}{E:ai->ap->Prop}(ok:(X.wish E).Ok):X.Ok:=⟨ok.mod,ok.kind,ok.glob,ok.blt,ok.above,ok.inj,ok.has,ok.cab,ok.hd,ok.frames,ok.stk,ok.exf,ok.bs,ok.bsz,ok.sG,ok.vG,ok.iq,ok.frf⟩
section
variable{X:Cx}{ae:List (ah×Obj)}{σ:St}{H:Hp}{s:ap}{E:ai->ap->Prop}
theorem Inv.wish(I:Inv X ae σ H s)(E:ai->ap->Prop):Inv (X.wish E) ae σ H s:=⟨I.ok.wish E,I.os,I.bare,I.base,I.loc,I.cell,I.free,I.jk,I.pin,I.hok,I.len⟩
theorem Inv.l7(I:Inv (X.wish E) ae σ H s):Inv X ae σ H s:=⟨I.ok.l7,I.os,I.bare,I.base,I.loc,I.cell,I.free,I.jk,I.pin,I.hok,I.len⟩
theorem SP.l7{D:Ends}{f:Flow}{s':ap}(h:SP (X.wish E) ae D f s'):SP X ae D f s':=by
 cases f with
 |next=>obtain⟨σ',H',I,q⟩:=h;exact⟨σ',H',I.l7,q⟩
 |brk=>obtain⟨σ',H',I,q⟩:=h;exact⟨σ',H',I.l7,q⟩
 |cont=>obtain⟨σ',H',I,q⟩:=h;exact⟨σ',H',I.l7,q⟩
 |ret u=>obtain⟨v,σ',H',I,r,q⟩:=h;exact⟨v,σ',H',I.l7,r,q⟩
theorem gc.kn{st:List bn}{t:TS}(h:gc X.kn st t):gc X st t:=λae s σ H D I hw=>
 iH (h ae s σ H D (I.wish _) hw) (λ_ _ q=>q.l7) λ_ _ z=>gW z
end
section
variable{X:Cx}{st:bn}{rest:List bn}{t u:TS}{e:aS}{te:TE}{pos:Pos}
def tG:TS:=λD σ H=>D.nx σ H
def iD(t u:TS):TS:=λD σ H=>t { D with nx:=u D } σ H
theorem d0:gc X [] tG:=λ_ _ σ H _ I h=>vi ⟨σ,H,I,h⟩
theorem aQ(h1:PS X st t)(h2:gc X rest u):gc X (st::rest) (iD t u):=by
 intro ae s σ H D I h;refine wpAny_execs_cons (aX (h1 ae s σ H { D with nx:=u D } I h) λf s1 q=>?_);cases f with
 |next=>
  obtain⟨σ',H',I',q⟩:=q;exact h2 ae s1 σ' H' D I' q
 |ret v=>exact q
 |brk=>exact q
 |cont=>exact q
theorem a6(h1:PS X st t):gc X [st] t:=by
 intro ae s σ H D I h;refine wpAny_execs_cons (aX (h1 ae s σ H D I h) λf s1 q=>?_);cases f with
 |next=>exact vi q
 |ret v=>exact q
 |brk=>exact q
 |cont=>exact q
theorem Inv.quiet{ae:List (ah×Obj)}{σ:St}{H:Hp}{s:ap}(I:Inv X ae σ H s):interactive X.env=false:=by simp[interactive,I.ok.kind]
def lZ(te:TE):TS:=λD σ H=>te σ H λ_ H1=>D.nx σ H1
theorem eu(he:PE X e te)(hs:swapsWith e ab pos.line X.env=pure false:=by rfl):PS X (.Expr e pos) (lZ te):=by intro ae s σ H D I h;exact wpAny_Expr_any (aX (he ae s σ H _ I h) λv s1 ⟨x,H1,I1,r1,q1⟩=>⟨σ,H1,I1,q1⟩) I.quiet hs
def qi(te:TE):TS:=λD σ H=>te σ H D.rt
theorem bS(he:PE X e te):PS X (.Return (aa e) pos) (qi te):=by intro ae s σ H D I h;exact wpAny_Return_some (aX (he ae s σ H _ I h) λv s1 ⟨x,H1,I1,r1,q1⟩=>⟨x,σ,H1,I1,r1,q1⟩)
def uo(c:TT)(t u:TS):TS:=λD σ H=>c σ H λb H1=>if b=true then t D σ H1 else u D σ H1
theorem dW{c:aS}{a b:List bn}{tc:TT}(hc:PT X c tc)(ha:gc X a t)(hb:gc X b u):PS X (.If c a b pos) (uo tc t u):=by
 intro ae s σ H D I h;refine wpAny_If (aX (hc ae s σ H _ I h) λd s1 ⟨H1,I1,q1⟩=>?_);cases d with
 |true=>exact ha ae s1 σ H1 D I1 q1
 |false=>exact hb ae s1 σ H1 D I1 q1
def Dy:TS:=λ_ _ _=>False
theorem Df:PS X st Dy:=λ_ _ _ _ _ _ h=>h.elim
end
abbrev TG:=V->St->Hp->(St->Hp->Prop)->Prop
abbrev hX:=List V->St->Hp->(St->Hp->Prop)->Prop
def PG(X:Cx)(target:aS)(t:TG):Prop:=
 ∀(ae:List (ah×Obj)) (s:ap) (σ:St) (H:Hp) (v:V) (u:ai) (Q:St->Hp->Prop),Inv X ae σ H s->RelV v u->t v σ H Q ->
  wpAny (model X.prog X.w) X.A (assign target X.env u) (λ_ s'=>∃σ' H',Inv X ae σ' H' s'/\Q σ' H') X.xe s
def se(X:Cx)(ts:List aS)(t:hX):Prop:=
 ∀(ae:List (ah×Obj)) (s:ap) (σ:St) (H:Hp) (vs:List V) (us:List ai) (Q:St->Hp->Prop),Inv X ae σ H s->Vals vs us->t vs σ H Q ->
  wpAny (model X.prog X.w) X.A (assignInOrder ((assignEach ts X.env).map (·.2)) us) (λ_ s'=>∃σ' H',Inv X ae σ' H' s'/\Q σ' H') X.xe s
section
variable{X:Cx}{pos:Pos}
def fJ(i:Nat):TG:=λv σ H Q=>Q (σ.set i (aa v)) H
theorem cZ{i:Nat}{x:Str}(hN:X.N.Nodup)(hi:X.N[i]? = aa x)(hx:Loc X.env.scope x)(hf:X.fn x=true\/X.env.scope.names.lookup x=aa .local:=by first|exact .inl rfl|exact .inr rfl|assumption):PG X (.Name x pos) (fJ i):=by intro ae s σ H v u Q I r h;exact wpAny_assign_Name (C8 I hN hi hx r (λs' I'=>⟨_,H,I',h⟩) hf)
def qq:hX:=λvs σ H Q=>vs=[]/\Q σ H
def q9(t:TG)(u:hX):hX:=λvs σ H Q=>∃v r,vs=v::r/\t v σ H λσ' H'=>u r σ' H' Q
theorem ie:se X [] qq:=by intro ae s σ H vs us Q I r h;obtain⟨e,h⟩:=h;subst e;cases r;exact assignInOrder_nil ⟨σ,H,I,h⟩
theorem dX{e:aS}{es:List aS}{t:TG}{u:hX}(h1:PG X e t)(h2:se X es u)
 (hs:(assignEach (e::es) X.env).map (·.2)=assign e X.env::(assignEach es X.env).map (·.2):=by rfl):se X (e::es) (q9 t u):=by
 intro ae s σ H vs us Q I r h;obtain⟨v,vr,e1,h⟩:=h;subst e1;cases r with
 |cons r rr=>
  rw[hs];refine assignInOrder_cons (aX (h1 ae s σ H _ _ _ I r h) λ_ s1 ⟨σ1,H1,I1,q1⟩=>?_);exact h2 ae s1 σ1 H1 _ _ Q I1 rr q1
def vU(K:aG)(n:Nat)(t:hX):TG:=λv σ H Q=>∃a xs,v=.ref a/\eK K H a xs/\xs.length=n/\t xs σ H Q
theorem iX{es:List aS}{k:Nat}{t:hX}{n:Nat}(hc:X.calm=true)(h:se X es t)
 (hn:(assignEach es X.env).length=n:=by rfl) (hst:(assignEach es X.env).findIdx? (·.1)=ab:=by rfl):PG X (.Tuple es k pos) (vU X.K n t):=by
 intro ae s σ H v u Q I r hw;obtain⟨a,xs,e1,hq,hl,hw⟩:=hw;subst e1;cases r;obtain⟨am,rv,ht,hz⟩:=I.tuple hq;refine assign_Tuple_tuple (I.ok.hd hc) ht (by simp[hn,<- hl,rv.length]) hst λh' hx=>?_;have I1:Inv X ae σ H { s with heap:=h' }:=I.kept (t':=s.toks) λb o e=>hx b o (gn (b0 e)) e;exact h ae _ σ H xs _ Q I1 (by simpa using rv) hw
def ip(te:TE)(g:TG):TS:=λD σ H=>te σ H λx H1=>g x σ H1 D.nx
theorem Bz{tg e:aS}{te:TE}{g:TG}(he:PE X e te)(hg:PG X tg g)(hs:swapsWithSole [tg] e pos.line X.env=pure false:=by rfl)(hw:swappedStores [tg] e X.env=pure ab:=by rfl)
 (h1:(assignEach [tg] X.env).map (·.2)=[assign tg X.env]:=by rfl):PS X (.Assign [tg] e pos) (ip te g):=by
 intro ae s σ H D I h;refine wpAny_Assign_stores (aX (he ae s σ H _ I h) λv s1 ⟨x,H1,I1,r1,q1⟩=>?_) hs hw;rw[h1];exact aX (hg ae s1 σ H1 x v _ I1 r1 q1) λ_ s2 q=>q
theorem kT{i:Nat}{x:Str}{e:aS}{te:TE}{pos':Pos}(hN:X.N.Nodup)(hi:X.N[i]? = aa x)(hx:Loc X.env.scope x)(he:PE X e te)(hs:swapsWith e (aa (.Name x pos')) pos.line X.env=pure false:=by rfl)(hf:X.fn x=true\/X.env.scope.names.lookup x=aa .local:=by first|exact .inl rfl|exact .inr rfl|assumption) :
 PS X (.Assign [.Name x pos'] e pos) (ip te (fJ i)):=by
 intro ae s σ H D I h;refine wpAny_Assign_Name (aX (he ae s σ H _ I h) λv s1 ⟨y,H1,I1,r1,q1⟩=>?_) hs;exact C8 I1 hN hi hx r1 (λs2 I2=>⟨_,H1,I2,q1⟩) hf
end
section
variable{X:Cx}{pos:Pos}
def Dh(c:TT)(tb:TS):TS:=λD σ H=>∃W:Nat->St->Hp->Prop,(∃m,W m σ H)/\∀m σ H,W m σ H ->
 c σ H λb H1=>if b=true then∃N:St->Hp->Prop,(∀σ' H',N σ' H'->∃m',m'<m/\W m' σ' H')/\tb { D with nx:=N,ct:=N,bk:=D.nx } σ H1 else D.nx σ H1
theorem AQ{c:aS}{body:List bn}{tc:TT}{tb:TS}(hp:PassesOwn (model X.prog X.w) X.A X.env X.xe)(hc:PT X c tc)(hb:gc X body tb):PS X (.While c body [] pos) (Dh tc tb):=by
 intro ae s σ H D I h;obtain⟨W,⟨m0,w0⟩,turn⟩:=h;refine wpAny_While (codeAny_whileLoop (λn s'=>∃σ' H',Inv X ae σ' H' s'/\W n σ' H') ?_ m0 ⟨σ,H,I,w0⟩);rintro n s1 ⟨σ1,H1,I1,w1⟩;refine nS hp (aX (hc ae s1 σ1 H1 _ I1 (turn n σ1 H1 w1)) λb s2 ⟨H2,I2,q2⟩=>?_);cases b with
 |true=>
  obtain⟨N,hN,q2⟩:=q2;rw[bb rfl];refine nS hp (aX (hb ae s2 σ1 H2 _ I2 q2) λf s3 q3=>?_);cases f with
  |next=>
   obtain⟨σ3,H3,I3,n3⟩:=q3;obtain⟨m',hm,w3⟩:=hN σ3 H3 n3;exact⟨m',hm,σ3,H3,I3,w3⟩
  |cont=>
   obtain⟨σ3,H3,I3,n3⟩:=q3;obtain⟨m',hm,w3⟩:=hN σ3 H3 n3;exact⟨m',hm,σ3,H3,I3,w3⟩
  |brk=>exact q3
  |ret v=>exact q3
 |false=>
  rw[bc du];exact vi ⟨σ1,H2,I2,q2⟩
end
structure It where
 go:Nat->Hp->Prop
 yld:Nat->Hp->V->Hp->Prop
 stop:Nat->Hp->Prop
def gK(X:Cx)(ae:List (ah×Obj))(H:Hp)(b:ah):Prop:=H b=ab/\b≠X.env.locals/\b∉X.fs/\(b∈X.ex\/X.s₀.heap.objs.size<=b)/\(∀x c,X.env.cells.lookup x=aa c->c≠b)/\∀p∈X.pn++ae,p.1≠b
theorem Inv.g9{X:Cx}{ae:List (ah×Obj)}{σ:St}{H H':Hp}{s:ap}{b:ah}(I:Inv X ae σ H s)(hb:s.heap.objs.size<=b)(hn:H' b=ab):gK X ae H' b:=by
 refine⟨hn,sA (fW I.lt hb),I.N9 hb,.inr (dr I.sz hb),λx c e z=>?_,λp hp z=>?_⟩
 ·obtain⟨v,q⟩:=I.cell x c e;exact absurd (fW q.lt (by rw[z];exact hb)) (jh _)
 ·exact absurd (fW (b0 (I.pin p hp).1) (by rw[z];exact hb)) (jh _)
structure Turn(P:bh)(w:a8)(K:aG)(tg:aS)(J:It)(fp:List ah)(it:ah)(tn:Nat->aK->Prop):Prop where
 mem:it∈fp
 obj:∀i h,tn i h->∀b∈fp,∃o,h.get? b=aa o/\∀v,o.data≠.cell v
 keep:∀i h h',tn i h->(∀b∈fp,∀o,h.get? b=aa o->h'.get? b=aa o)->tn i h'
 item:∀(X:Cx),X.prog=P->X.w=w->X.K=K->X.calm=true->∀(i:Nat) (ae:List (ah×Obj)) (s:ap) (σ:St) (H:Hp) (E:ai->ap->Prop),Inv X ae σ H s->(∀b∈fp,gK X ae H b)->tn i s.heap->J.go i H ->
  wpAny (model P w) X.A (pyNext (.ref it)) (λr s1=>∃u,r=aa u /\
   wpAny (model P w) X.A (letOwnedTupleGo tg (.ref it) u) (λ_ s2=>∃x H',Inv X ae σ H' s2/\RelV x u/\J.yld i H x H'/\tn (i+1) s2.heap/\∀b∈fp,H' b=ab) E s1) E s
 done:∀(X:Cx),X.prog=P->X.w=w->X.K=K->X.calm=true->∀(i:Nat) (ae:List (ah×Obj)) (s:ap) (σ:St) (H:Hp) (E:ai->ap->Prop),Inv X ae σ H s->(∀b∈fp,gK X ae H b)->tn i s.heap->J.stop i H ->
  wpAny (model P w) X.A (pyNext (.ref it)) (λr s1=>r=ab/\Inv X ae σ H s1) E s
 self:∀(A:bK) (i:Nat) (s:ap) (Q:ai->ap->Prop) (E:ai->ap->Prop),tn i s.heap->Q (.ref it) s->wpAny (model P w) A (pyIter (.ref it)) Q E s
abbrev TI:=St->Hp->(It->Hp->Prop)->Prop
def PIE(X:Cx)(ae:List (ah×Obj))(σ:St)(tg:aS)(R:It->Hp->Prop)(itv:ai)(s2:ap):Prop:=∃(it:ah) (fp:List ah) (tn:Nat->aK->Prop) (J:It) (H':Hp),itv=.ref it/\Inv X ae σ H' s2/\Turn X.prog X.w X.K tg J fp it tn/\tn 0 s2.heap/\(∀b∈fp,gK X ae H' b)/\R J H'
def PI(X:Cx)(tg iter:aS)(wi:TI):Prop:=
 ∀(ae:List (ah×Obj)) (s:ap) (σ:St) (H:Hp) (R:It->Hp->Prop),Inv X ae σ H s->wi σ H R ->
  wpAny (model X.prog X.w) X.A (eval iter X.env) (λv s1=>wpAny (model X.prog X.w) X.A (pyIter v) (PIE X ae σ tg R) X.xe s1) X.xe s
theorem qt{M:Model}{A:bK}{E:ai->ap->Prop}{s:ap}{tg:aS}{it:ah}{u:ai}{o:Obj}{n:String}{vs:Array ai}{Q:Unit->ap->Prop}(ho:s.heap.get? it=aa o)(hc:o.cls=.type n)(hd:o.data=.fields vs)
 (hn:["enumerate","zip","dict_itemiterator","dict_reverseitemiterator","odict_iterator","itertools.zip_longest","itertools.pairwise"].contains n=false) (hQ:Q () s):wpAny M A (letOwnedTupleGo tg (.ref it) u) Q E s:=by
 unfold letOwnedTupleGo;cases tg<;>first
  |exact bE hQ
  | (cases u<;>first
   |exact bE hQ
   | (refine aI (wpAny_load ho ?_)
      rw[hc,hd];show wpAny M A (if(["enumerate","zip","dict_itemiterator","dict_reverseitemiterator","odict_iterator","itertools.zip_longest","itertools.pairwise"].contains n&&vs[0]? == aa (rawInt _))=true then _ else _) Q E s;rw[bc (by intro h;rw[hn,Bool.false_and]at h;cases h)];exact bE hQ))
def rT(K:aG)(a:ah):It:=⟨λi H=>∃xs x,d6 K H a xs/\xs[i]? = aa x,λi H x H'=>H'=H/\∀xs,d6 K H a xs->xs[i]? = aa x,λi H=>∃xs,d6 K H a xs/\xs.length<=i⟩
def qK(K:aG)(a:ah):It:=⟨λi H=>∃xs x,eK K H a xs/\xs[i]? = aa x,λi H x H'=>H'=H/\∀xs,eK K H a xs->xs[i]? = aa x,λi H=>∃xs,eK K H a xs/\xs.length<=i⟩
def oQ(lo:Int)(n:Nat):It:=⟨λi _=>i<n,λi H x H'=>H'=H/\x=.int (lo+i),λi _=>n<=i⟩
theorem JI{P:bh}{w:a8}{K:aG}{tg:aS}(a it:ah):Turn P w K tg (rT K a) [it] it (λi h=>h.IsListIter it a i) where
 mem:=by simp
 obj:=λi h st b hb=>by
  have e:b=it:=by simpa using hb
  subst e;obtain⟨o,e,c,d⟩:=st;exact⟨o,e,λv z=>by rw[d]at z;cases z⟩
 keep:=λi h h' st k=>st.at λo e=>k it (by simp) o e
 item:=by intro X hP hw hK hc i ae s σ H E I hf st hg;subst hP hw hK;obtain⟨xs,x,hq,hx⟩:=hg;obtain⟨am,rv,p,hz⟩:=I.list hq;obtain⟨u,hu,ru⟩:=rv.get hx;obtain⟨f0,f1,f2,f3,f4,f5⟩:=hf it (by simp);refine Gk st p.isList (x:=u) (by simpa using hu) λh' st' sb=>?_;have I1:Inv X ae σ H { s with heap:=h' }:=I.turned (t':=s.toks) (λb o hb e=>(sb.2 b hb).trans e) f0 f1 f3 f4 f5;obtain⟨o,e,c,d⟩:=id st';exact⟨u,rfl,qt (s:={ s with heap:=h' }) e c d (by decide) ⟨x,H,I1,ru,⟨rfl,λys hy=>by rw[I.wL hy hq];exact hx⟩,st',λb hb=>(hf b hb).1⟩⟩
 done:=by intro X hP hw hK hc i ae s σ H E I hf st hg;subst hP hw hK;obtain⟨xs,hq,hx⟩:=hg;obtain⟨am,rv,p,hz⟩:=I.list hq;obtain⟨f0,f1,f2,f3,f4,f5⟩:=hf it (by simp);have hl:=rv.length;exact wpAny_pyNext_list_end (I.ok.hd hc) st p.isList (by simp;omega) λh' eb=>⟨rfl,I.turned (t':=s.toks) (λb o hb e=>eb b o hb e) f0 f1 f3 f4 f5⟩
 self:=λ_ _ _ _ _ st h=>wpAny_pyIter_listiter st h
theorem JA{P:bh}{w:a8}{K:aG}{tg:aS}(a it:ah):Turn P w K tg (qK K a) [it] it (λi h=>h.IsTupleIter it a i) where
 mem:=by simp
 obj:=λi h st b hb=>by
  have e:b=it:=by simpa using hb
  subst e;obtain⟨o,e,c,d⟩:=st;exact⟨o,e,λv z=>by rw[d]at z;cases z⟩
 keep:=λi h h' st k=>st.at λo e=>k it (by simp) o e
 item:=by intro X hP hw hK hc i ae s σ H E I hf st hg;subst hP hw hK;obtain⟨xs,x,hq,hx⟩:=hg;obtain⟨am,rv,p,hz⟩:=I.tuple hq;obtain⟨u,hu,ru⟩:=rv.get hx;obtain⟨f0,f1,f2,f3,f4,f5⟩:=hf it (by simp);refine wpAny_pyNext_tuple_item st (show s.heap.IsTuple a am.toArray from p) (x:=u) (by simpa using hu) λh' st' sb=>?_;have I1:Inv X ae σ H { s with heap:=h' }:=I.turned (t':=s.toks) (λb o hb e=>(sb.2 b hb).trans e) f0 f1 f3 f4 f5;obtain⟨o,e,c,d⟩:=id st';exact⟨u,rfl,qt (s:={ s with heap:=h' }) e c d (by decide) ⟨x,H,I1,ru,⟨rfl,λys hy=>by rw[I.vN hy hq];exact hx⟩,st',λb hb=>(hf b hb).1⟩⟩
 done:=by intro X hP hw hK hc i ae s σ H E I hf st hg;subst hP hw hK;obtain⟨xs,hq,hx⟩:=hg;obtain⟨am,rv,p,hz⟩:=I.tuple hq;obtain⟨f0,f1,f2,f3,f4,f5⟩:=hf it (by simp);have hl:=rv.length;exact wpAny_pyNext_tuple_end (I.ok.hd hc) st (show s.heap.IsTuple a am.toArray from p) (by simp;omega) λh' eb=>⟨rfl,I.turned (t':=s.toks) (λb o hb e=>eb b o hb e) f0 f1 f3 f4 f5⟩
 self:=λ_ _ _ _ _ st h=>wpAny_pyIter_tupleiter st h
theorem JX{P:bh}{w:a8}{K:aG}{tg:aS}(it:ah)(lo:Int)(n:Nat):Turn P w K tg (oQ lo n) [it] it (λi h=>IsRangeIter h it (lo+(i:Nat)*1) ((n:Int)-(i:Nat)) 1) where
 mem:=by simp
 obj:=λi h st b hb=>by
  have e:b=it:=by simpa using hb
  subst e;exact⟨_,st,λv z=>by
   have z':Data.fields _=Data.cell v:=z;cases z'⟩
 keep:=λi h h' st k=>k it (by simp) _ st
 item:=by intro X hP hw hK hc i ae s σ H E I hf st hg;subst hP hw hK;obtain⟨f0,f1,f2,f3,f4,f5⟩:=hf it (by simp);have W:=Walks.range (prog:=X.prog) (w:=X.w) (I.ok.hd hc) it lo 1 n;refine W.item i s _ _ hg st λv h' tk hv st' kk=>?_;obtain⟨t,rfl⟩:=hv;have I1:Inv X ae σ H { s with heap:=h',toks:=tk }:=I.turned (λb o hb e=>kk b o (by simpa using hb) e) f0 f1 f3 f4 f5;refine⟨_,rfl,qt (s:={ s with heap:=h',toks:=tk }) (n := "range_iterator") st' rfl rfl (by decide) ⟨.int (lo+i),H,I1,⟨t,?_⟩,⟨rfl,rfl⟩,st',λb hb=>(hf b hb).1⟩⟩;rw[Int.mul_one]
 done:=by intro X hP hw hK hc i ae s σ H E I hf st hg;subst hP hw hK;obtain⟨f0,f1,f2,f3,f4,f5⟩:=hf it (by simp);exact wpAny_pyNext_range_end (I.ok.hd hc) st (by have:n<=i:=hg;omega) λh' eb=>⟨rfl,I.turned (t':=s.toks) (λb o hb e=>eb b o hb e) f0 f1 f3 f4 f5⟩
 self:=λ_ _ _ _ _ st h=>wpAny_pyIter_rangeiter st h
section
variable{X:Cx}{tg:aS}
def C1(K:aG)(tl:TE):TI:=λσ H R=>tl σ H λx H1=>∃a,x=.ref a/\(∃xs,d6 K H1 a xs)/\R (rT K a) H1
def CT(K:aG)(tl:TE):TI:=λσ H R=>tl σ H λx H1=>∃a,x=.ref a/\(∃xs,eK K H1 a xs)/\R (qK K a) H1
theorem Lr{l:aS}{tl:TE}(hl:PE X l tl):PI X tg l (C1 X.K tl):=by
 intro ae s σ H R I h;refine aX (hl ae s σ H _ I h) λv s1 ⟨x,H1,I1,r1,q1⟩=>?_;obtain⟨a,e,⟨xs,hq⟩,q⟩:=q1;subst e;cases r1;obtain⟨am,rv,p,hz⟩:=I1.list hq;refine vg p.isList ?_;refine⟨s1.heap.objs.size,[s1.heap.objs.size],_,_,H1,rfl,I1.kept (t':=s1.toks) λb o e=>cA _ e,JI a _,⟨_,dE _ rfl,rfl,rfl⟩,λb hb=>?_,q⟩;have e:b=s1.heap.objs.size:=by simpa using hb
 subst e;exact I1.g9 (bA _) (I1.hok.fresh (bA _))
theorem NI{l:aS}{tl:TE}(hl:PE X l tl):PI X tg l (CT X.K tl):=by
 intro ae s σ H R I h;refine aX (hl ae s σ H _ I h) λv s1 ⟨x,H1,I1,r1,q1⟩=>?_;obtain⟨a,e,⟨xs,hq⟩,q⟩:=q1;subst e;cases r1;obtain⟨am,rv,p,hz⟩:=I1.tuple hq;refine wpAny_pyIter_tuple (show s1.heap.IsTuple a am.toArray from p) ?_;refine⟨s1.heap.objs.size,[s1.heap.objs.size],_,_,H1,rfl,I1.kept (t':=s1.toks) λb o e=>cA _ e,JA a _,⟨_,dE _ rfl,rfl,rfl⟩,λb hb=>?_,q⟩;have e:b=s1.heap.objs.size:=by simpa using hb
 subst e;exact I1.g9 (bA _) (I1.hok.fresh (bA _))
theorem KN{ae:List (ah×Obj)}{σ:St}{H:Hp}{s:ap}{R:It->Hp->Prop}{E:ai->ap->Prop}{lo hi:Int}{t u v:Tok}{tk:Nat}(I:Inv X ae σ H s)(h1:-(2 ^ 62)<=lo)(h2:lo<2 ^ 62)(h3:-(2 ^ 62)<=hi)(h4:hi<2 ^ 62)
 (q:R (oQ lo (hi-lo).toNat) H):wpAny (model X.prog X.w) X.A (pyIter (.ref s.heap.objs.size)) (PIE X ae σ tg R) E { s with heap:=s.heap.push { cls:=.type "range", data:=.fields #[.int lo t,.int hi u,.int 1 v] },toks:=tk }:=by
 refine wpAny_pyIter_range (IsRange.new ..) (small_one h1 h2 h3 h4) ?_;have I1:Inv X ae σ H { s with heap:=s.heap.push { cls:=.type "range",data:=.fields #[.int lo t,.int hi u,.int 1 v] },toks:=tk }:=I.kept λb o e=>cA _ e;refine⟨(s.heap.push { cls:=.type "range",data:=.fields #[.int lo t,.int hi u,.int 1 v] }).objs.size,[(s.heap.push { cls:=.type "range", data:=.fields #[.int lo t,.int hi u,.int 1 v] }).objs.size],_,_,H,rfl,
  I1.kept (t':=tk) λb o e=>cA _ e,JX _ lo (hi-lo).toNat,?_,λb hb=>?_,q⟩
 ·have e1:lo+((0:Nat):Int)*1=lo:=by simp
  have e2:(((hi-lo).toNat:Nat):Int)-((0:Nat):Int)=Builtin.Range.rangeSize lo hi 1:=by rw[rangeSize_one];split<;>omega
  show IsRangeIter _ _ (lo+((0:Nat):Int)*1) ((((hi-lo).toNat:Nat):Int)-((0:Nat):Int)) 1;rw[e1,e2];exact dE _ rfl
 ·have e:b=(s.heap.push { cls:=.type "range", data:=.fields #[.int lo t,.int hi u,.int 1 v] }).objs.size:=by simpa using hb
  subst e;exact I1.g9 (bA _) (I1.hok.fresh (bA _))
def D4(ta:TA):TI:=λσ H R=>ta σ H λvs H1=>∃j:Int,vs=[.int j]/\-(2 ^ 62)<=j/\j<2 ^ 62/\R (oQ 0 j.toNat) H1
theorem jD{a:aS}{ta:TA}{p pos:Pos}(hg:Gl X "range")(hm:X.mg "range" = ab)(ha:PA X [a] ta)(hs:starEach [a] X.env=[(false,eval a X.env)]:=by rfl):PI X tg (.Call (.Name "range" p) [a] [] pos) (D4 ta):=by
 intro ae s σ H R I h;refine Call_ (pj I hg hm boot_range (vB (aX (ha pos ae s σ H _ I h) λus s1 ⟨vs,H1,I1,r1,q1⟩=>?_) hs rfl));obtain⟨j,e,q1,q2,q⟩:=q1;subst e;cases r1 with
 |cons r rr=>
  cases rr;obtain⟨t,rfl⟩:=r;exact call_range_1 (KN I1 (by omega) (by omega) q1 q2 (by simpa using q))
def Bk(wi:TI)(g:TG)(tb:TS):TS:=λD σ H=>wi σ H λJ H1=>∃W:Nat->Nat->St->Hp->Prop,(∃m,W 0 m σ H1)/\∀i m σ H,W i m σ H ->
 (J.stop i H/\D.nx σ H)\/(J.go i H/\∃N:St->Hp->Prop,(∀σ' H',N σ' H'->∃m',m'<m/\W (i+1) m' σ' H')/\∀x H',J.yld i H x H'->g x σ H' λσ2 H2=>tb { D with nx:=N,ct:=N,bk:=D.nx } σ2 H2)
def uq(fp:List ah)(h:aK):List (ah×Obj):=fp.filterMap λb=>(h.get? b).map λo=>(b,o)
theorem oC{fp:List ah}{h:aK}{b:ah}{o:Obj}(hb:b∈fp)(e:h.get? b=aa o):(b,o)∈uq fp h:=uZ.mpr ⟨b,hb,by rw[e];rfl⟩
theorem JZ{fp:List ah}{h:aK}{p:ah×Obj}(hp:p∈uq fp h):p.1∈fp/\h.get? p.1=aa p.2:=by
 obtain⟨b,hb,e⟩:=uZ.mp hp;cases q:h.get? b with
 |none=>rw[q]at e;cases e
 |some o=>
  rw[q]at e;have e':(b,o)=p:=fY e;subst e';exact⟨hb,q⟩
theorem Inv.pinned{ae:List (ah×Obj)}{σ:St}{H:Hp}{s:ap}{fp:List ah}(I:Inv X ae σ H s)(hf:∀b∈fp,gK X ae H b)(ho:∀b∈fp,∃o,s.heap.get? b=aa o/\∀v,o.data≠.cell v):Inv X (ae++uq fp s.heap) σ H s:=
 I.xr λp hp=>(bJ.mp hp).elim (λz=>I.pin p (dI _ z)) λz=>by
  obtain⟨hb,e⟩:=JZ z;obtain⟨f0,f1,f2,_⟩:=hf p.1 hb;obtain⟨o,e',d⟩:=ho p.1 hb;rw[e]at e';cases e';exact⟨e,f0,f1,f2,d⟩
theorem Inv.pD{ae pl:List (ah×Obj)}{σ:St}{H:Hp}{s:ap}(I:Inv X (ae++pl) σ H s):Inv X ae σ H s:=I.xr λp hp=>I.pin p (dI _ (dL _ hp))
theorem eJ{iter:aS}{body:List bn}{wi:TI}{g:TG}{tb:TS}{pos:Pos}(hp:PassesOwn (model X.prog X.w) X.A X.env X.xe)(hc:X.calm=true)(hi:PI X tg iter wi)(hg:PG X tg g)(hb:gc X body tb)
 (hs:∀x,foldedSetIterable iter X.env x=pure x:=by intro _;rfl):PS X (.For tg iter body [] pos) (Bk wi g tb):=by
 intro ae s σ H D I h;refine wpAny_For (aX (hi ae s σ H _ I h) λv s1 h1=>aX h1 λitv s2 h2=>?_) hs;obtain⟨it,fp,tn,J,H2,e,I2,T,st2,f2,W,⟨m0,w0⟩,turn⟩:=h2;subst e;have stat:∀{H':Hp},(∀b∈fp,H' b=ab)->∀b∈fp,gK X ae H' b:=λhn b hb=>⟨hn b hb,(f2 b hb).2⟩;refine codeAny_forLoop_any (λn s'=>∃i σ' H',Inv X ae σ' H' s'/\tn i s'.heap/\(∀b∈fp,H' b=ab)/\W i n σ' H') ?_ m0 ⟨0,σ,H2,I2,st2,λb hb=>(f2 b hb).1,w0⟩;rintro n s3 ⟨i,σ3,H3,I3,st3,fr3,w3⟩;rcases turn i n σ3 H3 w3 with ⟨stop,qn⟩|⟨go,N,hN,step⟩
 ·refine nS hp (aX (T.done X rfl rfl rfl hc i ae s3 σ3 H3 X.xe I3 (stat fr3) st3 stop) λr s4 ⟨hr,I4⟩=>?_);subst hr;exact vi ⟨σ3,H3,I4,qn⟩
 ·refine nS hp (aX (T.item X rfl rfl rfl hc i ae s3 σ3 H3 X.xe I3 (stat fr3) st3 go) λr s4 ⟨u,hr,h4⟩=>?_);subst hr;refine nS hp (aX h4 λ_ s5 ⟨x,H5,I5,r5,y5,st5,fr5⟩=>?_);have I5':=I5.pinned (stat fr5) (T.obj _ _ st5);refine nS hp (aX (hg _ s5 σ3 H5 x u _ I5' r5 (step x H5 y5)) λ_ s6 ⟨σ6,H6,I6,q6⟩=>?_);refine nS hp (aX (hb _ s6 σ6 H6 _ I6 q6) λf s7 q7=>?_);have again:∀{σ7:St} {H7:Hp},Inv X (ae++uq fp s5.heap) σ7 H7 s7->N σ7 H7->∃m,m<n/\∃i σ' H',Inv X ae σ' H' s7/\tn i s7.heap/\(∀b∈fp,H' b=ab)/\W i m σ' H':=λ{σ7 H7} I7 n7=>by
   obtain⟨m',hm,w7⟩:=hN σ7 H7 n7;refine⟨m',hm,i+1,σ7,H7,I7.pD,T.keep _ _ _ st5 λb hb o e=>(I7.pin (b,o) (dI _ (dI _ (oC hb e)))).1,λb hb=>?_,w7⟩;obtain⟨o,e,d⟩:=T.obj _ _ st5 b hb;exact(I7.pin (b,o) (dI _ (dI _ (oC hb e)))).2.1
  cases f with
  |next=>obtain⟨σ7,H7,I7,n7⟩:=q7;exact again I7 n7
  |cont=>obtain⟨σ7,H7,I7,n7⟩:=q7;exact again I7 n7
  |brk=>obtain⟨σ7,H7,I7,q7⟩:=q7;exact⟨σ7,H7,I7.pD,q7⟩
  |ret v=>obtain⟨x7,σ7,H7,I7,r7,q7⟩:=q7;exact⟨x7,σ7,H7,I7.pD,r7,q7⟩
end
abbrev R2:=V->V->Hp->VK->Prop
def c7(X:Cx)(f:ai->ai->Sem ai)(r:R2):Prop:=
 ∀(ae:List (ah×Obj)) (s:ap) (σ:St) (H:Hp) (x y:V) (v u:ai) (Q:VK),Inv X ae σ H s->RelV x v->RelV y u->r x y H Q ->
  wpAny (model X.prog X.w) X.A (f v u) (EP X ae σ Q) X.xe s
def f8(X:Cx)(f:ai)(r:List V->Hp->VK->Prop):Prop:=
 ∀(ae:List (ah×Obj)) (s:ap) (σ:St) (H:Hp) (xs:List V) (us:List ai) (Q:VK),Inv X ae σ H s->Vals xs us->r xs H Q ->
  wpAny (model X.prog X.w) X.A (call f us) (EP X ae σ Q) X.xe s
def HW(X:Cx)(r:V->Hp->(Bool->Hp->Prop)->Prop):Prop:=
 ∀(ae:List (ah×Obj)) (s:ap) (σ:St) (H:Hp) (x:V) (v:ai) (Q:Bool->Hp->Prop),Inv X ae σ H s->RelV x v->r x H Q ->
  wpAny (model X.prog X.w) X.A (truthy v) (TP X ae σ Q) X.xe s
def mf(r:R2)(ta tb:TE):TE:=λσ H Q=>ta σ H λx H1=>tb σ H1 λy H2=>r x y H2 Q
def rI(C:Int->Int->Prop)(g:Int->Int->V):R2:=λx y H Q=>∃i j,x=.int i/\y=.int j/\C i j/\Q (g i j) H
def j8(g:Int->Int->V):R2:=λx y H Q=>∃i j,x=.int i/\y=.int j/\Q (g i j) H
section
variable{X:Cx}{a b c:aS}{ta tb tc:TE}{pos:Pos}
theorem wy(ha:PE X a ta)(hb:PE X b tb){ae:List (ah×Obj)}{s:ap}{σ:St}{H:Hp}{R:V->V->Hp->Prop}(I:Inv X ae σ H s)
 (h:ta σ H λx H1=>tb σ H1 λy H2=>R x y H2) {Q:ai->ap->Prop} {f:ai->ai->Sem ai}
 (hf:∀v u s2 x y H2,Inv X ae σ H2 s2->RelV x v->RelV y u->R x y H2->wpAny (model X.prog X.w) X.A (f v u) Q X.xe s2) :
 wpAny (model X.prog X.w) X.A (eval a X.env) (λv s₁=>wpAny (model X.prog X.w) X.A (eval b X.env) (λu s₂=>wpAny (model X.prog X.w) X.A (f v u) Q X.xe s₂) X.xe s₁) X.xe s:=by
 refine aX (ha ae s σ H _ I h) λv s1 ⟨x,H1,I1,r1,q1⟩=>?_;refine aX (hb ae s1 σ H1 _ I1 q1) λu s2 ⟨y,H2,I2,r2,q2⟩=>?_;exact hf v u s2 x y H2 I2 r1 r2 q2
theorem a7{op:Operator}{r:R2}(ho:c7 X (binaryOp op) r)(ha:PE X a ta)(hb:PE X b tb):PE X (.BinOp a op b pos) (mf r ta tb):=by intro ae s σ H Q I h;exact wpAny_BinOp (wy ha hb I h λv u s2 x y H2 I2 rx ry q=>ho ae s2 σ H2 x y v u Q I2 rx ry q)
theorem yw{f:ai->ai->Sem ai}{C:Int->Int->Prop}{g:Int->Int->Int}
 (rule:∀(i j:Int) (t u:Tok) (s:ap) (Q:ai->ap->Prop) (E:ai->ap->Prop),C i j->Q (.int (g i j) s.toks) { s with toks:=s.toks+1 }->wpAny (model X.prog X.w) X.A (f (.int i t) (.int j u)) Q E s) :
 c7 X f (rI C λi j=>.int (g i j)):=by
 intro ae s σ H x y v u Q I rx ry h;obtain⟨i,j,rfl,rfl,hc,q⟩:=h;obtain⟨t,rfl⟩:=rx;obtain⟨t',rfl⟩:=ry;exact rule i j t t' s _ _ hc ⟨.int (g i j),H,I.tok _,⟨_,rfl⟩,q⟩
theorem Fy{f:ai->ai->Sem ai}{g:Int->Int->Int}
 (rule:∀(i j:Int) (t u:Tok) (s:ap) (Q:ai->ap->Prop) (E:ai->ap->Prop),Q (.int (g i j) s.toks) { s with toks:=s.toks+1 }->wpAny (model X.prog X.w) X.A (f (.int i t) (.int j u)) Q E s) :
 c7 X f (j8 λi j=>.int (g i j)):=by
 intro ae s σ H x y v u Q I rx ry h;obtain⟨i,j,rfl,rfl,q⟩:=h;obtain⟨t,rfl⟩:=rx;obtain⟨t',rfl⟩:=ry;exact rule i j t t' s _ _ ⟨.int (g i j),H,I.tok _,⟨_,rfl⟩,q⟩
theorem EC{f:ai->ai->Sem ai}{g:Int->Int->Bool}
 (rule:∀(i j:Int) (t u:Tok) (s:ap) (Q:ai->ap->Prop) (E:ai->ap->Prop),Q (.bool (g i j)) s->wpAny (model X.prog X.w) X.A (f (.int i t) (.int j u)) Q E s) :
 c7 X f (j8 λi j=>.bl (g i j)):=by
 intro ae s σ H x y v u Q I rx ry h;obtain⟨i,j,rfl,rfl,q⟩:=h;obtain⟨t,rfl⟩:=rx;obtain⟨t',rfl⟩:=ry;exact rule i j t t' s _ _ ⟨.bl (g i j),H,I,rfl,q⟩
def uG(i j:Int):Prop:=(-(2 ^ 64)<i/\i<2 ^ 64)\/(-(2 ^ 64)<j/\j<2 ^ 64)
theorem uG.ok{i j:Int}(h:uG i j):IntMulOk i j:=by
 rcases h with ⟨h1,h2⟩|⟨h1,h2⟩
 ·exact .of_left (intBits_le_64 h1 h2)
 ·exact .of_right (intBits_le_64 h1 h2)
theorem OI:c7 X (binaryOp .Add) (j8 λi j=>.int (i+j)):=Fy λ_ _ _ _ _ _ _ q=>add_int q
theorem Bx:c7 X (binaryOp .Sub) (j8 λi j=>.int (i-j)):=Fy λ_ _ _ _ _ _ _ q=>sub_int q
theorem gz:c7 X (binaryOp .Mult) (rI uG λi j=>.int (i*j)):=yw λ_ _ _ _ _ _ _ hc q=>mul_int q hc.ok
theorem fq:c7 X (binaryOp .Mod) (rI (λ_ j=>0<j) λi j=>.int (i%j)):=yw λi j _ _ _ _ _ hc q=>by
 have h1:(0:Int)<j:=hc;exact mod_int' (by omega) (by rw[Int.fmod_eq_emod_of_nonneg i (by omega)];exact q)
end
section
variable{X:Cx}{a b c:aS}{ta tb tc:TE}{pos:Pos}
theorem wK{ae:List (ah×Obj)}{σ:St}{H:Hp}{s:ap}{Q:VK}{k k':Bool}(I:Inv X ae σ H s)(q:Q (.bl k) H)(e:k=k'):EP X ae σ Q (.bool k') s:=by subst e;exact⟨.bl k,H,I,rfl,q⟩
theorem OK:c7 X (compareOp .Lt) (j8 λi j=>.bl (decide (i<j))):=EC λ_ _ _ _ _ _ _ q=>lt_int q
theorem KS:c7 X (compareOp .Gt) (j8 λi j=>.bl (decide (j<i))):=EC λ_ _ _ _ _ _ _ q=>gt_int q
theorem LV:c7 X (compareOp .Lt) (λx y H Q=>∃i j,x=.str i/\y=.str j/\Q (.bl (decide (i.cps.toList<j.cps.toList))) H):=by intro ae s σ H x y v u Q I rx ry h;obtain⟨i,j,rfl,rfl,q⟩:=h;obtain⟨t,rfl⟩:=rx;obtain⟨t',rfl⟩:=ry;exact lt_str (wK I q rfl)
theorem Nz:c7 X (compareOp .In) (λx y H Q=>∃i j,x=.str i/\y=.str j/\Q (.bl (!(Builtin.Str.occurrences j i 0 j.length 1).isEmpty)) H):=by intro ae s σ H x y v u Q I rx ry h;obtain⟨i,j,rfl,rfl,q⟩:=h;obtain⟨t,rfl⟩:=rx;obtain⟨t',rfl⟩:=ry;exact in_str (wK I q rfl)
theorem c7.or{f:ai->ai->Sem ai}{r r':R2}(h:c7 X f r)(h':c7 X f r'):c7 X f (λx y H Q=>r x y H Q\/r' x y H Q):=by
 intro ae s σ H x y v u Q I rx ry q;rcases q with q|q
 ·exact h ae s σ H x y v u Q I rx ry q
 ·exact h' ae s σ H x y v u Q I rx ry q
theorem eo(b:aS){op:CmpOp}(h:op≠.In:=by decide)(h2:op≠.NotIn:=by decide):behindInMarks op b=false:=by
 have e1:(op==CmpOp.In)=false:=by cases op<;>first|rfl|exact absurd rfl h
 have e2:(op==CmpOp.NotIn)=false:=by cases op<;>first|rfl|exact absurd rfl h2
 cases b<;>simp[behindInMarks,e1,e2]
theorem tU{op:CmpOp}{r:R2}(ho:c7 X (compareOp op) r)(ha:PE X a ta)(hb:PE X b tb)(hm:behindInMarks op b=false):PE X (.Compare a [op] [b] pos) (mf r ta tb):=by intro ae s σ H Q I h;exact wpAny_Compare1 (wy ha hb I h λv u s2 x y H2 I2 rx ry q=>ho ae s2 σ H2 x y v u Q I2 rx ry q) hm
def BJ(t:TE):TT:=λσ H Q=>t σ H λx H'=>∃k,x=.bl k/\Q k H'
theorem cy{op:CmpOp}{r:R2}(ho:c7 X (compareOp op) r)(ha:PE X a ta)(hb:PE X b tb)(hm:behindInMarks op b=false):PT X (.Compare a [op] [b] pos) (BJ (mf r ta tb)):=by
 intro ae s σ H Q I h;refine wpAny_isTrue_Compare1 (aX (ha ae s σ H _ I h) λv s1 ⟨x,H1,I1,r1,q1⟩=>aX (hb ae s1 σ H1 _ I1 q1) λu s2 ⟨y,H2,I2,r2,q2⟩=>
  aX (ho ae s2 σ H2 x y v u _ I2 r1 r2 q2) λc s3 ⟨z,H3,I3,r3,k,e,q3⟩=>?_) hm
 subst e;cases r3;exact nR ⟨H3,I3,q3⟩
def qW(K:aG)(x:V)(H:Hp)(k:Bool):Prop:=
 match x with
 |.non=>k=false
 |.bl b=>k=b
 |.int i=>k=(i != 0)
 |.str y=>y.length<=sizeLine/\k=((y.length:Int) != 0)
 |.byt y=>y.size<=sizeLine/\k=((y.size:Int) != 0)
 |.ref p=>(∃xs,d6 K H p xs/\k = !xs.isEmpty)\/(∃xs,eK K H p xs/\k = !xs.isEmpty)\/∃ak,H p=aa (.dK ak)/\k = !ak.isEmpty
 |_=>False
theorem MF{κ:Type}{ak:List (κ×V)}{vs:List (κ×ai)}(r:KV ak vs):(!vs.isEmpty) = !ak.isEmpty:=by cases r<;>rfl
theorem Dn{xs:List V}{am:List ai}(r:Vals xs am):(!am.toArray.isEmpty) = !xs.isEmpty:=by cases r<;>simp
theorem qD:(sizeLine:Nat)<2 ^ 63:=by rw[dS];decide
theorem E2:HW X (λx H Q=>∃k,qW X.K x H k/\Q k H):=by
 intro ae s σ H x v Q I rx h;obtain⟨k,e,q⟩:=h;have hl:=qD;have hs:sizeLine=16777216:=dS;cases x with
 |non=>
  cases rx;have e':k=false:=e;subst e';exact truthy_none ⟨H,I,q⟩
 |bl b=>
  cases rx;have e':k=b:=e;subst e';exact nR ⟨H,I,q⟩
 |int i=>
  obtain⟨t,rfl⟩:=rx;have e':k=(i != 0):=e;subst e';exact PySem.P.truthy_int ⟨H,I,q⟩
 |str y=>
  obtain⟨t,rfl⟩:=rx;obtain⟨hy,e'⟩ : y.length<=sizeLine/\k=((y.length:Int) != 0):=e;subst e';exact PySem.P.truthy_str (by omega) ⟨H,I.tok _,q⟩
 |byt y=>
  obtain⟨t,rfl⟩:=rx;obtain⟨hy,e'⟩ : y.size<=sizeLine/\k=((y.size:Int) != 0):=e;subst e';exact PySem.W.truthy_bytes (by omega) ⟨H,I.tok _,q⟩
 |ref p=>
  cases rx;have e':(∃xs,d6 X.K H p xs/\k = !xs.isEmpty)\/(∃xs,eK X.K H p xs/\k = !xs.isEmpty)\/∃ak,H p=aa (.dK ak)/\k = !ak.isEmpty:=e;rcases e' with ⟨xs,hx,e'⟩|⟨xs,hx,e'⟩|⟨ak,hx,e'⟩
  ·subst e';obtain⟨am,r,pl,hz⟩:=I.list hx;have hlen:=r.length;exact wpAny_truthy_list pl.isList (by simp only[cX];omega) ⟨H,I.tok _,by rw[Dn r];exact q⟩
  ·subst e';obtain⟨am,r,pl,hz⟩:=I.tuple hx;have hlen:=r.length;exact truthy_tuple pl (by simp only[cX];omega) ⟨H,I.tok _,by rw[Dn r];exact q⟩
  ·subst e';obtain⟨hz,hS,vs,r,m⟩ : ak.length<=sizeLine/\(p==sysModules)=false/\∃vs,KV ak vs/\s.heap.DictOf (gu X.prog X.w) p vs:=I.hok p _ hx;have hlen:ak.length=vs.length:=sE r;exact wpAny_truthy_dict hS m (by omega) ⟨H,I.tok _,by rw[MF r];exact q⟩
 |_=>exact(show False from e).elim
theorem qj(ha:PE X a ta)(he:∀whole,isTrue a X.env whole=(do let v <- whole;standAt a.pos;holding [v] (truthy v))) :
 PT X a (λσ H Q=>ta σ H λx H'=>∃k,qW X.K x H' k/\Q k H'):=by
 intro ae s σ H Q I h;exact isTrue_plain (aX (ha ae s σ H _ I h) λv s1 ⟨x,H1,I1,r1,q1⟩=>E2 ae s1 σ H1 x v Q I1 r1 q1) (he _)
theorem Ou:c7 X (binaryOp .Add) (λx y H Q=>∃i j,x=.str i/\y=.str j/\i.length+j.length<=sizeLine/\Q (.str (i++j)) H):=by intro ae s σ H x y v u Q I rx ry h;obtain⟨i,j,rfl,rfl,hz,q⟩:=h;obtain⟨t,rfl⟩:=rx;obtain⟨t',rfl⟩:=ry;exact add_str (λt' tk=>⟨.str (i++j),H,I.tok _,⟨_,rfl⟩,q⟩) hz
theorem vals1{x:V}{us:List ai}(r:Vals [x] us):∃u,us=[u]/\RelV x u:=by
 cases r with
 |cons r1 r2=>cases r2;exact⟨_,rfl,r1⟩
theorem vals2{x y:V}{us:List ai}(r:Vals [x,y] us):∃u w',us=[u,w']/\RelV x u/\RelV y w':=by
 cases r with
 |cons r1 r2=>
  cases r2 with
  |cons r3 r4=>cases r4;exact⟨_,_,rfl,r1,r3⟩
theorem HV(hc:X.calm=true):f8 X (.builtin "max") (λxs H Q=>∃i j,xs=[.int i,.int j]/\Q (.int (if j>i then j else i)) H):=by
 intro ae s σ H xs us Q I r h;obtain⟨i,j,rfl,q⟩:=h;obtain⟨u,w',rfl,⟨t,rfl⟩,⟨t',rfl⟩⟩:=vals2 r;refine max_two_ints (I.ok.hd hc) λh' tk k=>⟨_,H,I.kept k,?_,q⟩;by_cases hj:j>i
 ·rw[bb hj,bb hj];exact⟨_,rfl⟩
 ·rw[bc hj,bc hj];exact⟨_,rfl⟩
theorem NQ(hc:X.calm=true):f8 X (.builtin "min") (λxs H Q=>∃i j,xs=[.int i,.int j]/\Q (.int (if j<i then j else i)) H):=by
 intro ae s σ H xs us Q I r h;obtain⟨i,j,rfl,q⟩:=h;obtain⟨u,w',rfl,⟨t,rfl⟩,⟨t',rfl⟩⟩:=vals2 r;refine min_two_ints (I.ok.hd hc) λh' tk k=>⟨_,H,I.kept k,?_,q⟩;by_cases hj:j<i
 ·rw[bb hj,bb hj];exact⟨_,rfl⟩
 ·rw[bc hj,bc hj];exact⟨_,rfl⟩
def EK(K:aG)(x:V)(H:Hp)(n:Nat):Prop:=
 match x with
 |.str y=>y.length<=sizeLine/\n=y.length
 |.byt y=>y.size<=sizeLine/\n=y.size
 |.ref p=>(∃xs,d6 K H p xs/\n=xs.length)\/∃xs,eK K H p xs/\n=xs.length
 |_=>False
theorem Li:f8 X (.builtin "len") (λxs H Q=>∃x n,xs=[x]/\EK X.K x H n/\Q (.int n) H):=by
 intro ae s σ H xs us Q I r h;obtain⟨x,n,rfl,e,q⟩:=h;obtain⟨u,rfl,rx⟩:=vals1 r;have hl:=qD;have hs:sizeLine=16777216:=dS;cases x with
 |str y=>
  obtain⟨t,rfl⟩:=rx;obtain⟨hy,e'⟩ : y.length<=sizeLine/\n=y.length:=e;subst e';exact len_str (by omega) ⟨.int _,H,I.tok _,⟨_,rfl⟩,q⟩
 |byt y=>
  obtain⟨t,rfl⟩:=rx;obtain⟨hy,e'⟩ : y.size<=sizeLine/\n=y.size:=e;subst e';exact PySem.W.len_bytes (by omega) ⟨.int _,H,I.tok _,⟨_,rfl⟩,q⟩
 |ref p=>
  cases rx;have e':(∃xs,d6 X.K H p xs/\n=xs.length)\/∃xs,eK X.K H p xs/\n=xs.length:=e;rcases e' with ⟨xs,hx,e'⟩|⟨xs,hx,e'⟩
  ·subst e';obtain⟨am,r',pl,hz⟩:=I.list hx;have hlen:=r'.length;exact Calls.call_len_list pl.isList (by simp only[cX];omega) ⟨.int xs.length,H,I.tok _,⟨_,by simp only[cX];rw[hlen]⟩,q⟩
  ·subst e';obtain⟨am,r',pl,hz⟩:=I.tuple hx;have hlen:=r'.length;exact len_tuple pl (by simp only[cX];omega) ⟨.int xs.length,H,I.tok _,⟨_,by simp only[cX];rw[hlen]⟩,q⟩
 |_=>exact(show False from e).elim
end
structure yd(h:aK)(x dx C:ah)(mA:Str->Option ai):Prop where
 obj:h.get? x=aa (y9 C dx)
 ns:h.Ns1 dx mA
 ne:dx≠x
theorem KD{h:aK}{dx:ah}{mA:Str->Option ai}(n:h.Ns1 dx mA):∃od,h.get? dx=aa od/\∀name,zb name od=aa (mA name):=by
 obtain⟨o,es,ep,ho,hd,hk,_,hm⟩:=n;refine⟨o,ho,λname=>?_⟩;have e:=hm name;unfold nsFind findBy at e;rw[<- Array.find?_toList]at e;unfold zb;rw[hd];dsimp only;split
 ·rename_i y q;rw[q]at e;exact congrArg aa e
 ·rename_i q;rw[q]at e;have a:es.toList.any (·.refKey)=false:=by
   rw[yW];intro y hy;obtain⟨z,t,hkey⟩:=hk y (Array.mem_toList_iff.mp hy);simp[DictEntry.refKey,hkey]
  have a':¬ es.toList.any (·.refKey)=true:=by rw[a];exact du
  rw[bc a'];exact congrArg aa e
theorem yd.look{h:aK}{x dx C:ah}{mA:Str->Option ai}(I:yd h x dx C mA):∃od,PySem.W.InstAt h x (y9 C dx) C (aa od)/\∀name,zb name od=aa (mA name):=
 let ⟨od,ho,hl⟩:=KD I.ns
 ⟨od,⟨I.obj,rfl,rfl,ho⟩,hl⟩
theorem jR.some_of{v:V}{o:Option ai}(r:jR (aa v) o):∃u,o=aa u/\RelV v u:=by
 cases o with
 |none=>exact(show False from r).elim
 |some u=>exact⟨u,rfl,r⟩
section
variable{P:bh}{w:a8}{H H':Hp}{h h':aK}{a C dx:ah}{fs fs':List (Str×V)}
theorem CL(hok:cP P w H h)(e:H a=aa (.ins C dx fs)):∃mA,yd h a dx C mA/\(∀f,jR (fs.lookup f) (mA f))/\PySem.Within mA (fs.map (·.1))/\fs.length<=1000/\H dx=aa (.own a):=by obtain⟨d,z,ne,ob,mA,n,r,q⟩:=(show cj P w H h a (.ins C dx fs)from hok a _ e);exact⟨mA,⟨ob,n,ne⟩,r,q,z,d⟩
end
structure xZ(K:aG)(C:ah):Prop where
 pg:Ge K C nZ=true
 hd:PySem.W.hasDictIn K C=true
 po:PySem.W.plainOver K C=true
 sa:Gi K (.ref C) "__setattr__" = aa (aa (.builtin "object.__setattr__"))
theorem xZ.get{K:aG}{C:ah}(c:xZ K C)(f:Str):Ge K C f=true:=c.pg
section
variable{X:Cx}{ae:List (ah×Obj)}{σ:St}{H:Hp}{s:ap}{A:bK}{E:ai->ap->Prop}{Q:ai->ap->Prop}{c:ai}{b:Bool}
inductive gy(K:aG)(H:Hp):V->ai->Prop where
 |non:gy K H .non (.type "NoneType")
 |bl (x:Bool):gy K H (.bl x) (.type "bool")
 |int (i:Int):gy K H (.int i) (.type "int")
 |str (x:Str):gy K H (.str x) (.type "str")
 |flt (x:UInt64):gy K H (.flt x) (.type "float")
 |lst {a:ah} {xs:List V} (e:H a=aa (.lst xs)):gy K H (.ref a) (.type "list")
 |frz {a:ah} {o:Obj} {xs:List V} (e:H a=aa (.frz o (.lst xs))):gy K H (.ref a) (.type "list")
 |tup {a:ah} {xs:List V} (e:H a=aa (.tup xs)):gy K H (.ref a) (.type "tuple")
 |dK {a:ah} {ak:List (Key×V)} (e:H a=aa (.dK ak)):gy K H (.ref a) (.type "dict")
 |dT {a:ah} {ak:List (List Key×V)} (e:H a=aa (.dT ak)):gy K H (.ref a) (.type "dict")
 | ins {a C dx:ah} {fs:List (Str×V)} (e:H a=aa (.ins C dx fs)) (cl:xZ K C) (ha:Gi K (.ref C) "__class__" = aa (aa (.builtin "object.__class__")))
  (hn:PySem.W.specialIn K (.builtin "object.__class__") "__get__" = aa (aa (.builtin "getset_descriptor.__get__"))) (htk:PySem.W.takesIn K (.builtin "object.__class__")=aa true)
  (hm:PySem.W.mroIn K C (.type "object")=aa true):gy K H (.ref a) (.ref C)
theorem K3{x:V}{u t:ai}(I:Inv X ae σ H s)(rx:RelV x u)(ty:gy X.K H x t)(e:zc X.K t c=aa b)(h:∀tk,Q (.bool b) { s with toks:=tk }) :
 wpAny (model X.prog X.w) A (call (.builtin "isinstance") [u,c]) Q E s:=by
 cases ty with
 |non=>cases(show u=iJ from rx);exact j1 Gb I.fe gG e (λz=>nomatch z) h
 |bl y=>cases(show u=iI y from rx);exact j1 Gc I.fe gG e (λz=>nomatch z) h
 |int i=>obtain⟨t,q⟩:=(show∃t,u=Value.int i t from rx);cases q;exact j1 Gf I.fe gG e (λz=>nomatch z) h
 |str y=>obtain⟨t,q⟩:=(show∃t,u=mK y t from rx);cases q;exact j1 Gg I.fe gG e (λz=>nomatch z) h
 |flt y=>obtain⟨t,q⟩:=(show∃t,u=zr y t from rx);cases q;exact j1 F7 I.fe gG e (λz=>nomatch z) h
 | @lst a xs ea=>
  cases(show u=cI a from rx);obtain⟨_,_,n,_,h1⟩:=(show cj X.prog X.w H s.heap a (.lst xs)from I.hok a _ ea);exact j1 u5 I.fe ⟨_,h1,rfl⟩ e (λz=>nomatch z) h
 | @frz a ob xs ea=>
  cases(show u=cI a from rx);obtain⟨_,_,_,n,_,h1⟩:=(show cj X.prog X.w H s.heap a (.frz ob (.lst xs))from I.hok a _ ea);exact j1 u5 I.fe ⟨_,h1,rfl⟩ e (λz=>nomatch z) h
 | @tup a xs ea=>
  cases(show u=cI a from rx);obtain⟨_,_,_,p⟩:=(show cj X.prog X.w H s.heap a (.tup xs)from I.hok a _ ea);obtain⟨o,h1,h2,_⟩:=p;exact j1 F8 I.fe ⟨o,h1,h2⟩ e (λz=>nomatch z) h
 | @dK a ak ea=>
  cases(show u=cI a from rx);obtain⟨_,_,vs,_,p⟩:=(show cj X.prog X.w H s.heap a (.dK ak)from I.hok a _ ea);obtain⟨o,es,ep,h1,h2,_⟩:=p;exact j1 u6 I.fe ⟨o,h1,h2.1⟩ e (λz=>nomatch z) h
 | @dT a ak ea=>
  cases(show u=cI a from rx);obtain⟨_,_,xs,_,o,es,ep,h1,h2,_⟩:=(show cj X.prog X.w H s.heap a (.dT ak)from I.hok a _ ea);exact j1 u6 I.fe ⟨o,h1,h2.1⟩ e (λz=>nomatch z) h
 | @ins a C dx fs ea cl ha hn htk hm=>
  cases(show u=cI a from rx);obtain⟨mA,O,_⟩:=CL I.hok ea;obtain⟨od,J,_⟩:=O.look;exact j1 (Gh (cl.get _) cl.hd ha hn htk hm) I.fe J e (λz=>nomatch z) h
end
structure cL(k:Nat)(A:bK):Prop where
 hd:A.handled=ab
 dp:A.depth+3*k+5<recursionLimit
 un:A.units+16*k+200<cLine
theorem cL.mono{j k:Nat}{A:bK}(r:cL k A)(h:j<=k):cL j A:=⟨r.hd,by have:=r.dp;omega,by have:=r.un;omega⟩
theorem cL.deeper{k:Nat}{A:bK}(r:cL (k+1) A)(env:Env):cL k (A.deeper env):=⟨r.hd,by have:=r.dp;show A.depth+1+3*k+5<_;omega,by have:=r.un;show A.units+3+16*k+200<_;omega⟩
theorem cL.depth{k:Nat}{A:bK}(r:cL k A):A.depth<recursionLimit:=by have:=r.dp;omega
theorem cL.units{k:Nat}{A:bK}(r:cL k A):A.units+64<cLine:=by have:=r.un;omega
def gO:TA:=λ_ H Q=>Q [] H
def fN(ta:TE)(tr:TA):TA:=λσ H Q=>ta σ H λx H1=>tr σ H1 λxs H2=>Q (x::xs) H2
section
variable{X:Cx}{e:aS}{es:List aS}{te:TE}{t:TA}{pos:Pos}
theorem a9:PA X [] gO:=λ_ _ _ _ H Q I h=>zw ⟨[],H,I,.nil,h⟩
theorem ao(ha:PE X e te)(hr:PA X es t)(hs:starEach (e::es) X.env=(false,eval e X.env)::starEach es X.env:=by rfl):PA X (e::es) (fN te t):=by intro pos ae s σ H Q I h;rw[hs];show wpAny _ _ (spliced ((false,eval e X.env)::backTo pos (starEach es X.env))) _ _ s;refine vD (aX (ha ae s σ H _ I h) λu s1 ⟨x,H1,I1,r1,q1⟩=>?_);exact aX (hr pos ae s1 σ H1 _ I1 q1) λus s2 ⟨xs,H2,I2,r2,q2⟩=>⟨x::xs,H2,I2,.cons r1 r2,q2⟩
def xJ(t:TA):TE:=λσ H Q=>t σ H λxs H1=>xs.length<=sizeLine/\∀p,H1 p=ab->Q (.ref p) (upd H1 p (.tup xs))
def yk(t:TA):TE:=λσ H Q=>t σ H λxs H1=>xs.length<=sizeLine/\∀p,H1 p=ab->Q (.ref p) (upd H1 p (.lst xs))
theorem ii{x1}(h:PA X es t):PE X (.Tuple es x1 pos) (xJ t):=by intro ae s σ H Q I hq;refine wpAny_Tuple_spliced (aX (h pos ae s σ H _ I hq) λus s1 ⟨xs,H1,I1,r,z,q⟩=>⟨by rw[<- r.length];exact z,?_⟩);have hf:H1 s1.heap.objs.size=ab:=I1.hok.fresh (bA _);refine⟨.ref s1.heap.objs.size,upd H1 s1.heap.objs.size (.tup xs),I1.laid (t':=s1.toks) (λb u e=>cA _ e) (bA _) ?_,rfl,q _ hf⟩;exact⟨z,us,r,⟨_,dE _ rfl,rfl,rfl,_,rfl⟩⟩
theorem de(h:PA X es t):PE X (.List es pos) (yk t):=by intro ae s σ H Q I hq;refine wpAny_List_spliced (aX (h pos ae s σ H _ I hq) λus s1 ⟨xs,H1,I1,r,z,q⟩=>⟨by rw[<- r.length];exact z,?_⟩);have hf:H1 s1.heap.objs.size=ab:=I1.hok.fresh (bA _);refine⟨.ref s1.heap.objs.size,upd H1 s1.heap.objs.size (.lst xs),I1.laid (t':=s1.toks) (λb u e=>cA _ e) (bA _) ?_,rfl,q _ hf⟩;exact⟨z,us,0,r,dE _ rfl⟩
end
abbrev Sp:=List V->Hp->VK->XK->Prop
abbrev gi:=List Env->Hp->ap->XK->ai->ap->Prop
structure mi(P:bh)(w:a8)(K:aG)(mg:Str->Option ai)(base:aK)(A:bK)(outer:List Env)(s:ap)(H:Hp):Prop where
 frames:A.frames=aa outer
 mod:Mod K mg base
 bs:∀b o,base.get? b=aa o->s.heap.get? b=aa o/\H b=ab
 bsz:base.objs.size<=s.heap.objs.size
 iq:s.heap.FunFrames base outer
 frf:∀b∈frs outer,H b=ab
 hok:cP P w H s.heap
 bare:mM s.gens
def CE(outer:List Env)(P:bh)(w:a8)(H:Hp)(s:ap)(Q:VK)(u:ai)(s':ap):Prop:=∃v H',s'.os=s.os/\mM s'.gens/\Un (frs outer) [] H H' s.heap s'.heap/\cP P w H' s'.heap/\RelV v u/\Q v H'
def CR(CX:gi)(outer:List Env)(P:bh)(w:a8)(H:Hp)(s:ap)(Q:VK)(E:XK)(r:Result)(s':ap):Prop:=
 match r with
 |.ok (.ret u)=>CE outer P w H s Q u s'
 |.ok _=>False
 |.error e=>CX outer H s E e s'
structure bu(P:bh)(w:a8)(K:aG)(mg:Str->Option ai)(base:aK)(CX:gi)(k:Nat)(f:ah)(fd:bx)(ps:List Str)(sp:Sp):Prop where
 len:∀vs H Q E,sp vs H Q E->vs.length=ps.length
 run:∀(A:bK) (outer:List Env) (s:ap) (H:Hp) (args:Args) (us:List ai) (vs:List V) (Q:VK) (E:XK),cL k A->mi P w K mg base A outer s H->lw s fd args (ps.zip us)->Vals vs us->sp vs H Q E ->
  codeAny (model P w) A (.call (.ref f) args) (CR CX outer P w H s Q E) s
theorem bu.imp{P:bh}{w:a8}{K:aG}{mg:Str->Option ai}{base:aK}{CX:gi}{k:Nat}{f:ah}{fd:bx}{ps:List Str}{sp sp':Sp}(F:bu P w K mg base CX k f fd ps sp)
 (h:∀vs H Q E,sp' vs H Q E->sp vs H Q E):bu P w K mg base CX k f fd ps sp':=
 ⟨λvs H Q E q=>F.len vs H Q E (h _ _ _ _ q),λA outer s H args us vs Q E hr he hb hv hs=>F.run A outer s H args us vs Q E hr he hb hv (h _ _ _ _ hs)⟩
section
variable{X:Cx}{ae:List (ah×Obj)}{σ:St}{H:Hp}{s s':ap}
theorem Inv.env0(I:Inv X ae σ H s):mi X.prog X.w X.K X.mg X.base X.A X.stack s H:=⟨I.ok.frames,I.ok.mod,I.bs,dr I.ok.bsz I.sz,I.stack,I.E4,I.hok,I.bare⟩
theorem Inv.after{Q:VK}{u:ai}(I:Inv X ae σ H s)(h:CE X.stack X.prog X.w H s Q u s'):EP X ae σ Q u s':=by obtain⟨v,H',os,bare,un,hok,r,q⟩:=h;obtain⟨hh,g,d,t,os'⟩:=s';obtain rfl:os'=s.os:=os;exact⟨v,H',I.call (h':=hh) (g':=g) (d':=d) (t':=t) (ch:=[]) un hok bare (λb z=>absurd z (by simp)),r,q⟩
end
def mY(sp:Sp)(dvs:List V)(E:XK)(t:TA):TE:=λσ H Q=>t σ H λvs H1=>sp (vs++dvs) H1 Q E
def Binds(K:aG)(fd:bx)(ps:List Str)(ds:List ai):Prop:=∀(s:ap) (us:List ai),K.In s.heap->(us++ds).length=ps.length->lw s fd ⟨us,[]⟩ (ps.zip (us++ds))
theorem Binds.all{K:aG}{fd:bx}{ps:List Str}(h:∀us:List ai,us.length=ps.length->bindArgs fd ⟨us,[]⟩=pure (ps.zip us)):Binds K fd ps []:=λs us _ hl=>by
 rw[nQ]at hl ⊢;exact .of_eq (h us hl)
def tz(CX:gi)(X:Cx)(E:XK):Prop:=∀(ae:List (ah×Obj)) (σ:St) (H:Hp) (s:ap) (e:ai) (s':ap),Inv X ae σ H s->CX X.stack H s E e s'->X.xe e s'
section
variable{X:Cx}{CX:gi}{k:Nat}{f C:ah}{fd:bx}{ps:List Str}{sp:Sp}{dvs:List V}{ds:List ai}{E:XK}{x m:Str}{p pos apos:Pos}{e o:aS}{es:List aS}{ta:TE}{t:TA}
theorem N8{ae:List (ah×Obj)}{σ:St}{H:Hp}{s:ap}{Q:VK}{us:List ai}{vs:List V}(F:bu X.prog X.w X.K X.mg X.base CX k f fd ps sp)(hr:cL k X.A)(hb:Binds X.K fd ps ds)(hd:Vals dvs ds)(hx:tz CX X E)
 (I:Inv X ae σ H s) (r:Vals vs us) (h:sp (vs++dvs) H Q E):wpAny (model X.prog X.w) X.A (call (.ref f) us) (EP X ae σ Q) X.xe s:=by
 have r2:Vals (vs++dvs) (us++ds):=r.append hd;have hl:(us++ds).length=ps.length:=by rw[<- r2.length];exact F.len _ _ _ _ h
 refine wpAny_call (vn (F.run X.A X.stack s H ⟨us,[]⟩ (us++ds) (vs++dvs) Q E hr I.env0 (hb s us I.fe hl) r2 h) λr s' hq=>?_);cases r with
 |error e=>exact hx ae σ H s e s' I hq
 |ok fl=>
  cases fl with
  |ret u=>exact I.after hq
  |next=>exact gW hq
  |brk=>exact gW hq
  |cont=>exact gW hq
theorem OA(F:bu X.prog X.w X.K X.mg X.base CX k f fd ps sp)(hr:cL k X.A)(hg:Gl X x)(hm:X.mg x=aa (.ref f))(hk:kG X.K (.ref f)=true)(hb:Binds X.K fd ps ds)(hd:Vals dvs ds)(hx:tz CX X E)
 (ha:PA X (e::es) t) (hdb:(x==("__debug__" : Str))=false:=by decide) (he:starEach (e::es) X.env=(false,eval e X.env)::starEach es X.env:=by rfl) (hpl:(backTo pos (starEach es X.env)).any (·.1)=false:=by rfl) :
 PE X (.Call (.Name x p) (e::es) [] pos) (mY sp dvs E t):=by
 intro ae s σ H Q I h;refine sw (yb I hg hm ?_ hdb);refine F9 (h₀:=X.base) I.ok.mod.kin hk (aX (ha pos ae s σ H _ I h) λus s1 ⟨vs,H1,I1,r,q⟩=>⟨I1.fe,?_⟩) he hpl;exact N8 F hr hb hd hx I1 r q
end
structure bU(N P:List Str)(sc:d8):Prop where
 kind:sc.kind=.function
 co:sc.isCoroutine=false
 gen:sc.isGenerator=false
 nd:N.Nodup
 pre:N.take P.length=P
 par:∀x∈P,sc.names.lookup x=aa .local\/sc.names.lookup x=aa .cell
 O2:∀y∈sc.names,y.2≠.free
theorem Aq{kindOf:Str->Option mG}{x:Str}:∀{binds:List (Str×ai)} {m:Str->Option ai},(∀v,(x,v)∉binds)->bindL kindOf binds m x=m x
 |[],_,_=>rfl
 |(n,v)::r,m,h=>by
  unfold bindL;rw[Aq λw hw=>h w (dJ _ hw)];split
  ·have:x≠n:=by rintro rfl;exact h v dj
   simp[this]
  ·rfl
theorem Er{kindOf:Str->Option mG}{x:Str}:∀{binds:List (Str×ai)} {m:Str->Option ai},(∀v,(x,v)∉binds)->bindC kindOf binds m x=m x
 |[],_,_=>rfl
 |(n,v)::r,m,h=>by
  unfold bindC;rw[Er λw hw=>h w (dJ _ hw)];split
  ·rfl
  ·have:x≠n:=by rintro rfl;exact h v dj
   simp[this]
theorem BW{kindOf:Str->Option mG}{x:Str}{v:ai}:∀{P:List Str} {vs:List ai} {i:Nat} {m:Str->Option ai},P.Nodup->P[i]? = aa x->vs[i]? = aa v->kindOf x=aa .local ->
 bindL kindOf (P.zip vs) m x=aa v
 |[],_,_,_,_,h,_,_=>by simp at h
 |_::_,[],_,_,_,_,h,_=>by simp at h
 |p::P,w::vs,0,m,nd,h1,h2,hk=>by
  simp at h1 h2;subst h1;subst h2;show bindL kindOf ((p,w)::P.zip vs) m p=_;unfold bindL;rw[Aq λv hv=>(jZ.mp nd).1 (u0 hv).1,bb hk];simp
 |p::P,w::vs,i+1,m,nd,h1,h2,hk=>by
  show bindL kindOf ((p,w)::P.zip vs) m x=_;unfold bindL;exact BW (i:=i) (jZ.mp nd).2 (by simpa using h1) (by simpa using h2) hk
theorem Do{kindOf:Str->Option mG}{x:Str}{v:ai}:∀{P:List Str} {vs:List ai} {i:Nat} {m:Str->Option ai},P.Nodup->P[i]? = aa x->vs[i]? = aa v->kindOf x≠aa .local ->
 bindC kindOf (P.zip vs) m x=aa v
 |[],_,_,_,_,h,_,_=>by simp at h
 |_::_,[],_,_,_,_,h,_=>by simp at h
 |p::P,w::vs,0,m,nd,h1,h2,hk=>by
  simp at h1 h2;subst h1;subst h2;show bindC kindOf ((p,w)::P.zip vs) m p=_;unfold bindC;rw[Er λv hv=>(jZ.mp nd).1 (u0 hv).1,bc hk];simp
 |p::P,w::vs,i+1,m,nd,h1,h2,hk=>by
  show bindC kindOf ((p,w)::P.zip vs) m x=_;unfold bindC;exact Do (i:=i) (jZ.mp nd).2 (by simpa using h1) (by simpa using h2) hk
def start(N:List Str)(vs:List V):St:=vs.map aa++cH (N.length-vs.length) ab
def km(CX:gi)(P:bh)(w:a8)(K:aG)(mg:Str->Option ai)(base:aK)(N:List Str)(qual:Str)(scope:d8)(f:ah)(cd:ai)(A:bK)(outer:List Env)(s:ap)(H:Hp)(E:XK):Cx where
 prog:=P
 w:=w
 K:=K
 mg:=mg
 base:=base
 A:=A.deeper (envOfC qual scope s.heap.objs.size f cd)
 N:=N
 s₀:=s
 H₀:=H
 env:=envOfC qual scope s.heap.objs.size f cd
 outer:=outer
 stack:=envOfC qual scope s.heap.objs.size f cd::outer
 ex:=[]
 calm:=true
 fn:=λ_=>true
 pn:=[]
 xe:=λe s'=>wpAny (model P w) (A.deeper (envOfC qual scope s.heap.objs.size f cd)) (leaving (envOfC qual scope s.heap.objs.size f cd) e) (λ_ s''=>CX outer H s E e s'') (λe' s''=>CX outer H s E e' s'') s'
theorem Bb{sc:d8}{n:Nat}{x:Str}(h:sc.names.lookup x=aa .cell):∃c,(cellsFrom n sc.names []).lookup x=aa c:=by have q:=y7 sc.names n [] (.inl h);exact Option.isSome_iff_exists.mp q
theorem AK{CX:gi}{P:bh}{w:a8}{K:aG}{mg:Str->Option ai}{base:aK}{N ps:List Str}{qual:Str}{scope:d8}{f:ah}{cd:ai}{A:bK}{outer:List Env}{s s1:ap}{H:Hp}{E:XK}{us:List ai}{vs:List V}
 (S:bU N ps scope) (hd:A.handled=ab) (e0:mi P w K mg base A outer s H) (hl:vs.length=ps.length) (r:Vals vs us)
 (x:InCallC s s.heap.objs.size (bindL (envOfC qual scope s.heap.objs.size f cd).kindOf (ps.zip us) λ_=>ab) (cellsFrom (s.heap.objs.size+1) scope.names []) (bindC (envOfC qual scope s.heap.objs.size f cd).kindOf (ps.zip us) λ_=>ab) s1) :
 Inv (km CX P w K mg base N qual scope f cd A outer s H E) [] (start N vs) H s1:=by
 have hpl:ps.length<=N.length:=by have:=congrArg y3 S.pre;rw[gC]at this;omega
 obtain⟨h1,tk,rfl,hk⟩:=x.done;have noA:∀b:ah,b∉(km CX P w K mg base N qual scope f cd A outer s H E).ex:=λb z=>absurd (show b∈([]:List ah)from z) (by simp);refine⟨⟨e0.mod,S.kind,rfl,rfl,bA _,λy z c h1 h2=>?_,λy hy=>?_,λy c _ h=>?_,λ_=>hd,GS e0.frames,.inr ⟨rfl,rfl⟩,λb z=>absurd z (noA b),e0.bs,e0.bsz,λb _ _=>noA b,λb z=>absurd z (noA b),e0.iq,e0.frf⟩,
  rfl,e0.bare,Un.kept hk,⟨_,x.toInCall.ns,λi y v h1 h2 h3=>?_⟩,λy c h=>⟨_,x.cell y c h⟩,e0.hok.fresh (bA _),λy c h=>?_,λp hp=>absurd (show p∈([]:List (ah×Obj))from hp) (by simp),e0.hok.kept hk,?_⟩
 ·exact name_of_addr x.apart (lr h1) (lr h2)
 ·have hy:scope.names.lookup y=aa .cell\/scope.names.lookup y=aa .free:=hy;rcases hy with hy|hy
  ·exact Bb hy
  ·exact absurd rfl (S.O2 _ (lr hy))
 ·exact vp (x.above y c (lr h))
 ·have hi:i<vs.length:=by
   unfold start at h2;by_cases hi:i<vs.length
   ·exact hi
   ·rw[FT (by simpa using hi)]at h2;rw[FU]at h2;split at h2<;>cases h2
  have ha:vs[i]? = aa v:=by
   unfold start at h2;rw[yO (by simpa using hi),c9]at h2;cases e:vs[i]? with
   |none=>rw[e]at h2;cases h2
   |some a=>rw[e]at h2;cases h2;rfl
  obtain⟨u,hu,rv⟩:=r.get ha;have hp:ps[i]? = aa y:=by rw[<- S.pre,yQ (by omega)];exact h1
  have ndP:ps.Nodup:=by rw[<- S.pre];exact S.nd.sublist (List.take_sublist _ _)
  refine⟨u,rv,?_⟩;rcases S.par y (je hp)with k|k
  ·exact .inl ⟨k,BW ndP hp hu k⟩
  ·obtain⟨c,e⟩:=Bb (n:=s.heap.objs.size+1) k;refine .inr ⟨.inl k,c,e,?_⟩;have q:=x.cell y c e;rw[Do ndP hp hu (by show scope.names.lookup y≠_;rw[k];decide)]at q;exact q
 ·exact e0.hok.fresh (vp (x.above y c (lr h)))
 ·unfold start;show _=N.length;rw[cu,aM,yS];omega
theorem EX{CX:gi}{P:bh}{w:a8}{K:aG}{mg:Str->Option ai}{base:aK}{k:Nat}{f:ah}{name qual:Str}{params:pR}{body:List bn}{scope:d8}{dV kV doc pm cdv ct oc:ai}{an od:Option ah}
 {osl:Array (Option ai)} {N ps:List Str} {sp:Sp} (lk:K.lookup f=aa ⟨oc,od,.func (j2 name qual params body scope dV kV doc pm an cdv ct),osl⟩) (hcd:pN K cdv qual=true) (S:bU N ps scope)
 (len:∀vs H Q E,sp vs H Q E->vs.length=ps.length)
 (hbody:∀(A:bK) (outer:List Env) (s:ap) (H:Hp) (vs:List V) (Q:VK) (E:XK),cL k (A.deeper (envOfC qual scope s.heap.objs.size f cdv))->sp vs H Q E ->
  ∃t,gc (km CX P w K mg base N qual scope f cdv A outer s H E) body t/\t { nx:=λ_ H'=>Q .non H',rt:=Q } (start N vs) H) :
 bu P w K mg base CX (k+1) f (j2 name qual params body scope dV kV doc pm an cdv ct) ps sp:=by
 refine⟨len,λA outer s H args us vs Q E hr e0 hb r hsp=>?_⟩;have hl:=len _ _ _ _ hsp;have KX:K.In s.heap:=e0.mod.kin.keeps λb o e=>(e0.bs b o e).1;have lim:s.heap.NoLimit:=e0.mod.nolimit.keeps λb o e=>(e0.bs b o e).1;have hkind:∀y∈ps.zip us,scope.names.lookup y.1=aa .local\/(scope.names.lookup y.1=aa .cell/\((cellsFrom (s.heap.objs.size+1) scope.names []).lookup y.1).isSome=true):=λ⟨n,v⟩ hy=>by
  rcases S.par n (u0 hy).1 with q|q
  ·exact .inl q
  ·exact .inr ⟨q,y7 _ _ _ (.inl q)⟩
 refine codeAny_call_function hr.depth (KX _ _ lk) rfl S.co S.gen rfl (Ga KX hcd) (hb _ _ _ _ ?_);refine Gj S.kind hkind λenv he s1 x=>?_;subst he;refine⟨lim.keeps x.toInCall.keep,codeAny_func ?_⟩;obtain⟨t,ht,hq⟩:=hbody A outer s H vs Q E (hr.deeper _) hsp;have I:Inv (km CX P w K mg base N qual scope f cdv A outer s H E) [] (start N vs) H s1:=AK S hr.hd e0 hl r x;refine iH (ht [] s1 (start N vs) H _ I hq) (λfl s' hs=>?_) λe s' hs=>hs;have fin:∀{σ':St} {H':Hp} {v:V} {u:ai},Inv (km CX P w K mg base N qual scope f cdv A outer s H E) [] σ' H' s'->RelV v u->Q v H'->CE outer P w H s Q u s':=
  λ{σ' H' v u} J rv q=>⟨v,H',J.os,J.bare,J.base,J.hok,rv,q⟩
 cases fl with
 |ret u=>
  obtain⟨v,σ',H',J,rv,q⟩:=hs;exact fin J rv q
 |next=>
  obtain⟨σ',H',J,q⟩:=hs;exact fin (v:=V.non) (u:=iJ) J rfl q
 |brk=>
  obtain⟨_,_,_,q⟩:=hs;exact gW q
 |cont=>
  obtain⟨_,_,_,q⟩:=hs;exact gW q
section
variable{X:Cx}{x:Str}{p pos:Pos}{e:aS}{es:List aS}{t:TA}{id T:String}{r:List V->Hp->VK->Prop}
def rD(r:List V->Hp->VK->Prop)(t:TA):TE:=λσ H Q=>t σ H λvs H1=>r vs H1 Q
theorem eM(hc:f8 X (.builtin id) r)(hg:Gl X x)(hm:X.mg x=ab)(hv:bootBuiltins x=aa (.builtin id))(ha:PA X (e::es) t)(hn:x ≠ "__name__" := by decide)(hdb:(x==("__debug__" : Str))=false:=by decide)
 (he:starEach (e::es) X.env=(false,eval e X.env)::starEach es X.env:=by rfl) (hpl:(backTo pos (starEach es X.env)).any (·.1)=false:=by rfl):PE X (.Call (.Name x p) (e::es) [] pos) (rD r t):=by
 intro ae s σ H Q I h;refine sw (pj I hg hm hv ?_ hn hdb);exact PyProof.Rows.callWith_builtin1 (aX (ha pos ae s σ H _ I h) λus s1 ⟨vs,H1,I1,r1,q1⟩=>hc ae s1 σ H1 vs us Q I1 r1 q1) he hpl
theorem fM(hc:f8 X (.type T) r)(hg:Gl X x)(hm:X.mg x=ab)(hv:bootBuiltins x=aa (.type T))(ha:PA X (e::es) t)(hn:x ≠ "__name__" := by decide)(hdb:(x==("__debug__" : Str))=false:=by decide)
 (he:starEach (e::es) X.env=(false,eval e X.env)::starEach es X.env:=by rfl) (hpl:(backTo pos (starEach es X.env)).any (·.1)=false:=by rfl):PE X (.Call (.Name x p) (e::es) [] pos) (rD r t):=by
 intro ae s σ H Q I h;refine sw (pj I hg hm hv ?_ hn hdb);exact vB (aX (ha pos ae s σ H _ I h) λus s1 ⟨vs,H1,I1,r1,q1⟩=>hc ae s1 σ H1 vs us Q I1 r1 q1) he hpl
end
end L2
namespace HT
open PySem PyProof.Rows
section
variable{prog:bh}{w:a8}{A:bK}{E:ai->ap->Prop}{s:ap}
def cV(n d:Nat):Option Int->Nat
 |none=>d
 |some v=>if v<0 then(v+(n:Int)).toNat else min v.toNat n
theorem Ej(n d:Nat)(hd:d<=n)(o:Option Int):cV n d o<=n:=by
 cases o with
 |none=>exact hd
 |some v=>
  show(if v<0 then(v+(n:Int)).toNat else min v.toNat n)<=n;by_cases hv:v<0
  ·rw[bb hv];omega
  ·rw[bc hv];exact Nat.min_le_right _ _
end
end HT
namespace L2
open PySem PySem.Spec PyProof.Rows
abbrev TO:=St->Hp->(Option Int->Hp->Prop)->Prop
def PO(X:Cx)(e:Option aS)(t:TO):Prop:=
 ∀(ae:List (ah×Obj)) (s:ap) (σ:St) (H:Hp) (Q:Option Int->Hp->Prop),Inv X ae σ H s->t σ H Q ->
  wpAny (model X.prog X.w) X.A (evalPart e X.env) (λu s'=>∃o H',Inv X ae σ H' s'/\IsPart u o/\Q o H') X.xe s
def B8:TO:=λ_ H Q=>Q ab H
def CV(t:TE):TO:=λσ H Q=>t σ H λx H1=>∃i,x=.int i/\Q (aa i) H1
section
variable{X:Cx}{e:aS}{te:TE}{lo hi:Option aS}{tl th:TO}{pos p2:Pos}
theorem oZ:PO X ab B8:=by intro ae s σ H Q I h;rw[evalPart_none];exact bE ⟨ab,H,I,.none,h⟩
theorem pz(h:PE X e te):PO X (aa e) (CV te):=by intro ae s σ H Q I hw;rw[evalPart_some];refine aX (h ae s σ H _ I hw) λu s1 ⟨x,H1,I1,r1,q1⟩=>?_;obtain⟨i,rfl,q⟩:=q1;obtain⟨t,rfl⟩:=r1;exact⟨aa i,H1,I1,.int i t,q⟩
def kz(X:Cx)(r:V->Option Int->Option Int->Hp->VK->Prop):Prop:=
 ∀(ae:List (ah×Obj)) (s:ap) (σ:St) (H:Hp) (x:V) (v vl vu:ai) (lo hi:Option Int) (sl:ah) (Q:VK),Inv X ae σ H s->RelV x v->s.heap.IsSliceOf sl vl vu .none->IsPart vl lo->IsPart vu hi->r x lo hi H Q ->
  ∃T id,typeLookup (.type T) "__getitem__" = pure (aa (.builtin id))/\s.TypeIs v T/\wpAny (model X.prog X.w) X.A (getItem v (.ref sl)) (EP X ae σ Q) X.xe s
theorem kz.or{r r':V->Option Int->Option Int->Hp->VK->Prop}(h:kz X r)(h':kz X r'):kz X (λx lo hi H Q=>r x lo hi H Q\/r' x lo hi H Q):=by
 intro ae s σ H x v vl vu lo hi sl Q I rx hs pl pu q;rcases q with q|q
 ·exact h ae s σ H x v vl vu lo hi sl Q I rx hs pl pu q
 ·exact h' ae s σ H x v vl vu lo hi sl Q I rx hs pl pu q
def D6(r:V->Option Int->Option Int->Hp->VK->Prop)(te:TE)(tl th:TO):TE:=λσ H Q=>te σ H λx H1=>tl σ H1 λl H2=>th σ H2 λu H3=>r x l u H3 Q
theorem oj{r:V->Option Int->Option Int->Hp->VK->Prop}(hr:kz X r)(he:PE X e te)(hl:PO X lo tl)(hu:PO X hi th):PE X (.Subscript e (.Slice lo hi ab p2) pos) (D6 r te tl th):=by intro ae s σ H Q I h;refine Subscript_ (aX (he ae s σ H _ I h) λv s1 ⟨x,H1,I1,r1,q1⟩=>?_);refine wpAny_Slice (aX (hl ae s1 σ H1 _ I1 q1) λvl s2 ⟨l,H2,I2,pl,q2⟩=>aX (hu ae s2 σ H2 _ I2 q2) λvu s3 ⟨u,H3,I3,pu,q3⟩=>?_);rw[evalPart_none];refine bE ?_;have I4:Inv X ae σ H3 { s3 with heap:=s3.heap.push { cls:=.type "slice",data:=.fields #[vl,vu,.none] } }:=I3.kept (t':=s3.toks) λb ob q=>cA _ q;obtain⟨T,id,hT,ht,hg⟩:=hr ae { s3 with heap:=s3.heap.push { cls:=.type "slice",data:=.fields #[vl,vu,.none] } } σ H3 x v vl vu l u s3.heap.objs.size Q I4 r1 (Heap.IsSliceOf.new ..) pl pu q3;show wpAny (model X.prog X.w) X.A (subscriptTail e (.Slice lo hi ab p2) v (.ref s3.heap.objs.size)) (EP X ae σ Q) X.xe { s3 with heap:=s3.heap.push { cls:=.type "slice", data:=.fields #[vl,vu,.none] } };exact tail_any (ops:=[.ref s3.heap.objs.size,v]) ht hT hg (by with_unfolding_all rfl)
def oo(xs:List V)(lo hi:Option Int):List V:=(xs.drop (HT.cV xs.length 0 lo)).take (HT.cV xs.length xs.length hi-HT.cV xs.length 0 lo)
theorem L5(xs:List V)(lo hi:Option Int):(oo xs lo hi).length<=xs.length:=by unfold oo;rw[gC,jf];omega
end
def fI(n:Nat)(i:Int):Option Nat:=if 0<=i then(if i<n then aa i.toNat else ab)else if -(n:Int)<=i then aa (i+n).toNat else ab
def dO{α:Type}(xs:List α)(i:Int):Option α:=(fI xs.length i).bind λj=>xs[j]?
theorem ND{n:Nat}{i:Int}{j:Nat}(h:fI n i=aa j):seqIndex? i n=aa j/\j<n/\-(n:Int)<=i/\i<n:=by
 unfold fI at h;by_cases h0:0<=i
 ·rw[bb h0]at h;by_cases h1:i<n
  ·rw[bb h1]at h;have e:i.toNat=j:=fY h;exact⟨by rw[seqIndex_of h0 h1,e],by omega,by omega,h1⟩
  ·rw[bc h1]at h;cases h
 ·rw[bc h0]at h;by_cases h1:-(n:Int)<=i
  ·rw[bb h1]at h;have e:(i+n).toNat=j:=fY h;exact⟨by rw[seqIndex_neg (by omega) h1,e],by omega,h1,by omega⟩
  ·rw[bc h1]at h;cases h
theorem yx{α:Type}{xs:List α}{i:Int}{v:α}(h:dO xs i=aa v):∃j,seqIndex? i xs.length=aa j/\xs[j]? = aa v/\j<xs.length/\-(xs.length:Int)<=i/\i<xs.length:=by
 unfold dO at h;cases e:fI xs.length i with
 |none=>rw[e]at h;cases h
 |some j=>
  rw[e]at h;obtain⟨h1,h2,h3,h4⟩:=ND e;exact⟨j,h1,h,h2,h3,h4⟩
def EE(b:aS):Prop:=∀o i,subscripted b false o i=operate [o,i] (getItem o i)
def kP(X:Cx)(r:R2):Prop:=
 ∀(value slice:aS) (ae:List (ah×Obj)) (s:ap) (σ:St) (H:Hp) (x y:V) (v u:ai) (Q:VK),Inv X ae σ H s->RelV x v->RelV y u->r x y H Q ->
  subscripted slice false v u=operate [v,u] (getItem v u)->wpAny (model X.prog X.w) X.A (subscriptTail value slice v u) (EP X ae σ Q) X.xe s
def xj(X:Cx)(id:String)(r:V->List V->Hp->VK->Prop):Prop:=
 ∀(ae:List (ah×Obj)) (s:ap) (σ:St) (H:Hp) (x:V) (xs:List V) (v:ai) (us:List ai) (Q:VK),Inv X ae σ H s->RelV x v->Vals xs us->r x xs H Q ->
  wpAny (model X.prog X.w) X.A (call (.builtin id) (v::us)) (EP X ae σ Q) X.xe s
section
variable{X:Cx}{a b:aS}{ta tb:TE}{pos:Pos}
theorem kP.or{r r':R2}(h:kP X r)(h':kP X r'):kP X (λx y H Q=>r x y H Q\/r' x y H Q):=by
 intro value slice ae s σ H x y v u Q I rx ry q hs;rcases q with q|q
 ·exact h value slice ae s σ H x y v u Q I rx ry q hs
 ·exact h' value slice ae s σ H x y v u Q I rx ry q hs
theorem Fk{r:R2}(hr:kP X r)(ha:PE X a ta)(hb:PE X b tb)(hs:EE b):PE X (.Subscript a b pos) (mf r ta tb):=by intro ae s σ H Q I h;exact Subscript_ (wy ha hb I h λv u s2 x y H2 I2 rx ry q=>hr a b ae s2 σ H2 x y v u Q I2 rx ry q (hs _ _))
def A3(K:aG):R2:=λx y H Q=>∃p xs i v,x=.ref p/\y=.int i/\d6 K H p xs/\dO xs i=aa v/\Q v H
def B7(K:aG):R2:=λx y H Q=>∃p xs i v,x=.ref p/\y=.int i/\eK K H p xs/\dO xs i=aa v/\Q v H
def Cs:R2:=λx y H Q=>∃z i c,x=.str z/\y=.int i/\z.length<=sizeLine/\dO z.cps.toList i=aa c/\Q (.str ⟨#[c]⟩) H
theorem JJ:kP X (A3 X.K):=by
 intro value slice ae s σ H x y v u Q I rx ry h hs;obtain⟨p,xs,i,z,rfl,rfl,hq,he,q⟩:=h;cases rx;obtain⟨t,rfl⟩:=ry;obtain⟨am,r,pl,hz⟩:=I.list hq;obtain⟨j,h1,h2,h3,h4,h5⟩:=yx he;obtain⟨w,ew,rw'⟩:=r.get h2;have hl:=r.length;have hn:=qD;have fin:EP X ae σ Q w s:=⟨z,H,I,rw',q⟩;by_cases h0:0<=i
 ·have hj:i.toNat=j:=by
   rw[seqIndex_of h0 h5]at h1;exact fY h1
  exact item_listR pl.isList h0 (by omega) (by rw[hj];simpa using ew) fin hs
 ·have hj:(i+(am.toArray.size:Int)).toNat=j:=by
   rw[seqIndex_neg (by omega) h4]at h1;rw[cX,<- hl];exact fY h1
  exact GC (x:=w) pl.isList.typeIs slot_list_getitem.lookup
   (wpAny_getItem_list_neg (Q:=λr s'=>r=w/\EP X ae σ Q r s') pl.isList (by omega) (by rw[cX]<;>omega) (by omega) (by rw[hj];simpa using ew) ⟨rfl,fin⟩) hs
theorem KR:kP X (B7 X.K):=by
 intro value slice ae s σ H x y v u Q I rx ry h hs;obtain⟨p,xs,i,z,rfl,rfl,hq,he,q⟩:=h;cases rx;obtain⟨t,rfl⟩:=ry;obtain⟨am,r,pl,hz⟩:=I.tuple hq;obtain⟨j,h1,h2,h3,h4,h5⟩:=yx he;obtain⟨w,ew,rw'⟩:=r.get h2;have hl:=r.length;have hn:=qD;have fin:EP X ae σ Q w s:=⟨z,H,I,rw',q⟩;exact GC (x:=w) pl.typeIs slot_tuple_getitem.lookup
  (getItem_tuple (j:=j) (Q:=λr s'=>r=w/\EP X ae σ Q r s') pl (by omega) (by omega) (by rw[cX,<- hl];exact h1) (by simpa using ew) ⟨rfl,fin⟩) hs
theorem Ij:kP X Cs:=by
 intro value slice ae s σ H x y v u Q I rx ry h hs;obtain⟨z,i,c,rfl,rfl,hz,he,q⟩:=h;obtain⟨t,rfl⟩:=rx;obtain⟨t',rfl⟩:=ry;obtain⟨j,h1,h2,h3,h4,h5⟩:=yx he;have hl:z.cps.toList.length=z.length:=by simp[nY]
 rw[hl]at h1 h4 h5;have hn:=qD;exact tail_any (typeIs_str s z t) slot_str_getitem.lookup (getItem_str (c:=c) (by
  have e1:decide (i < -(2 ^ 63:Int))=false:=cE (by omega);have e2:decide (i >= 2 ^ 63)=false:=cE (by omega);rw[e1,e2,Bool.or_false]) (by rw[h1];simpa using h2) ⟨.str ⟨#[c]⟩,H,I.tok _,⟨_,rfl⟩,q⟩) hs
def qm(K:aG):R2:=λx y H Q=>A3 K x y H Q\/B7 K x y H Q\/Cs x y H Q
theorem Cm:kP X (qm X.K):=JJ.or (KR.or Ij)
theorem JC(lo hi:Option Int)(n:Nat):(sliceBounds lo hi ab n).1=((HT.cV n 0 lo:Nat):Int)/\(sliceBounds lo hi ab n).2.1=((HT.cV n n hi:Nat):Int)/\(sliceBounds lo hi ab n).2.2=1:=by
 refine⟨?_,?_,rfl⟩
 ·cases lo with
  |none=>simp[sliceBounds,HT.cV]
  |some i=>
   simp only[sliceBounds,HT.cV,Gy,show(1:Int)>0 by decide,jE];by_cases h:i<0
   ·simp only[h,jE]<;>omega
   ·simp only[h,ik]<;>omega
 ·cases hi with
  |none=>simp[sliceBounds,HT.cV]
  |some i=>
   simp only[sliceBounds,HT.cV,Gy,show(1:Int)>0 by decide,jE];by_cases h:i<0
   ·simp only[h,jE]<;>omega
   ·simp only[h,ik]<;>omega
theorem Kk(am:List ai)(lo hi:Option Int):slicePick am.toArray lo hi ab=((am.drop (HT.cV am.length 0 lo)).take (HT.cV am.length am.length hi-HT.cV am.length 0 lo)).toArray:=by obtain⟨h1,h2,h3⟩:=JC lo hi am.toArray.size;unfold slicePick;rw[h1,h2,h3];simp only[sliceRange_one,pick_run,cX]<;>rfl
def wX(K:aG):V->Option Int->Option Int->Hp->VK->Prop:=λx lo hi H Q=>∃a xs,x=.ref a/\d6 K H a xs/\∀p,H p=ab->Q (.ref p) (upd H p (.lst (oo xs lo hi)))
theorem FF:kz X (wX X.K):=by intro ae s σ H x v vl vu lo hi sl Q I rx hs pl pu h;obtain⟨a,xs,rfl,hx,q⟩:=h;cases rx;obtain⟨am,r,ht,hz⟩:=I.list hx;have hlen:=r.length;refine⟨"list", _,slot_list_getitem.lookup,ht.isList.typeIs,?_⟩;refine wpAny_getItem_list_slice ht.isList hs pl pu .none (by simp) ?_ (by rw[cX]<;>omega);rw[Kk,<- hlen];refine⟨.ref s.heap.objs.size,_,I.laid (t':=s.toks) (o:=.lst (oo xs lo hi)) (λb ob q=>cA _ q) (bA _) ?_,rfl,q _ (I.hok.fresh (bA _))⟩;exact⟨dr (L5 xs lo hi) hz,_,0,(r.drop (HT.cV xs.length 0 lo)).take (HT.cV xs.length xs.length hi-HT.cV xs.length 0 lo),dE _ rfl⟩
def yy:V->Bool
 |.non=>true
 |.bl _=>true
 |.int _=>true
 |.str _=>true
 |_=>false
def AN:V->V->Bool
 |.non,.non=>true
 |.bl a,.bl b=>a==b
 |.bl a,.int b=>(if a then 1 else 0)==b
 |.int a,.bl b=>a==(if b then 1 else 0)
 |.int a,.int b=>a==b
 |.str a,.str b=>a==b
 |_,_=>false
theorem OF{A:bK}{s:ap}{y x:V}{u v:ai}(ry:RelV y u)(rx:RelV x v)(fy:yy y=true)(fx:yy x=true):SeqAt.EqAt A s u v (AN y x):=by
 cases y with
 |non=>
  cases ry;cases x with
  |non=>cases rx;exact SeqAt.EqAt.same _
  |bl b=>cases rx;exact SeqAt.EqAt.none_bool b
  |int b=>obtain⟨t,rfl⟩:=rx;exact SeqAt.EqAt.none_int b t
  |str b=>obtain⟨t,rfl⟩:=rx;exact SeqAt.EqAt.none_str b t
  |_=>exact absurd (show false=true from fx) du
 |bl a=>
  cases ry;cases x with
  |non=>cases rx;exact SeqAt.EqAt.bool_none a
  |bl b=>cases rx;exact GP a b
  |int b=>obtain⟨t,rfl⟩:=rx;exact SeqAt.EqAt.bool_int a b t
  |str b=>obtain⟨t,rfl⟩:=rx;exact GQ a b t
  |_=>exact absurd (show false=true from fx) du
 |int a=>
  obtain⟨t',rfl⟩:=ry;cases x with
  |non=>cases rx;exact SeqAt.EqAt.int_none a t'
  |bl b=>cases rx;exact SeqAt.EqAt.int_bool a t' b
  |int b=>obtain⟨t,rfl⟩:=rx;exact SeqAt.EqAt.int_int a t' b t
  |str b=>obtain⟨t,rfl⟩:=rx;exact SeqAt.EqAt.int_str a t' b t
  |_=>exact absurd (show false=true from fx) du
 |str a=>
  obtain⟨t',rfl⟩:=ry;cases x with
  |non=>cases rx;exact SeqAt.EqAt.str_none a t'
  |bl b=>cases rx;exact GR a t' b
  |int b=>obtain⟨t,rfl⟩:=rx;exact SeqAt.EqAt.str_int a t' b t
  |str b=>obtain⟨t,rfl⟩:=rx;exact SeqAt.EqAt.str_str a t' b t
  |_=>exact absurd (show false=true from fx) du
 |_=>exact absurd (show false=true from fy) du
theorem LX:f8 X (.type "list") (λxs H Q=>∃p ys,xs=[.ref p]/\(d6 X.K H p ys\/eK X.K H p ys)/\∀l,H l=ab->Q (.ref l) (upd H l (.lst ys))):=by
 intro ae s σ H xs us Q I r h;obtain⟨p,ys,rfl,hq,q⟩:=h;obtain⟨u,rfl,rx⟩:=vals1 r;cases rx;have fin:∀(am:List ai),Vals ys am->ys.length<=sizeLine->∀(h':aK) (c':Nat),(∀b o',s.heap.get? b=aa o'->h'.get? b=aa o') ->
  h'.get? s.heap.objs.size=aa { cls:=.type "list", dict:=ab,data:=.seq am.toArray c',slots:=#[] }->EP X ae σ Q (.ref s.heap.objs.size) { s with heap:=h' }:=λam r' hz h' c' kp e=>
  ⟨.ref s.heap.objs.size,_,I.laid (t':=s.toks) kp (bA _) (show cj X.prog X.w _ h' _ (.lst ys)from⟨hz,am,c',r',e⟩),rfl,q _ (I.hok.fresh (bA _))⟩
 rcases hq with hq|hq
 ·obtain⟨am,r',pl,hz⟩:=I.list hq;have hlen:=r'.length;obtain⟨o,ho,hc,n,hd⟩:=pl.isList;exact call_list_seq p (.inl rfl) ho hc hd (λh' c' kp e=>fin am r' hz h' c' kp e) (by simp only[cX]<;>omega)
 ·obtain⟨am,r',pl,hz⟩:=I.tuple hq;have hlen:=r'.length;obtain⟨o,ho,hc,n,hd⟩:=pl;exact call_list_seq p (.inr rfl) ho hc hd (λh' c' kp e=>fin am r' hz h' c' kp e) (by simp only[cX]<;>omega)
theorem HZ:f8 X (.type "tuple") (λxs H Q=>∃p ys,xs=[.ref p]/\((d6 X.K H p ys/\∀l,H l=ab->Q (.ref l) (upd H l (.tup ys)))\/(eK X.K H p ys/\Q (.ref p) H))):=by
 intro ae s σ H xs us Q I r h;obtain⟨p,ys,rfl,h⟩:=h;obtain⟨u,rfl,rx⟩:=vals1 r;cases rx;rcases h with ⟨hq,q⟩|⟨hq,q⟩
 ·obtain⟨am,r',pl,hz⟩:=I.list hq;have hlen:=r'.length;refine call_tuple_list pl.isList (λh' kp=>?_) (by simp only[cX]<;>omega);have I1:Inv X ae σ H { s with heap:=h' }:=I.kept (t':=s.toks) kp;have I2:Inv X ae σ (upd H h'.objs.size (.tup ys)) { s with heap:=h'.push { cls:=.type "tuple", data:=.seq am.toArray } }:=
   I1.laid (t':=s.toks) (λb o e=>cA _ e) (bA _) (show cj X.prog X.w _ _ _ (.tup ys)from⟨hz,am,r',pe.new _ _⟩)
  exact⟨.ref h'.objs.size,_,I2,rfl,q _ (I1.hok.fresh (bA _))⟩
 ·obtain⟨am,r',pl,hz⟩:=I.tuple hq;exact call_tuple_same pl ⟨.ref p,H,I,rfl,q⟩
def xl(K:aG)(T:String)(x:V)(H:Hp):Prop:=match x with
 |.str _=>T = "str"
 |.int _=>T = "int"
 | .ref p=>(T = "list" /\ ∃xs,d6 K H p xs)\/(T = "tuple" /\ ∃o,K.lookup p=aa o/\o.cls=.type "tuple" /\ o.dict=ab) \/
  (T = "dict" /\ ((∃ak,H p=aa (.dK ak))\/∃ak,H p=aa (.dT ak)))\/(T = "set" /\ ∃S n,H p=aa (.set S n))
 |_=>False
theorem AJ{ae:List (ah×Obj)}{σ:St}{H:Hp}{s:ap}{T:String}{x:V}{v:ai}(I:Inv X ae σ H s)(r:RelV x v)(ty:xl X.K T x H) :
 s.TypeIs v T/\∀a,v=.ref a->∃ob,s.heap.get? a=aa ob/\ob.dict=ab:=by
 cases x with
 |str z=>
  obtain⟨t,rfl⟩:=r;cases(show T = "str" from ty);exact⟨typeIs_str s z t,λ_ e=>nomatch e⟩
 |int i=>
  obtain⟨t,rfl⟩:=r;cases(show T = "int" from ty);exact⟨typeIs_int s i t,λ_ e=>nomatch e⟩
 |ref p=>
  cases r;rcases ty with ⟨rfl,xs,hq⟩|⟨rfl,o,hk,hc,hd⟩|⟨rfl,hk⟩|⟨rfl,S,n,hk⟩
  ·obtain⟨am,_,pl,_⟩:=I.list hq;refine⟨pl.isList.typeIs,λa e=>?_⟩;cases e;obtain⟨o,n,e,c,hd,_⟩:=pl;exact⟨o,e,hd⟩
  ·refine⟨⟨o,I.fe p o hk,hc⟩,λa e=>?_⟩;cases e;exact⟨o,I.fe _ o hk,hd⟩
  ·have z:∃o,s.heap.get? p=aa o/\o.ExactDict:=by
    rcases hk with ⟨ak,hk⟩|⟨ak,hk⟩
    ·obtain⟨_,_,_,_,o,_,_,e,ex,_⟩:=I.hok p _ hk;exact⟨o,e,ex⟩
    ·obtain⟨_,_,_,_,o,_,_,e,ex,_⟩:=I.hok p _ hk;exact⟨o,e,ex⟩
   obtain⟨o,e,ex⟩:=z;refine⟨⟨o,e,ex.1⟩,λa e2=>?_⟩;cases e2;exact⟨o,e,ex.2.1⟩
  ·obtain⟨o,_,_,_,e,ex,_⟩:=I.hok p _ hk;refine⟨⟨o,e,ex.1⟩,λa e2=>?_⟩;cases e2;exact⟨o,e,ex.2.1⟩
 |_=>exact gW ty
def qJ(K:aG)(T:String)(r:V->List V->Hp->VK->Prop)(to:TE):TE:=λσ H Q=>to σ H λx H1=>xl K T x H1/\r x [] H1 Q
def nD(K:aG)(T:String)(r:V->List V->Hp->VK->Prop)(to:TE)(t:TA):TE:=λσ H Q=>to σ H λx H1=>xl K T x H1/\t σ H1 λxs H2=>r x xs H2 Q
variable{o e:aS}{es:List aS}{to:TE}{t:TA}{name:Str}{apos cpos:Pos}{T id:String}{r:V->List V->Hp->VK->Prop}
theorem tD(pa:PlainAttrs T)(slot:Slot T name id)(hty:typeOf (.builtin id)=pure (.type "method_descriptor"))(hm:xj X id r)(ho:PE X o to)
 (hbase:attributeBase o name X.env (eval o X.env)=eval o X.env:=by rfl) (hline:(apos.endLine==cpos.line)=true:=by rfl):PE X (.Call (.Attribute o name apos) [] [] cpos) (qJ X.K T r to):=by
 intro ae s σ H Q I h;refine wpAny_Call_method0_late hbase hline (aX (ho ae s σ H _ I h) λv s1 ⟨x,H1,I1,r1,ty,q1⟩=>?_);obtain⟨h1,h2⟩:=AJ I1 r1 ty;exact⟨T,id,pa,slot,hty,h1,h2,GH rfl (PySem.evalArgs_none (hm ae s1 σ H1 x [] v [] Q I1 r1 .nil q1))⟩
theorem gv(pa:PlainAttrs T)(slot:Slot T name id)(hty:typeOf (.builtin id)=pure (.type "method_descriptor"))(hm:xj X id r)(ho:PE X o to)(ha:PA X (e::es) t)
 (hbase:attributeBase o name X.env (eval o X.env)=eval o X.env:=by rfl)
 (hfew:((backTo cpos (starEach (e::es) X.env)).all (λx=>!x.1)&&(backToKw cpos (keywordEach [] X.env)).all (λx=>x.1.isSome)
  && decide ((e::es).length+([]:List Keyword).length+(if([]:List Keyword).isEmpty then 0 else 1)<30))=true:=by rfl)
 (hline:(apos.endLine==cpos.line)=true:=by rfl) (hs:starEach (e::es) X.env=(false,eval e X.env)::starEach es X.env:=by rfl) (hplain:(backTo cpos (starEach es X.env)).any (·.1)=false:=by rfl) :
 PE X (.Call (.Attribute o name apos) (e::es) [] cpos) (nD X.K T r to t):=by
 intro ae s σ H Q I h;refine wpAny_Call_method_late hbase hfew hline rfl (aX (ho ae s σ H _ I h) λv s1 ⟨x,H1,I1,r1,ty,q1⟩=>?_);obtain⟨h1,h2⟩:=AJ I1 r1 ty;refine⟨T,id,pa,slot,hty,h1,h2,?_⟩;have hA:=ha cpos ae s1 σ H1 _ I1 q1;rw[hs]at hA ⊢;refine GH (by show(false||(backTo cpos (starEach es X.env)).any (·.1))=false;rw[hplain]<;>rfl) (Calls.evalArgs_plain ?_);exact aX hA λus s2 ⟨vs,H2,I2,r2,q2⟩=>hm ae s2 σ H2 x vs v us Q I2 r1 r2 q2
end
def ph(X:Cx)(id:String)(r:V->List V->Hp->VK->Prop):Prop:=
 ∀(ae:List (ah×Obj)) (s:ap) (σ:St) (H:Hp) (x:V) (xs:List V) (v:ai) (us:List ai) (Q:VK),Inv X ae σ H s->RelV x v->Vals xs us->r x xs H Q ->
  wpAny (model X.prog X.w) X.A (call (.builtin id) (v::us)) (EP X ae σ Q) X.xe s
theorem Vals.one:∀{x:V} {us:List ai},Vals [x] us->∃u,us=[u]/\RelV x u
 |_,_,.cons r .nil=>⟨_,rfl,r⟩
theorem Vals.zero:∀{us:List ai},Vals [] us->us=[]
 |_,.nil=>rfl
theorem Vals.dropLast{xs:List V}{us:List ai}(h:Vals xs us):Vals xs.dropLast us.dropLast:=by
 induction h with
 |nil=>exact .nil
 |cons r t ih=>
  cases t with
  |nil=>exact .nil
  |cons q t'=>exact .cons r ih
theorem Vals.eraseIdx:∀{xs:List V} {us:List ai} (i:Nat),Vals xs us->Vals (xs.eraseIdx i) (us.eraseIdx i)
 |_,_,_,.nil=>.nil
 |_,_,0,.cons _ t=>t
 |_,_,i+1,.cons r t=>.cons r (Vals.eraseIdx i t)
theorem Vals.reverse{xs:List V}{us:List ai}(h:Vals xs us):Vals xs.reverse us.reverse:=by
 induction h with
 |nil=>exact .nil
 |cons r t ih=>rw[pI,pI];exact Vals.append ih (.cons r .nil)
theorem Lh{α:Type}(l:List α):l.eraseIdx (l.length-1)=l.dropLast:=by
 induction l with
 |nil=>rfl
 |cons a r ih=>
  cases r with
  |nil=>rfl
  |cons b r=>
   have e:(a::b::r).length-1=((b::r).length-1)+1:=by have h1:(a::b::r).length=r.length+2:=rfl;have h2:(b::r).length=r.length+1:=rfl;omega
   rw[e,FV,ih]
   all_goals rfl
theorem Fl{α:Type}:∀(l:List α) (i:Nat),(l.eraseIdx i).length<=l.length
 |[],_=>bA _
 |_::_,0=>Nat.le_succ _
 |_::r,i+1=>Nat.succ_le_succ (Fl r i)
section
variable{X:Cx}{ae:List (ah×Obj)}{σ:St}{H:Hp}{s:ap}{l b:ah}{xs ys zs:List V}
theorem Inv.oh{am its':List ai}{n:Nat}{f:Array ai->Array ai}{t':Nat}(I:Inv X ae σ H s)(hH:H l=aa (.lst xs))
 (e:s.heap.get? l=aa { cls:=.type "list", data:=.seq am.toArray n }) (hf:f am.toArray=its'.toArray) (hv:Vals ys its') (hz:ys.length<=sizeLine) :
 Inv X ae σ (upd H l (.lst ys)) { s with heap:=s.heap.update l (sD f),toks:=t' }:=by
 have q:=PySem.IsL.update e f;rw[hf]at q;refine I.write (x:=l) (e:=l) (by rw[hH];exact trivial) (.inl rfl) (λb' u hb hu=>(Heap.get?_update_other s.heap (sD f) (dN hb)).trans hu) ⟨_,q⟩ ?_;exact⟨hz,its',_,hv,q⟩
theorem Inv.Js{am:List ai}{t':Nat}(I:Inv X ae σ H s)(hv:Vals ys am)(hz:ys.length<=sizeLine) :
 Inv X ae σ (upd H s.heap.objs.size (.lst ys)) { s with heap:=s.heap.push { cls:=.type "list", data:=.seq am.toArray },toks:=t' }:=
 I.laid (λ_ _ q=>cA _ q) (bA _) ⟨hz,am,0,hv,dE _ rfl⟩
theorem Inv.fresh(I:Inv X ae σ H s):H s.heap.objs.size=ab:=I.hok.fresh (bA _)
theorem Inv.oH(I:Inv X ae σ H s)(hH:H l=aa (.lst xs)):xs.length<=sizeLine/\∃(am:List ai) (n:Nat),Vals xs am/\xs.length=am.length/\s.heap.get? l=aa { cls:=.type "list", data:=.seq am.toArray n }:=by obtain⟨z,am,n,r,e⟩:=I.hok l _ hH;exact⟨z,am,n,r,r.length,e⟩
theorem IC{n:Nat}(h:n<=sizeLine):zu n=false:=by unfold zu;exact cE (by omega)
end
section
variable{X:Cx}
def xt:V->List V->Hp->VK->Prop:=λx vs H Q=>∃l xs y,x=.ref l/\vs=[y]/\H l=aa (.lst xs)/\xs.length<sizeLine/\Q .non (upd H l (.lst (xs++[y])))
theorem kA:ph X "list.append" xt:=by intro ae s σ H x vs v us Q I rx rv h;obtain⟨l,xs,y,rfl,rfl,hH,hz,q⟩:=h;cases rx;obtain⟨u,rfl,ru⟩:=rv.one;obtain⟨z,am,n,r,hl,e⟩:=I.oH hH;refine pQ F.slot_list_append ⟨_,e,rfl⟩ F.entry_list_append (F.args_list_append_2 _ _) (PySem.list_append l am.toArray n u (by rw[cX];omega)) ⟨e,?_⟩;refine⟨.non,_,I.oh (its':=am++[u]) hH e (by simp) (r.append (.cons ru .nil)) ?_,rfl,q⟩;rw[cu,jd];omega
def FK:V->List V->Hp->VK->Prop:=λx vs H Q=>∃l xs y,x=.ref l/\vs=[]/\H l=aa (.lst xs)/\xs[xs.length-1]? = aa y/\Q y (upd H l (.lst xs.dropLast))
theorem Ik:ph X "list.pop" FK:=by
 intro ae s σ H x vs v us Q I rx rv h;obtain⟨l,xs,y,rfl,rfl,hH,hy,q⟩:=h;cases rx;have hus:=rv.zero;subst hus;obtain⟨z,am,n,r,hl,e⟩:=I.oH hH;obtain⟨u,hu,ru⟩:=r.get hy;have hy':am.toArray[am.toArray.size-1]? = aa u:=by show am.toArray[am.length-1]? = aa u;rw[<- zv,<- hl];exact hu
 refine pQ F.slot_list_pop ⟨_,e,rfl⟩ F.entry_list_pop (F.args_list_pop_1 _) (MeetsSeq.list_pop_last l am.toArray n u hy' (by rw[cX];omega)) ⟨e,?_⟩;refine⟨y,_,I.oh (its':=am.dropLast) hH e ?_ r.dropLast ?_,ru,q⟩
 ·show am.toArray.eraseIdxIfInBounds (am.toArray.size-1)=am.dropLast.toArray;rw[cX,FS,Lh]
 ·rw[List.length_dropLast];omega
def x9:V->List V->Hp->VK->Prop:=λx vs H Q=>∃l xs i k y,x=.ref l/\vs=[.int i]/\H l=aa (.lst xs)/\-(2 ^ 63)<=i/\i<2 ^ 63/\seqIndex? i xs.length=aa k/\xs[k]? = aa y/\Q y (upd H l (.lst (xs.eraseIdx k)))
theorem EG:ph X "list.pop" x9:=by
 intro ae s σ H x vs v us Q I rx rv h;obtain⟨l,xs,i,k,y,rfl,rfl,hH,h1,h2,hk,hy,q⟩:=h;cases rx;obtain⟨u,rfl,ru⟩:=rv.one;obtain⟨t,rfl⟩:=ru;obtain⟨z,am,n,r,hl,e⟩:=I.oH hH;obtain⟨w,hw,rw'⟩:=r.get hy;refine pQ F.slot_list_pop ⟨_,e,rfl⟩ F.entry_list_pop (F.args_list_pop_2 _ _)
  (MeetsSeq.list_pop_at l am.toArray n i t k w (fitsIndex_both h1 h2) (by rw[cX,<- hl];exact hk) (by rw[<- zv];exact hw) (by rw[cX];omega)) ⟨e,?_⟩
 refine⟨y,_,I.oh (its':=am.eraseIdx k) hH e ?_ (r.eraseIdx k) ?_,rw',q⟩
 ·show am.toArray.eraseIdxIfInBounds k=(am.eraseIdx k).toArray;rw[FS]
 ·have:=Fl xs k;omega
def BA:V->List V->Hp->VK->Prop:=λx vs H Q=>∃l xs,x=.ref l/\vs=[]/\H l=aa (.lst xs)/\Q .non (upd H l (.lst xs.reverse))
theorem K5:ph X "list.reverse" BA:=by intro ae s σ H x vs v us Q I rx rv h;obtain⟨l,xs,rfl,rfl,hH,q⟩:=h;cases rx;have hus:=rv.zero;subst hus;obtain⟨z,am,n,r,hl,e⟩:=I.oH hH;refine pQ F.slot_list_reverse ⟨_,e,rfl⟩ F.entry_list_reverse (F.args_list_reverse_1 _) (AutoSeq1.list_reverse_list_0 l am.toArray n (by rw[cX];omega)) ⟨e,?_⟩;refine⟨.non,_,I.oh (its':=am.reverse) hH e (by simp) r.reverse ?_,rfl,q⟩;rw[uY];omega
def wZ:V->List V->Hp->VK->Prop:=λx vs H Q=>∃l xs,x=.ref l/\vs=[]/\H l=aa (.lst xs)/\Q .non (upd H l (.lst []))
theorem D7:ph X "list.clear" wZ:=by intro ae s σ H x vs v us Q I rx rv h;obtain⟨l,xs,rfl,rfl,hH,q⟩:=h;cases rx;have hus:=rv.zero;subst hus;obtain⟨z,am,n,r,hl,e⟩:=I.oH hH;refine pQ F.slot_list_clear ⟨_,e,rfl⟩ F.entry_list_clear (F.args_list_clear_1 _) (AutoSeq1.list_clear_list_0 l am.toArray n (by rw[cX];omega)) ⟨e,?_⟩;exact⟨.non,_,I.oh (its':=[]) (ys:=[]) hH e rfl .nil (gE _),rfl,q⟩
end
section
variable{κ:Type}[DecidableEq κ]
def gJ(ak:List (κ×V))(k:κ):Option V:=(ak.find? λkv=>decide (kv.1=k)).map (·.2)
def putK(ak:List (κ×V))(k:κ)(v:V):List (κ×V):=if(ak.any λkv=>decide (kv.1=k))=true then ak.map (λkv=>if kv.1=k then(kv.1,v)else kv)else ak++[(k,v)]
theorem ye{p:κ×V}{r:List (κ×V)}{k:κ}(e:p.1=k):gJ (p::r) k=aa p.2:=by simp[gJ,j0,e]
theorem vQ{p:κ×V}{r:List (κ×V)}{k:κ}(e:¬ p.1=k):gJ (p::r) k=gJ r k:=by simp[gJ,j0,e]
theorem DO(k:κ):∀ak:List (κ×V),(ak.any λkv=>decide (kv.1=k))=(gJ ak k).isSome
 |[]=>rfl
 |p::r=>by
  rw[iF];by_cases e:p.1=k
  ·simp only[ye e,bV e,Bool.true_or,Option.isSome_some]
  ·rw[vQ e,cE e,vt];exact DO k r
theorem w9(ak:List (κ×V))(k:κ)(v:V):(putK ak k v).length<=ak.length+1:=by
 unfold putK;split
 ·rw[aM];omega
 ·rw[cu,cR,iE];omega
theorem jR.qH{o:Option V}{u:Option ai}(r:jR o u):o.isSome=u.isSome:=by
 cases o with
 | none=>cases u with
  |none=>rfl
  |some _=>exact(show False from r).elim
 | some _=>cases u with
  |none=>exact(show False from r).elim
  |some _=>rfl
theorem KV.val{ak:List (κ×V)}{vs:List (κ×ai)}(r:KV ak vs)(k:κ):jR (gJ ak k) (valueAt vs k):=by
 unfold KV at r
 induction r with
 |nil=>exact gG
 | @cons p q ps qs h t ih=>
  obtain⟨h1,h2⟩:=h;by_cases e:p.1=k
  ·have e':q.1=k:=h1.symm.trans e;have b:valueAt (q::qs) k=aa q.2:=by simp[valueAt,j0,e']
   rw[ye e,b];exact h2
  ·have e':¬ q.1=k:=λz=>e (h1.trans z);have b:valueAt (q::qs) k=valueAt qs k:=by simp[valueAt,j0,e']
   rw[vQ e,b];exact ih
theorem KV.any{ak:List (κ×V)}{vs:List (κ×ai)}(r:KV ak vs)(k:κ):(ak.any λkv=>decide (kv.1=k))=vs.any λkv=>decide (kv.1=k):=by
 unfold KV at r
 induction r with
 |nil=>rfl
 |cons h t ih=>rw[iF,iF,ih,h.1]
theorem KV.repl{ak:List (κ×V)}{vs:List (κ×ai)}(r:KV ak vs)(k:κ){y:V}{u:ai}(ry:RelV y u) :
 KV (ak.map λkv=>if kv.1=k then(kv.1,y)else kv) (vs.map λkv=>if kv.1=k then(kv.1,u)else kv):=by
 unfold KV at r ⊢
 induction r with
 |nil=>exact .nil
 | @cons p q ps qs h t ih=>
  rw[cS,cS];refine .cons ?_ ih;obtain⟨h1,h2⟩:=h;by_cases e:p.1=k
  ·rw[bb e,bb (h1.symm.trans e)];exact⟨h1,ry⟩
  ·rw[bc e,bc (λz=>e (h1.trans z))];exact⟨h1,h2⟩
theorem KV.put{ak:List (κ×V)}{vs:List (κ×ai)}(r:KV ak vs)(k:κ){y:V}{u:ai}(ry:RelV y u):KV (putK ak k y) (stored vs k u):=by
 unfold putK stored;rw[r.any k];by_cases e:(vs.any λkv=>decide (kv.1=k))=true
 ·rw[bb e,bb e];exact r.repl k ry
 ·rw[bc e,bc e];exact Paired.snoc r ⟨rfl,ry⟩
theorem KV.length{ak:List (κ×V)}{vs:List (κ×ai)}(r:KV ak vs):ak.length=vs.length:=sE r
end
theorem oI{P:bh}{w:a8}{k:Key}{u:ai}(r:RelV (kV k) u):(gu P w).is k u=true:=by
 cases k with
 |inl i=>obtain e:=(show u=iI i from r);subst e;exact MY P w i
 |inr x=>obtain⟨t,e⟩:=(show∃t,u=mK x t from r);subst e;exact JR P w x t
theorem Bw{P:bh}{w:a8}:∀{ks:List Key} {us:List ai},Vals (ks.map kV) us->ItemsAre (gu P w) ks us
 |[],_,r=>by rw[u4]at r;cases r;exact .nil
 |k::ks,_,r=>by
  rw[cS]at r;cases r with
  |cons h t=>exact .cons (oI h) (Bw t)
abbrev KT(H:Hp):List (List Key×V)->List (List Key×ah×ai)->Prop:=mH λp q=>p.1=q.1/\H q.2.1=aa (.tup (p.1.map kV))/\RelV p.2 q.2.2
theorem KT.val{H:Hp}{ak:List (List Key×V)}{xs:List (List Key×ah×ai)}(r:KT H ak xs)(k:List Key):jR (gJ ak k) ((atKey xs k).map (·.2)):=by
 induction r with
 |nil=>exact gG
 | @cons p q ps qs h t ih=>
  obtain⟨h1,_,h2⟩:=h;by_cases e:p.1=k
  ·have e':q.1=k:=h1.symm.trans e;have b:atKey (q::qs) k=aa q.2:=by simp[atKey,j0,e']
   rw[ye e,b];exact h2
  ·have e':¬ q.1=k:=λz=>e (h1.trans z);have b:atKey (q::qs) k=atKey qs k:=by simp[atKey,j0,e']
   rw[vQ e,b];exact ih
theorem KT.repl{H:Hp}{ak:List (List Key×V)}{xs:List (List Key×ah×ai)}(r:KT H ak xs)(k:List Key){y:V}{u:ai}(ry:RelV y u) :
 KT H (ak.map λkv=>if kv.1=k then(kv.1,y)else kv) (xs.map (putAt k u)):=by
 induction r with
 |nil=>exact .nil
 | @cons p q ps qs h t ih=>
  rw[cS,cS];refine .cons ?_ ih;obtain⟨h1,h2,h3⟩:=h;unfold putAt;by_cases e:p.1=k
  ·rw[bb e,bb (h1.symm.trans e)];exact⟨h1,h2,ry⟩
  ·rw[bc e,bc (λz=>e (h1.trans z))];exact⟨h1,h2,h3⟩
theorem KT.put{H:Hp}{ak:List (List Key×V)}{xs:List (List Key×ah×ai)}(r:KT H ak xs)(k:List Key){b:ah}{y:V}{u:ai}(hb:H b=aa (.tup (k.map kV)))(ry:RelV y u) :
 KT H (putK ak k y) (storedH xs k b u):=by
 have e:(ak.any λkv=>decide (kv.1=k))=(atKey xs k).isSome:=by rw[DO,(r.val k).qH,vz]
 unfold putK storedH;rw[e];by_cases q:(atKey xs k).isSome=true
 ·rw[bb q,bb q];exact r.repl k ry
 ·rw[bc q,bc q];exact Paired.snoc r ⟨rfl,hb,ry⟩
theorem KT.keeps{H H':Hp}{ak:List (List Key×V)}{xs:List (List Key×ah×ai)}(r:KT H ak xs)(ht:∀b ys,H b=aa (.tup ys)->H' b=aa (.tup ys)):KT H' ak xs:=Paired.xM r λ_ _ z=>⟨z.1,ht _ _ z.2.1,z.2.2⟩
section
variable{P:bh}{w:a8}{H:Hp}{h:aK}{a:ah}
theorem B4{u:HO}(ok:cP P w H h)(e:Rd H a u):cj P w H h a u:=e.ok ok
theorem qw{ak:List (Key×V)}(ok:cP P w H h)(e:Rd H a (.dK ak)):ak.length<=sizeLine/\(a==sysModules)=false/\∃vs,KV ak vs/\h.DictOf (gu P w) a vs:=show cj P w H h a (.dK ak)from B4 ok e
theorem AL{ak:List (Key×V)}(ok:cP P w H h)(e:H a=aa (.dK ak)):ak.length<=sizeLine/\(a==sysModules)=false/\∃vs,KV ak vs/\h.DictOf (gu P w) a vs:=qw ok (.inl e)
theorem rU{ks:List Key}(ok:cP P w H h)(e:H a=aa (.tup (ks.map kV))):(tupleKind (gu P w)).is h ks a:=by obtain⟨_,am,r,o,h1,h2,_,n,h3⟩:=(show cj P w H h a (.tup (ks.map kV))from ok a _ e);exact⟨o,am.toArray,n,h1,h2,h3,by simpa using Bw r⟩
theorem qk{ak:List (List Key×V)}(ok:cP P w H h)(e:Rd H a (.dT ak)):ak.length<=sizeLine/\(a==sysModules)=false /\
 ∃xs,KT H ak xs/\h.DictOfH (tupleKind (gu P w)) a xs:=by
 obtain⟨z,y,xs,r,o,es,ep,h1,h2,h3,h4,h5⟩:=(show cj P w H h a (.dT ak)from B4 ok e);refine⟨z,y,xs,r,o,es,ep,h1,h2,h3,h4,λx hx=>?_,h5⟩;have all:∀{l:List (List Key×V)} {m:List (List Key×ah×ai)},KT H l m->∀x∈m,(tupleKind (gu P w)).is h x.1 x.2.1:=by
  intro l m q
  induction q with
  |nil=>intro x hx;exact nomatch hx
  | @cons p q ps qs hq t ih=>
   intro x hx;rcases bH.mp hx with e|hx
   ·subst e;exact rU ok (by rw[<- hq.1];exact hq.2.1)
   ·exact ih x hx
 exact all r x hx
theorem KI{ak:List (List Key×V)}(ok:cP P w H h)(e:H a=aa (.dT ak)):ak.length<=sizeLine/\(a==sysModules)=false /\
 ∃xs,KT H ak xs/\h.DictOfH (tupleKind (gu P w)) a xs:=qk ok (.inl e)
end
def gZ(H:Hp)(a:ah)(y:V)(r:Option V):Prop:=(∃ak k,Rd H a (.dK ak)/\y=kV k/\r=gJ ak k)\/∃ak k b,Rd H a (.dT ak)/\y=.ref b/\H b=aa (.tup (k.map kV))/\r=gJ ak k
def l0(H:Hp)(a:ah)(y v:V)(H':Hp):Prop:=
 (∃ak k,H a=aa (.dK ak)/\y=kV k/\ak.length<sizeLine/\H'=upd H a (.dK (putK ak k v))) \/
 ∃ak k b,H a=aa (.dT ak)/\y=.ref b/\H b=aa (.tup (k.map kV))/\ak.length<sizeLine/\H'=upd H a (.dT (putK ak k v))
theorem gZ.k{H:Hp}{a:ah}{ak:List (Key×V)}{k:Key}(e:H a=aa (.dK ak)):gZ H a (kV k) (gJ ak k):=.inl ⟨ak,k,.inl e,rfl,rfl⟩
theorem gZ.t{H:Hp}{a b:ah}{ak:List (List Key×V)}{k:List Key}(e:H a=aa (.dT ak))(eb:H b=aa (.tup (k.map kV))):gZ H a (.ref b) (gJ ak k):=.inr ⟨ak,k,b,.inl e,rfl,eb,rfl⟩
theorem l0.k{H:Hp}{a:ah}{ak:List (Key×V)}{k:Key}{v:V}(e:H a=aa (.dK ak))(hl:ak.length<sizeLine):l0 H a (kV k) v (upd H a (.dK (putK ak k v))):=.inl ⟨ak,k,e,rfl,hl,rfl⟩
theorem l0.t{H:Hp}{a b:ah}{ak:List (List Key×V)}{k:List Key}{v:V}(e:H a=aa (.dT ak))(eb:H b=aa (.tup (k.map kV)))(hl:ak.length<sizeLine) :
 l0 H a (.ref b) v (upd H a (.dT (putK ak k v))):=.inr ⟨ak,k,b,e,rfl,eb,hl,rfl⟩
section
variable{X:Cx}{ae:List (ah×Obj)}{σ:St}{H:Hp}{s:ap}{a:ah}{y v:V}{u r:ai}{o:Option V}{A:bK}{E:ai->ap->Prop}
theorem Inv.big(I:Inv X ae σ H s):sysModules<s.heap.objs.size:=by have h:mainGlobals<s.heap.objs.size:=(I.mod.glob.keeps I.bk).lt;exact Nat.lt_trans (by decide) h
theorem OB{Q:ai->ap->Prop}(hu:A.units+1<cLine)(I:Inv X ae σ H s)(g:gZ H a y (aa v))(ry:RelV y u)(h:∀w' s',Inv X ae σ H s'->RelV v w'->Q w' s') :
 wpAny (model X.prog X.w) A (getItem (.ref a) u) Q E s:=by
 rcases g with ⟨ak,k,e,ey,l⟩|⟨ak,k,b,e,ey,eb,l⟩
 ·subst ey;obtain⟨z,hd,vs,rel,dd⟩:=qw I.hok e;obtain⟨w',hw,rw'⟩:=jR.some_of (v:=v) (o:=valueAt vs k) (by rw[l];exact rel.val k);exact wpAny_getItem_of (oI ry) dd.mapOf hw (h w' _ (I.tok _) rw')
 ·subst ey;cases(show u=cI b from ry);obtain⟨z,hd,xs,rel,dd⟩:=qk I.hok e;obtain⟨w',hw,rw'⟩:=jR.some_of (v:=v) (o:=(atKey xs k).map (·.2)) (by rw[l];exact rel.val k);obtain⟨p,hp,hp2⟩:=gF.mp hw;refine wpAny_getItem_heap (ve hu) (rU I.hok eb) dd hp ?_;rw[hp2];exact h w' _ (I.tok _) rw'
theorem Nl{Q:ai->ap->Prop}(hu:A.units+1<cLine)(I:Inv X ae σ H s)(g:gZ H a y o)(ry:RelV y u)(h:∀s',Inv X ae σ H s'->Q (.bool o.isSome) s') :
 wpAny (model X.prog X.w) A (compareOp .In u (.ref a)) Q E s:=by
 rcases g with ⟨ak,k,e,ey,l⟩|⟨ak,k,b,e,ey,eb,l⟩
 ·subst ey;obtain⟨z,hd,vs,rel,dd⟩:=qw I.hok e;refine wpAny_in_of (oI ry) hd dd.mapOf ?_;rw[<- (rel.val k).qH,<- l];exact h _ (I.tok _)
 ·subst ey;cases(show u=cI b from ry);obtain⟨z,hd,xs,rel,dd⟩:=qk I.hok e;refine wpAny_in_heap (ve hu) (rU I.hok eb) hd dd ?_;have q:=(rel.val k).qH;rw[vz]at q;rw[<- q,<- l];exact h _ (I.tok _)
theorem LA{Q:ai->ap->Prop}(hu:A.units+1<cLine)(I:Inv X ae σ H s)(g:gZ H a y o)(ry:RelV y u)(h:∀s',Inv X ae σ H s'->Q (.bool (!o.isSome)) s') :
 wpAny (model X.prog X.w) A (compareOp .NotIn u (.ref a)) Q E s:=by
 rcases g with ⟨ak,k,e,ey,l⟩|⟨ak,k,b,e,ey,eb,l⟩
 ·subst ey;obtain⟨z,hd,vs,rel,dd⟩:=qw I.hok e;refine wpAny_notIn_of (oI ry) hd dd.mapOf ?_;rw[<- (rel.val k).qH,<- l];exact h _ (I.tok _)
 ·subst ey;cases(show u=cI b from ry);obtain⟨z,hd,xs,rel,dd⟩:=qk I.hok e;refine wpAny_notIn_heap (ve hu) (rU I.hok eb) hd dd ?_;have q:=(rel.val k).qH;rw[vz]at q;rw[<- q,<- l];exact h _ (I.tok _)
theorem wR{h':aK}{t':Nat}{ob:HO}(I:Inv X ae σ H s)(mu:rK (H a))(hs:mI a s.heap h')(he:∃q,h'.get? a=aa q)(new:cj X.prog X.w (upd H a ob) h' a ob) :
 Inv X ae σ (upd H a ob) { s with heap:=h',toks:=t' }:=
 I.write (x:=a) (e:=a) mu (.inl rfl) (λb q hb z=>(hs.2 b hb).trans z) he new
theorem D1{P:bh}{w:a8}{H':Hp}{h':aK}{ak:List (Key×V)}{vs:List (Key×ai)}(z:ak.length<=sizeLine)(hd:(a==sysModules)=false)(rel:KV ak vs)(dd:h'.DictOf (gu P w) a vs) :
 cj P w H' h' a (.dK ak):=⟨z,hd,vs,rel,dd⟩
theorem Jc{H':Hp}{Q:Unit->ap->Prop}(hu:A.units+1<cLine)(I:Inv X ae σ H s)(g:l0 H a y v H')(ry:RelV y u)(rv:RelV v r)(h:∀s',Inv X ae σ H' s'->Q () s') :
 wpAny (model X.prog X.w) A (setItem (.ref a) u r) Q E s:=by
 rcases g with ⟨ak,k,e,ey,l,eH⟩|⟨ak,k,b,e,ey,eb,l,eH⟩
 ·subst ey eH;obtain⟨z,hd,vs,rel,dd⟩:=AL I.hok e;have hz:vs.length<=sizeLine:=by rw[<- rel.length];exact z
  have hl:(putK ak k v).length<=sizeLine:=by have:=w9 ak k v;omega
  refine wpAny_setItem_pairs (hsz:=hz) (oI ry) dd λh' dd' hs=>h _ ?_;have he:∃q,h'.get? a=aa q:=let ⟨q,_,_,hq,_⟩:=dd';⟨q,hq⟩;exact wR I (by rw[e];exact gG) hs he (D1 hl hd (rel.put k rv) dd')
 ·subst ey eH;cases(show u=cI b from ry);obtain⟨z,hd,xs,rel,dd⟩:=KI I.hok e;have hz:xs.length<=sizeLine:=by rw[<- sE rel];exact z
  have hl:(putK ak k v).length<=sizeLine:=by have:=w9 ak k v;omega
  refine wpAny_setItem_heap (hsz:=hz) (ve hu) (rU I.hok eb) dd λh' dd' hs=>h _ ?_;obtain⟨q,es,ep,hq,h2,h3,h4,_,h5⟩:=dd';refine wR I (by rw[e];exact gG) hs ⟨q,hq⟩ ⟨hl,hd,_,(rel.put k eb rv).keeps λc ys ec=>?_,q,es,ep,hq,h2,h3,h4,h5⟩;rw[aE (IF ec e (λz=>nomatch z))];exact ec
end
def Cq(i:aS):Prop:=∀ov iv,subscripted i false ov iv=operate [ov,iv] (getItem ov iv)
theorem Me{prog:bh}{w:a8}{A:bK}{E:ai->ap->Prop}{s:ap}{env:Env}{value slice:aS}{pos:Pos}{T id:String}{Q:ai->ap->Prop}
 (hl:typeLookup (.type T) "__getitem__" = pure (aa (.builtin id))) (hs:Cq slice)
 (h:wpAny (model prog w) A (eval value env) (λo s₁=>wpAny (model prog w) A (eval slice env) (λi s₂=>s₂.TypeIs o T/\wpAny (model prog w) A (getItem o i) Q E s₂) E s₁) E s) :
 wpAny (model prog w) A (eval (.Subscript value slice pos) env) Q E s:=by
 refine Subscript_ (iH h (λo s₁ h₁=>iH h₁ (λi s₂ h₂=>?_) λ_ _ x=>x) λ_ _ x=>x);obtain⟨hT,h₂⟩:=h₂;unfold subscriptTail;refine aI ?_;rw[getitemInPython_of_ne hT.not_modules];refine aI (vh hT hl ?_);have fin:wpAny (model prog w) A (subscripted slice false o i) (λr s₃=>wpAny (model prog w) A (letTemporaryGo value o r >>= λ_=>pure r) Q E s₃) E s₂:=by rw[hs o i];exact wpAny_operating (iH h₂ (λr s₃ h₃=>aI (wpAny_letTemporaryGo (bE h₃))) λ_ _ x=>x)
 first
  |exact bE (aI fin)
  |exact aI (bE (aI fin))
  |exact aI fin
theorem IW{X:Cx}{ae:List (ah×Obj)}{σ:St}{H:Hp}{s:ap}{a:ah}{y:V}{o:Option V}(I:Inv X ae σ H s)(g:gZ H a y o):s.TypeIs (.ref a) "dict":= by
 rcases g with ⟨ak,k,e,_,_⟩|⟨ak,k,b,e,_,_,_⟩
 ·obtain⟨_,_,vs,_,dd⟩:=qw I.hok e;exact dd.typeIs
 ·obtain⟨_,_,xs,_,dd⟩:=qk I.hok e;exact dd.typeIs
def Ft(td ty:TE):TE:=λσ H Q=>td σ H λx H1=>ty σ H1 λy H2=>∃a v,x=.ref a/\gZ H2 a y (aa v)/\Q v H2
def AU(ty td:TE):TE:=λσ H Q=>ty σ H λy H1=>td σ H1 λx H2=>∃a o,x=.ref a/\gZ H2 a y o/\Q (.bl o.isSome) H2
def EN(ty td:TE):TE:=λσ H Q=>ty σ H λy H1=>td σ H1 λx H2=>∃a o,x=.ref a/\gZ H2 a y o/\Q (.bl (!o.isSome)) H2
def da(td ty tv:TE):TS:=λD σ H=>tv σ H λv H1=>td σ H1 λx H2=>ty σ H2 λy H3=>∃a H4,x=.ref a/\l0 H3 a y v H4/\D.nx σ H4
section
variable{X:Cx}{o i e value:aS}{pos pos' tpos:Pos}{td ty tv:TE}
theorem Eh(hu:X.A.units+1<cLine)(ho:PE X o td)(hi:PE X i ty)(hs:Cq i):PE X (.Subscript o i pos) (Ft td ty):=by intro ae s σ H Q I h;refine Me PySem.F.slot_dict_getitem.lookup hs (aX (ho ae s σ H _ I h) λu s1 ⟨x,H1,I1,rx,q1⟩=>aX (hi ae s1 σ H1 _ I1 q1) λiv s2 ⟨y,H2,I2,ry,a,v,ex,g,q2⟩=>?_);subst ex;obtain rfl:u=cI a:=rx;exact⟨IW I2 g,OB hu I2 g ry λw' s3 I3 rw'=>⟨v,H2,I3,rw',q2⟩⟩
theorem E5(hu:X.A.units+1<cLine)(hi:PE X i ty)(ho:PE X o td):PC X .In i o (AU ty td):=by intro ae s σ H Q I h;refine aX (hi ae s σ H _ I h) λiv s1 ⟨y,H1,I1,ry,q1⟩=>aX (ho ae s1 σ H1 _ I1 q1) λu s2 ⟨x,H2,I2,rx,a,ov,ex,g,q2⟩=>?_;subst ex;obtain rfl:u=cI a:=rx;exact Nl hu I2 g ry λs3 I3=>⟨.bl ov.isSome,H2,I3,rfl,q2⟩
theorem Dp(hu:X.A.units+1<cLine)(hi:PE X i ty)(ho:PE X o td):PC X .NotIn i o (EN ty td):=by intro ae s σ H Q I h;refine aX (hi ae s σ H _ I h) λiv s1 ⟨y,H1,I1,ry,q1⟩=>aX (ho ae s1 σ H1 _ I1 q1) λu s2 ⟨x,H2,I2,rx,a,ov,ex,g,q2⟩=>?_;subst ex;obtain rfl:u=cI a:=rx;exact LA hu I2 g ry λs3 I3=>⟨.bl (!ov.isSome),H2,I3,rfl,q2⟩
theorem qY(hu:X.A.units+1<cLine)(ho:PE X o td)(hi:PE X i ty)(hv:PE X value tv)(hs:swapsWith value (aa (.Subscript o i pos')) pos.line X.env=pure false) :
 PS X (.Assign [.Subscript o i pos'] value pos) (da td ty tv):=by
 intro ae s σ H D I h;refine wpAny_Assign_Subscript (aX (hv ae s σ H _ I h) λr s1 ⟨v,H1,I1,rv,q1⟩=>aX (ho ae s1 σ H1 _ I1 q1) λu s2 ⟨x,H2,I2,rx,q2⟩=>aX (hi ae s2 σ H2 _ I2 q2) λiv s3 ⟨y,H3,I3,ry,a,H4,ex,g,q3⟩=>?_) hs;subst ex;obtain rfl:u=cI a:=rx;exact Jc hu I3 g ry rv λs4 I4=>⟨σ,H4,I4,q3⟩
end
theorem Bd{P:bh}{w:a8}{H:Hp}(h:aK)(hb:sysModules<h.objs.size):cj P w H (h.push { cls:=.type "dict", data:=.dict #[] }) h.objs.size (.dK []):=⟨gE _,xz.mpr (dN (gn hb)),[],.nil,Heap.DictOf.new h⟩
theorem MR{P:bh}{w:a8}{H:Hp}(h:aK)(hb:sysModules<h.objs.size):cj P w H (h.push { cls:=.type "dict", data:=.dict #[] }) h.objs.size (.dT []):=⟨gE _,xz.mpr (dN (gn hb)),[],.nil,_,#[],0,dE _ rfl,⟨rfl,rfl,rfl⟩,rfl,rfl,List.nodup_nil⟩
def Bi:TE:=λ_ H Q=>∀p,H p=ab->Q (.ref p) (upd H p (.dK []))
def Dw:TE:=λ_ H Q=>∀p,H p=ab->Q (.ref p) (upd H p (.dT []))
section
variable{X:Cx}{pos:Pos}
theorem AY:PE X (.Dict [] [] pos) Bi:=λae s σ H Q I h=>
 wpAny_Dict_empty ⟨.ref s.heap.objs.size,_,I.laid (a:=s.heap.objs.size) (o:=.dK []) (t':=s.toks) (λ_ _ q=>cA _ q) (bA _) (Bd s.heap I.big),rfl,h _ (I.hok.fresh (bA _))⟩
theorem Ng:PE X (.Dict [] [] pos) Dw:=λae s σ H Q I h=>
 wpAny_Dict_empty ⟨.ref s.heap.objs.size,_,I.laid (a:=s.heap.objs.size) (o:=.dT []) (t':=s.toks) (λ_ _ q=>cA _ q) (bA _) (MR s.heap I.big),rfl,h _ (I.hok.fresh (bA _))⟩
end
def wA:List (TE×TE)->St->Hp->(List (V×V)->Hp->Prop)->Prop
 |[],_,H,Q=>Q [] H
 |(tk,tv)::r,σ,H,Q=>tk σ H λx H1=>tv σ H1 λy H2=>wA r σ H2 λps H3=>Q ((x,y)::ps) H3
abbrev VV:List (V×V)->List (ai×ai)->Prop:=mH λp q=>RelV p.1 q.1/\RelV p.2 q.2
def um(X:Cx)(pos:Pos)(keys:List (Option aS))(values:List aS)(trs:List (TE×TE)):Prop:=
 ∀(ae:List (ah×Obj)) (s:ap) (σ:St) (H:Hp) (Q:List (V×V)->Hp->Prop),Inv X ae σ H s->wA trs σ H Q ->
  wpAny (model X.prog X.w) X.A (evalPairs (pairTrees keys values X.env pos)) (λvs s'=>∃ps H',Inv X ae σ H' s'/\VV ps vs/\Q ps H') X.xe s
theorem NP{X:Cx}{pos:Pos}:um X pos [] [] []:=λae s σ H Q I h=>pairTrees_nil_walk ⟨[],H,I,.nil,h⟩
theorem OV{X:Cx}{pos:Pos}{k v:aS}{ks:List (Option aS)}{vs:List aS}{tk tv:TE}{trs:List (TE×TE)}(hk:PE X k tk)(hv:PE X v tv)(hr:um X pos ks vs trs) :
 um X pos (aa k::ks) (v::vs) ((tk,tv)::trs):=λae s σ H Q I h=>
 pairTrees_cons_walk (aX (hk ae s σ H _ I h) λu s1 ⟨x,H1,I1,rx,q1⟩=>aX (hv ae s1 σ H1 _ I1 q1) λw2 s2 ⟨y,H2,I2,ry,q2⟩=>
  aX (hr ae s2 σ H2 _ I2 q2) λws s3 ⟨ps,H3,I3,rel,q3⟩=>⟨(x,y)::ps,H3,I3,.cons ⟨rx,ry⟩ rel,q3⟩)
def re(ak more:List (Key×V)):List (Key×V):=more.foldl (λacc kv=>putK acc kv.1 kv.2) ak
theorem KV.merge:∀{more:List (Key×V)} {rs:List (Key×ai)} {ak:List (Key×V)} {vs:List (Key×ai)},KV more rs->KV ak vs->KV (re ak more) (merged vs rs):=by
 intro more rs ak vs r;unfold KV at r
 induction r generalizing ak vs with
 |nil=>intro q;exact q
 | @cons p q ps qs h t ih=>
  intro r0;have e:KV (putK ak p.1 p.2) (stored vs q.1 q.2):=by have:=r0.put p.1 h.2;rw[<- h.1];exact this
  exact ih e
theorem EJ:∀(more ak:List (Key×V)),(re ak more).length<=ak.length+more.length
 |[],ak=>by show ak.length<=ak.length+0;omega
 |p::r,ak=>by
  have h1:=EJ r (putK ak p.1 p.2);have h2:=w9 ak p.1 p.2;show(re (putK ak p.1 p.2) r).length<=_;rw[cR];omega
theorem Dk{P:bh}{w:a8}:∀{ak:List (Key×V)} {ws:List (ai×ai)},VV (ak.map λkv=>(kV kv.1,kv.2)) ws->∃rs,Carries (gu P w) ws rs/\KV ak rs
 |[],_,r=>by rw[u4]at r;cases r;exact⟨[],gG,.nil⟩
 |p::ak,_,r=>by
  rw[cS]at r;cases r with
  | @cons a b as bs h t=>
   obtain⟨rs,c,q⟩:=Dk (P:=P) (w:=w) t;obtain⟨b1,b2⟩:=b;exact⟨(p.1,b2)::rs,⟨oI h.1,rfl,c⟩,.cons ⟨rfl,h.2⟩ q⟩
def yu(trs:List (TE×TE)):TE:=λσ H Q=>∀p,H p=ab->wA trs σ (upd H p (.dK [])) λps H2=>H2 p=aa (.dK [])/\∃ak:List (Key×V),ps=ak.map (λkv=>(kV kv.1,kv.2))/\ak.length<=15/\Q (.ref p) (upd H2 p (.dK (re [] ak)))
theorem IB{X:Cx}{pos:Pos}{keys:List (Option aS)}{values:List aS}{trs:List (TE×TE)}(h:um X pos keys values trs)(hall:keys.all (·.isSome)=true)(hl:keys.length=values.length)(h0:keys≠[])
 (h15:keys.length<=15):PE X (.Dict keys values pos) (yu trs):=by
 intro ae s σ H Q I q;have hn:=I.hok.fresh (bA s.heap.objs.size);have I1:=I.laid (a:=s.heap.objs.size) (o:=.dK []) (h':=s.heap.push { cls:=.type "dict", data:=.dict #[] }) (t':=s.toks) (λ_ _ q=>cA _ q) (bA _) (Bd s.heap I.big);refine wpAny_Dict_walk (knd:=gu X.prog X.w) hall hl h0 h15 (aX (h ae _ σ _ _ I1 (q _ hn)) λws s2 ⟨ps,H2,I2,rel,e,ak,ep,lk,q2⟩=>?_);subst ep;obtain⟨rs,c,rk⟩:=Dk (P:=X.prog) (w:=X.w) rel;obtain⟨z,hd,vs0,r0,dd⟩:=AL I2.hok e;cases r0;refine⟨rs,c,dd,λh' dd' hs=>⟨.ref s.heap.objs.size,_,?_,rfl,q2⟩⟩;have hz:(re [] ak).length<=sizeLine:=by have h1:=EJ ak [];rw[iE]at h1;rw[dS];omega
 have he:∃q,h'.get? s.heap.objs.size=aa q:=let ⟨q,_,_,hq,_⟩:=dd';⟨q,hq⟩;exact wR I2 (by rw[e];exact gG) hs he (D1 hz hd (rk.merge .nil) dd')
end L2
namespace Att
open PySem PySem.W PySem.Calls PyProof.Rows
theorem Ip{P:Params}{h:aK}:∀(ns:List Int) (vs:List ai),WellAll P h vs (ns.map WData.int)->IntsAre vs ns:=by
 intro ns
 induction ns with
 |nil=>
  intro vs w;rw[u4]at w;cases w;exact .nil
 |cons n ns ih=>
  intro vs w;rw[cS]at w;cases w with
  |cons a b=>
   cases a;exact .cons _ _ (ih _ b)
theorem MU{l:OpenLaw}{n:Nat}(hn:l.most=aa n){P:Params}{h:aK}{args:List WData}{vals:List ai}
 (hpre:l.row.toRowW.claim.pre args=true) (hwl:WellAll P h vals args) :
 ∃a vs ns,vals=[cI a]/\args=[WData.list (ns.map WData.int)]/\h.get? a=aa { cls:=.type "list", data:=.seq vs.toArray }/\IntsAre vs ns/\ns.length<=n:=by
 have hsh:WShape.hasAll [] args [.list .int]=true:=(pre_splitW hpre).1;have hc:l.pre.holds [] { args:=args }=true:=(pre_splitW hpre).2;obtain⟨d,r,rfl,h1,h2⟩:=hasAllW_cons hsh;obtain rfl:=hasAllW_nil h2;obtain⟨xs,rfl,h3⟩:=hasW_list h1;obtain⟨ns,rfl⟩:=items_int h3;have hlen:ns.length<=n:=by
  unfold OpenLaw.pre at hc;have h4:(WTm.not (.lt (.lit (.int (n:Int))) (.len (.arg 0)))).holds [] { args:=[.list (ns.map .int)] }=true:=by have h4:=(holds_andW hc).1;rw[hn]at h4;exact h4
  have h5:=condW_of h4 (w_not (w_lt w_lit (w_len_list (w_arg rfl))));rw[aM]at h5;refine Nat.le_of_not_lt λq=>?_;have q':(n:Int)<((ns.length:Nat):Int):=by omega
  first
   |(rw[bV q']at h5;exact absurd h5 (by decide))
   |(simp at h5;omega)
 cases hwl with
 |cons w1 w2=>
  cases w2;cases w1 with
  |list ho hall=>exact⟨_,_,ns,rfl,rfl,ho,Ip ns _ hall,hlen⟩
theorem Nw(l:OpenLaw)(args:List WData):l.row.toRowW.claim.post args (.bool true) args=true:=
 postW_of (r:=l.row.toRowW) (X:=(true==true))
  (show WShape.has [] (.bool true) .bool=true by first|rfl|decide|simp[WShape.has,WShape.arms,WShape.armsAll])
  (show(WTm.eq .res (.lit (.bool true))).value [] { args:=args,res:=aa (.bool true),after:=args }=aa (.bool (true==true))from w_eq_bool (w_res rfl) w_lit) rfl
theorem NZ{l:OpenLaw}{n:Nat}{q:bh}{loose:List Str}{XP:(Str->Option ai)->aK->Prop}{YP:a8->aK->Prop}{d:DefRec}
 (hn:l.most=aa n) (hdf:d.params.defaults=[])
 (call:∀(w:a8) (s₀ s₁:ap) (mg mb:Str->Option ai) (fa:ah) (o:Obj) (pm cd doc:ai) (a:ah) (vs:List ai) (ns:List Int),
  Ground q loose [] XP w s₀ mg mb s₁.heap->YP w s₁.heap ->
  s₁.heap.get? fa=aa o->o.data=.func (docDef d.name d.params d.body d.scope pm cd doc)->s₁.heap.CodeRec cd d.name->mg d.name=aa (.ref fa) ->
  s₁.heap.get? a=aa { cls:=.type "list", data:=.seq vs.toArray }->IntsAre vs ns->ns.length<=n->s₁.gens = #[] ->
  codeAny (model l.prog w) callerA (.call (.ref fa) ⟨[.ref a],[]⟩) (λr s'=>r=.ok (.ret (.bool true))/\OldK s₁.heap s'.heap/\s'.os=s₁.os/\mM s'.gens) s₁) :
 WalkO q loose XP YP l.row.toRowW d [] (λf vs=>zg f vs):=by
 intro w s₀ s₁ mg mb G Y fa o pm cd doc dV kV ho hd hcd hD hmg hg args vals as hpre hlay hrd hwl hlo;obtain rfl:dV=.none:=Dflts.none hD hdf;obtain rfl:kV=.none:=Dflts.noKw hD;obtain⟨a,vs,ns,rfl,rfl,hobj,hints,hlen⟩:=MU hn hpre hwl;refine enter_call (vn (call w s₀ s₁ mg mb fa o pm cd doc a vs ns G Y ho (fd_plain hd) hcd hmg hobj hints hlen hg) λr s' hq=>?_);obtain⟨rfl,h2,h3,h4⟩:=hq;exact⟨.inl ⟨.bool true,.bool true,[],rfl,λ_=>rfl,.bool true,Nw l _,λ_=>⟨GO,λ_ hm=>(nomatch hm)⟩⟩,h2,h3,h4⟩
end Att
namespace L2
open PySem PySem.Spec PyProof.Rows
theorem Dj:∀{vs:List ai} {ns:List Int},IntsAre vs ns->Vals (ns.map V.int) vs
 |_,_,.nil=>.nil
 |_,_,.cons n t h=>.cons ⟨t,rfl⟩ (Dj h)
def lg(s:bn):pR:=match s with
 |.FunctionDef _ a _ _ _ _ _ _ _ _=>a
 |_=>{ posonlyargs:=[],args:=[],vararg:=ab,kwonlyargs:=[],kw_defaults:=[],kwarg:=ab,defaults:=[] }
def ia(s:bn):List bn:=match s with
 |.FunctionDef _ _ b _ _ _ _ _ _ _=>b
 |_=>[]
def bq(s:bn):d8:=match s with
 |.FunctionDef _ _ _ _ _ _ sc _ _ _=>sc
 |_=>{ kind:=.function,names:=[],isGenerator:=false,isCoroutine:=false }
abbrev aB:gi:=λ_ _ _ _ _ _=>False
abbrev E0:XK:=λ_ _ _=>False
theorem mT{X:Cx}:tz aB X E0:=λ_ _ _ _ _ _ _ h=>h.elim
structure bP(K:aG)(x qual:Str)(st:bn)(f:ah)(fd:bx):Prop where
 ex:∃(oc:ai) (od:Option ah) (kV doc pm:ai) (an:Option ah) (cdv ct:ai) (osl:Array (Option ai)),
  fd=j2 x qual (lg st) (ia st) (bq st) .none kV doc pm an cdv ct/\K.lookup f=aa ⟨oc,od,.func fd,osl⟩/\pN K cdv qual=true
 kp:kG K (.ref f)=true
section
variable{P:bh}{w:a8}{K:aG}{mg:Str->Option ai}{base:aK}
theorem bP.ok{x qual:Str}{st:bn}{f:ah}{fd:bx}{N ps:List Str}{k:Nat}{sp:Sp}(F:bP K x qual st f fd)(S:bU N ps (bq st))(len:∀vs H Q E,sp vs H Q E->vs.length=ps.length)
 (hbody:∀(cdv:ai) (A:bK) (outer:List Env) (s:ap) (H:Hp) (vs:List V) (Q:VK) (E:XK),cL k (A.deeper (envOfC qual (bq st) s.heap.objs.size f cdv))->sp vs H Q E ->
  ∃t,gc (km aB P w K mg base N qual (bq st) f cdv A outer s H E).kn (ia st) t/\t { nx:=λ_ H'=>Q .non H',rt:=Q } (start N vs) H):bu P w K mg base aB (k+1) f fd ps sp:=by
 obtain⟨oc,od,kV,doc,pm,an,cdv,ct,osl,rfl,lk,hcd⟩:=F.ex;refine EX lk hcd S len λA outer s H vs Q E hr hsp=>?_;obtain⟨t,h,q⟩:=hbody cdv A outer s H vs Q E hr hsp;exact⟨t,h.kn,q⟩
theorem bP.binds{x qual:Str}{st:bn}{f:ah}{fd:bx}{ps:List Str}(F:bP K x qual st f fd)
 (h:∀(kV doc pm:ai) (an:Option ah) (cdv ct:ai) (us:List ai),us.length=ps.length->bindArgs (j2 x qual (lg st) (ia st) (bq st) .none kV doc pm an cdv ct) ⟨us,[]⟩=pure (ps.zip us)):Binds K fd ps []:=by
 obtain⟨oc,od,kV,doc,pm,an,cdv,ct,osl,rfl,lk,hcd⟩:=F.ex;exact .all (h kV doc pm an cdv ct)
theorem Fv{x qual:Str}{st:bn}{f:ah}{oc:ai}{od an:Option ah}{osl:Array (Option ai)}{kV doc pm cdv ct:ai}(l:K.lookup f=aa ⟨oc,od,.func (j2 x qual (lg st) (ia st) (bq st) .none kV doc pm an cdv ct),osl⟩)
 (c:pN K cdv qual=true) (k:kG K (.ref f)=true):bP K x qual st f (j2 x qual (lg st) (ia st) (bq st) .none kV doc pm an cdv ct):=⟨⟨oc,od,kV,doc,pm,an,cdv,ct,osl,rfl,l,c⟩,k⟩
end
theorem rn{A:bK}{k:Nat}(hr:cL k A):A.units+1<cLine:=Nat.lt_of_le_of_lt (Nat.add_le_add_left (by decide:1<=64) _) hr.units
section
variable{X:Cx}
theorem pv(i:Nat){x:Str}{pos:Pos}(hN:X.N[i]? = aa x:=by rfl)(hv:qL X.env.scope x:=by first|exact cC rfl|exact fZ (cC rfl)|exact fZ (fZ rfl))(hd:(x==("__debug__" : Str))=false:=by decide)
 (hcd:(x==("__classdict__" : Str))=false:=by decide):PE X (.Name x pos) (eA i):=IJ hN hv hd hcd
end
theorem lQ{A B:Prop}(h:B):if false=true then A else B:=by rw[bc du];exact h
theorem lY{A B:Prop}(h:A):if true=true then A else B:=by rw[bb rfl];exact h
def ca(H H':Hp):Prop:=∀b o,H b=aa o->H' b=aa o
theorem ca.refl(H:Hp):ca H H:=λ_ _ h=>h
theorem ca.trans{H H1 H2:Hp}(a:ca H H1)(b:ca H1 H2):ca H H2:=λc o h=>b c o (a c o h)
theorem ca.free{H H':Hp}(e:ca H H'){l:ah}(h:H' l=Option.none):H l=Option.none:=by
 cases q:H l with
 |none=>rfl
 |some o=>
  rw[e l o q]at h;cases h
section
variable{prog:bh}{w:a8}{A:bK}{R:Result->ap->Prop}{s:ap}
theorem IT{elt target iter:aS}{ifs:List aS}{scope:d8}{pos:Pos}{it acc:ai}{env:Env}(I:Nat->ap->Prop)
 (turn:∀n s,I n s->wpAny (model prog w) A (pyNext it) (λr s₁=>match r with
  |none=>R (.ok .next) s₁
  |some v=>wpAny (model prog w) A (letOwnedTupleGo target it v) (λ_ s₂=>wpAny (model prog w) A (assign target env v) (λ_ s₃=>
   wpAny (model prog w) A (forIn ifs true λc r=>if r=true then do let ok <- isTrue c env (eval c env);pure (mO ok)else pure (mO r)) (λok s₄=>
    if ok=true then wpAny (model prog w) A (eval elt env) (λx s₅=>
     wpAny (model prog w) A (call (.builtin "list.append") [acc,x]) (λ_ s₆=>∃m,m<n/\I m s₆) (λ_ _=>False) s₅) (λ_ _=>False) s₄
    else∃m,m<n/\I m s₄) (λ_ _=>False) s₃) (λ_ _=>False) s₂) (λ_ _=>False) s₁) (λ_ _=>False) s)
 (n:Nat) (h:I n s) :
 codeAny (model prog w) A (.compLoop (.ListComp elt [⟨target,iter,ifs,0⟩] scope pos) 0 it acc env) R s:=by
 refine codeAny_loop rfl I (λn s hI=>?_) n h;show wpAny _ A ((compTurn (.ListComp elt [⟨target,iter,ifs,0⟩] scope pos) 0 it acc env).onRaise (λx=>do noteFrame x env;theTreesLotGoes x)) _ _ s;refine wpAny_noted (iH (E:=λ_ _=>False) ?_ (λ_ _ q=>q) λ_ _ q=>q.elim);rw[compTurn_list];refine aI (zh (aI (aX (turn n s hI) λr s₁ h₁=>?_)));cases r with
 |none=>exact bE h₁
 |some v=>
  refine aI (aX h₁ λ_ s₂ h₂=>aI (aX h₂ λ_ s₃ h₃=>aI (aX h₃ λok s₄ h₄=>?_)));cases ok with
  |false=>exact bE ⟨rfl,h₄⟩
  |true=>exact aI (aI (aX h₄ λx s₅ h₅=>aI (aX h₅ λ_ s₆ h₆=>bE (bE ⟨rfl,h₆⟩))))
end
theorem cP.track{P:bh}{w:a8}{H:Hp}{h:aK}{a:ah}{o:HO}(x:cP P w H h)(hn:H a=ab)(new:cj P w (upd H a o) h a o):cP P w (upd H a o) h:=λb u e=>by
 by_cases hb:b=a
 ·subst hb;rw[bp]at e;cases e;exact new
 ·rw[aE hb]at e;exact(x b u e).stay (λc v _ q=>q) (λc q=>by rw[aE (cG q hn)];exact q) λc xs q=>by rw[aE (cG q hn)];exact q
theorem lookup_mem{α:Type}:∀{l:List (Str×α)} {x:Str} {k:α},l.lookup x=aa k->(x,k)∈l
 |[],_,_,h=>by simp at h
 |(n,k')::r,x,k,h=>by
  rw[mB]at h;cases hx:x==n with
  |true=>
   rw[hx]at h;have:x=n:=by simpa using hx
   cases h;subst this;exact dj
  |false=>rw[hx]at h;exact dJ _ (lookup_mem h)
theorem sN{env:Env}:∀{names:List (Str×mG)} {x:Str} {k:mG},
 (names.map λ(n,k)=>if(k==lA&&env.scope.kind==.function&&env.kindOf n==aa .cell)then(n,zt)else(n,k)).lookup x=aa k ->
 ∃k',names.lookup x=aa k'/\(k=k'\/(k'=.free/\k=.cell))
 |[],_,_,h=>by simp at h
 |(n,k0)::r,x,k,h=>by
  have ih:=@sN env r x k;have h':y4 x ((if(k0==lA&&env.scope.kind==.function&&env.kindOf n==aa .cell)=true then(n,zt)else(n,k0)) ::
   (r.map λ(n,k)=>if(k==lA&&env.scope.kind==.function&&env.kindOf n==aa .cell)then(n,zt)else(n,k)))=aa k:=h
  by_cases hc:(k0==lA&&env.scope.kind==.function&&env.kindOf n==aa .cell)=true
  ·rw[bb hc,mB]at h';rw[mB];cases hx:x==n with
   |true=>
    rw[hx]at h';cases h';simp only[ji]at hc;exact⟨k0,rfl,.inr ⟨by simpa using hc.1.1,rfl⟩⟩
   |false=>rw[hx]at h';exact ih h'
  ·rw[bc hc,mB]at h';rw[mB];cases hx:x==n with
   |true=>rw[hx]at h';cases h';exact⟨_,rfl,.inl rfl⟩
   |false=>rw[hx]at h';exact ih h'
theorem wT{env:Env}{f:(Str×mG)->List (Str×ah)->Sem (ForInStep (List (Str×ah)))}
 (hf:∀n k r,f (n,k) r=if(k==lA)=true then(cellOf env n >>= λa=>pure (mO ((n,a)::r)))else pure (mO r)) :
 ∀(names:List (Str×mG)) (acc:List (Str×ah)),(∀y∈names,y.2=.free->∃c,env.cells.lookup y.1=aa c)->(∀x c,acc.lookup x=aa c->env.cells.lookup x=aa c) ->
  ∃cl,forIn names acc f=pure cl/\(∀x c,cl.lookup x=aa c->env.cells.lookup x=aa c)/\(∀x,(∃c,acc.lookup x=aa c)->∃c,cl.lookup x=aa c)/\∀x,(x,lA)∈names->∃c,cl.lookup x=aa c
 |[],acc,_,hacc=>⟨acc,rfl,hacc,λ_ h=>h,λ_ h=>by simp at h⟩
 |(n,k)::r,acc,hn,hacc=>by
  have hr:∀y∈r,y.2=.free->∃c,env.cells.lookup y.1=aa c:=λy hy=>hn y (dJ _ hy);by_cases hk:(k==lA)=true
  ·have hk':k=.free:=by simpa using hk
   obtain⟨c,hc⟩:=hn (n,k) dj hk';obtain⟨cl,e,h1,h2,h3⟩:=wT hf r ((n,c)::acc) hr (λx c' h=>by
    rw[mB]at h;cases hx:x==n with
    | true => rw [hx] at h; cases h; have : x = n := by simpa using hx
              subst this;exact hc
    |false=>rw[hx]at h;exact hacc x c' h)
   refine⟨cl,?_,h1,λx ⟨c',hx⟩=>h2 x ?_,λx hx=>?_⟩
   ·rw[y0,hf,bb hk];have:cellOf env n=pure c:=by unfold cellOf;rw[hc]
    rw[this];exact e
   ·rw[mB];cases x==n with
    |true=>exact⟨_,rfl⟩
    |false=>exact⟨c',hx⟩
   ·rcases bH.mp hx with e|hx
    ·cases e;exact h2 _ ⟨c,by rw[mB];simp⟩
    ·exact h3 x hx
  ·obtain⟨cl,e,h1,h2,h3⟩:=wT hf r acc hr hacc;refine⟨cl,?_,h1,h2,λx hx=>?_⟩
   ·rw[y0,hf,bc hk];exact e
   ·rcases bH.mp hx with e|hx
    ·cases e;exact absurd rfl hk
    ·exact h3 x hx
theorem Kg{sc:d8}{env:Env}(h:∀y∈sc.names,y.2=.free->∃c,env.cells.lookup y.1=aa c) :
 ∃cl,closureFor sc env=pure cl/\(∀x c,cl.lookup x=aa c->env.cells.lookup x=aa c)/\∀x,(x,lA)∈sc.names->∃c,cl.lookup x=aa c:=by
 obtain⟨cl,e,h1,_,h3⟩:=wT (env:=env) (f:=λx r=>match x with|(name,kind)=>if(kind==lA)=true then(cellOf env name >>= λa=>pure (mO ((name,a)::r)))else pure (mO r))
  (λn k r=>rfl) sc.names [] h (λ_ _ h=>by simp at h)
 refine⟨cl,?_,h1,h3⟩;unfold closureFor;refine Eq.trans ?_ e;exact bind_pure _
def pick(ρ:List (Option Nat))(σ:St):St:=ρ.map λo=>o.bind λj=>(σ[j]?).join
def fm(X:Cx)(N':List Str)(sc:d8)(cl:List (Str×ah))(C:ah)(s:ap)(H:Hp)(fp:List ah):Cx:={ X with N:=N',s₀:=s,H₀:=H,env:=compEnvC sc cl C X.env,outer:=X.stack,ex:=fp,fn:=λ_=>false,xe:=λ_ _=>False }
structure dG(X:Cx)(N':List Str)(ρ:List (Option Nat))(sc:d8):Prop where
 kind:sc.kind=.function
 lB:∀y∈sc.names,y.2≠.cell
 names:∀y∈sc.names,y.2=.local->sc.names.lookup y.1=aa .local
 free:∀y∈sc.names,y.2=.free->(X.env.kindOf y.1=aa .cell\/X.env.kindOf y.1=aa .free)
 len:ρ.length=N'.length
 ix:∀(i j:Nat),ρ[i]? = aa (aa j)->∃x,N'[i]? = aa x/\X.N[j]? = aa x/\sc.names.lookup x=aa .free
def rm(X:Cx)(ifs:List aS)(t:TT):Prop:=
 ∀(ae:List (ah×Obj)) (s:ap) (σ:St) (H:Hp) (Q:Bool->Hp->Prop),Inv X ae σ H s->t σ H Q ->
  wpAny (model X.prog X.w) X.A (forIn ifs true λc r=>if r=true then do let ok <- isTrue c X.env (eval c X.env);pure (mO ok)else pure (mO r)) (TP X ae σ Q) X.xe s
def AD:TT:=λ_ H Q=>Q true H
theorem iY{X:Cx}:rm X [] AD:=λ_ _ _ H _ I h=>wpAny_tests_nil ⟨H,I,h⟩
theorem jA{X:Cx}{c:aS}{t:TT}(h:PT X c t):rm X [c] t:=λae s σ H Q I hw=>wpAny_tests_one (h ae s σ H Q I hw)
def qx(ρ:List (Option Nat))(g:TG):Prop:=∀v σ H Q,g v σ H Q->g v σ H λσ2 H2=>(σ2.length = σ.length/\∀(i j:Nat),ρ[i]? = aa (aa j)->σ2[i]? = σ[i]?)/\Q σ2 H2
def t0(ρ:List (Option Nat))(g:hX):Prop:=∀v σ H Q,g v σ H Q->g v σ H λσ2 H2=>(σ2.length = σ.length/\∀(i j:Nat),ρ[i]? = aa (aa j)->σ2[i]? = σ[i]?)/\Q σ2 H2
theorem fG{ρ:List (Option Nat)}{i:Nat}(h:ρ[i]? = aa ab):qx ρ (fJ i):=λv σ H Q q=>by
 refine⟨⟨jg,λk j e=>?_⟩,q⟩;have:i≠k:=by intro z;subst z;rw[h]at e;cases e
 rw[dC this]
theorem uh{ρ:List (Option Nat)}:t0 ρ qq:=λv σ H Q ⟨e,q⟩=>⟨e,⟨rfl,λ_ _ _=>rfl⟩,q⟩
theorem lW{ρ:List (Option Nat)}{i:Nat}{u:hX}(h:ρ[i]? = aa ab)(hu:t0 ρ u)(mu:∀v σ H Q Q',(∀a b,Q a b->Q' a b)->u v σ H Q->u v σ H Q'):t0 ρ (q9 (fJ i) u):=λvs σ H Q ⟨v,r,e,q⟩=>by
 refine⟨v,r,e,?_⟩;refine mu _ _ _ _ _ (λa b ⟨⟨l,k⟩,z⟩=>⟨⟨l.trans jg,λi' j' e'=>(k i' j' e').trans ?_⟩,z⟩) (hu _ _ _ _ q);have:i≠i':=by intro z;subst z;rw[h]at e';cases e'
 rw[dC this]
theorem lH:∀v σ H Q Q',(∀a b,Q a b->Q' a b)->qq v σ H Q->qq v σ H Q':=λ_ _ _ _ _ m ⟨e,q⟩=>⟨e,m _ _ q⟩
theorem tM{i:Nat}{u:hX}(mu:∀v σ H Q Q',(∀a b,Q a b->Q' a b)->u v σ H Q->u v σ H Q'):∀v σ H Q Q',(∀a b,Q a b->Q' a b)->q9 (fJ i) u v σ H Q->q9 (fJ i) u v σ H Q':=λ_ _ _ _ _ m ⟨v,r,e,q⟩=>⟨v,r,e,mu _ _ _ _ _ m q⟩
theorem uK{ρ:List (Option Nat)}{K:aG}{n:Nat}{u:hX}(hu:t0 ρ u):qx ρ (vU K n u):=λv σ H Q ⟨a,xs,e,hq,hl,q⟩=>⟨a,xs,e,hq,hl,hu _ _ _ _ q⟩
def I9(J:It)(ρ:List (Option Nat))(g:TG)(tc:TT)(te:TE)(σ:St)(H1:Hp)(Q:VK):Prop:=∃W:Nat->Nat->List V->Hp->Prop,(∃m,W 0 m [] H1)/\∀i m acc H,W i m acc H ->
 (J.stop i H/\∀p,H p=ab->Q (.ref p) (upd H p (.lst acc))) \/
 (J.go i H/\acc.length<sizeLine/\∃N:List V->Hp->Prop,(∀acc' H',N acc' H'->∃m',m'<m/\W (i+1) m' acc' H') /\
  ∀x H',J.yld i H x H'->g x (pick ρ σ) H' λσ2 H2=>tc σ2 H2 λb H3=>if b=true then te σ2 H3 λy H4=>N (acc++[y]) H4 else N acc H3)
def t5(wi:TI)(ρ:List (Option Nat))(g:TG)(tc:TT)(te:TE):TE:=λσ H Q=>wi σ H λJ H1=>I9 J ρ g tc te σ H1 Q
section
variable{X:Cx}{elt tg iter:aS}{ifs:List aS}{sc:d8}{pos cpos:Pos}{N':List Str}{ρ:List (Option Nat)}{wi:TI}{g:TG}{tc:TT}{te:TE}
theorem BO(hcalm:X.calm=true)(S:dG X N' ρ sc)(hi:PI X tg iter wi)
 (hg:∀cl C s H fp,PG (fm X N' sc cl C s H fp) tg g) (gk:qx ρ g) (hc:∀cl C s H fp,rm (fm X N' sc cl C s H fp) ifs tc) (he:∀cl C s H fp,PE (fm X N' sc cl C s H fp) elt te)
 (hs:∀x,foldedSetIterable iter X.env x=pure x)
 (use:Option (ai->Sem Unit)) {R:ai->ap->Prop} {ae:List (ah×Obj)} {s:ap} {σ:St} {H:Hp} {Q:VK} (I:Inv X ae σ H s) (h:t5 wi ρ g tc te σ H Q)
 (hR:∀s' D C H',Inv X ae σ H' s'->Q (.ref D) H'->(∃m,s'.heap.Ns C m)->gK X ae H' C->compPost (model X.prog X.w) X.A X.xe use R (.ref D) C (.ok .next) s') :
 wpAny (model X.prog X.w) X.A (comprehension (.ListComp elt [⟨tg,iter,ifs,0⟩] sc pos) sc X.env cpos (newList []) false (eval iter X.env) use) R X.xe s:=by
 obtain⟨cl,hcl,hsub,hall⟩:=Kg (sc:=sc) (env:=X.env) λy hy hf=>I.ok.has y.1 (S.free y hy hf);refine wpAny_comprehension_free rfl hs hcl S.kind S.names (aX (hi ae s σ H _ I h) λv s1 h1=>aX h1 λitv s2 h2=>?_);obtain⟨it,fp,tn,J,H2,e,I2,T,st2,f2,W,⟨m0,w0⟩,turn⟩:=h2;subst e;refine wpAny_newList (items:=[]) ?_;refine wpAny_newFunctionEnv S.lB (by intro y hy;simp at hy) (λh₁ hns hsb=>?_) S.kind;dsimp only at hns hsb ⊢;generalize hH2:s2.heap.push { cls:=.type "list", data:=.seq ([]:List ai).toArray }=Hh at hns hsb ⊢;have hCs:Hh.objs.size=s2.heap.objs.size+1:=by rw[<- hH2,pU]
 generalize hD:s2.heap.objs.size=D at *;generalize hCC:Hh.objs.size=C at *;have hDC:D≠C:=by omega
 have ltC:∀b:Nat,b<s2.heap.objs.size->b≠C/\b≠D/\b<D:=λb h=>by omega
 have ltD:∀b:Nat,b<D->b≠C/\b≠D:=λb h=>by omega
 have old:∀b o,s2.heap.get? b=aa o->h₁.get? b=aa o:=λb o e=>hsb.extBut b o (ltC b (b0 e)).1 (cA _ (by rw[<- hH2];exact cA _ e));have newD:h₁.get? D=aa { cls:=.type "list", data:=.seq ([]:List ai).toArray }:=hsb.extBut _ _ hDC (cA _ (by rw[<- hH2,<- hD];exact dE _ rfl));have ltb:∀b∈fp,b<D:=λb hb=>by
  obtain⟨o,e,_⟩:=T.obj _ _ st2 b hb;exact(ltC b (b0 e)).2.2
 have fD:gK X ae H2 D:=I2.g9 (by omega) (I2.hok.fresh (by omega));have fC:gK X ae H2 C:=I2.g9 (by omega) (I2.hok.fresh (by omega));have nst:∀b,b≠X.env.locals->b∉X.fs->b∉frs X.stack:=λb h1 h2 hb=>by
  rcases bH.mp (I2.rB b hb)with e|e
  ·exact h1 e
  ·exact h2 e
 have ok':(fm X N' sc cl C s2 H2 fp).Ok:=by
  refine⟨I2.ok.mod,S.kind,I2.ok.glob,I2.ok.blt,(by show s2.heap.objs.size<=C;omega),λx y c e1 e2=>I2.ok.inj x y c (hsub _ _ e1) (hsub _ _ e2),λx hx=>?_,λx c z=>(by cases z),I2.ok.hd,I2.ok.frames,.inl rfl,
   λb hb=>⟨(ltD b (ltb b hb)).1,λx c e=>(f2 b hb).2.2.2.2.1 x c (hsub _ _ e)⟩,I2.bs,(by show X.base.objs.size<=s2.heap.objs.size;exact dr I2.ok.bsz I2.sz),λb o e hb=>?_,λb hb=>nst b (f2 b hb).2.1 (f2 b hb).2.2.1,I2.stack,I2.E4⟩
  ·have hx':∃k',sc.names.lookup x=aa k'/\(k'=.cell\/k'=.free):=by
    rcases hx with hx|hx
    ·obtain⟨k',e1,e2⟩:=sN (env:=X.env) (names:=sc.names) hx;rcases e2 with e2|⟨e2,_⟩
     ·exact⟨k',e1,.inl e2.symm⟩
     ·exact⟨k',e1,.inr e2⟩
    ·obtain⟨k',e1,e2⟩:=sN (env:=X.env) (names:=sc.names) hx;rcases e2 with e2|⟨e2,_⟩
     ·exact⟨k',e1,.inr e2.symm⟩
     ·exact⟨k',e1,.inr e2⟩
   obtain⟨k',e1,e2⟩:=hx';have hm:=lookup_mem e1;rcases e2 with e2|e2
   ·exact absurd e2 (S.lB _ hm)
   ·subst e2;exact hall x hm
  ·rcases(f2 b hb).2.2.2.1 with z|z
   ·exact I2.ok.sG b o e z
   ·exact absurd (fW (b0 e) (dr I2.ok.bsz z)) (jh _)
 have GW:∀p∈X.pn++ae,p.1<D:=λp hp=>(ltC p.1 (b0 (I2.pin p hp).1)).2.2;have O3:∀x c,cl.lookup x=aa c->c<D:=λx c e=>by
  obtain⟨v,q⟩:=I2.cell x c (hsub _ _ e);exact(ltC c q.lt).2.2
 have I':∀tk,Inv (fm X N' sc cl C s2 H2 fp) (ae++[(D,{ cls:=.type "list", data:=.seq ([]:List ai).toArray })]) (pick ρ σ) H2 { s2 with heap:=h₁,toks:=tk }:=λtk=>by
  refine⟨ok',rfl,I2.bare,Un.kept old,⟨_,hns,λi x v e1 e2 e3=>?_⟩,λx c e=>?_,fC.1,λx c e=>I2.jk x c (hsub _ _ e),λp hp=>?_,I2.hok.kept old,?_⟩
  ·have e2':∃j,ρ[i]? = aa (aa j)/\σ[j]? = aa (aa v):=by
    unfold pick at e2;rw[c9]at e2;cases hr:ρ[i]? with
    |none=>rw[hr]at e2;cases e2
    |some o=>
     rw[hr]at e2;cases o with
     |none=>cases e2
     |some j=>
      refine⟨j,rfl,?_⟩;have e2:(σ[j]?).join=aa v:=fY e2;cases hq:σ[j]? with
      |none=>rw[hq]at e2;cases e2
      | some o' => rw [hq] at e2; have e2 : o' = aa v := e2
                   rw[e2]
   obtain⟨j,hj,hv⟩:=e2';obtain⟨y,ey,eN,ef⟩:=S.ix i j hj;have e1':N'[i]? = aa x:=e1;rw[ey]at e1';cases e1';obtain⟨m,hn,hl⟩:=I2.loc;have hm:=lookup_mem ef;have kX:=S.free _ hm rfl;obtain⟨u,ru,lk⟩:=hl j x v eN hv (by rcases kX with k|k;exact .inr (.inl k);exact .inr (.inr k));refine⟨u,ru,.inr ⟨?_,?_⟩⟩
   ·show(relabel sc X.env).names.lookup x=aa .cell\/(relabel sc X.env).names.lookup x=aa .free;rcases e3 with e3|e3|e3
    ·obtain⟨k',q1,q2⟩:=sN (env:=X.env) (names:=sc.names) e3;rw[ef]at q1;cases q1;rcases q2 with q2|⟨_,q2⟩<;>cases q2
    ·exact .inl e3
    ·exact .inr e3
   ·obtain⟨c,hc'⟩:=hall x hm;refine⟨c,hc',?_⟩;rcases lk with ⟨k,_⟩|⟨_,c',ec,z⟩
    ·rcases kX with k'|k'<;>(rw[k]at k';cases k')
    ·rw[hsub _ _ hc']at ec;cases ec;obtain⟨o,ho,hd⟩:=z;exact⟨o,old _ _ ho,hd⟩
  ·obtain⟨v,o,ho,hd⟩:=I2.cell x c (hsub _ _ e);exact⟨v,o,old _ _ ho,hd⟩
  ·have hp':p∈X.pn++ae\/p=(D,{ cls:=.type "list", data:=.seq ([]:List ai).toArray }):=by
    rcases bJ.mp hp with z|z
    ·exact .inl (dL _ z)
    ·rcases bJ.mp z with z|z
     ·exact .inl (dI _ z)
     ·exact .inr (by simpa using z)
   rcases hp' with z|z
   ·obtain⟨q1,q2,q3,q4,q5⟩:=I2.pin p z;exact⟨old _ _ q1,q2,(ltD p.1 (GW p z)).1,nst _ q3 q4,q5⟩
   ·subst z;exact⟨newD,fD.1,hDC,nst _ fD.2.1 fD.2.2.1,λv z=>by cases z⟩
  ·show(pick ρ σ).length=N'.length;unfold pick;rw[aM];exact S.len
 have stat:∀{H':Hp} {o:Obj},(∀b∈fp,H' b=ab)->∀b∈fp,gK (fm X N' sc cl C s2 H2 fp) (ae++[(D,o)]) H' b:=λ{H' o} hn b hb=>by
  refine⟨hn b hb,(ltD b (ltb b hb)).1,nst b (f2 b hb).2.1 (f2 b hb).2.2.1,.inl hb,λx c e=>(f2 b hb).2.2.2.2.1 x c (hsub _ _ e),λp hp=>?_⟩;rcases bJ.mp hp with z|z
  ·exact(f2 b hb).2.2.2.2.2 p (dL _ z)
  ·rcases bJ.mp z with z|z
   ·exact(f2 b hb).2.2.2.2.2 p (dI _ z)
   ·have e:p=(D,o):=by simpa using z
    subst e;exact dN (ltD b (ltb b hb)).2
 have loop:∀tk,codeAny (model X.prog X.w) X.A (.compLoop (.ListComp elt [⟨tg,iter,ifs,0⟩] sc pos) 0 (.ref it) (.ref D) (compEnvC sc cl C X.env)) (compPost (model X.prog X.w) X.A X.xe use R (.ref D) C) { s2 with heap:=h₁,toks:=tk }:=λtk=>by
  refine IT (λn s'=>∃(i:Nat) (acc:List V) (am:List ai) (k:Nat) (H':Hp),Inv (fm X N' sc cl C s2 H2 fp) (ae++[(D,{ cls:=.type "list", data:=.seq am.toArray k })]) (pick ρ σ) H' s'/\Vals acc am/\acc.length<=sizeLine/\tn i s'.heap/\(∀b∈fp,H' b=ab)/\W i n acc H')
   ?_ m0 ⟨0,[],[],0,H2,I' tk,.nil,gE _,T.keep _ _ _ st2 λb hb o e=>old b o e,λb hb=>(f2 b hb).1,w0⟩
  rintro n s3 ⟨i,acc,am,k,H3,I3,va,hz0,st3,fr3,w3⟩;rcases turn i n acc H3 w3 with ⟨stop,qn⟩|⟨go,hz,Nn,hN,step⟩
  ·refine aX (T.done (fm X N' sc cl C s2 H2 fp) rfl rfl rfl hcalm i _ s3 _ H3 (λ_ _=>False) I3 (stat fr3) st3 stop) λr s4 ⟨hr,I4⟩=>?_;subst hr;obtain⟨p1,p2,p3,p4,p5⟩:=I4.pin (D,{ cls:=.type "list",data:=.seq am.toArray k }) (by simp);have p1:s4.heap.get? D=aa { cls:=.type "list", data:=.seq am.toArray k }:=p1;have p2:H3 D=ab:=p2;have B:=I4.base;have upn:∀b o,H3 b=aa o->upd H3 D (.lst acc) b=aa o:=λb o e=>by rw[aE (cG e p2)];exact e
   have IX:Inv X ae σ (upd H3 D (.lst acc)) s4:=by
    refine I2.call' (ch:=fp) I4.os ⟨λb o q1 q2 q3 q4=>B.keep b o q1 q2 q3 q4,λb o q1 q2 q3 q4=>B.slot b o q1 q2 q3 q4,λb o q1 q2 q3=>?_,λb o q1 q2=>B.there b o q1 q2,
     λb xs q=>upn _ _ (B.tups b xs q),λb o u q=>upn _ _ (B.kK b o u q),λb w ps q=>?_⟩ (I4.hok.track p2 ⟨hz0,am,k,va,p1⟩) I4.bare λb hb=>⟨(f2 b hb).2.2.2.1,(f2 b hb).2.1,(f2 b hb).2.2.2.2.1,(f2 b hb).2.2.2.2.2⟩
    ·rw[aE (ltC b (b0 q1)).2.1];exact B.free b o q1 q2 q3
    ·obtain⟨more,q'⟩:=B.kL b w ps q;exact⟨more,upn _ _ q'⟩
   obtain⟨m,hm,_⟩:=I4.loc;refine hR s4 D C _ IX (qn D p2) ⟨m,hm⟩ (I2.g9 (by omega) ?_);rw[aE (dN hDC)];exact I4.free
  ·refine aX (T.item (fm X N' sc cl C s2 H2 fp) rfl rfl rfl hcalm i _ s3 _ H3 (λ_ _=>False) I3 (stat fr3) st3 go) λr s4 ⟨u,hr,h4⟩=>?_;subst hr;refine aX h4 λ_ s5 ⟨x,H5,I5,r5,y5,st5,fr5⟩=>?_;have I5':=I5.pinned (stat fr5) (T.obj _ _ st5);refine aX (hg cl C s2 H2 fp _ s5 _ H5 x u _ I5' r5 (gk _ _ _ _ (step x H5 y5))) λ_ s6 ⟨σ6,H6,I6,⟨l6,k6⟩,q6⟩=>?_;refine aX (hc cl C s2 H2 fp _ s6 σ6 H6 _ I6 q6) λok s7 ⟨H7,I7,q7⟩=>?_;have wk:∀{pZ:List (ah×Obj)} {H':Hp} {s':ap},Inv (fm X N' sc cl C s2 H2 fp) pZ σ6 H' s'->Inv (fm X N' sc cl C s2 H2 fp) pZ (pick ρ σ) H' s':=λ{pZ H' s'} J'=>
    J'.weak l6.symm λj v e=>by
     have:∃j',ρ[j]? = aa (aa j'):=by
      unfold pick at e;rw[c9]at e;cases hr:ρ[j]? with
      |none=>rw[hr]at e;cases e
      |some o=>
       rw[hr]at e;cases o with
       |none=>cases e
       |some j'=>exact⟨j',rfl⟩
     obtain⟨j',hj'⟩:=this;rw[k6 j j' hj'];exact e
   cases ok with
   |false=>
    have q7:Nn acc H7:=by simpa using q7
    rw[bc du];obtain⟨m',hm,w7⟩:=hN acc H7 q7;refine⟨m',hm,i+1,acc,am,k,H7,wk I7.pD,va,hz0,T.keep _ _ _ st5 λb hb o e=>(I7.pin (b,o) (dI _ (dI _ (oC hb e)))).1,λb hb=>?_,w7⟩;obtain⟨o,e,d⟩:=T.obj _ _ st5 b hb;exact(I7.pin (b,o) (dI _ (dI _ (oC hb e)))).2.1
   |true=>
    have q7:te σ6 H7 λy H4=>Nn (acc++[y]) H4:=by simpa using q7
    rw[bb rfl];refine aX (he cl C s2 H2 fp _ s7 σ6 H7 _ I7 q7) λxv s8 ⟨y,H8,I8,r8,n8⟩=>?_;obtain⟨p1,p2,p3,p4,p5⟩:=I8.pin (D,{ cls:=.type "list",data:=.seq am.toArray k }) (by simp);have p1:s8.heap.get? D=aa { cls:=.type "list",data:=.seq am.toArray k }:=p1;have p2:H8 D=ab:=p2;refine wpAny_list_append_plain ⟨k,p1⟩ (λh' pl sb=>?_) (by rw[cX,<- va.length];omega);obtain⟨k',pl⟩:=pl;obtain⟨m',hm,w8⟩:=hN _ _ n8;have Ia:Inv (fm X N' sc cl C s2 H2 fp) ae σ6 H8 s8:=I8.pD.pD;have Ib:Inv (fm X N' sc cl C s2 H2 fp) ae σ6 H8 { s8 with heap:=h' }:=Ia.turned (t':=s8.toks) (it:=D) (λb o hb e=>(sb.2 b hb).trans e) p2 hDC (.inr (by show s2.heap.objs.size<=D;omega)) (λx c e=>(ltD c (O3 x c e)).2) λp hp=>(ltD p.1 (GW p hp)).2;have pl':h'.get? D=aa { cls:=.type "list", data:=.seq (am++[xv]).toArray k' }:=by rw[pl];simp
    have Ic:Inv (fm X N' sc cl C s2 H2 fp) (ae++[(D,{ cls:=.type "list", data:=.seq (am++[xv]).toArray k' })]) σ6 H8 { s8 with heap:=h' }:=Ib.xr λp hp=>by
     rcases bJ.mp hp with z|z
     ·exact Ib.pin p (dI _ z)
     ·have e:p=(D,{ cls:=.type "list", data:=.seq (am++[xv]).toArray k' }):=by simpa using z
      subst e;exact⟨pl',p2,p3,p4,λv z=>by cases z⟩
    refine⟨m',hm,i+1,acc++[y],am++[xv],k',H8,wk Ic,va.append (.cons r8 .nil),(by rw[cu,jd];omega),T.keep _ _ _ st5 λb hb o e=>?_,λb hb=>?_,w8⟩
    ·exact(sb.2 b (ltD b (ltb b hb)).2).trans (I8.pin (b,o) (dI _ (dI _ (oC hb e)))).1
    ·obtain⟨o,e,d⟩:=T.obj _ _ st5 b hb;exact(I8.pin (b,o) (dI _ (dI _ (oC hb e)))).2.1
 refine codeAny_compStart_list (loop _) (T.self X.A 0 _ _ _ (T.keep _ _ _ st2 λb hb o e=>old b o e) (loop _))
theorem fu(hcalm:X.calm=true)(S:dG X N' ρ sc)(hi:PI X tg iter wi)
 (hg:∀cl C s H fp,PG (fm X N' sc cl C s H fp) tg g) (gk:qx ρ g) (hc:∀cl C s H fp,rm (fm X N' sc cl C s H fp) ifs tc) (he:∀cl C s H fp,PE (fm X N' sc cl C s H fp) elt te)
 (hs:∀x,foldedSetIterable iter X.env x=pure x:=by intro _;rfl) :
 PE X (.ListComp elt [⟨tg,iter,ifs,0⟩] sc pos) (t5 wi ρ g tc te):=by
 intro ae s σ H Q I h;rw[eval_ListComp];refine BO hcalm S hi hg gk hc he hs ab I h λs' D C H' I' q ⟨m,hm⟩ f=>⟨m,hm,λh' sb=>?_⟩;exact⟨.ref D,H',I'.turned (t':=s'.toks) (it:=C) (λb o hb e=>(sb.2 b hb).trans e) f.1 f.2.1 f.2.2.2.1 f.2.2.2.2.1 f.2.2.2.2.2,rfl,q⟩
theorem ua{i:Nat}{x:Str}{px:Pos}(hcalm:X.calm=true)(hN:X.N.Nodup)(hix:X.N[i]? = aa x)(hx:Loc X.env.scope x)(S:dG X N' ρ sc)(hi:PI X tg iter wi)
 (hg:∀cl C s H fp,PG (fm X N' sc cl C s H fp) tg g) (gk:qx ρ g) (hc:∀cl C s H fp,rm (fm X N' sc cl C s H fp) ifs tc) (he:∀cl C s H fp,PE (fm X N' sc cl C s H fp) elt te)
 (hsw:swapsWith (.ListComp elt [⟨tg,iter,ifs,0⟩] sc pos) (aa (.Name x px)) cpos.line X.env=pure true:=by rfl)
 (hs:∀x,foldedSetIterable iter X.env x=pure x:=by intro _;rfl)
 (hf:X.fn x=true\/X.env.scope.names.lookup x=aa .local:=by first|exact .inl rfl|exact .inr rfl|assumption) :
 PS X (.Assign [.Name x px] (.ListComp elt [⟨tg,iter,ifs,0⟩] sc pos) cpos) (ip (t5 wi ρ g tc te) (fJ i)):=by
 intro ae s σ H D I h;rw[exec_Assign_Name_used _ _ _ _ hsw];refine aI (zh (aI ?_));show wpAny _ X.A (do let _ <- comprehension (.ListComp elt [⟨tg,iter,ifs,0⟩] sc pos) sc X.env _ (newList []) false (eval iter X.env) (aa (assign (.Name x px) X.env))) _ _ s;refine aI (aX (BO (Q:=λy H1=>D.nx (σ.set i (aa y)) H1) (R:=λ_ s'=>SP X ae D .next s') hcalm S hi hg gk hc he hs (aa (assign (.Name x px) X.env)) I h λs' Da C H' I' q ⟨m,hm⟩ f=>?_) λ_ s' hq=>bE (bE hq));show wpAny _ X.A (assign (.Name x px) X.env (.ref Da)) _ _ _;refine wpAny_assign_Name (Ez I' hN hix hx (v:=.ref Da) rfl (λs2 I2 ⟨a,sb,ha⟩=>⟨m,hm.sameBut sb ?_,λh' sb2=>?_⟩) hf)
 ·rcases ha with e|e
  ·subst e;exact f.2.1
  ·exactλz=>f.2.2.2.2.1 x a e z.symm
 ·exact⟨_,H',I2.turned (t':=s2.toks) (it:=C) (λb o hb e=>(sb2.2 b hb).trans e) f.1 f.2.1 f.2.2.2.1 f.2.2.2.2.1 f.2.2.2.2.2,q⟩
end
structure It.Of(J:It)(Ok:Hp->Prop)(xs:List V):Prop where
 go:∀i H,Ok H->i<xs.length->J.go i H
 yld:∀i H x H',Ok H->i<xs.length->J.yld i H x H'->H'=H/\xs[i]? = aa x
 stop:∀H,Ok H->J.stop xs.length H
theorem Bm{K:aG}{a:ah}{xs:List V}:(rT K a).Of (λH=>d6 K H a xs) xs:=⟨λi H h hi=>⟨xs,xs[i],h,by simp[hi]⟩,λi H x H' h _ y=>⟨y.1,y.2 xs h⟩,λH h=>⟨xs,h,bA _⟩⟩
theorem FI{K:aG}{a:ah}{xs:List V}:(qK K a).Of (λH=>eK K H a xs) xs:=⟨λi H h hi=>⟨xs,xs[i],h,by simp[hi]⟩,λi H x H' h _ y=>⟨y.1,y.2 xs h⟩,λH h=>⟨xs,h,bA _⟩⟩
def nL(lo:Int)(n:Nat):List V:=(bQ n).map λi=>V.int (lo+(i:Nat))
theorem xx(lo:Int)(n:Nat):(nL lo n).length=n:=by simp[nL]
theorem K7{lo:Int}{n i:Nat}(h:i<n):(nL lo n)[i]? = aa (.int (lo+i)):=by simp[nL,h]
theorem Lq{lo:Int}{n:Nat}:(oQ lo n).Of (λ_=>True) (nL lo n):=⟨λi H _ hi=>by rw[xx]at hi;exact hi,λi H x H' _ hi y=>⟨y.1,by rw[xx]at hi;rw[y.2];exact K7 hi⟩,λH _=>by rw[xx];exact bA _⟩
def sgn(c:Nat):V:=.str ⟨#[c]⟩
def nA(x:Str):List V:=x.cps.toList.map sgn
theorem Et(x:Str):(nA x).length=x.length:=by simp[nA,nY]
def nI(x:Str):It:=⟨λi _=>i<x.length,λi H y H'=>H'=H/\(nA x)[i]? = aa y,λi _=>i=x.length⟩
theorem Ea{x:Str}:(nI x).Of (λ_=>True) (nA x):=⟨λi H _ hi=>by rw[Et]at hi;exact hi,λi H y H' _ _ h=>h,λH _=>Et x⟩
theorem BU{P:bh}{w:a8}{K:aG}{tg:aS}(it:ah)(x:Str)(t:Tok)(ty:String)
 (hty:["enumerate","zip","dict_itemiterator","dict_reverseitemiterator","odict_iterator","itertools.zip_longest","itertools.pairwise"].contains ty=false)
 (W:∀A':bK,A'.handled=ab->Walks P w A' it [it] [it] x.cps.size (SignAt x) (λi h=>h.IsStrIter it ty x t i))
 (sf:∀(A:bK) (i:Nat) (s:ap) (Q:ai->ap->Prop) (E:ai->ap->Prop),s.heap.IsStrIter it ty x t i->Q (.ref it) s->wpAny (model P w) A (pyIter (.ref it)) Q E s) :
 Turn P w K tg (nI x) [it] it (λi h=>h.IsStrIter it ty x t i) where
 mem:=by simp
 obj:=λi h st b hb=>by
  have e:b=it:=by simpa using hb
  subst e;obtain⟨o,e,c,d⟩:=st;exact⟨o,e,λv z=>by rw[d]at z;cases z⟩
 keep:=λi h h' st k=>let ⟨o,ho,r⟩:=st;⟨o,k it (by simp) o ho,r⟩
 item:=by intro X hP hw hK hc i ae s σ H E I hf st hg;subst hP hw hK;obtain⟨f0,f1,f2,f3,f4,f5⟩:=hf it (by simp);refine(W X.A (I.ok.hd hc)).item i s _ _ hg st λv h' tk hv st' kk=>?_;obtain⟨c,u,e,rfl⟩:=hv;have I1:Inv X ae σ H { s with heap:=h',toks:=tk }:=I.turned (λb o hb e=>kk b o (by simpa using hb) e) f0 f1 f3 f4 f5;obtain⟨o,e',c',d'⟩:=id st';refine⟨_,rfl,qt (s:={ s with heap:=h',toks:=tk }) e' c' d' hty ⟨sgn c,H,I1,⟨u,rfl⟩,⟨rfl,?_⟩,st',λb hb=>(hf b hb).1⟩⟩;unfold nA;rw[c9,zv,e];rfl
 done:=by intro X hP hw hK hc i ae s σ H E I hf st hg;subst hP hw hK;obtain⟨f0,f1,f2,f3,f4,f5⟩:=hf it (by simp);have hg:i=x.length:=hg;subst hg;exact(W X.A (I.ok.hd hc)).done s _ _ st λh' tk kk=>⟨rfl,I.turned (λb o hb e=>kk b o (by simpa using hb) e) f0 f1 f3 f4 f5⟩
 self:=sf
section
variable{X:Cx}{tg:aS}
def AH(tl:TE):TI:=λσ H R=>tl σ H λx H1=>∃z,x=.str z/\R (nI z) H1
theorem MN{l:aS}{tl:TE}(hl:PE X l tl):PI X tg l (AH tl):=by
 intro ae s σ H R I h;refine aX (hl ae s σ H _ I h) λv s1 ⟨x,H1,I1,r1,q1⟩=>?_;obtain⟨z,e,q⟩:=q1;subst e;obtain⟨t,rfl⟩:=r1;cases ha:z.cps.all (· < 128)
 ·refine wpAny_pyIter_wide ha ?_;refine⟨s1.heap.objs.size,[s1.heap.objs.size],_,nI z,H1,rfl,I1.kept (t':=s1.toks) λb o e=>cA _ e,BU _ z t "str_iterator" (by decide) (λA' hA=>Walks.strWide hA _ z t) (λ_ _ _ _ _ st hQ=>wpAny_pyIter_striter_wide st hQ),⟨_,dE _ rfl,rfl,rfl⟩,λb hb=>?_,q⟩;have e:b=s1.heap.objs.size:=by simpa using hb
  subst e;exact I1.g9 (bA _) (I1.hok.fresh (bA _))
 ·refine wpAny_pyIter_ascii ha ?_;refine⟨s1.heap.objs.size,[s1.heap.objs.size],_,nI z,H1,rfl,I1.kept (t':=s1.toks) λb o e=>cA _ e,BU _ z t "str_ascii_iterator" (by decide) (λA' hA=>Walks.strAscii hA _ z t) (λ_ _ _ _ _ st hQ=>wpAny_pyIter_striter_ascii st hQ),⟨_,dE _ rfl,rfl,rfl⟩,λb hb=>?_,q⟩;have e:b=s1.heap.objs.size:=by simpa using hb
  subst e;exact I1.g9 (bA _) (I1.hok.fresh (bA _))
theorem Br:∀{bs:List Bool} {us:List ai},Vals (bs.map V.bl) us->us=bs.map iI
 |[],_,.nil=>rfl
 |b::r,_,.cons q t=>by rw[Br t,show _=iI b from q];rfl
theorem range_any(bs:List Bool):(bQ bs.length).any (λi=>bs.getD i false)=bs.any id:=by
 induction bs with
 |nil=>rfl
 |cons b r ih=>
  rw[cR,yR,iF,ss,iF]
  congr 1
def Be(K:aG)(f:List Bool->Bool):List V->Hp->VK->Prop:=λxs H Q=>∃a bs,xs=[.ref a]/\d6 K H a (bs.map V.bl)/\Q (.bl (f bs)) H
theorem LJ{P:bh}{w:a8}{A:bK}(bs:List Bool):TruthOf P w A (λi v=>(bs.map iI).toArray[i]? = aa v) (λi=>bs.getD i false):=by
 intro i v s Q E hv hq;have:v=.bool (bs.getD i false):=by
  rw[List.getElem?_toArray,c9]at hv;cases hb:bs[i]? with
  |none=>rw[hb]at hv;cases hv
  |some b=>
   rw[hb]at hv;rw[gj,hb];exact(fY hv).symm
 subst this;exact nR hq
theorem L4(hc:X.calm=true):f8 X (.builtin "any") (Be X.K (·.any id)):=by
 intro ae s σ H xs us Q I r h;obtain⟨a,bs,rfl,hq,q⟩:=h;obtain⟨u,rfl,ru⟩:=vals1 r;cases ru;obtain⟨am,rv,p,hz⟩:=I.list hq;have e:=Br rv;subst e;have hlt:a<s.heap.objs.size:=by obtain⟨o,n,e,_⟩:=p;exact b0 e
 refine call_any_walk (vg p.isList ⟨_,_,_,_,_,_,λi=>bs.getD i false,rfl,Walks.list (A:=X.A.in1) (I.ok.hd hc) _ a (gn hlt) (bs.map iI).toArray,⟨⟨_,dE _ rfl,rfl,rfl⟩,(p.keeps λb o e=>cA _ e).isList⟩,LJ bs,λh' tk kk=>?_⟩);refine⟨.bl (bs.any id),H,I.kept λb o e=>kk b o (by simpa using gn (b0 e)) (cA _ e),?_,q⟩;show iI _=iI _;rw[<- range_any];simp
theorem OZ:c7 X (compareOp .Gt) (λx y H Q=>∃i j,x=.str i/\y=.str j/\Q (.bl (decide (j.cps.toList<i.cps.toList))) H):=by intro ae s σ H x y v u Q I rx ry h;obtain⟨i,j,rfl,rfl,q⟩:=h;obtain⟨t,rfl⟩:=rx;obtain⟨t',rfl⟩:=ry;exact PySem.P.gt_str (wK I q rfl)
def ox(x:Str)(lo hi:Option Int):Str:=⟨((x.cps.toList.drop (HT.cV x.length 0 lo)).take (HT.cV x.length x.length hi-HT.cV x.length 0 lo)).toArray⟩
theorem Jf(lo hi:Option Int)(n:Nat):GK lo hi 1 n=(bQ (HT.cV n n hi-HT.cV n 0 lo)).map (λk=>HT.cV n 0 lo+k):=by
 have h1:∀(v:Option Int) (d:Nat),d<=n->(match v with|none=>(d:Int)|some i=>max 0 (min (if i<0 then i+(n:Int)else i) (n:Int)))=((HT.cV n d v:Nat):Int):=by
  intro v d hd;cases v with
  |none=>rfl
  |some i=>
   show max 0 (min (if i<0 then i+(n:Int)else i) (n:Int))=(((if i<0 then(i+(n:Int)).toNat else min i.toNat n):Nat):Int);by_cases hv:i<0
   ·simp only[bb hv];omega
   ·simp only[bc hv];omega
 have fin:∀(p q:Int) (a b:Nat),p=(a:Int)->q=(b:Int)->sliceRange p q 1=(bQ (b-a)).map (λk=>a+k):=by
  intro p q a b e1 e2;subst e1 e2;unfold sliceRange;simp only[show((1:Int)>0)=True from by simp,jE];by_cases hlt:(a:Int)<b
  ·have e3:(((b:Int)-a+1-1)/1).toNat=b-a:=by first|omega|(simp;done)|(simp;omega)
   simp only[hlt,jE,e3];refine sj λk _=>?_;omega
  ·have:b-a=0:=by omega
   simp[hlt,this]
 unfold GK;refine fin _ _ _ _ ?_ ?_
 ·have:=h1 lo 0 (gE _);cases lo with
  |none=>exact this
  |some i=>exact this
 ·have:=h1 hi n (bA _);cases hi with
  |none=>exact this
  |some i=>exact this
theorem MD(x:Str)(lo hi:Option Int):Txt.slice x lo hi=ox x lo hi:=by
 have hle:HT.cV x.length x.length hi<=x.length:=HT.Ej _ _ (bA _) hi;have ha:HT.cV x.length 0 lo<=x.length:=HT.Ej _ _ (gE _) lo;unfold Txt.slice ox;rw[Jf];generalize HT.cV x.length 0 lo=a at *;generalize HT.cV x.length x.length hi=b at *;have hp:((bQ (b-a)).map (λk=>a+k)).filterMap (λi=>x.cps[i]?)=(x.cps.toList.drop a).take (b-a):=by have h:=StrLaws.picks x.cps.toList (b-a) a (by simp[nY]at hle ha ⊢;omega);simpa using h
 split
 ·rename_i h;simp only[aM,sk,qG,Bool.true_and,beq_iff_eq]at h;have e:a=0\/x.length=0:=by omega
  have e2:(x.cps.toList.drop a).take (b-a)=x.cps.toList:=by
   rw[h];rcases e with e|e
   ·subst e;rw[sr];exact pF (by simp[nY])
   ·have:x.cps.toList=[]:=yN (by simpa [nY]using e);rw[this];simp
  rw[e2]
 ·rw[hp]
def Bc:V->Option Int->Option Int->Hp->VK->Prop:=λx lo hi H Q=>∃z,x=.str z/\z.length<=sizeLine/\Q (.str (ox z lo hi)) H
theorem NF:kz X Bc:=by
 intro ae s σ H x v vl vu lo hi sl Q I rx hs pl pu h;obtain⟨z,rfl,hz,q⟩:=h;obtain⟨t,rfl⟩:=rx;have fin:∀(l u:Option (Int×Tok)),vl=partValue l->vu=partValue u->lo=l.map (·.1)->hi=u.map (·.1) ->
  wpAny (model X.prog X.w) X.A (getItem (.str z t) (.ref sl)) (EP X ae σ Q) X.xe s:=by
  intro l u e1 e2 e3 e4;subst e1 e2 e3 e4;refine wpAny_getItem_str_slice (l:=l) (u:=u) (st:=ab) hs rfl ?_;refine post_val_or_str ⟨dr (Txt.slice_le z _ _) hz,λt' k=>?_⟩;refine⟨.str (ox z _ _),H,I.tok k,⟨t',?_⟩,q⟩;show mK (Txt.slice z _ _) t'=_;rw[MD]
 refine⟨"str", _,F.slot_str_getitem.lookup,typeIs_str _ _ _,?_⟩;cases pl with
 | none=>cases pu with
  |none=>exact fin ab ab rfl rfl rfl rfl
  |int j tj=>exact fin ab (aa (j,tj)) rfl rfl rfl rfl
 | int i ti=>cases pu with
  |none=>exact fin (aa (i,ti)) ab rfl rfl rfl rfl
  |int j tj=>exact fin (aa (i,ti)) (aa (j,tj)) rfl rfl rfl rfl
def Fp(neg:Bool):R2:=λx y H Q=>∃c z,x=sgn c/\y=.str z/\Q (.bl (if neg then !decide (c∈z.cps.toList)else decide (c∈z.cps.toList))) H
theorem Jv:c7 X (compareOp .In) (Fp false):=by intro ae s σ H x y v u Q I rx ry h;obtain⟨c,z,rfl,rfl,q⟩:=h;refine Nz ae s σ H _ _ v u Q I rx ry ⟨_,z,rfl,rfl,?_⟩;rw[StrLaws.found_one];exact q
def Ei(K:aG):List V->Hp->VK->Prop:=λxs H Q=>∃x t T b,xs=[x,.ty T]/\gy K H x t/\zc K t (.type T)=aa b/\Q (.bl b) H
theorem lL:f8 X (.builtin "isinstance") (Ei X.K):=by intro ae s σ H xs us Q I r h;obtain⟨x,t,T,b,rfl,ty,e,q⟩:=h;obtain⟨u,w',rfl,rx,rt⟩:=vals2 r;cases(show w'=vA T from rt);exact K3 I rx ty e λtk=>⟨.bl b,H,I.tok tk,rfl,q⟩
end
def Eu(osc:d8)(N N':List Str)(ρ:List (Option Nat))(sc:d8):Bool:=
 sc.names.all (λy=>!(decide (y.2=.cell)))&&sc.names.all (λy=>!(decide (y.2=.local))||decide (sc.names.lookup y.1=aa .local)) &&
 sc.names.all (λy=>!(decide (y.2=.free))||(decide (osc.names.lookup y.1=aa .cell)||decide (osc.names.lookup y.1=aa .free))) &&
 decide (ρ.length=N'.length)&&(bQ ρ.length).all λi=>match ρ[i]? with
  |some (aa j)=>(match N'[i]? with|some x=>decide (N[j]? = aa x)&&decide (sc.names.lookup x=aa .free)|none=>false)
  |_=>true
theorem dG.of{X:Cx}{N':List Str}{ρ:List (Option Nat)}{sc:d8}(hk:sc.kind=.function)(h:Eu X.env.scope X.N N' ρ sc=true):dG X N' ρ sc:=by
 unfold Eu at h;simp only[ji,nP,Bool.or_eq_true,nV,pA,mR]at h;obtain⟨⟨⟨⟨h1,h2⟩,h3⟩,h4⟩,h5⟩:=h;refine⟨hk,λy hy=>h1 y hy,λy hy e=>(h2 y hy).resolve_left (λz=>z e),λy hy e=>(h3 y hy).resolve_left (λz=>z e),h4,λi j e=>?_⟩;have hi:i < ρ.length:=(cv.mp e).1;have q:=h5 i (gD.mpr hi);rw[e]at q;cases hN:N'[i]? with
 |none=>rw[hN]at q;cases q
 |some x=>
  rw[hN]at q;simp only[ji,pA]at q;exact⟨x,rfl,q.1,q.2⟩
structure bG(P:bh)(w:a8)(K:aG)(mg:Str->Option ai)(base:aK)(CX:gi)(k:Nat)(x:Str)(ps:List Str)(sp:Sp):Prop where
 ex:∃(f:ah) (fd:bx),mg x=aa (.ref f)/\kG K (.ref f)=true/\Binds K fd ps []/\bu P w K mg base CX k f fd ps sp
theorem nN{X:Cx}{CX:gi}{k:Nat}{x:Str}{ps:List Str}{sp:Sp}{E:XK}{e:aS}{es:List aS}{t:TA}{p pos:Pos}(C:bG X.prog X.w X.K X.mg X.base CX k x ps sp)(hr:cL k X.A)(hg:Gl X x)(hx:tz CX X E)
 (ha:PA X (e::es) t) (hdb:(x==("__debug__" : Str))=false:=by decide) (he:starEach (e::es) X.env=(false,eval e X.env)::starEach es X.env:=by rfl) (hpl:(backTo pos (starEach es X.env)).any (·.1)=false:=by rfl) :
 PE X (.Call (.Name x p) (e::es) [] pos) (mY sp [] E t):=by
 obtain⟨f,fd,hm,hk,hb,F⟩:=C.ex;exact OA F hr hg hm hk hb .nil hx ha hdb he hpl
theorem iZ{X:Cx}{x:Str}{T:String}{pos:Pos}(hg:Gl X x)(hm:X.mg x=ab)(hv:bootBuiltins x=aa (.type T))(hn:x ≠ "__name__" := by decide)(hd:(x==("__debug__" : Str))=false:=by decide):PE X (.Name x pos) (tC (.ty T)):=NR hg hm hv rfl hn hd
structure bW(K:aG)(mg:Str->Option ai)(x:Str)(st:bn)(ps:List Str):Prop where
 ex:∃(f:ah) (fd:bx),mg x=aa (.ref f)/\kG K (.ref f)=true/\Binds K fd ps []/\(∀(s:ap) (us:List ai),us.length=ps.length->lw s fd ⟨us,[]⟩ (ps.zip us))/\bP K x x st f fd
theorem rN{K:aG}{h:aK}{mg:Str->Option ai}{x:Str}{st:bn}{ps:List Str}{f:ah}{oc:ai}{od an:Option ah}{osl:Array (Option ai)}{kV doc pm cdv ct:ai}(X:K.In h)(G:h.Ns mainGlobals mg)
 (hb:∀(kV doc pm:ai) (an:Option ah) (cdv ct:ai) (us:List ai),us.length=ps.length->bindArgs (j2 x x (lg st) (ia st) (bq st) .none kV doc pm an cdv ct) ⟨us,[]⟩=pure (ps.zip us))
 (a:fb K mainGlobals x=aa (aa (.ref f))) (l:K.lookup f=aa ⟨oc,od,.func (j2 x x (lg st) (ia st) (bq st) .none kV doc pm an cdv ct),osl⟩)
 (c:pN K cdv x=true) (k:kG K (.ref f)=true):bW K mg x st ps:=by
 have F:=Fv (st:=st) l c k;exact⟨f,_,u9 X G a,k,F.binds hb,λs us hl=>.of_eq (hb kV doc pm an cdv ct us hl),F⟩
theorem bW.cal{P:bh}{w:a8}{K:aG}{mg:Str->Option ai}{base:aK}{CX:gi}{k:Nat}{x:Str}{st:bn}{ps:List Str}{sp:Sp}(F:bW K mg x st ps)(h:∀f fd,bP K x x st f fd->bu P w K mg base CX k f fd ps sp) :
 bG P w K mg base CX k x ps sp:=by
 obtain⟨f,fd,h1,h2,h3,_,h4⟩:=F.ex;exact⟨f,fd,h1,h2,h3,h f fd h4⟩
end L2
namespace Mi
open PySem
inductive D where
 |non|bl (b:Bool)|int (i:Int)|str (x:Str)|lst (ds:List D)|tup (ds:List D)
mutual
def D.dep:D->Nat
 |.lst ds=>dw ds+1
 |.tup ds=>dw ds+1
 |_=>0
def dw:List D->Nat
 |[]=>0
 |d::r=>max d.dep (dw r)
end
mutual
/-- Python's == -/
def bF:D->D->Bool
 |.non,.non=>true
 |.bl a,.bl b=>a==b
 |.bl a,.int b=>(if a then 1 else 0)==b
 |.int a,.bl b=>a==(if b then 1 else 0)
 |.int a,.int b=>a==b
 |.str a,.str b=>a==b
 |.lst a,.lst b=>gR a b
 |.tup a,.tup b=>gR a b
 |_,_=>false
def gR:List D->List D->Bool
 |[],[]=>true
 |a::r,b::s=>bF a b&&gR r s
 |_,_=>false
end
mutual
/-- no list in it -/
def i5:D->Bool
 |.lst _=>false
 |.tup ds=>fL ds
 |_=>true
def fL:List D->Bool
 |[]=>true
 |d::r=>i5 d&&fL r
end
def fI(n:Nat)(i:Int):Option Nat:=if 0<=i then(if i<n then aa i.toNat else ab)else if -(n:Int)<=i then aa (i+n).toNat else ab
def dO{α:Type}(xs:List α)(i:Int):Option α:=(fI xs.length i).bind λj=>xs[j]?
def cV(n d:Nat):Option Int->Nat
 |none=>d
 |some v=>if v<0 then(v+(n:Int)).toNat else min v.toNat n
def jI{α:Type}(xs:List α)(lo hi:Option Int):List α:=(xs.drop (cV xs.length 0 lo)).take (cV xs.length xs.length hi-cV xs.length 0 lo)
abbrev Ky:=Sum Bool Str
structure Kp where
 a:Nat
 c:Nat
 q:Str
 ga:List Nat
 deriving DecidableEq
inductive W where
 |d (x:D)|dk (ak:List (Ky×D))|dt (ak:List (List Ky×D))|df (ak:List (List Ky×D))|ex (c:String)|fn (κ:Kp) (aF:List D)
abbrev Env:=List (Option W)
structure k5 where
 cls:String
 val:List D
inductive Rs(α:Type) where
 |ok (a:α)|ex (x:k5)|no
def Rs.bind{α β:Type}:Rs α->(α->Rs β)->Rs β
 |.ok a,f=>f a
 |.ex x,_=>.ex x
 |.no,_=>.no
@[simp] theorem aL {α β:Type} (a:α) (f:α->Rs β):(Rs.ok a).bind f=f a:=rfl
@[simp] theorem Pp {α β:Type} (x:k5) (f:α->Rs β):(Rs.ex x).bind f=.ex x:=rfl
@[simp] theorem Ph {α β:Type} (f:α->Rs β):(Rs.no).bind f=.no:=rfl
def Fin{α:Type}(r:Rs α)(k:α->Prop):Prop:=match r with
 |.ok a=>k a
 |_=>False
theorem au{α β:Type}{r:Rs α}{f:α->Rs β}{k:β->Prop}:Fin (r.bind f) k↔Fin r λa=>Fin (f a) k:=by cases r<;>exact Iff.rfl
theorem Fin.mono{α:Type}{r:Rs α}{k k':α->Prop}(h:Fin r k)(m:∀a,k a->k' a):Fin r k':=by
 cases r with
 |ok a=>exact m a h
 |ex x=>exact h
 |no=>exact h
theorem nC{α:Type}{r s:Rs α}{k:α->Prop}(h:Fin (if true=true then r else s) k):Fin r k:=by simpa using h
theorem nz{α:Type}{r s:Rs α}{k:α->Prop}(h:Fin (if false=true then r else s) k):Fin s k:=by simpa using h
theorem nr{α:Type}{a:α}{k:α->Prop}(h:Fin (.ok a) k):k a:=h
def dA{α:Type}:Option α->Rs α
 |some a=>.ok a
 |none=>.no
def be{α:Type}(c:Prop)[Decidable c](r:Rs α):Rs α:=if c then r else .no
theorem aN{α:Type}{c:Prop}[Decidable c]{r:Rs α}(h:c):be c r=r:=bb h
theorem cQ{α:Type}{c:Prop}[Decidable c]{r:Rs α}{k:α->Prop}(h:Fin (be c r) k):c/\Fin r k:=by
 unfold be at h;split at h
 ·exact⟨‹_›,h⟩
 ·exact h.elim
abbrev E:=Env->Rs D
abbrev C:=Env->Rs Bool
def mC(d:D):E:=λ_=>.ok d
def mV(i:Nat):E:=λe=>match e[i]? with
 |some (aa (.d x))=>.ok x
 |_=>.no
def m1(f:D->Rs D)(a:E):E:=λe=>(a e).bind f
def m2(f:D->D->Rs D)(a b:E):E:=λe=>(a e).bind λx=>(b e).bind λy=>f x y
def fP:List E->Env->Rs (List D)
 |[],_=>.ok []
 |a::r,e=>(a e).bind λx=>(fP r e).bind λxs=>.ok (x::xs)
def mN(f:List D->Rs D)(as:List E):E:=λe=>(fP as e).bind f
def dTup(ds:List D):Rs D:=be (ds.length<=16777216) (.ok (.tup ds))
def bC(ds:List D):Rs D:=be (ds.length<=16777216) (.ok (.lst ds))
def ot:D->Rs Bool
 |.bl b=>.ok b
 |_=>.no
def k8(a b:E):E:=λe=>(a e).bind λx=>(ot x).bind λc=>if c=true then b e else .ok (.bl false)
def sK(a:E):E:=λe=>(a e).bind λx=>(ot x).bind λc=>.ok (.bl (!c))
def kg(c:C)(a b:E):E:=λe=>(c e).bind λk=>if k=true then a e else b e
def sT(f g:D->D->Rs D)(a b c:E):E:=λe=>(a e).bind λx=>(b e).bind λy=>(f x y).bind λz=>(ot z).bind λk=>if k=true then(c e).bind λw=>g y w else .ok (.bl false)
def pB:D->Rs Int
 |.int i=>.ok i
 |_=>.no
def jt:Option E->Env->Rs (Option Int)
 |none,_=>.ok ab
 |some a,e=>(a e).bind λx=>(pB x).bind λi=>.ok (aa i)
def ma(x:Str)(lo hi:Option Int):Str:=⟨(jI x.cps.toList lo hi).toArray⟩
def g6(x:D)(lo hi:Option Int):Rs D:=match x with
 |.lst ds=>.ok (.lst (jI ds lo hi))
 |.str z=>be (z.length<=16777216) (.ok (.str (ma z lo hi)))
 |_=>.no
def eI(f:D->Option Int->Option Int->Rs D)(a:E)(lo hi:Option E):E:=λe=>(a e).bind λx=>(jt lo e).bind λl=>(jt hi e).bind λh=>f x l h
def cB(a:E):C:=λe=>(a e).bind ot
def cF(a b:C):C:=λe=>(a e).bind λc=>if c=true then b e else .ok false
def jS(a b:C):C:=λe=>(a e).bind λc=>if c=true then .ok true else b e
def i4(a:C):C:=λe=>(a e).bind λc=>.ok (!c)
def Dm:D->Rs Bool
 |.non=>.ok false
 |.bl b=>.ok b
 |.int i=>.ok (i != 0)
 |.str y=>be (y.length<=16777216) (.ok ((y.length:Int) != 0))
 |.lst ds=>.ok (!ds.isEmpty)
 |.tup ds=>.ok (!ds.isEmpty)
def e5(a:E):C:=λe=>(a e).bind Dm
abbrev I:=Env->Rs (List D)
def tJ:D->Rs (List D)
 |.lst ds=>.ok ds
 |.tup ds=>.ok ds
 |.str x=>.ok (x.cps.toList.map λc=>.str ⟨#[c]⟩)
 |_=>.no
def bt(a:E):I:=λe=>(a e).bind tJ
def dP(lo hi:Int):List D:=(bQ (hi-lo).toNat).map λk=>.int (lo+(k:Nat))
def okR(i:Int):Prop:=-(2 ^ 62)<=i/\i<2 ^ 62
instance (i:Int):Decidable (okR i):=inferInstanceAs (Decidable (_/\_))
def gI(a:E):I:=λe=>(a e).bind λx=>(pB x).bind λj=>be (okR j) (.ok (dP 0 j))
def ko(k:Nat):List D->List D
 |[]=>[]
 |d::r=>.tup [.int k,d]::ko (k+1) r
def iA:List D->List D->List D
 |a::r,b::s=>.tup [a,b]::iA r s
 |_,_=>[]
inductive Tg where
 |n (i:Nat)|t (is:List Nat)
def lU:List Nat->List D->Env->Rs Env
 |[],[],e=>.ok e
 |i::is,d::ds,e=>lU is ds (e.set i (aa (.d d)))
 |_,_,_=>.no
def Tg.put:Tg->D->Env->Rs Env
 |.n i,d,e=>.ok (e.set i (aa (.d d)))
 |.t is,.tup ds,e=>lU is ds e
 |_,_,_=>.no
def iz(ρ:List (Option Nat))(e:Env):Env:=ρ.map λo=>o.bind λj=>(e[j]?).join
def cJ(tg:Tg)(c:C)(a:E)(e:Env):List D->Rs (List D)
 |[]=>.ok []
 |x::r=>(tg.put x e).bind λe1=>(c e1).bind λk=>if k=true then(a e1).bind λy=>(cJ tg c a e r).bind λys=>.ok (y::ys)else cJ tg c a e r
def c6:C:=λ_=>.ok true
def cg(ρ:List (Option Nat))(it:I)(tg:Tg)(c:C)(a:E):E:=λe=>(it e).bind λxs=>be (xs.length<=16777216) ((cJ tg c a (iz ρ e) xs).bind λys=>.ok (.lst ys))
abbrev Fn:=List W->Rs W
abbrev EW:=Env->Rs W
def wD(a:E):EW:=λe=>(a e).bind λx=>.ok (.d x)
def wV(i:Nat):EW:=λe=>match e[i]? with
 |some (aa w)=>.ok w
 |_=>.no
def eg:List EW->Env->Rs (List W)
 |[],_=>.ok []
 |a::r,e=>(a e).bind λx=>(eg r e).bind λxs=>.ok (x::xs)
def jQ(f:Fn)(as:List EW):EW:=λe=>(eg as e).bind f
def k9:W->Rs D
 |.d x=>.ok x
 |_=>.no
def aJ(f:Fn)(as:List EW):E:=λe=>(jQ f as e).bind k9
inductive Out where
 |nx (e:Env)|rt (w:W)|bk (e:Env)|ct (e:Env)
abbrev S:=Env->Rs Out
def bD:S:=λe=>.ok (.nx e)
def aD(s t:S):S:=λe=>(s e).bind λo=>match o with
 |.nx e'=>t e'
 |o=>.ok o
def kU(i:Nat)(a:EW):S:=λe=>(a e).bind λw=>.ok (.nx (e.set i (aa w)))
def bi(i:Nat)(a:E):S:=λe=>(a e).bind λd=>.ok (.nx (e.set i (aa (.d d))))
def Ba(tg:Tg)(a:E):S:=λe=>(a e).bind λd=>(tg.put d e).bind λe'=>.ok (.nx e')
def fB(a:E):S:=λe=>(a e).bind λ_=>.ok (.nx e)
def br(a:EW):S:=λe=>(a e).bind λw=>.ok (.rt w)
def bv(c:C)(s t:S):S:=λe=>(c e).bind λk=>if k=true then s e else t e
def rq:S:=λ_=>.no
def eY(tg:Tg)(body:S):List D->Env->Rs Out
 |[],e=>.ok (.nx e)
 | x::r,e=>(tg.put x e).bind λe1=>(body e1).bind λo=>match o with
  |.nx e2=>eY tg body r e2
  |.ct e2=>eY tg body r e2
  |.bk e2=>.ok (.nx e2)
  |.rt w=>.ok (.rt w)
def cr(it:I)(tg:Tg)(body:S):S:=λe=>(it e).bind λxs=>eY tg body xs e
def hG(c:C)(body:S):Nat->Env->Rs Out
 |0,_=>.no
 | n+1,e=>(c e).bind λk=>if k=true then(body e).bind λo=>match o with
  |.nx e2=>hG c body n e2
  |.ct e2=>hG c body n e2
  |.bk e2=>.ok (.nx e2)
  |.rt w=>.ok (.rt w)
  else .ok (.nx e)
def kB(n:Nat)(c:C)(body:S):S:=hG c body n
def getL(e:Env)(i:Nat):Rs (List D):=match e[i]? with
 |some (aa (.d (.lst ds)))=>.ok ds
 |_=>.no
def putL(e:Env)(i:Nat)(ds:List D):Env:=e.set i (aa (.d (.lst ds)))
def ce(i:Nat)(a:E):S:=λe=>(a e).bind λd=>(getL e i).bind λds=>be (ds.length<16777216) (.ok (.nx (putL e i (ds++[d]))))
def l8(i:Nat)(a:E):S:=λe=>(a e).bind λd=>(getL e i).bind λds=>match d with
 |.lst xs=>be (ds.length+xs.length<=16777216) (.ok (.nx (putL e i (ds++xs))))
 |_=>.no
def w5(i:Nat):S:=λe=>(getL e i).bind λds=>.ok (.nx (putL e i ds.reverse))
def qA(x y:Nat):S:=λe=>(getL e y).bind λds=>(dA ds[ds.length-1]?).bind λd=>.ok (.nx ((putL e y ds.dropLast).set x (aa (.d d))))
def ng(ds:List D)(i:Int):Rs (D×List D):=be (-(2 ^ 63)<=i/\i<2 ^ 63) ((dA (fI ds.length i)).bind λk=>(dA ds[k]?).bind λd=>.ok (d,ds.eraseIdx k))
def lO(x y:Nat)(k:E):S:=λe=>(k e).bind λz=>(pB z).bind λi=>(getL e y).bind λds=>(ng ds i).bind λp=>.ok (.nx ((putL e y p.2).set x (aa (.d p.1))))
def sU(x y:Nat)(k:E):S:=λe=>(k e).bind λz=>(pB z).bind λi=>(getL e y).bind λds=>(ng ds i).bind λp=>(getL (putL e y p.2) x).bind λes=>
 be (es.length<16777216) (.ok (.nx (putL (putL e y p.2) x (es++[p.1]))))
def l5:D->Option Ky
 |.bl i=>aa (.inl i)
 |.str x=>aa (.inr x)
 |_=>ab
def nJ:List D->Option (List Ky)
 |[]=>aa []
 | d::r=>match l5 d,nJ r with
  |some k,aa ks=>aa (k::ks)
  |_,_=>ab
def gB{κ:Type}[DecidableEq κ](ak:List (κ×D))(k:κ):Option D:=(ak.find? λkv=>decide (kv.1=k)).map (·.2)
def pf(w:W)(k:D):Rs (Option D):=match w with
 |.dk ak=>(dA (l5 k)).bind λk=>.ok (gB ak k)
 | .dt ak=>match k with
  |.tup ds=>(dA (nJ ds)).bind λk=>.ok (gB ak k)
  |_=>.no
 | .df ak=>match k with
  |.tup ds=>(dA (nJ ds)).bind λk=>.ok (gB ak k)
  |_=>.no
 |_=>.no
def putK{κ:Type}[DecidableEq κ](k:κ)(v:D)(ak:List (κ×D)):List (κ×D):=if(ak.any λkv=>decide (kv.1=k))=true then ak.map (λkv=>if kv.1=k then(kv.1,v)else kv)else ak++[(k,v)]
def oy(w:W)(k v:D):Rs W:=match w with
 |.dk ak=>be (ak.length<16777216) ((dA (l5 k)).bind λk=>.ok (.dk (putK k v ak)))
 | .dt ak=>match k with
  |.tup ds=>be (ak.length<16777216) ((dA (nJ ds)).bind λk=>.ok (.dt (putK k v ak)))
  |_=>.no
 |_=>.no
def lF(i:Nat)(k:E):E:=λe=>(k e).bind λd=>(wV i e).bind λw=>(pf w d).bind λo=>.ok (.bl o.isSome)
def fK(i:Nat)(k:E):E:=λe=>(k e).bind λd=>(wV i e).bind λw=>(pf w d).bind λo=>.ok (.bl (!o.isSome))
def ku(i:Nat)(k:E):E:=λe=>(k e).bind λd=>(wV i e).bind λw=>(pf w d).bind dA
def da(i:Nat)(k v:E):S:=λe=>(v e).bind λx=>(k e).bind λd=>(wV i e).bind λw=>(oy w d x).bind λw'=>.ok (.nx (e.set i (aa w')))
def iU:Out->Rs W
 |.rt w=>.ok w
 |.nx _=>.ok (.d .non)
 |_=>.no
def dc(k n:Nat)(body:S):Fn:=λws=>be (ws.length=k) ((body (ws.map aa++cH (n-ws.length) ab)).bind iU)
def iV:Out->Rs W
 |.rt w=>.ok w
 |_=>.no
def eS(k n:Nat)(body:S):Fn:=λws=>be (ws.length=k) ((body (ws.map aa++cH (n-ws.length) ab)).bind iV)
def ED:Fn:=λ_=>.no
def k7(i j:Int):Prop:=(-(2 ^ 64)<i/\i<2 ^ 64)\/(-(2 ^ 64)<j/\j<2 ^ 64)
instance (i j:Int):Decidable (k7 i j):=inferInstanceAs (Decidable (_\/_))
def lf(j:Int):Prop:=0<j/\j.natAbs.log2<9000
instance (j:Int):Decidable (lf j):=inferInstanceAs (Decidable (_/\_))
def Jh(i j:Int):Prop:=0<=j/\j<=1000000/\i.natAbs<2 ^ 64
instance (i j:Int):Decidable (Jh i j):=inferInstanceAs (Decidable (_/\_))
def aY:D->D->Rs D
 |.int i,.int j=>.ok (.int (i+j))
 |.str i,.str j=>be (i.length+j.length<=16777216) (.ok (.str (i++j)))
 |.lst i,.lst j=>be (i.length+j.length<=16777216) (.ok (.lst (i++j)))
 |_,_=>.no
def kZ:D->D->Rs D
 |.int i,.int j=>.ok (.int (i-j))
 |_,_=>.no
def bY:D->D->Rs D
 |.int i,.int j=>be (k7 i j) (.ok (.int (i*j)))
 |_,_=>.no
def cW:D->D->Rs D
 |.int i,.int j=>be (lf j) (.ok (.int (i/j)))
 |_,_=>.no
def bI:D->D->Rs D
 |.int i,.int j=>be (0<j) (.ok (.int (i%j)))
 |_,_=>.no
def fV:D->D->Rs D
 |.int i,.int j=>.ok (.bl (decide (i<j)))
 |.str i,.str j=>.ok (.bl (decide (i.cps.toList<j.cps.toList)))
 |_,_=>.no
def nF:D->D->Rs D
 |.int i,.int j=>.ok (.bl (decide (j<i)))
 |.str i,.str j=>.ok (.bl (decide (j.cps.toList<i.cps.toList)))
 |_,_=>.no
def oY:D->D->Rs D
 |.int i,.int j=>.ok (.bl (decide (i<=j)))
 |_,_=>.no
def b9(x y:D):Rs D:=be (x.dep<=16) (.ok (.bl (bF x y)))
def fQ(x y:D):Rs D:=be (x.dep<=16) (.ok (.bl (!bF x y)))
def eR(x y:D):Rs D:=match y with
 |.lst ds=>be (dw ds<=16) (.ok (.bl (ds.any λe=>bF e x)))
 |.tup ds=>be (dw ds<=16) (.ok (.bl (ds.any λe=>bF e x)))
 | .str z=>match x with
  |.str s=>be (s.length=1) (.ok (.bl (decide (s.cps.getD 0 0∈z.cps.toList))))
  |_=>.no
 |_=>.no
def dH(x y:D):Rs D:=match y with
 |.lst ds=>be (dw ds<=16) (.ok (.bl (!ds.any λe=>bF e x)))
 |.tup ds=>be (dw ds<=16) (.ok (.bl (!ds.any λe=>bF e x)))
 |_=>.no
def bd(x y:D):Rs D:=match x,y with
 |.lst ds,.int i=>dA (dO ds i)
 |.tup ds,.int i=>dA (dO ds i)
 |.str z,.int i=>be (z.length<=16777216) ((dA (dO z.cps.toList i)).bind λc=>.ok (.str ⟨#[c]⟩))
 |_,_=>.no
def d3:List D->Rs D
 |[.lst ds]=>.ok (.int ds.length)
 |[.tup ds]=>.ok (.int ds.length)
 |[.str z]=>be (z.length<=16777216) (.ok (.int z.length))
 |_=>.no
def iu:List D->Rs D
 |[.int i,.int j]=>.ok (.int (max i j))
 |_=>.no
def lK:List D->Rs D
 |[.int i,.int j]=>.ok (.int (min i j))
 |_=>.no
def jz:List D->Option (List Bool)
 |[]=>aa []
 |.bl b::r=>(jz r).map (b :: ·)
 |_=>ab
def v6:List D->Rs D
 |[.lst ds]=>(dA (jz ds)).bind λbs=>.ok (.bl (bs.all id))
 |_=>.no
def yI:List D->Rs D
 |[.lst ds]=>(dA (jz ds)).bind λbs=>.ok (.bl (bs.any id))
 |_=>.no
def d9:List D->Rs D
 |[.lst ds]=>.ok (.lst ds)
 |[.tup ds]=>.ok (.lst ds)
 |_=>.no
def ki:List D->Rs D
 |[.lst ds]=>.ok (.tup ds)
 |[.tup ds]=>.ok (.tup ds)
 |_=>.no
def oM(t:String):D->Bool
 |.non=>false
 |.bl _=>t == "bool" || t == "int"
 |.int _=>t == "int"
 |.str _=>t == "str"
 |.lst _=>t == "list"
 |.tup _=>t == "tuple"
def xO:D->String
 |.non => "NoneType" | .bl _ => "bool" | .int _ => "int" | .str _ => "str" | .lst _ => "list" | .tup _ => "tuple"
def ee(ts:List String)(x:D):Rs D:=.ok (.bl (ts.any λt=>oM t x))
def lj:List D->Option (List Str)
 |[]=>aa []
 |.str b::r=>(lj r).map (b :: ·)
 |_=>ab
def tT(x y:D):Rs D:=match x,y with
 |.str sep,.lst ds=>(dA (lj ds)).bind λys=>be ((ys.map (·.length)).sum+ys.length*sep.length<=16777216) (.ok (.str (jj sep ys)))
 |_,_=>.no
def met(val:Nat->Str):Nat->List Str
 |0=>[]
 |i+1=>if val i∈met val i then met val i else met val i++[val i]
end Mi
namespace L2
open PySem PySem.Spec PyProof.Rows
open Mi (D dw bF gR)
mutual
theorem yr:∀d:D,bF d d=true
 |.non=>rfl
 |.bl b=>by simp[bF]
 |.int i=>by simp[bF]
 |.str x=>by simp[bF]
 |.lst ds=>by rw[bF];exact yq ds
 |.tup ds=>by rw[bF];exact yq ds
theorem yq:∀ds:List D,gR ds ds=true
 |[]=>rfl
 |d::r=>by rw[gR,yr d,yq r];rfl
end
theorem rJ:∀{ds es:List D},ds.length≠es.length->gR ds es=false
 |[],[],h=>absurd rfl h
 |[],_::_,_=>rfl
 |_::_,[],_=>rfl
 |d::r,e::s,h=>by rw[gR,rJ (λz=>h (by rw[cR,cR,z])),vq]
theorem rg:∀{ds es:List D},ds.length=es.length->gR ds es=(bQ ds.length).all λj=>bF (ds.getD j .non) (es.getD j .non)
 |[],[],_=>rfl
 |[],_::_,h=>by simp at h
 |_::_,[],h=>by simp at h
 |d::r,e::s,h=>by
  rw[gR,rg (by simpa using h),cR,yR,List.all_cons,List.all_map];rfl
mutual
/-- the value v in the heap H is the tree d -/
def Rep(K:aG)(H:Hp):D->V->Prop
 |.non,v=>v=.non
 |.bl b,v=>v=.bl b
 |.int i,v=>v=.int i
 |.str x,v=>v=.str x
 |.lst ds,v=>∃a xs,v=.ref a/\d6 K H a xs/\bj K H ds xs
 |.tup ds,v=>∃a xs,v=.ref a/\eK K H a xs/\bj K H ds xs
def bj(K:aG)(H:Hp):List D->List V->Prop
 |[],vs=>vs=[]
 |d::ds,vs=>∃v r,vs=v::r/\Rep K H d v/\bj K H ds r
end
theorem bj.length{K:aG}{H:Hp}:∀{ds:List D} {vs:List V},bj K H ds vs->ds.length=vs.length
 |[],vs,h=>by rw[bj]at h;subst h;rfl
 |d::ds,vs,h=>by
  rw[bj]at h;obtain⟨v,r,rfl,_,q⟩:=h;rw[cR,cR,bj.length q]
theorem bj.get{K:aG}{H:Hp}:∀{ds:List D} {vs:List V} {j:Nat} {v:V},bj K H ds vs->vs[j]? = aa v->Rep K H (ds.getD j .non) v
 |[],vs,j,v,h,e=>by rw[bj]at h;subst h;simp at e
 |d::ds,vs,0,v,h,e=>by
  rw[bj]at h;obtain⟨v',r,rfl,p,q⟩:=h;simp at e;subst e;exact p
 |d::ds,vs,j+1,v,h,e=>by
  rw[bj]at h;obtain⟨v',r,rfl,p,q⟩:=h;have:=bj.get (j:=j) (v:=v) q (by simpa using e);simpa using this
section
variable{X:Cx}{ae:List (ah×Obj)}{σ:St}{H:Hp}{s:ap}
theorem Inv.DT(I:Inv X ae σ H s){a:ah}{xs ys:List V}(h:d6 X.K H a xs)(h':eK X.K H a ys):False:=by obtain⟨am,_,p,_⟩:=I.list h;obtain⟨its',_,q,_⟩:=I.tuple h';obtain⟨o,n,e,c,_⟩:=p;obtain⟨o',e',c',_⟩:=q;rw[e]at e';cases e';rw[c]at c';exact absurd (Value.type.inj c') (by decide)
mutual
theorem Rep.inj(I:Inv X ae σ H s):∀{d e:D} {v:V},Rep X.K H d v->Rep X.K H e v->d=e
 |.non,e,v,h,h'=>by
  rw[Rep]at h;subst h;cases e<;>rw[Rep]at h'<;>first|rfl|(obtain⟨_,_,z,_⟩:=h';cases z)|cases h'
 |.bl b,e,v,h,h'=>by
  rw[Rep]at h;subst h;cases e<;>rw[Rep]at h'<;>first|(obtain⟨_,_,z,_⟩:=h';cases z)|(cases h';rfl)|cases h'
 |.int b,e,v,h,h'=>by
  rw[Rep]at h;subst h;cases e<;>rw[Rep]at h'<;>first|(obtain⟨_,_,z,_⟩:=h';cases z)|(cases h';rfl)|cases h'
 |.str b,e,v,h,h'=>by
  rw[Rep]at h;subst h;cases e<;>rw[Rep]at h'<;>first|(obtain⟨_,_,z,_⟩:=h';cases z)|(cases h';rfl)|cases h'
 |.lst ds,e,v,h,h'=>by
  rw[Rep]at h;obtain⟨a,xs,rfl,q,r⟩:=h;cases e with
  |lst es=>
   rw[Rep]at h';obtain⟨a',xs',z,q',r'⟩:=h';cases z;rw[I.wL q' q]at r';rw[bj.inj I r r']
  |tup es=>
   rw[Rep]at h';obtain⟨a',xs',z,q',r'⟩:=h';cases z;exact(I.DT q q').elim
  |_=>rw[Rep]at h';cases h'
 |.tup ds,e,v,h,h'=>by
  rw[Rep]at h;obtain⟨a,xs,rfl,q,r⟩:=h;cases e with
  |tup es=>
   rw[Rep]at h';obtain⟨a',xs',z,q',r'⟩:=h';cases z;rw[I.vN q' q]at r';rw[bj.inj I r r']
  |lst es=>
   rw[Rep]at h';obtain⟨a',xs',z,q',r'⟩:=h';cases z;exact(I.DT q' q).elim
  |_=>rw[Rep]at h';cases h'
theorem bj.inj(I:Inv X ae σ H s):∀{ds es:List D} {vs:List V},bj X.K H ds vs->bj X.K H es vs->ds=es
 |[],es,vs,h,h'=>by
  rw[bj]at h;subst h;cases es with
  |nil=>rfl
  |cons e es=>rw[bj]at h';obtain⟨_,_,z,_⟩:=h';cases z
 |d::ds,es,vs,h,h'=>by
  rw[bj]at h;obtain⟨v,r,rfl,p,q⟩:=h;cases es with
  |nil=>rw[bj]at h';cases h'
  |cons e es=>
   rw[bj]at h';obtain⟨v',r',z,p',q'⟩:=h';cases z;rw[Rep.inj I p p',bj.inj I q q']
end
theorem wY:∀{ds:List D} {j:Nat},(ds.getD j .non).dep<=dw ds
 |[],j=>by simp[D.dep]
 |d::ds,0=>by simp[dw];omega
 |d::ds,j+1=>by
  have:=wY (ds:=ds) (j:=j);have e:(d::ds).getD (j+1) .non=ds.getD j .non:=by simp
  rw[e,dw];omega
def _root_.Mi.D.flat:D->Bool
 |.lst _=>false
 |.tup _=>false
 |_=>true
def _root_.Mi.D.toV:D->V
 |.non=>.non|.bl b=>.bl b|.int i=>.int i|.str x=>.str x|.lst _=>.non|.tup _=>.non
theorem Rep.flat{K:aG}:∀{d:D} {v:V},d.flat=true->Rep K H d v->v=d.toV/\yy v=true
 |.non,v,_,h=>by rw[Rep]at h;subst h;exact⟨rfl,rfl⟩
 |.bl b,v,_,h=>by rw[Rep]at h;subst h;exact⟨rfl,rfl⟩
 |.int b,v,_,h=>by rw[Rep]at h;subst h;exact⟨rfl,rfl⟩
 |.str b,v,_,h=>by rw[Rep]at h;subst h;exact⟨rfl,rfl⟩
 |.lst _,v,z,h=>by cases z
 |.tup _,v,z,h=>by cases z
theorem N0:∀{d e:D},d.flat=true->e.flat=true->bF d e=AN d.toV e.toV:=by intro d e h1 h2;cases d<;>cases e<;>first|rfl|exact absurd (show false=true from h1) du|exact absurd (show false=true from h2) du
open SeqAt in
theorem Cj(I:Inv X ae σ H s):∀(n:Nat) (d e:D) (A:bK) {x y:V} {u u':ai},d.dep<=n->A.units+n<cLine->Rep X.K H d x->Rep X.K H e y->RelV x u->RelV y u'->EqAt A s u u' (bF d e):=by
 intro n
 induction n using Nat.strongRecOn with
 |ind n ih=>
  intro d e A x y u u' hd hu h h' r r';have hu0:A.units<cLine:=by omega
  by_cases hdf:d.flat=true
  ·obtain⟨ex,fx⟩:=h.flat hdf;subst ex;by_cases hef:e.flat=true
   ·obtain⟨ey,fy⟩:=h'.flat hef;subst ey;rw[N0 hdf hef];exact OF r r' fx fy
   ·cases e with
    |lst es=>
     rw[Rep]at h';obtain⟨a,xs,rfl,q,_⟩:=h';cases r';obtain⟨am,_,p,_⟩:=I.list q;cases d with
     |non=>cases r;exact EqAt.none_list p.isList hu0
     |bl b=>cases r;exact EqAt.bool_list b p.isList hu0
     |int b=>obtain⟨t,rfl⟩:=r;exact EqAt.int_list b t p.isList hu0
     |str b=>obtain⟨t,rfl⟩:=r;exact EqAt.str_list b t p.isList hu0
     |_=>cases hdf
    |tup es=>
     rw[Rep]at h';obtain⟨a,xs,rfl,q,_⟩:=h';cases r';obtain⟨am,_,p,_⟩:=I.tuple q;cases d with
     |non=>cases r;exact EqAt.none_tuple p hu0
     |bl b=>cases r;exact EqAt.bool_tuple b p hu0
     |int b=>obtain⟨t,rfl⟩:=r;exact EqAt.int_tuple b t p hu0
     |str b=>obtain⟨t,rfl⟩:=r;exact EqAt.str_tuple b t p hu0
     |_=>cases hdf
    |_=>exact absurd rfl hef
  ·by_cases hef:e.flat=true
   ·obtain⟨ey,fy⟩:=h'.flat hef;subst ey;cases d with
    |lst ds=>
     rw[Rep]at h;obtain⟨a,xs,rfl,q,_⟩:=h;cases r;obtain⟨am,_,p,_⟩:=I.list q;cases e with
     |non=>cases r';exact EqAt.list_none p.isList hu0
     |bl b=>cases r';exact EqAt.list_bool b p.isList hu0
     |int b=>obtain⟨t,rfl⟩:=r';exact EqAt.list_int b t p.isList hu0
     |str b=>obtain⟨t,rfl⟩:=r';exact EqAt.list_str b t p.isList hu0
     |_=>cases hef
    |tup ds=>
     rw[Rep]at h;obtain⟨a,xs,rfl,q,_⟩:=h;cases r;obtain⟨am,_,p,_⟩:=I.tuple q;cases e with
     |non=>cases r';exact EqAt.tuple_none p hu0
     |bl b=>cases r';exact EqAt.tuple_bool b p hu0
     |int b=>obtain⟨t,rfl⟩:=r';exact EqAt.tuple_int b t p hu0
     |str b=>obtain⟨t,rfl⟩:=r';exact EqAt.tuple_str b t p hu0
     |_=>cases hef
    |_=>exact absurd rfl hdf
   ·-- both are lists or tuples
    have item:∀{ds es:List D} {xs ys:List V} {am its':List ai},dw ds+1<=n->bj X.K H ds xs->bj X.K H es ys->Vals xs am->Vals ys its' ->
     ∀j (h1:j<am.toArray.size) (h2:j<its'.toArray.size),EqAt A.in1 s am.toArray[j] its'.toArray[j] (bF (ds.getD j .non) (es.getD j .non)):=by
     intro ds es xs ys am its' hn q q' v v' j h1 h2;have h1':j<am.length:=by simpa using h1
     have h2':j<its'.length:=by simpa using h2
     have e1:j<xs.length:=by rw[v.length];exact h1'
     have e2:j<ys.length:=by rw[v'.length];exact h2'
     have g1:xs[j]? = aa xs[j]:=by simp[e1]
     have g2:ys[j]? = aa ys[j]:=by simp[e2]
     obtain⟨w1,k1,r1⟩:=v.get g1;obtain⟨w2,k2,r2⟩:=v'.get g2;have t1:am.toArray[j]=w1:=by obtain⟨_,k1⟩:=cv.mp k1;simpa using k1
     have t2:its'.toArray[j]=w2:=by obtain⟨_,k2⟩:=cv.mp k2;simpa using k2
     rw[t1,t2];have:=wY (ds:=ds) (j:=j);refine ih (n-1) (by omega) _ _ A.in1 (by omega) ?_ (q.get g1) (q'.get g2) r1 r2;show A.units+1+(n-1)<cLine;omega
    cases d with
    |lst ds=>
     rw[Rep]at h;obtain⟨a,xs,rfl,q,rr⟩:=h;cases r;obtain⟨am,v,p,_⟩:=I.list q;have hn:dw ds+1<=n:=by simpa [D.dep]using hd
     cases e with
     |lst es=>
      rw[Rep]at h';obtain⟨b,ys,rfl,q',rr'⟩:=h';cases r';obtain⟨its',v',p',_⟩:=I.list q';by_cases hab:a=b
      ·subst hab;rw[I.wL q' q]at rr';rw[bj.inj I rr rr',yr];exact EqAt.same _
      ·have l1:=rr.length;have l2:=rr'.length;have l3:=v.length;have l4:=v'.length;by_cases hl:ds.length=es.length
       ·rw[bF,rg hl];have:=RcAt.lists p.isList p'.isList (by simp;omega) hu0 (item hn rr rr' v v');have e:am.toArray.size=ds.length:=by simp;omega
        rw[e]at this;exact .of_refs hab this
       ·rw[bF,rJ hl];exact .of_refs hab (RcAt.lists_lengths p.isList p'.isList (by simp;omega) hu0)
     |tup es=>
      rw[Rep]at h';obtain⟨b,ys,rfl,q',_⟩:=h';cases r';obtain⟨its',_,p',_⟩:=I.tuple q';exact EqAt.list_tuple p.isList p' hu0
     |_=>exact absurd rfl hef
    |tup ds=>
     rw[Rep]at h;obtain⟨a,xs,rfl,q,rr⟩:=h;cases r;obtain⟨am,v,p,_⟩:=I.tuple q;have hn:dw ds+1<=n:=by simpa [D.dep]using hd
     cases e with
     |tup es=>
      rw[Rep]at h';obtain⟨b,ys,rfl,q',rr'⟩:=h';cases r';obtain⟨its',v',p',_⟩:=I.tuple q';by_cases hab:a=b
      ·subst hab;rw[I.vN q' q]at rr';rw[bj.inj I rr rr',yr];exact EqAt.same _
      ·have l1:=rr.length;have l2:=rr'.length;have l3:=v.length;have l4:=v'.length;have R:=RcAt.tuples p p' hu0 (item hn rr rr' v v');have e1:am.toArray.size=ds.length:=by simp;omega
       have e2:its'.toArray.size=es.length:=by simp;omega
       rw[e1,e2]at R;by_cases hl:ds.length=es.length
       ·rw[bF,rg hl];rw[hl,Nat.min_self,qG,Bool.and_true,<- hl]at R;exact .of_refs hab R
       ·rw[bF,rJ hl];have:(ds.length==es.length)=false:=by simpa using hl
        rw[this,vq]at R;exact .of_refs hab R
     |lst es=>
      rw[Rep]at h';obtain⟨b,ys,rfl,q',_⟩:=h';cases r';obtain⟨its',_,p',_⟩:=I.list q';exact EqAt.tuple_list p p'.isList hu0
     |_=>exact absurd rfl hef
    |_=>exact absurd rfl hdf
def uy(K:aG)(neg:Bool):R2:=λx y H Q=>∃(p:ah) (xs:List V) (d:D) (ds:List D),y=.ref p/\(d6 K H p xs\/eK K H p xs)/\Rep K H d x/\bj K H ds xs/\dw ds<=16 /\
 Q (.bl (if neg then !ds.any (λe=>bF e d)else ds.any (λe=>bF e d))) H
theorem bj.main{K:aG}:∀{ds:List D} {xs:List V} {us:List ai},bj K H ds xs->Vals xs us->∀u∈us,∃b∈ds,∃y,Rep K H b y/\RelV y u
 |[],xs,us,hr,hv,u,hu=>by
  rw[bj]at hr;subst hr;cases hv;cases hu
 |b::bs,xs,us,hr,hv,u,hu=>by
  rw[bj]at hr;obtain⟨y,r,rfl,p,q⟩:=hr;cases hv with
  |cons ry t=>
   rcases bH.mp hu with rfl|hu
   ·exact⟨b,dj,_,p,ry⟩
   ·obtain⟨b',hb',w⟩:=bj.main q t u hu;exact⟨b',dJ _ hb',w⟩
theorem bj.any{K:aG}{e:ai->Bool}{f:D->Bool}(key:∀b y u,Rep K H b y->RelV y u->e u=f b):∀{ds:List D} {xs:List V} {us:List ai},bj K H ds xs->Vals xs us->us.any e=ds.any f
 |[],xs,us,hr,hv=>by
  rw[bj]at hr;subst hr;cases hv;rfl
 |b::bs,xs,us,hr,hv=>by
  rw[bj]at hr;obtain⟨y,r,rfl,p,q⟩:=hr;cases hv with
  |cons ry t=>rw[iF,iF,key b y _ p ry,bj.any key q t]
theorem DE:∀{ds:List D} {b:D},b∈ds->b.dep<=dw ds
 |d::ds,b,h=>by
  rw[dw];rcases bH.mp h with rfl|h
  ·omega
  ·have:=DE h;omega
open Classical in
theorem tu(I:Inv X ae σ H s){A:bK}(hu:A.units+16<cLine){d:D}{x:V}{v:ai}(hx:Rep X.K H d x)(rx:RelV x v){ds:List D}{xs:List V}{us:List ai}(hd:dw ds<=16)(hr:bj X.K H ds xs)(hv:Vals xs us) :
 ∃e:ai->Bool,(∀u∈us,SeqAt.EqAt A s u v (e u))/\us.any e=ds.any (λb=>bF b d):=by
 have key:∀b y u,Rep X.K H b y->RelV y u->(λu=>decide (∃b y,Rep X.K H b y/\RelV y u/\bF b d=true)) u=bF b d:=by
  intro b y u hb hy;cases hp:bF b d with
  |true=>exact bV ⟨b,y,hb,hy,hp⟩
  |false=>
   refine cE ?_;rintro⟨b',y',hb',hy',hp'⟩;have:=hy.inj hy';subst this;rw[Rep.inj I hb hb',hp']at hp;cases hp
 refine⟨λu=>decide (∃b y,Rep X.K H b y/\RelV y u/\bF b d=true),λu hu'=>?_,bj.any key hr hv⟩;obtain⟨b,hb,y,rb,ry⟩:=bj.main hr hv u hu';rw[key b y u rb ry];exact Cj I 16 b d A (dr (DE hb) hd) hu rb hx ry rx
theorem Ln(hu:X.A.units+64<cLine):c7 X (compareOp .In) (uy X.K false):=by
 intro ae s σ H x y v u Q I rx ry h;obtain⟨p,xs,d,ds,rfl,hq,hx,hr,hd,q⟩:=h;cases ry;have hu1:X.A.in1.units+16<cLine:=by show X.A.units+1+16<cLine;omega
 rcases hq with hq|hq
 ·obtain⟨am,r,pl,hz⟩:=I.list hq;obtain⟨e,he,ea⟩:=tu I hu1 hx rx hd hr r;refine SeqAt.in_listAt e pl.isList (λw hw=>he w (by simpa using hw)) ⟨.bl _,H,I,rfl,?_⟩;rw[show am.toArray.any e=am.any e by simp,ea];exact q
 ·obtain⟨am,r,pl,hz⟩:=I.tuple hq;obtain⟨e,he,ea⟩:=tu I hu1 hx rx hd hr r;refine SeqAt.in_tupleAt e pl (λw hw=>he w (by simpa using hw)) ⟨.bl _,H,I,rfl,?_⟩;rw[show am.toArray.any e=am.any e by simp,ea];exact q
theorem jP(hu:X.A.units+64<cLine):c7 X (compareOp .NotIn) (uy X.K true):=by
 intro ae s σ H x y v u Q I rx ry h;obtain⟨p,xs,d,ds,rfl,hq,hx,hr,hd,q⟩:=h;cases ry;have hu1:X.A.in1.units+16<cLine:=by show X.A.units+1+16<cLine;omega
 rcases hq with hq|hq
 ·obtain⟨am,r,pl,hz⟩:=I.list hq;obtain⟨e,he,ea⟩:=tu I hu1 hx rx hd hr r;refine SeqAt.notIn_listAt e pl.isList (λw hw=>he w (by simpa using hw)) ⟨.bl _,H,I,rfl,?_⟩;rw[show am.toArray.any e=am.any e by simp,ea];exact q
 ·obtain⟨am,r,pl,hz⟩:=I.tuple hq;obtain⟨e,he,ea⟩:=tu I hu1 hx rx hd hr r;refine SeqAt.notIn_tupleAt e pl (λw hw=>he w (by simpa using hw)) ⟨.bl _,H,I,rfl,?_⟩;rw[show am.toArray.any e=am.any e by simp,ea];exact q
end
end L2
namespace L2
open PySem PySem.Spec PyProof.Rows
theorem qE{H:Hp}{p:ah}{o:HO}(hp:H p=ab):ca H (upd H p o):=λb u e=>by rw[aE (cG e hp)];exact e
theorem FD:∀{ys:List Str} {us:List ai},Vals (ys.map V.str) us->StrsAre us ys
 |[],_,.nil=>.nil
 |y::ys,_,.cons r t=>by
  obtain⟨tk,rfl⟩:=(show∃tk,_=mK y tk from r);exact .cons y tk (FD t)
section
variable{X:Cx}
def rJoin(K:aG):V->List V->Hp->VK->Prop:=λx vs H Q=>∃(sep:Str) (p:ah) (ys:List Str),x=.str sep/\vs=[.ref p]/\d6 K H p (ys.map V.str)/\(ys.map (·.length)).sum+ys.length*sep.length<=16777216/\Q (.str (jj sep ys)) H
theorem Ef:xj X "str.join" (rJoin X.K):=by intro ae s σ H x vs v us Q I rx rv h;obtain⟨sep,p,ys,rfl,rfl,hq,hz,q⟩:=h;obtain⟨t,rfl⟩:=rx;obtain⟨u,rfl,ru⟩:=rv.one;cases ru;obtain⟨am,r,pl,_⟩:=I.list hq;refine join_list pl.isList (by simpa using FD r) hz λt' k=>⟨.str (jj sep ys),H,I.tok k,⟨t',?_⟩,q⟩;show mK (Builtin.Str.glued sep ys) t'=_;rw[StrLaws.glued_eq_join]
def A6(i j:Int):Prop:=0<j/\j.natAbs.log2<9000
theorem jx:c7 X (binaryOp .FloorDiv) (rI A6 λi j=>.int (i/j)):=yw λi j _ _ _ _ _ hc q=>by
 refine floordiv_int (by have:=hc.1;omega) ?_ (.inl (PyProof.noPylong_of_log2 hc.2));rw[Int.fdiv_eq_ediv_of_nonneg i (by have:=hc.1;omega)];exact q
theorem Lw(hc:X.calm=true):f8 X (.builtin "max") (λxs H Q=>∃i j z,xs=[.int i,.int j]/\max i j=z/\Q (.int z) H):=by intro ae s σ H xs us Q I r ⟨i,j,z,e1,e2,q⟩;subst e2;refine HV hc ae s σ H xs us Q I r ⟨i,j,e1,?_⟩;rw[show(if j>i then j else i)=max i j by split<;>omega];exact q
theorem NN(hc:X.calm=true):f8 X (.builtin "min") (λxs H Q=>∃i j z,xs=[.int i,.int j]/\min i j=z/\Q (.int z) H):=by intro ae s σ H xs us Q I r ⟨i,j,z,e1,e2,q⟩;subst e2;refine NQ hc ae s σ H xs us Q I r ⟨i,j,e1,?_⟩;rw[show(if j<i then j else i)=min i j by split<;>omega];exact q
end
end L2
namespace A
open PySem L2 PyProof.Rows
open Mi (D W Rs Fin au)
inductive P2{α β:Type}(F:α->β->Prop):List α->List β->Prop
 |nil:P2 F [] []
 |cons {a b l m}:F a b->P2 F l m->P2 F (a::l) (b::m)
section
variable{α β:Type}{F G:α->β->Prop}
theorem P2.imp(h:∀a b,F a b->G a b):∀{l m},P2 F l m->P2 G l m
 |_,_,.nil=>.nil
 |_,_,.cons x t=>.cons (h _ _ x) (t.imp h)
theorem P2.len:∀{l m},P2 F l m->l.length=m.length
 |_,_,.nil=>rfl
 |_,_,.cons _ t=>by rw[cR,cR,t.len]
theorem P2.append:∀{l m l' m'},P2 F l m->P2 F l' m'->P2 F (l++l') (m++m')
 |_,_,_,_,.nil,s=>s
 |_,_,_,_,.cons x t,s=>.cons x (t.append s)
theorem P2.get:∀{l m} {i:Nat} {a b},P2 F l m->l[i]? = aa a->m[i]? = aa b->F a b
 |_,_,_,_,_,.nil,e,_=>by simp at e
 |_,_,0,_,_,.cons x _,e,e'=>by simp at e e';subst e e';exact x
 |_,_,i+1,a,b,.cons _ t,e,e'=>t.get (i:=i) (by simpa using e) (by simpa using e')
theorem P2.getL{l m}{i:Nat}{a}(t:P2 F l m)(e:l[i]? = aa a):∃b,m[i]? = aa b/\F a b:=by
 have h:i<m.length:=by rw[<- t.len];exact(cv.mp e).1
 exact⟨m[i],by simp[h],t.get e (by simp[h])⟩
theorem P2.xI{l m}{i:Nat}{b}(t:P2 F l m)(e:m[i]? = aa b):∃a,l[i]? = aa a/\F a b:=by
 have h:i<l.length:=by rw[t.len];exact(cv.mp e).1
 exact⟨l[i],by simp[h],t.get (by simp[h]) e⟩
theorem P2.take:∀{l m} (n:Nat),P2 F l m->P2 F (l.take n) (m.take n)
 |_,_,0,_=>.nil
 |_,_,_+1,.nil=>.nil
 |_,_,n+1,.cons x t=>.cons x (t.take n)
theorem P2.drop:∀{l m} (n:Nat),P2 F l m->P2 F (l.drop n) (m.drop n)
 |_,_,0,t=>t
 |_,_,_+1,.nil=>.nil
 |_,_,n+1,.cons _ t=>t.drop n
theorem P2.erase:∀{l m} (n:Nat),P2 F l m->P2 F (l.eraseIdx n) (m.eraseIdx n)
 |_,_,_,.nil=>.nil
 |_,_,0,.cons _ t=>t
 |_,_,n+1,.cons x t=>.cons x (t.erase n)
theorem P2.rev:∀{l m},P2 F l m->P2 F l.reverse m.reverse
 |_,_,.nil=>.nil
 |_,_,.cons x t=>by rw[pI,pI];exact t.rev.append (.cons x .nil)
theorem P2.dropLast:∀{l m},P2 F l m->P2 F l.dropLast m.dropLast
 |_,_,.nil=>.nil
 |_,_,.cons x .nil=>.nil
 |_,_,.cons x (.cons y t)=>.cons x (P2.dropLast (.cons y t))
end
def Lst(H:Hp)(a:ah)(xs:List V):Prop:=H a=aa (.lst xs)\/∃o,H a=aa (.frz o (.lst xs))
mutual
def Rep(H:Hp):D->V->Prop
 |.non,v=>v=.non
 |.bl b,v=>v=.bl b
 |.int i,v=>v=.int i
 |.str x,v=>v=.str x
 |.lst ds,v=>∃a xs,v=.ref a/\Lst H a xs/\bj H ds xs
 |.tup ds,v=>∃a xs,v=.ref a/\H a=aa (.tup xs)/\bj H ds xs
def bj(H:Hp):List D->List V->Prop
 |[],vs=>vs=[]
 |d::ds,vs=>∃v r,vs=v::r/\Rep H d v/\bj H ds r
end
theorem mZ{H:Hp}:∀{ds:List D} {vs:List V},bj H ds vs↔P2 (Rep H) ds vs
 |[],vs=>by
  rw[bj];exact⟨λh=>by subst h;exact .nil,λh=>by cases h;rfl⟩
 |d::ds,vs=>by
  rw[bj];constructor
  ·rintro⟨v,r,rfl,p,q⟩;exact .cons p (mZ.mp q)
  ·intro h;cases h with
   |cons p q=>exact⟨_,_,rfl,p,mZ.mpr q⟩
@[simp] theorem CH {H:Hp} {v:V}:Rep H .non v↔v=.non:=by rw[Rep]
@[simp] theorem og {H:Hp} {v:V} {b:Bool}:Rep H (.bl b) v↔v=.bl b:=by rw[Rep]
@[simp] theorem rh {H:Hp} {v:V} {b:Int}:Rep H (.int b) v↔v=.int b:=by rw[Rep]
@[simp] theorem mX {H:Hp} {v:V} {b:Str}:Rep H (.str b) v↔v=.str b:=by rw[Rep]
theorem i3{H:Hp}{v:V}{ds:List D}:Rep H (.lst ds) v↔∃a xs,v=.ref a/\Lst H a xs/\P2 (Rep H) ds xs:=by rw[Rep];exact⟨λ⟨a,xs,e,l,r⟩=>⟨a,xs,e,l,mZ.mp r⟩,λ⟨a,xs,e,l,r⟩=>⟨a,xs,e,l,mZ.mpr r⟩⟩
theorem i8{H:Hp}{v:V}{ds:List D}:Rep H (.tup ds) v↔∃a xs,v=.ref a/\H a=aa (.tup xs)/\P2 (Rep H) ds xs:=by rw[Rep];exact⟨λ⟨a,xs,e,l,r⟩=>⟨a,xs,e,l,mZ.mp r⟩,λ⟨a,xs,e,l,r⟩=>⟨a,xs,e,l,mZ.mpr r⟩⟩
theorem Lst.same{H H':Hp}{a:ah}{xs:List V}(s:ca H H')(h:Lst H a xs):Lst H' a xs:=by
 rcases h with h|⟨o,h⟩
 ·exact .inl (s _ _ h)
 ·exact .inr ⟨o,s _ _ h⟩
theorem Lst.sq{K:aG}{H:Hp}{a:ah}{xs:List V}(h:Lst H a xs):d6 K H a xs:=.inl h
mutual
theorem jr{H H':Hp}(s:ca H H'):∀{d:D} {v:V},Rep H d v->Rep H' d v
 |.non,v,h=>by rw[Rep]at h ⊢;exact h
 |.bl b,v,h=>by rw[Rep]at h ⊢;exact h
 |.int i,v,h=>by rw[Rep]at h ⊢;exact h
 |.str x,v,h=>by rw[Rep]at h ⊢;exact h
 |.lst ds,v,h=>by
  rw[Rep]at h ⊢;obtain⟨a,xs,e,q,r⟩:=h;exact⟨a,xs,e,q.same s,xV s r⟩
 |.tup ds,v,h=>by
  rw[Rep]at h ⊢;obtain⟨a,xs,e,q,r⟩:=h;exact⟨a,xs,e,s _ _ q,xV s r⟩
theorem xV{H H':Hp}(s:ca H H'):∀{ds:List D} {vs:List V},bj H ds vs->bj H' ds vs
 |[],vs,h=>by rw[bj]at h ⊢;exact h
 |d::ds,vs,h=>by
  rw[bj]at h ⊢;obtain⟨v,r,e,p,q⟩:=h;exact⟨v,r,e,jr s p,xV s q⟩
end
theorem dY{H H':Hp}(s:ca H H'){ds:List D}{vs:List V}(h:P2 (Rep H) ds vs):P2 (Rep H') ds vs:=h.imp λ_ _=>jr s
mutual
theorem kS(K:aG){H:Hp}:∀{d:D} {v:V},Rep H d v->L2.Rep K H d v
 |.non,v,h=>by rw[Rep]at h;rw[L2.Rep];exact h
 |.bl b,v,h=>by rw[Rep]at h;rw[L2.Rep];exact h
 |.int i,v,h=>by rw[Rep]at h;rw[L2.Rep];exact h
 |.str x,v,h=>by rw[Rep]at h;rw[L2.Rep];exact h
 |.lst ds,v,h=>by
  rw[Rep]at h;rw[L2.Rep];obtain⟨a,xs,e,q,r⟩:=h;exact⟨a,xs,e,q.sq,t8 K r⟩
 |.tup ds,v,h=>by
  rw[Rep]at h;rw[L2.Rep];obtain⟨a,xs,e,q,r⟩:=h;exact⟨a,xs,e,.inl (.inl q),t8 K r⟩
theorem t8(K:aG){H:Hp}:∀{ds:List D} {vs:List V},bj H ds vs->L2.bj K H ds vs
 |[],vs,h=>by rw[bj]at h;rw[L2.bj];exact h
 |d::ds,vs,h=>by
  rw[bj]at h;rw[L2.bj];obtain⟨v,r,e,p,q⟩:=h;exact⟨v,r,e,kS K p,t8 K q⟩
end
def NT:HO->Prop
 |.tbl _ _=>False
 |_=>True
def NW:HO->Prop
 |.tbl _ _=>False
 |.frz _ (.lst _)=>False
 |_=>True
theorem NW.nt:∀{o:HO},NW o->NT o:=λ{o} c=>by cases o<;>first|exact c.elim|trivial
structure Old(H H':Hp):Prop where
 nt:∀a o,H a=aa o->NT o->H' a=aa o
 dom:∀a,H' a=ab->H a=ab
 tb:∀a w ps,H a=aa (.tbl w ps)->∃ps',H' a=aa (.tbl w ps')
theorem Old.at{H H':Hp}(s:Old H H'){a:ah}{o:HO}(q:H a=aa o)(n:NT o:=by trivial):H' a=aa o:=s.nt a o q n
theorem Old.free{H H':Hp}(s:Old H H'){a:ah}(h:H' a=ab):H a=ab:=s.dom a h
theorem Old.refl(H:Hp):Old H H:=⟨λ_ _ e _=>e,λ_ e=>e,λ_ _ ps e=>⟨ps,e⟩⟩
theorem Old.trans{H H1 H2:Hp}(a:Old H H1)(b:Old H1 H2):Old H H2:=⟨λx o e n=>b.nt x o (a.nt x o e n) n,λx e=>a.dom x (b.dom x e),λx w ps e=>let ⟨p1,e1⟩:=a.tb x w ps e;b.tb x w p1 e1⟩
theorem Old.of{H H':Hp}(s:ca H H'):Old H H':=⟨λa o e _=>s a o e,λa e=>s.free e,λa w ps e=>⟨ps,s a _ e⟩⟩
theorem Old.tab{H H':Hp}(s:Old H H'){a:ah}{w:Str}{ps:Array ai}{o:HO}(q:H a=aa (.tbl w ps))(n:NT o):¬ H' a=aa o:=λe=>by
 obtain⟨p,z⟩:=s.tb a w ps q;rw[e]at z;cases z;exact n
theorem Old.put{H0 H:Hp}(s:Old H0 H){p:ah}{o u:HO}(h0:H0 p=ab)(h:H p=aa u):Old H0 (upd H p o):=
 ⟨λa v e n=>by rw[aE (cG e h0)];exact s.nt a v e n,λa e=>by
  by_cases hp:a=p
  ·subst hp;exact h0
  ·rw[aE hp]at e;exact s.dom a e,λa w ps e=>by rw[aE (cG e h0)];exact s.tb a w ps e⟩
def gp(c:ah)(q:Str):aK->Prop:=λh=>∃o vs t,h.get? c=aa o/\o.data=.fields vs/\vs[1]? = aa (.str q t)
class bM where
 l:List (ah×Str)
 cl:String->ah
variable[Tb:bM]
structure f9(H:Hp):Prop where
 has:∀p∈Tb.l,∃ps,H p.1=aa (.tbl p.2 ps)
 cd:∀T q ps,H T=aa (.tbl q ps)->pT ps.toList/\∀pos v,codeAmong pos ps.toList=aa v->∃c,v=.ref c/\H c=aa (.ext (gp c q))
 fz:∀a o xs,H a=aa (.frz o (.lst xs))->∀x∈xs,∃i,x=V.int i
theorem f9.new{H:Hp}(k:f9 H){p:ah}{o:HO}(h:H p=ab)(n:NW o):f9 (upd H p o):=⟨λr hr=>let ⟨ps,e⟩:=k.has r hr;⟨ps,by rw[aE (cG e h)];exact e⟩,λT q ps e=>by
 by_cases hp:T=p
 ·subst hp;rw[bp]at e;cases e;exact n.elim
 ·rw[aE hp]at e;obtain⟨t,r⟩:=k.cd T q ps e;refine⟨t,λpos v z=>?_⟩;obtain⟨c,e1,e2⟩:=r pos v z;exact⟨c,e1,by rw[aE (cG e2 h)];exact e2⟩,λa q xs e=>by
 by_cases hp:a=p
 ·subst hp;rw[bp]at e;cases e;exact n.elim
 ·rw[aE hp]at e;exact k.fz a q xs e⟩
def Cell:HO->Prop
 |.lst _=>True
 |.dK _=>True
 |.dT _=>True
 |.ext _=>True
 |_=>False
theorem Cell.nw:∀{o:HO},Cell o->NW o:=λ{o} c=>by cases o<;>first|exact c.elim|trivial
theorem Cell.nt:∀{o:HO},Cell o->NT o:=λ{o} c=>by cases o<;>first|exact c.elim|trivial
def qu:HO->Prop
 |.lst _=>True
 |.dK _=>True
 |.dT _=>True
 |_=>False
theorem qu.cell:∀{o:HO},qu o->Cell o:=λ{o} c=>by cases o<;>first|exact c.elim|trivial
theorem f9.put{H:Hp}(k:f9 H){p:ah}{o u:HO}(h:H p=aa u)(c:qu u)(n:NW o):f9 (upd H p o):=⟨λr hr=>let ⟨ps,e⟩:=k.has r hr;⟨ps,by rw[aE (λy=>by rw[y,h]at e;cases e;exact c.elim)];exact e⟩,λT q ps e=>by
 by_cases hp:T=p
 ·subst hp;rw[bp]at e;cases e;exact n.elim
 ·rw[aE hp]at e;obtain⟨t,r⟩:=k.cd T q ps e;refine⟨t,λpos v z=>?_⟩;obtain⟨x,e1,e2⟩:=r pos v z;refine⟨x,e1,?_⟩;rw[aE (λy=>by subst y;rw[h]at e2;cases e2;exact c.elim)];exact e2,λa q xs e=>by
 by_cases hp:a=p
 ·subst hp;rw[bp]at e;cases e;exact n.elim
 ·rw[aE hp]at e;exact k.fz a q xs e⟩
structure Vw(H Hv:Hp):Prop where
 sub:ca Hv H
 tup:∀a xs,H a=aa (.tup xs)->Hv a=aa (.tup xs)
 frz:∀a o u,H a=aa (.frz o u)->Hv a=aa (.frz o u)
 cd:f9 H
 nv:∀a o,Hv a=aa o->NT o
structure bz(H Hv H' Hv':Hp):Prop where
 old:Old H H'
 vis:ca Hv Hv'
 vw:Vw H' Hv'
 hid:∀a o,H a=aa o->Hv a=ab->Hv' a=ab
theorem bz.refl{H Hv:Hp}(v:Vw H Hv):bz H Hv H Hv:=⟨Old.refl _,ca.refl _,v,λ_ _ _ e=>e⟩
theorem Old.some{H H':Hp}(s:Old H H'){a:ah}{o:HO}(q:H a=aa o):∃o',H' a=aa o':=by
 cases h:H' a with
 |none=>rw[s.dom a h]at q;cases q
 |some o'=>exact⟨o',rfl⟩
theorem bz.trans{H Hv H1 Hv1 H2 Hv2:Hp}(g:bz H Hv H1 Hv1)(k:bz H1 Hv1 H2 Hv2):bz H Hv H2 Hv2:=⟨g.old.trans k.old,g.vis.trans k.vis,k.vw,λa o e n=>let ⟨o',e'⟩:=g.old.some e;k.hid a o' e' (g.hid a o e n)⟩
theorem lR{H Hv:Hp}(v:Vw H Hv){p:ah}(h:H p=ab):Hv p=ab:=v.sub.free h
theorem bz.new{H Hv:Hp}(v:Vw H Hv){p:ah}{o:HO}(h:H p=ab)(nt:NW o:=by trivial):bz H Hv (upd H p o) (upd Hv p o):=by
 refine⟨.of (qE h),qE (lR v h),⟨λb u e=>?_,λb xs e=>?_,λb q u e=>?_,v.cd.new h nt,λb u e=>?_⟩,λb u e n=>?_⟩
 ·by_cases hb:b=p
  ·subst hb;rw[bp]at e ⊢;exact e
  ·rw[aE hb]at e ⊢;exact v.sub b u e
 ·by_cases hb:b=p
  ·subst hb;rw[bp]at e ⊢;exact e
  ·rw[aE hb]at e ⊢;exact v.tup b xs e
 ·by_cases hb:b=p
  ·subst hb;rw[bp]at e ⊢;exact e
  ·rw[aE hb]at e ⊢;exact v.frz b q u e
 ·by_cases hb:b=p
  ·subst hb;rw[bp]at e;cases e;exact nt.nt
  ·rw[aE hb]at e;exact v.nv b u e
 ·rw[aE (cG e h)];exact n
theorem bz.m8{H Hv:Hp}(v:Vw H Hv){p:ah}{o:HO}(c:Cell o)(h:H p=ab):bz H Hv (upd H p o) Hv:=by
 refine⟨.of (qE h),ca.refl _,⟨λb u e=>?_,λb xs e=>?_,λb q u e=>?_,v.cd.new h c.nw,v.nv⟩,λb u e n=>n⟩
 ·rw[aE (cG (v.sub b u e) h)];exact v.sub b u e
 ·by_cases hb:b=p
  ·subst hb;rw[bp]at e;cases e;exact c.elim
  ·rw[aE hb]at e;exact v.tup b xs e
 ·by_cases hb:b=p
  ·subst hb;rw[bp]at e;cases e;exact c.elim
  ·rw[aE hb]at e;exact v.frz b q u e
theorem Vw.show{H Hv:Hp}(v:Vw H Hv){a:ah}{o:HO}(h:H a=aa o)(n:Hv a=ab)(nt:NT o):Vw H (upd Hv a o)/\ca Hv (upd Hv a o):=by
 refine⟨⟨λb u e=>?_,λb xs e=>?_,λb q u e=>?_,v.cd,λb u e=>?_⟩,qE n⟩
 ·by_cases hb:b=a
  ·subst hb;rw[bp]at e;rw[h];exact e
  ·rw[aE hb]at e;exact v.sub b u e
 ·by_cases hb:b=a
  ·subst hb;rw[bp];rw[h]at e;exact e
  ·rw[aE hb];exact v.tup b xs e
 ·by_cases hb:b=a
  ·subst hb;rw[bp];rw[h]at e;exact e
  ·rw[aE hb];exact v.frz b q u e
 ·by_cases hb:b=a
  ·subst hb;rw[bp]at e;cases e;exact nt
  ·rw[aE hb]at e;exact v.nv b u e
theorem Lst.old{H H':Hp}{a:ah}{xs:List V}(s:Old H H')(h:Lst H a xs):Lst H' a xs:=by
 rcases h with h|⟨o,h⟩
 ·exact .inl (s.at h)
 ·exact .inr ⟨o,s.at h⟩
mutual
theorem yv{H H':Hp}(t:∀a xs,H a=aa (.tup xs)->H' a=aa (.tup xs)):∀{d:D} {v:V},Mi.i5 d=true->Rep H d v->Rep H' d v
 |.non,v,_,h=>by rw[Rep]at h ⊢;exact h
 |.bl b,v,_,h=>by rw[Rep]at h ⊢;exact h
 |.int i,v,_,h=>by rw[Rep]at h ⊢;exact h
 |.str x,v,_,h=>by rw[Rep]at h ⊢;exact h
 |.lst ds,v,z,h=>by rw[Mi.i5]at z;cases z
 |.tup ds,v,z,h=>by
  rw[Mi.i5]at z;rw[Rep]at h ⊢;obtain⟨a,xs,e,q,r⟩:=h;exact⟨a,xs,e,t _ _ q,Fe t z r⟩
theorem Fe{H H':Hp}(t:∀a xs,H a=aa (.tup xs)->H' a=aa (.tup xs)):∀{ds:List D} {vs:List V},Mi.fL ds=true->bj H ds vs->bj H' ds vs
 |[],vs,_,h=>by rw[bj]at h ⊢;exact h
 |d::ds,vs,z,h=>by
  rw[Mi.fL,ji]at z;rw[bj]at h ⊢;obtain⟨v,r,e,p,q⟩:=h;exact⟨v,r,e,yv t z.1 p,Fe t z.2 q⟩
end
def eF{κ:Type}(H:Hp)(ak:List (κ×D))(kv:List (κ×V)):Prop:=P2 (λp q=>p.1=q.1/\Rep H p.2 q.2) ak kv
theorem eF.same{κ:Type}{H H':Hp}(s:ca H H'){ak:List (κ×D)}{kv:List (κ×V)}(h:eF H ak kv):eF H' ak kv:=P2.imp (λ_ _ z=>⟨z.1,jr s z.2⟩) h
def dZ(Hv:Hp):W->HO->Prop
 |.d (.lst ds),.lst xs=>P2 (Rep Hv) ds xs
 |.dk ak,.dK kv=>eF Hv ak kv
 |.dt ak,.dT kv=>eF Hv ak kv
 |_,_=>False
theorem dZ.same{H H':Hp}(s:ca H H'):∀{w:W} {o:HO},dZ H w o->dZ H' w o:=λ{w o} h=>by
 cases w with
 |d x=>
  cases x with
  | lst ds=>cases o with
   |lst xs=>exact dY s h
   |_=>exact h.elim
  |_=>cases o<;>exact h.elim
 | dk ak=>cases o with
  |dK kv=>exact eF.same s h
  |_=>exact h.elim
 | dt ak=>cases o with
  |dT kv=>exact eF.same s h
  |_=>exact h.elim
 |df ak=>exact h.elim
 |ex c=>exact h.elim
 |fn c=>exact h.elim
theorem dZ.Es{H:Hp}{w:W}{o:HO}(h:dZ H w o):qu o:=by
 cases w with
 |d x=>
  cases x with
  | lst ds=>cases o with
   |lst xs=>trivial
   |_=>exact h.elim
  |_=>cases o<;>exact h.elim
 | dk ak=>cases o with
  |dK kv=>trivial
  |_=>exact h.elim
 | dt ak=>cases o with
  |dT kv=>trivial
  |_=>exact h.elim
 |df ak=>exact h.elim
 |ex c=>exact h.elim
 |fn c=>exact h.elim
theorem dZ.cell{H:Hp}{w:W}{o:HO}(h:dZ H w o):Cell o:=h.Es.cell
theorem dZ.nw{H:Hp}{w:W}{o:HO}(h:dZ H w o):NW o:=h.cell.nw
theorem dZ.nt{H:Hp}{w:W}{o:HO}(h:dZ H w o):NT o:=h.cell.nt
def AV(a C:ah):aK->Prop:=λh=>∃o,h.get? a=aa o/\o.cls=.ref C/\o.dict=ab/\∃vs,o.data=.fields vs
def gf(H:Hp):W->V->Prop
 |.d x,v=>Rep H x v
 |.dk ak,v=>∃a kv,v=.ref a/\H a=aa (.dK kv)/\eF H ak kv
 |.dt ak,v=>∃a kv,v=.ref a/\H a=aa (.dT kv)/\eF H ak kv
 |.df ak,v=>∃a ob kv,v=.ref a/\H a=aa (.frz ob (.dT kv))/\eF H ak kv
 |.ex c,v=>∃a,v=.ref a/\H a=aa (.ext (AV a (Tb.cl c)))
 |.fn κ aF,v=>v=.ref κ.a/\H κ.c=aa (.ext (gp κ.c κ.q))/\P2 (λd a=>Rep H d (.ref a)) aF κ.ga
theorem m9{H H':Hp}(s:ca H H'):∀{w:W} {v:V},gf H w v->gf H' w v
 |.d x,v,h=>jr (d:=x) s h
 |.dk ak,v,⟨a,kv,e,q,r⟩=>⟨a,kv,e,s _ _ q,r.same s⟩
 |.dt ak,v,⟨a,kv,e,q,r⟩=>⟨a,kv,e,s _ _ q,r.same s⟩
 |.df ak,v,⟨a,ob,kv,e,q,r⟩=>⟨a,ob,kv,e,s _ _ q,r.same s⟩
 |.ex c,v,⟨a,e,q⟩=>⟨a,e,s _ _ q⟩
 |.fn κ aF,v,⟨e,q,r⟩=>⟨e,s _ _ q,r.imp λ_ _ z=>jr s z⟩
theorem sW{H:Hp}{w:W}{a:ah}{o:HO}(h:H a=aa o)(c:dZ H w o):gf H w (.ref a):=by
 cases w with
 |d x=>
  cases x with
  | lst ds=>cases o with
   |lst xs=>exact i3.mpr ⟨a,xs,rfl,.inl h,c⟩
   |_=>exact c.elim
  |_=>cases o<;>exact c.elim
 | dk ak=>cases o with
  |dK kv=>exact⟨a,kv,rfl,h,c⟩
  |_=>exact c.elim
 | dt ak=>cases o with
  |dT kv=>exact⟨a,kv,rfl,h,c⟩
  |_=>exact c.elim
 |df ak=>exact c.elim
 |ex z=>exact c.elim
 |fn z=>exact c.elim
def Own(H Hv:Hp)(w:W)(v:V):Prop:=∃a o,v=.ref a/\H a=aa o/\Hv a=ab/\dZ Hv w o
def RB(H Hv:Hp)(w:W)(v:V):Prop:=gf Hv w v\/∃a o,v=.ref a/\H a=aa o/\dZ Hv w o
theorem RB.grow{H Hv H' Hv':Hp}(g:bz H Hv H' Hv'){w:W}{v:V}(h:RB H Hv w v):RB H' Hv' w v:=by
 rcases h with h|⟨a,o,e,q,c⟩
 ·exact .inl (m9 g.vis h)
 ·exact .inr ⟨a,o,e,g.old.at q c.nt,c.same g.vis⟩
theorem Own.grow{H Hv H' Hv':Hp}(g:bz H Hv H' Hv'){w:W}{v:V}(h:Own H Hv w v):Own H' Hv' w v:=by obtain⟨a,o,e,q,n,c⟩:=h;exact⟨a,o,e,g.old.at q c.nt,g.hid _ _ q n,c.same g.vis⟩
theorem RB.full{H Hv:Hp}(v:Vw H Hv){w:W}{x:V}(h:RB H Hv w x):gf H w x:=by
 rcases h with h|⟨a,o,rfl,q,c⟩
 ·exact m9 v.sub h
 ·exact sW q (c.same v.sub)
abbrev RD(H Hv:Hp)(d:D)(v:V):Prop:=RB H Hv (.d d) v
theorem RD.rY{H Hv:Hp}{d:D}{v:V}(h:RD H Hv d v)(n:∀ds,d≠.lst ds):Rep Hv d v:=by
 rcases h with h|⟨a,o,e,q,c⟩
 ·exact h
 ·cases d with
  |lst ds=>exact absurd rfl (n ds)
  |_=>cases o<;>exact c.elim
theorem RD.lst{H Hv:Hp}(w:Vw H Hv){ds:List D}{v:V}(h:RD H Hv (.lst ds) v):∃a xs,v=.ref a/\Lst H a xs/\P2 (Rep Hv) ds xs:=by
 rcases h with h|⟨a,o,e,q,c⟩
 ·obtain⟨a,xs,e,l,r⟩:=i3.mp h;exact⟨a,xs,e,l.same w.sub,r⟩
 ·cases o with
  |lst xs=>exact⟨a,xs,e,.inl q,c⟩
  |_=>exact c.elim
theorem RD.tup{H Hv:Hp}(w:Vw H Hv){ds:List D}{v:V}(h:RD H Hv (.tup ds) v):∃a xs,v=.ref a/\H a=aa (.tup xs)/\Hv a=aa (.tup xs)/\P2 (Rep Hv) ds xs:=by obtain⟨a,xs,e,l,r⟩:=i8.mp (h.rY λ_ z=>by cases z);exact⟨a,xs,e,w.sub _ _ l,l,r⟩
theorem RD.int{H Hv:Hp}{i:Int}{v:V}(h:RD H Hv (.int i) v):v=.int i:=rh.mp (h.rY λ_ z=>by cases z)
theorem RD.str{H Hv:Hp}{i:Str}{v:V}(h:RD H Hv (.str i) v):v=.str i:=mX.mp (h.rY λ_ z=>by cases z)
theorem RD.bl{H Hv:Hp}{i:Bool}{v:V}(h:RD H Hv (.bl i) v):v=.bl i:=og.mp (h.rY λ_ z=>by cases z)
theorem RD.non{H Hv:Hp}{v:V}(h:RD H Hv .non v):v=.non:=CH.mp (h.rY λ_ z=>by cases z)
theorem RD.full{H Hv:Hp}(v:Vw H Hv){d:D}{x:V}(h:RD H Hv d x):Rep H d x:=RB.full v h
abbrev Kd:=Hp->Hp->Hp->W->V->Prop
def qP:Kd:=λ_ H' Hv' w v=>RB H' Hv' w v
def qV:Kd:=λ_ _ Hv' w v=>gf Hv' w v
def qN:Kd:=λH H' Hv' w v=>∃a o,v=.ref a/\H a=ab/\H' a=aa o/\Hv' a=ab/\dZ Hv' w o
theorem jV{H H' Hv':Hp}{i:Int}:qV H H' Hv' (.d (.int i)) (.int i):=(rh (H:=Hv')).mpr rfl
theorem qC{H H' Hv':Hp}{i:Str}:qV H H' Hv' (.d (.str i)) (.str i):=(mX (H:=Hv')).mpr rfl
theorem eZ{H H' Hv':Hp}{i:Bool}:qV H H' Hv' (.d (.bl i)) (.bl i):=(og (H:=Hv')).mpr rfl
theorem C7{H H' Hv':Hp}:qV H H' Hv' (.d .non) .non:=(CH (H:=Hv')).mpr rfl
class KM (κ:Kd):Prop where
 mono:∀{H H1 H' Hv' w v},Old H H1->κ H1 H' Hv' w v->κ H H' Hv' w v
instance:KM qP:=⟨λ_ h=>h⟩
instance:KM qV:=⟨λ_ h=>h⟩
instance:KM qN:=⟨λs ⟨a,o,e,n,r⟩=>⟨a,o,e,s.free n,r⟩⟩
structure R0(M:Nat->Bool)(e:Mi.Env)(σ:L2.St)(H Hv:Hp):Prop where
 vw:Vw H Hv
 len:σ.length=e.length
 nob:∀i w,e[i]? = aa (aa w)->M i=false->∃v,σ[i]? = aa (aa v)/\gf Hv w v
 own:∀i w,e[i]? = aa (aa w)->M i=true->∃v,σ[i]? = aa (aa v)/\Own H Hv w v
theorem R0.grow{M:Nat->Bool}{e:Mi.Env}{σ:L2.St}{H Hv H' Hv':Hp}(r:R0 M e σ H Hv)(g:bz H Hv H' Hv'):R0 M e σ H' Hv':=⟨g.vw,r.len,λi w h m=>let ⟨v,q,z⟩:=r.nob i w h m;⟨v,q,m9 g.vis z⟩,λi w h m=>let ⟨v,q,z⟩:=r.own i w h m;⟨v,q,z.grow g⟩⟩
structure R1(M:Nat->Bool)(H0 Hv0:Hp)(e:Mi.Env)(σ:L2.St)(H Hv:Hp):Prop extends R0 M e σ H Hv where
 gw:bz H0 Hv0 H Hv
 fresh:∀i w a,e[i]? = aa (aa w)->M i=true->σ[i]? = aa (aa (.ref a))->H0 a=ab
 sep:∀i j w w' a b,i≠j->e[i]? = aa (aa w)->e[j]? = aa (aa w')->M i=true->M j=true->σ[i]? = aa (aa (.ref a))->σ[j]? = aa (aa (.ref b))->a≠b
theorem R1.grow{M:Nat->Bool}{H0 Hv0:Hp}{e:Mi.Env}{σ:L2.St}{H Hv H' Hv':Hp}(r:R1 M H0 Hv0 e σ H Hv)(g:bz H Hv H' Hv'):R1 M H0 Hv0 e σ H' Hv':=⟨r.toR0.grow g,r.gw.trans g,r.fresh,r.sep⟩
end A
namespace A
open PySem L2 PyProof.Rows
open Mi (D W Rs Fin au)
variable[Tb:bM]
abbrev oT:=Mi.Env
class KG (κ:Kd):Prop where
 go:∀{H H1 Hv1 H2 Hv2 w v},bz H1 Hv1 H2 Hv2->κ H H1 Hv1 w v->κ H H2 Hv2 w v
instance:KG qP:=⟨λg h=>h.grow g⟩
instance:KG qV:=⟨λg h=>m9 g.vis h⟩
instance:KG qN:=⟨λg ⟨a,o,e,n,q,z,c⟩=>⟨a,o,e,n,g.old.at q c.nt,g.hid _ _ q z,c.same g.vis⟩⟩
def AW(M:Nat->Bool)(κ:Kd)(t:TE)(m:Mi.EW):Prop:=∀e σ H Hv Q,R0 M e σ H Hv->Fin (m e) (λw=>∀v H' Hv',bz H Hv H' Hv'->κ H H' Hv' w v->Q v H')->t σ H Q
def AE(M:Nat->Bool)(κ:Kd)(t:TE)(m:Mi.E):Prop:=∀e σ H Hv Q,R0 M e σ H Hv->Fin (m e) (λd=>∀v H' Hv',bz H Hv H' Hv'->κ H H' Hv' (.d d) v->Q v H')->t σ H Q
def AT(M:Nat->Bool)(t:TT)(m:Mi.C):Prop:=∀e σ H Hv Q,R0 M e σ H Hv->Fin (m e) (λb=>∀H' Hv',bz H Hv H' Hv'->Q b H')->t σ H Q
def AA(M:Nat->Bool)(κ:Kd)(t:TA)(m:oT->Rs (List D)):Prop:=∀e σ H Hv Q,R0 M e σ H Hv->Fin (m e) (λds=>∀vs H' Hv',bz H Hv H' Hv'->P2 (λd v=>κ H H' Hv' (.d d) v) ds vs->Q vs H')->t σ H Q
def AAW(M:Nat->Bool)(κ:Kd)(t:TA)(m:oT->Rs (List W)):Prop:=∀e σ H Hv Q,R0 M e σ H Hv->Fin (m e) (λws=>∀vs H' Hv',bz H Hv H' Hv'->P2 (λw v=>κ H H' Hv' w v) ws vs->Q vs H')->t σ H Q
def AO(M:Nat->Bool)(t:TO)(m:oT->Rs (Option Int)):Prop:=∀e σ H Hv Q,R0 M e σ H Hv->Fin (m e) (λo=>∀H' Hv',bz H Hv H' Hv'->Q o H')->t σ H Q
section
variable{M:Nat->Bool}{κ:Kd}{t ta tb tc te:TE}{a b c:Mi.E}{r r':R2}{f g:D->D->Rs D}
theorem AE.w(h:AE M κ t a):AW M κ t (Mi.wD a):=λe σ H Hv Q I q=>h e σ H Hv Q I ((au.mp q).mono λd z=>z)
theorem I0{H H' Hv':Hp}{w:W}{v:V}(h:qV H H' Hv' w v):qP H H' Hv' w v:=.inl h
theorem K6{H H' Hv':Hp}{w:W}{v:V}(h:qN H H' Hv' w v):qP H H' Hv' w v:=by obtain⟨a,o,e,_,q,_,c⟩:=h;exact .inr ⟨a,o,e,q,c⟩
theorem BR{H Hv H' Hv':Hp}(g:bz H Hv H' Hv'){w:W}{v:V}(h:qN H H' Hv' w v):∃j4,bz H Hv H' j4/\gf j4 w v:=by obtain⟨a,o,rfl,n,q,z,c⟩:=h;obtain⟨vw,s⟩:=g.vw.show q z c.nt;refine⟨upd Hv' a o,⟨g.old,g.vis.trans s,vw,λb u e m=>?_⟩,sW bp (c.same s)⟩;rw[aE (cG e n)];exact g.hid b u e m
theorem AW.nv(h:AW M qN t m):AW M qV t m:=λe σ H Hv Q I q=>h e σ H Hv Q I (q.mono λw z v H' Hv' g k=>let ⟨j4,g',r⟩:=BR g k;z v H' j4 g' r)
theorem AE.p(h:AE M qV t a):AE M qP t a:=λe σ H Hv Q I q=>h e σ H Hv Q I (q.mono λw z v H' Hv' g k=>z v H' Hv' g (I0 k))
theorem AE.np(h:AE M qN t a):AE M qP t a:=λe σ H Hv Q I q=>h e σ H Hv Q I (q.mono λw z v H' Hv' g k=>z v H' Hv' g (K6 k))
theorem AE.nv(h:AE M qN t a):AE M qV t a:=λe σ H Hv Q I q=>h e σ H Hv Q I (q.mono λw z v H' Hv' g k=>let ⟨j4,g',r⟩:=BR g k;z v H' j4 g' r)
theorem aR{i:Int}:AE M qV (tC (.int i)) (Mi.mC (.int i)):=λe σ H Hv Q I h=>h _ H Hv (.refl I.vw) jV
theorem mQ{i:Str}:AE M qV (tC (.str i)) (Mi.mC (.str i)):=λe σ H Hv Q I h=>h _ H Hv (.refl I.vw) qC
theorem iS{i:Bool}:AE M qV (tC (.bl i)) (Mi.mC (.bl i)):=λe σ H Hv Q I h=>h _ H Hv (.refl I.vw) eZ
theorem Lm:AE M qV (tC .non) (Mi.mC .non):=λe σ H Hv Q I h=>h _ H Hv (.refl I.vw) C7
theorem DB{e:oT}{i:Nat}{k:D->Prop}(h:Fin (Mi.mV i e) k):∃d,e[i]? = aa (aa (.d d))/\k d:=by
 unfold Mi.mV at h;split at h
 ·exact⟨_,‹_›,h⟩
 ·exact h.elim
theorem pw{e:oT}{i:Nat}{k:W->Prop}(h:Fin (Mi.wV i e) k):∃w,e[i]? = aa (aa w)/\k w:=by
 unfold Mi.wV at h;split at h
 ·exact⟨_,‹_›,h⟩
 ·exact h.elim
theorem Ed(i:Nat)(hm:M i=false):AE M qV (eA i) (Mi.mV i):=λe σ H Hv Q I h=>by
 obtain⟨d,he,k⟩:=DB h;obtain⟨v,q,z⟩:=I.nob i _ he hm;exact⟨v,q,k v H Hv (.refl I.vw) z⟩
theorem J8{H Hv:Hp}{w:W}{v:V}(h:Own H Hv w v):RB H Hv w v:=by obtain⟨a,o,e,q,_,c⟩:=h;exact .inr ⟨a,o,e,q,c⟩
theorem R0.any{e:oT}{σ:L2.St}{H Hv:Hp}(I:R0 M e σ H Hv){i:Nat}{w:W}(he:e[i]? = aa (aa w)):∃v,σ[i]? = aa (aa v)/\RB H Hv w v:=by
 cases hm:M i with
 |false=>
  obtain⟨v,q,z⟩:=I.nob i w he hm;exact⟨v,q,.inl z⟩
 |true=>
  obtain⟨v,q,z⟩:=I.own i w he hm;exact⟨v,q,J8 z⟩
theorem aq(i:Nat):AE M qP (eA i) (Mi.mV i):=λe σ H Hv Q I h=>by
 obtain⟨d,he,k⟩:=DB h;obtain⟨v,q,z⟩:=I.any he;exact⟨v,q,k v H Hv (.refl I.vw) z⟩
def B2(κ:Kd)(r:R2)(f:D->D->Rs D):Prop:=∀x y v u H Hv Q,Vw H Hv->RD H Hv x v->RD H Hv y u->Fin (f x y) (λd=>∀w H' Hv',bz H Hv H' Hv'->κ H H' Hv' (.d d) w->Q w H')->r v u H Q
def BN(κ:Kd)(r:List V->Hp->VK->Prop)(f:List D->Rs D):Prop:=∀ds vs H Hv Q,Vw H Hv->P2 (RD H Hv) ds vs->Fin (f ds) (λd=>∀w H' Hv',bz H Hv H' Hv'->κ H H' Hv' (.d d) w->Q w H')->r vs H Q
theorem ax[KM κ](hr:B2 κ r f)(ha:AE M qP ta a)(hb:AE M qP tb b):AE M κ (mf r ta tb) (Mi.m2 f a b):=λe σ H Hv Q I h=>
 ha e σ H Hv _ I ((au.mp h).mono λx hx v H1 Hv1 g1 rx=>hb e σ H1 Hv1 _ (I.grow g1) ((au.mp hx).mono λy hy u H2 Hv2 g2 ry=>
  hr x y v u H2 Hv2 Q g2.vw (RB.grow g2 rx) ry (hy.mono λd hd w H3 Hv3 g3 rw=>hd w H3 Hv3 (g1.trans (g2.trans g3)) (KM.mono (g1.old.trans g2.old) rw))))
theorem wC{x:D}{k:Bool->Prop}(h:Fin (Mi.ot x) k):∃b,x=.bl b/\k b:=by
 cases x with
 |bl b=>exact⟨b,rfl,h⟩
 |_=>exact h.elim
theorem tK{x:D}{k:Int->Prop}(h:Fin (Mi.pB x) k):∃b,x=.int b/\k b:=by
 cases x with
 |int b=>exact⟨b,rfl,h⟩
 |_=>exact h.elim
theorem yj(ha:AE M qP ta a)(hb:AE M qV tb b):AE M qV (E9 ta tb) (Mi.k8 a b):=λe σ H Hv Q I h=>
 ha e σ H Hv _ I ((au.mp h).mono λx hx v H1 Hv1 g1 rx=>by
  obtain⟨k,rfl,hk⟩:=wC (au.mp hx);cases RD.bl rx;refine⟨k,rfl,?_⟩;cases k with
  |true=>exact lY (hb e σ H1 Hv1 Q (I.grow g1) (Fin.mono (Mi.nC hk) λd hd w H2 Hv2 g2 rw=>hd w H2 Hv2 (g1.trans g2) rw))
  |false=>exact lQ ((Mi.nr (Mi.nz hk)) _ H1 Hv1 g1 eZ))
theorem JD(ha:AE M qP ta a):AE M qV (CP ta) (Mi.sK a):=λe σ H Hv Q I h=>
 ha e σ H Hv _ I ((au.mp h).mono λx hx v H1 Hv1 g1 rx=>by
  obtain⟨k,rfl,hk⟩:=wC (au.mp hx);cases RD.bl rx;exact⟨k,rfl,hk _ H1 Hv1 g1 eZ⟩)
theorem sL[KM κ]{tt:TT}{k:Mi.C}(hc:AT M tt k)(ha:AE M κ ta a)(hb:AE M κ tb b):AE M κ (A1 tt ta tb) (Mi.kg k a b):=λe σ H Hv Q I h=>
 hc e σ H Hv _ I ((au.mp h).mono λx hx H1 Hv1 g1=>by
  cases x with
  |true=>exact lY (ha e σ H1 Hv1 Q (I.grow g1) (Fin.mono (Mi.nC hx) λd hd w H2 Hv2 g2 rw=>hd w H2 Hv2 (g1.trans g2) (KM.mono g1.old rw)))
  |false=>exact lQ (hb e σ H1 Hv1 Q (I.grow g1) (Fin.mono (Mi.nz hx) λd hd w H2 Hv2 g2 rw=>hd w H2 Hv2 (g1.trans g2) (KM.mono g1.old rw))))
theorem oz:AO M B8 (Mi.jt ab):=λe σ H Hv Q I h=>h H Hv (.refl I.vw)
theorem oS(ha:AE M qP ta a):AO M (CV ta) (Mi.jt (aa a)):=λe σ H Hv Q I h=>
 ha e σ H Hv _ I ((au.mp h).mono λx hx v H1 Hv1 g1 rx=>by
  obtain⟨i,rfl,hk⟩:=tK (au.mp hx);exact⟨i,RD.int rx,hk H1 Hv1 g1⟩)
def BS(κ:Kd)(r:V->Option Int->Option Int->Hp->VK->Prop)(f:D->Option Int->Option Int->Rs D):Prop:=∀x lo hi v H Hv Q,Vw H Hv->RD H Hv x v->Fin (f x lo hi) (λd=>∀w H' Hv',bz H Hv H' Hv'->κ H H' Hv' (.d d) w->Q w H')->r v lo hi H Q
theorem oA[KM κ]{r:V->Option Int->Option Int->Hp->VK->Prop}{tl th:TO}{lo hi:Option Mi.E}{f:D->Option Int->Option Int->Rs D}(hr:BS κ r f)(ha:AE M qP ta a)(hl:AO M tl (Mi.jt lo))(hh:AO M th (Mi.jt hi)):AE M κ (D6 r ta tl th) (Mi.eI f a lo hi):=λe σ H Hv Q I h=>
 ha e σ H Hv _ I ((au.mp h).mono λx hx v H1 Hv1 g1 rx=>hl e σ H1 Hv1 _ (I.grow g1) ((au.mp hx).mono λl hl H2 Hv2 g2=>hh e σ H2 Hv2 _ (I.grow (g1.trans g2)) ((au.mp hl).mono λu hu H3 Hv3 g3=>
  hr x l u v H3 Hv3 Q g3.vw (RB.grow (g2.trans g3) rx) (hu.mono λd hd w H4 Hv4 g4 rw=>hd w H4 Hv4 (g1.trans (g2.trans (g3.trans g4))) (KM.mono (g1.old.trans (g2.old.trans g3.old)) rw)))))
theorem h6(ha:AE M qP ta a):AT M (tB ta) (Mi.cB a):=λe σ H Hv Q I h=>
 ha e σ H Hv _ I ((au.mp h).mono λx hx v H1 Hv1 g1 rx=>by
  obtain⟨k,rfl,hk⟩:=wC hx;exact⟨k,RD.bl rx,hk H1 Hv1 g1⟩)
theorem cz(ha:AE M qP ta a):AT M (BJ ta) (Mi.cB a):=h6 ha
theorem oN{K:aG}(ha:AE M qP ta a):AT M (λσ H Q=>ta σ H λx H'=>∃k,qW K x H' k/\Q k H') (Mi.e5 a):=λe σ H Hv Q I h=>
 ha e σ H Hv _ I ((au.mp h).mono λx hx v H1 Hv1 g1 rx=>by
  cases x with
  |non=>cases RD.non rx;exact⟨false,rfl,hx H1 Hv1 g1⟩
  |bl b=>cases RD.bl rx;exact⟨b,rfl,hx H1 Hv1 g1⟩
  |int i=>cases RD.int rx;exact⟨_,rfl,hx H1 Hv1 g1⟩
  |str y=>
   cases RD.str rx;obtain⟨hz,hq⟩:=Mi.cQ hx;exact⟨_,⟨by rw[dS];exact hz,rfl⟩,hq H1 Hv1 g1⟩
  |lst ds=>
   obtain⟨p,xs,rfl,l,r⟩:=RD.lst g1.vw rx;refine⟨!xs.isEmpty,.inl ⟨xs,l.sq,rfl⟩,?_⟩;have:ds.isEmpty=xs.isEmpty:=by cases r<;>rfl
   rw[<- this];exact hx H1 Hv1 g1
  |tup ds=>
   obtain⟨p,xs,rfl,l,_,r⟩:=RD.tup g1.vw rx;refine⟨!xs.isEmpty,.inr (.inl ⟨xs,.inl (.inl l),rfl⟩),?_⟩;have:ds.isEmpty=xs.isEmpty:=by cases r<;>rfl
   rw[<- this];exact hx H1 Hv1 g1)
variable{tt uu:TT}{k l:Mi.C}
theorem lN(ha:AT M tt k)(hb:AT M uu l):AT M (DS tt uu) (Mi.cF k l):=λe σ H Hv Q I h=>
 ha e σ H Hv _ I ((au.mp h).mono λx hx H1 Hv1 g1=>by
  cases x with
  |true=>exact lY (hb e σ H1 Hv1 Q (I.grow g1) (Fin.mono (Mi.nC hx) λb hd H2 Hv2 g2=>hd H2 Hv2 (g1.trans g2)))
  |false=>exact lQ ((Mi.nr (Mi.nz hx)) H1 Hv1 g1))
theorem uH(ha:AT M tt k)(hb:AT M uu l):AT M (DV tt uu) (Mi.jS k l):=λe σ H Hv Q I h=>
 ha e σ H Hv _ I ((au.mp h).mono λx hx H1 Hv1 g1=>by
  cases x with
  |false=>exact lQ (hb e σ H1 Hv1 Q (I.grow g1) (Fin.mono (Mi.nz hx) λb hd H2 Hv2 g2=>hd H2 Hv2 (g1.trans g2)))
  |true=>exact lY ((Mi.nr (Mi.nC hx)) H1 Hv1 g1))
theorem uB(ha:AT M tt k):AT M (Fb tt) (Mi.i4 k):=λe σ H Hv Q I h=>
 ha e σ H Hv _ I ((au.mp h).mono λx hx H1 Hv1 g1=>hx H1 Hv1 g1)
theorem jb:AT M AD Mi.c6:=λe σ H Hv Q I h=>h H Hv (.refl I.vw)
variable{tr:TA}{as:List Mi.E}{ws:List Mi.EW}
theorem bf:AA M κ gO (Mi.fP []):=λe σ H Hv Q I h=>h [] H Hv (.refl I.vw) .nil
theorem a4[KM κ][KG κ](ha:AE M κ ta a)(hr:AA M κ tr (Mi.fP as)):AA M κ (fN ta tr) (Mi.fP (a::as)):=λe σ H Hv Q I h=>
 ha e σ H Hv _ I ((au.mp h).mono λx hx v H1 Hv1 g1 rx=>hr e σ H1 Hv1 _ (I.grow g1) ((au.mp hx).mono λxs hs vs H2 Hv2 g2 rs=>
  hs (v::vs) H2 Hv2 (g1.trans g2) (.cons (KG.go g2 rx) (rs.imp λ_ _ z=>KM.mono g1.old z))))
theorem bw:AAW M κ gO (Mi.eg []):=λe σ H Hv Q I h=>h [] H Hv (.refl I.vw) .nil
theorem az[KM κ][KG κ]{w:Mi.EW}(ha:AW M κ ta w)(hr:AAW M κ tr (Mi.eg ws)):AAW M κ (fN ta tr) (Mi.eg (w::ws)):=λe σ H Hv Q I h=>
 ha e σ H Hv _ I ((au.mp h).mono λx hx v H1 Hv1 g1 rx=>hr e σ H1 Hv1 _ (I.grow g1) ((au.mp hx).mono λxs hs vs H2 Hv2 g2 rs=>
  hs (v::vs) H2 Hv2 (g1.trans g2) (.cons (KG.go g2 rx) (rs.imp λ_ _ z=>KM.mono g1.old z))))
theorem dg[KM κ]{r:List V->Hp->VK->Prop}{f:List D->Rs D}(hr:BN κ r f)(ha:AA M qP tr (Mi.fP as)):AE M κ (rD r tr) (Mi.mN f as):=λe σ H Hv Q I h=>
 ha e σ H Hv _ I ((au.mp h).mono λds hx vs H1 Hv1 g1 rx=>hr ds vs H1 Hv1 Q g1.vw rx (hx.mono λd hd w H3 Hv3 g3 rw=>hd w H3 Hv3 (g1.trans g3) (KM.mono g1.old rw)))
theorem jM(ha:AA M qV tr (Mi.fP as)):AE M qV (xJ tr) (Mi.mN Mi.dTup as):=λe σ H Hv Q I h=>
 ha e σ H Hv _ I ((au.mp h).mono λds hx vs H1 Hv1 g1 rx=>by
  obtain⟨hz,hq⟩:=Mi.cQ hx;refine⟨by rw[<- rx.len,dS];exact hz,λp hp=>?_⟩;have g2:bz H1 Hv1 (upd H1 p (.tup vs)) (upd Hv1 p (.tup vs)):=.new g1.vw hp;exact hq _ _ _ (g1.trans g2) (i8.mpr ⟨p,vs,rfl,bp,dY g2.vis rx⟩))
theorem dh(ha:AA M qV tr (Mi.fP as)):AE M qN (yk tr) (Mi.mN Mi.bC as):=λe σ H Hv Q I h=>
 ha e σ H Hv _ I ((au.mp h).mono λds hx vs H1 Hv1 g1 rx=>by
  obtain⟨hz,hq⟩:=Mi.cQ hx;refine⟨by rw[<- rx.len,dS];exact hz,λp hp=>?_⟩;have g2:bz H1 Hv1 (upd H1 p (.lst vs)) Hv1:=.m8 g1.vw trivial hp;exact hq _ _ _ (g1.trans g2) ⟨p,.lst vs,rfl,g1.old.free hp,bp,lR g1.vw hp,rx⟩)
def aC(f:Mi.Fn):Sp:=λvs H Q _=>∃Hv ws,Vw H Hv/\P2 (gf Hv) ws vs/\Fin (f ws) (λw=>∀v H' Hv',bz H Hv H' Hv'->qV H H' Hv' w v->Q v H')
def b8(f:Mi.Fn):Sp:=λvs H Q _=>∃Hv ws,Vw H Hv/\P2 (gf Hv) ws vs/\Fin (f ws) (λw=>∀v H' Hv',bz H Hv H' Hv'->qN H H' Hv' w v->Q v H')
variable{fn:Mi.Fn}{E:XK}
theorem Ld(ha:AAW M qV tr (Mi.eg ws)):AW M qV (mY (aC fn) [] E tr) (Mi.jQ fn ws):=λe σ H Hv Q I h=>
 ha e σ H Hv _ I ((au.mp h).mono λds hx vs H1 Hv1 g1 rx=>by
  rw[nQ];exact⟨Hv1,ds,g1.vw,rx,hx.mono λd hd w H3 Hv3 g3 rw=>hd w H3 Hv3 (g1.trans g3) rw⟩)
theorem Ck(ha:AAW M qV tr (Mi.eg ws)):AW M qN (mY (b8 fn) [] E tr) (Mi.jQ fn ws):=λe σ H Hv Q I h=>
 ha e σ H Hv _ I ((au.mp h).mono λds hx vs H1 Hv1 g1 rx=>by
  rw[nQ];exact⟨Hv1,ds,g1.vw,rx,hx.mono λd hd w H3 Hv3 g3 rw=>hd w H3 Hv3 (g1.trans g3) (KM.mono (κ:=qN) g1.old rw)⟩)
theorem J3{w:W}{k:D->Prop}(h:Fin (Mi.k9 w) k):∃d,w=.d d/\k d:=by
 cases w with
 |d x=>exact⟨x,rfl,h⟩
 |_=>exact h.elim
theorem AW.d{w:Mi.EW}(h:AW M κ t w):AE M κ t (λe=>(w e).bind Mi.k9):=λe σ H Hv Q I q=>
 h e σ H Hv Q I ((au.mp q).mono λw z v H' Hv' g k=>by
  obtain⟨d,rfl,z⟩:=J3 z;exact z v H' Hv' g k)
theorem bZ(ha:AAW M qV tr (Mi.eg ws)):AE M qV (mY (aC fn) [] E tr) (Mi.aJ fn ws):=(Ld ha).d
theorem fR(ha:AAW M qV tr (Mi.eg ws)):AE M qN (mY (b8 fn) [] E tr) (Mi.aJ fn ws):=(Ck ha).d
def ic(H:Hp):Hp:=λa=>match H a with
 |some (.tbl _ _)=>ab
 |x=>x
theorem jq{H:Hp}{a:ah}{o:HO}(h:H a=aa o)(n:NT o):ic H a=aa o:=by unfold ic;rw[h];cases o<;>first|rfl|exact n.elim
theorem uS{H:Hp}{a:ah}{o:HO}(h:ic H a=aa o):H a=aa o/\NT o:=by
 unfold ic at h;cases q:H a with
 |none=>rw[q]at h;cases h
 |some u=>
  rw[q]at h;cases u with
  |tbl w ps=>cases h
  |_=>cases h;exact⟨rfl,trivial⟩
theorem Vw.all{H:Hp}(k:f9 H):Vw H (ic H):=⟨λa o e=>(uS e).1,λa xs e=>jq e trivial,λa o u e=>jq e trivial,k,λa o e=>(uS e).2⟩
theorem RB.MZ{H Hv:Hp}(v:Vw H Hv){w:W}{x:V}(h:RB H Hv w x):gf (ic H) w x:=by
 have s:ca Hv (ic H):=λa o e=>jq (v.sub a o e) (v.nv a o e);rcases h with h|⟨a,o,rfl,q,c⟩
 ·exact m9 s h
 ·exact sW (jq q c.nt) (c.same s)
def seen(H Hv H':Hp):Hp:=λa=>match Hv a,H a with
 |none,aa _=>ab
 |_,_=>ic H' a
theorem ON{H Hv H':Hp}(v:Vw H Hv)(s:Old H H')(k':f9 H'):bz H Hv H' (seen H Hv H'):=by
 have key:∀a,(∃o,H a=aa o/\Hv a=ab/\seen H Hv H' a=ab)\/(seen H Hv H' a=ic H' a/\∀o,H a=aa o->Hv a=aa o):=λa=>by
  cases h1:Hv a with
  |none=>
   cases h2:H a with
   |none=>exact .inr ⟨by unfold seen;rw[h1,h2],λo e=>by cases e⟩
   |some o=>exact .inl ⟨o,rfl,rfl,by unfold seen;rw[h1,h2]⟩
  |some o=>
   refine .inr ⟨by unfold seen;rw[h1],λu e=>?_⟩;rw[v.sub a o h1]at e;exact e
 have back:∀b o,H' b=aa o->NT o->(∃u,H b=aa u)->∃u,H b=aa u:=λ_ _ _ _ z=>z;refine⟨s,λb o e=>?_,⟨λb o e=>?_,λb xs e=>?_,λb q u e=>?_,k',λb o e=>?_⟩,λb o e n=>?_⟩
 ·rcases key b with ⟨u,_,z,_⟩|⟨z,_⟩
  ·rw[e]at z;cases z
  ·rw[z];exact jq (s.nt b o (v.sub b o e) (v.nv b o e)) (v.nv b o e)
 ·rcases key b with ⟨u,_,_,z⟩|⟨z,_⟩
  ·rw[e]at z;cases z
  ·rw[z]at e;exact(uS e).1
 ·rcases key b with ⟨u,h1,h2,_⟩|⟨z,_⟩
  ·cases u with
   |tbl w ps=>exact absurd e (s.tab h1 trivial)
   |_=>
    have:=s.nt b _ h1 trivial;rw[e]at this;cases this
    try (rw[v.tup b xs h1]at h2;cases h2)
  ·rw[z];exact jq e trivial
 ·rcases key b with ⟨w,h1,h2,_⟩|⟨z,_⟩
  ·cases w with
   |tbl w ps=>exact absurd e (s.tab h1 trivial)
   |_=>
    have:=s.nt b _ h1 trivial;rw[e]at this;cases this
    try (rw[v.frz b q u h1]at h2;cases h2)
  ·rw[z];exact jq e trivial
 ·rcases key b with ⟨u,_,_,z⟩|⟨z,_⟩
  ·rw[e]at z;cases z
  ·rw[z]at e;exact(uS e).2
 ·rcases key b with ⟨u,h1,h2,z⟩|⟨z,k⟩
  ·exact z
  ·rw[k o e]at n;cases n
end
end A
namespace A
open PySem L2 PyProof.Rows
open Mi (D W Rs Fin au Out Tg)
variable[Tb:bM]
structure oP(J:It)(P:Hp->Hp->Prop)(ds:List D):Prop where
 go:∀i H Hv,P H Hv->Vw H Hv->i<ds.length->J.go i H
 yld:∀i H Hv x H',P H Hv->Vw H Hv->i<ds.length->J.yld i H x H'->∃Hv' d,bz H Hv H' Hv'/\ds[i]? = aa d/\Rep Hv' d x
 stop:∀H Hv,P H Hv->Vw H Hv->J.stop ds.length H
def xh(M:Nat->Bool)(wi:TI)(it:Mi.I):Prop:=∀e σ H Hv (R:It->Hp->Prop),R0 M e σ H Hv->Fin (it e) (λds=>∀(J:It) H' Hv' (P:Hp->Hp->Prop),bz H Hv H' Hv'->oP J P ds->P H' Hv'->(∀H1 Hv1 H2 Hv2,P H1 Hv1->bz H1 Hv1 H2 Hv2->P H2 Hv2)->R J H')->wi σ H R
def gU(M:Nat->Bool)(wi:TI)(it:Mi.I):Prop:=∀e σ H Hv (R:It->Hp->Prop),R0 M e σ H Hv->Fin (it e) (λds=>∀(J:It) H' Hv' (P:Hp->Hp->Prop),bz H Hv H' Hv'->oP J P ds->P H' Hv'->(∀H1 Hv1 H2 Hv2,P H1 Hv1->ca Hv1 Hv2->Vw H2 Hv2->P H2 Hv2)->R J H')->wi σ H R
theorem jK{α:Type}{r:Rs α}{k:α->Prop}(h:Fin r k):∃x,r=.ok x/\k x:=by
 cases r with
 |ok x=>exact⟨x,rfl,h⟩
 |_=>exact h.elim
section
variable{M:Nat->Bool}{ta tb:TE}{a b:Mi.E}{wi:TI}{it:Mi.I}{tr:TA}{as:List Mi.E}
theorem gU.c(h:gU M wi it):xh M wi it:=λe σ H Hv R I q=>h e σ H Hv R I (q.mono λds z J H' Hv' P g o p k=>z J H' Hv' P g o p λH1 Hv1 H2 Hv2 p g'=>k H1 Hv1 H2 Hv2 p g'.vis g'.vw)
theorem ny{J:It}{Ok:Hp->Prop}{xs:List V}(O:J.Of Ok xs){ds:List D}{P:Hp->Hp->Prop}(ok:∀H Hv,P H Hv->Vw H Hv->Ok H)(r:∀H Hv,P H Hv->P2 (Rep Hv) ds xs)(ex:∃H Hv,P H Hv):oP J P ds:=by
 have hl:ds.length=xs.length:=by obtain⟨H,Hv,p⟩:=ex;exact(r H Hv p).len
 refine⟨λi H Hv p v hi=>O.go i H (ok H Hv p v) (by omega),λi H Hv x H' p v hi y=>?_,λH Hv p v=>by rw[hl];exact O.stop H (ok H Hv p v)⟩;obtain⟨rfl,hx⟩:=O.yld i H x H' (ok H Hv p v) (by omega) y;obtain⟨d,hd,rx⟩:=(r H' Hv p).xI hx;exact⟨Hv,d,.refl v,hd,rx⟩
def wW(K:aG)(tl:TE):TI:=λσ H R=>C1 K tl σ H R\/CT K tl σ H R\/AH tl σ H R
theorem dv{X:Cx}{tg l:aS}{tl:TE}(hl:PE X l tl):PI X tg l (wW X.K tl):=λae s σ H R I h=>by
 rcases h with h|h|h
 ·exact Lr hl ae s σ H R I h
 ·exact NI hl ae s σ H R I h
 ·exact MN hl ae s σ H R I h
theorem Dg(H:Hp)(z:Str):P2 (Rep H) (z.cps.toList.map λc=>D.str ⟨#[c]⟩) (nA z):=by
 unfold nA
 induction z.cps.toList with
 |nil=>exact .nil
 |cons c r ih=>exact .cons (mX.mpr rfl) ih
theorem gr{K:aG}(ha:AE M qP ta a):xh M (wW K ta) (Mi.bt a):=λe σ H Hv R I h=>by
 obtain⟨d,hd,h⟩:=jK (au.mp h);have run:∀Q:VK,(∀v H' Hv',bz H Hv H' Hv'->RD H' Hv' d v->Q v H')->ta σ H Q:=λQ q=>ha e σ H Hv Q I (by rw[hd];exact q);cases d with
 |lst ds=>
  refine .inl (run _ λv H' Hv' g r=>?_);obtain⟨p,xs,rfl,l,r⟩:=RD.lst g.vw r;exact⟨p,rfl,⟨xs,l.sq⟩,h (rT K p) H' Hv' (λH Hv=>Lst H p xs/\P2 (Rep Hv) ds xs) g (ny Bm (λH Hv p v=>p.1.sq) (λH Hv p=>p.2) ⟨H',Hv',l,r⟩) ⟨l,r⟩ λH1 Hv1 H2 Hv2 z g'=>⟨z.1.old g'.old,dY g'.vis z.2⟩⟩
 |tup ds=>
  refine .inr (.inl (run _ λv H' Hv' g r=>?_));obtain⟨p,xs,rfl,l,_,r⟩:=RD.tup g.vw r;exact⟨p,rfl,⟨xs,.inl (.inl l)⟩,h (qK K p) H' Hv' (λH Hv=>H p=aa (.tup xs)/\P2 (Rep Hv) ds xs) g (ny FI (λH Hv p v=>.inl (.inl p.1)) (λH Hv p=>p.2) ⟨H',Hv',l,r⟩) ⟨l,r⟩ λH1 Hv1 H2 Hv2 z g'=>⟨g'.old.at z.1,dY g'.vis z.2⟩⟩
 |str z=>
  refine .inr (.inr (run _ λv H' Hv' g r=>?_));exact⟨z,RD.str r,h (nI z) H' Hv' (λ_ _=>True) g (ny Ea (λ_ _ _ _=>trivial) (λH Hv _=>Dg Hv z) ⟨H,Hv,trivial⟩) trivial λ_ _ _ _ _ _=>trivial⟩
 |_=>exact h.elim
theorem io{K:aG}(ha:AE M qV ta a):gU M (wW K ta) (Mi.bt a):=λe σ H Hv R I h=>by
 obtain⟨d,hd,h⟩:=jK (au.mp h);have run:∀Q:VK,(∀v H' Hv',bz H Hv H' Hv'->Rep Hv' d v->Q v H')->ta σ H Q:=λQ q=>ha e σ H Hv Q I (by rw[hd];exact q);cases d with
 |lst ds=>
  refine .inl (run _ λv H' Hv' g r=>?_);obtain⟨p,xs,rfl,l,r⟩:=i3.mp r;exact⟨p,rfl,⟨xs,(l.same g.vw.sub).sq⟩,h (rT K p) H' Hv' (λH Hv=>Lst Hv p xs/\P2 (Rep Hv) ds xs) g (ny Bm (λH Hv p v=>(p.1.same v.sub).sq) (λH Hv p=>p.2) ⟨H',Hv',l,r⟩) ⟨l,r⟩ λH1 Hv1 H2 Hv2 z s v=>⟨z.1.same s,dY s z.2⟩⟩
 |tup ds=>
  refine .inr (.inl (run _ λv H' Hv' g r=>?_));obtain⟨p,xs,rfl,l,r⟩:=i8.mp r;exact⟨p,rfl,⟨xs,.inl (.inl (g.vw.sub _ _ l))⟩,h (qK K p) H' Hv' (λH Hv=>Hv p=aa (.tup xs)/\P2 (Rep Hv) ds xs) g (ny FI (λH Hv p v=>.inl (.inl (v.sub _ _ p.1))) (λH Hv p=>p.2) ⟨H',Hv',l,r⟩) ⟨l,r⟩ λH1 Hv1 H2 Hv2 z s v=>⟨s _ _ z.1,dY s z.2⟩⟩
 |str z=>
  refine .inr (.inr (run _ λv H' Hv' g r=>?_));exact⟨z,mX.mp r,h (nI z) H' Hv' (λ_ _=>True) g (ny Ea (λ_ _ _ _=>trivial) (λH Hv _=>Dg Hv z) ⟨H,Hv,trivial⟩) trivial λ_ _ _ _ _ _ _=>trivial⟩
 |_=>exact h.elim
theorem JG(H:Hp)(lo hi:Int):P2 (Rep H) (Mi.dP lo hi) (nL lo (hi-lo).toNat):=by
 unfold Mi.dP nL
 induction bQ (hi-lo).toNat with
 |nil=>exact .nil
 |cons c r ih=>exact .cons (rh.mpr rfl) ih
theorem KJ(lo hi:Int)(H Hv:Hp):oP (oQ lo (hi-lo).toNat) (λ_ _=>True) (Mi.dP lo hi):=ny Lq (λ_ _ _ _=>trivial) (λH Hv _=>JG Hv lo hi) ⟨H,Hv,trivial⟩
theorem js(ha:AE M qP ta a):gU M (D4 (fN ta gO)) (Mi.gI a):=λe σ H Hv R I h=>
 ha e σ H Hv _ I ((au.mp h).mono λx hx v H1 Hv1 g1 rx=>by
  obtain⟨j,rfl,hk⟩:=tK (au.mp hx);obtain⟨hz,hq⟩:=Mi.cQ hk;cases RD.int rx;refine⟨j,rfl,hz.1,hz.2,?_⟩;have:=hq (oQ 0 (j-0).toNat) H1 Hv1 _ g1 (KJ 0 j H Hv) trivial λ_ _ _ _ _ _ _=>trivial;rw[Int.sub_zero]at this;exact this)
end
def uj:List Nat->hX
 |[]=>qq
 |i::r=>q9 (fJ i) (uj r)
def ro:Tg->List Nat
 |.n i=>[i]
 |.t is=>is
def tX(K:aG):Tg->TG
 |.n i=>fJ i
 |.t is=>vU K is.length (uj is)
section
variable{P:Mi.Env->L2.St->Prop}{H Hv:Hp}
theorem yJ:∀{is:List Nat} {ds:List D} {xs:List V} {e:Mi.Env} {σ:L2.St} {Q:L2.St->Hp->Prop},(∀i∈is,∀e σ d v,P e σ->Rep Hv d v->P (e.set i (aa (.d d))) (σ.set i (aa v)))->P e σ->P2 (Rep Hv) ds xs ->
 Fin (Mi.lU is ds e) (λe'=>∀σ',P e' σ'->Q σ' H)->uj is xs σ H Q
 |[],[],xs,e,σ,Q,cl,p,r,h=>by
  cases r;exact⟨rfl,h σ p⟩
 |[],_::_,xs,e,σ,Q,cl,p,r,h=>h.elim
 |_::_,[],xs,e,σ,Q,cl,p,r,h=>h.elim
 |i::is,d::ds,xs,e,σ,Q,cl,p,r,h=>by
  cases r with
  |cons x t=>exact⟨_,_,rfl,yJ (λj hj=>cl j (dJ _ hj)) (cl i dj _ _ _ _ p x) t h⟩
theorem xU:∀{is:List Nat} {ds:List D} {e:Mi.Env} {k:Mi.Env->Prop},Fin (Mi.lU is ds e) k->ds.length=is.length
 |[],[],_,_,_=>rfl
 |[],_::_,_,_,h=>h.elim
 |_::_,[],_,_,h=>h.elim
 |i::is,d::ds,e,k,h=>by rw[cR,cR,xU (is:=is) (ds:=ds) (k:=k) h]
theorem x6{K:aG}(vw:Vw H Hv){tg:Tg}{d:D}{v:V}{e:Mi.Env}{σ:L2.St}{Q:L2.St->Hp->Prop}(cl:∀i∈ro tg,∀e σ d v,P e σ->Rep Hv d v->P (e.set i (aa (.d d))) (σ.set i (aa v)))(p:P e σ)(r:Rep Hv d v)
 (h:Fin (tg.put d e) (λe'=>∀σ',P e' σ'->Q σ' H)):tX K tg v σ H Q:=by
 cases tg with
 |n i=>exact h _ (cl i (by simp[ro]) _ _ _ _ p r)
 |t is=>
  cases d with
  |tup ds=>
   obtain⟨a,xs,e1,l,r⟩:=i8.mp r;exact⟨a,xs,e1,.inl (.inl (vw.sub _ _ l)),by rw[<- r.len];exact xU h,yJ cl p r h⟩
  |_=>exact h.elim
end
theorem h9{α:Type}{l:List α}{i j:Nat}{x y:α}(h:(l.set i x)[j]? = aa y):(i=j/\x=y/\i<l.length)\/(i≠j/\l[j]? = aa y):=by
 rw[yX]at h;split at h
 ·split at h
  ·exact .inl ⟨‹_›,fY h,by omega⟩
  ·cases h
 ·exact .inr ⟨‹_›,h⟩
theorem R0.set{M:Nat->Bool}{e:Mi.Env}{σ:L2.St}{H Hv:Hp}(I:R0 M e σ H Hv){i:Nat}{w:W}{v:V}(hm:M i=false)(r:gf Hv w v):R0 M (e.set i (aa w)) (σ.set i (aa v)) H Hv:=by
 refine⟨I.vw,by rw[jg,jg];exact I.len,λj w' h m=>?_,λj w' h m=>?_⟩
 ·rcases h9 h with ⟨rfl,h,l⟩|⟨n,h⟩
  ·cases h;exact⟨v,by rw[lq (by rw[I.len];exact l)],r⟩
  ·obtain⟨u,q,z⟩:=I.nob j w' h m;exact⟨u,by rw[dC n];exact q,z⟩
 ·rcases h9 h with ⟨rfl,h,l⟩|⟨n,h⟩
  ·rw[hm]at m;cases m
  ·obtain⟨u,q,z⟩:=I.own j w' h m;exact⟨u,by rw[dC n];exact q,z⟩
theorem R1.set{M:Nat->Bool}{H0 Hv0:Hp}{e:Mi.Env}{σ:L2.St}{H Hv:Hp}(I:R1 M H0 Hv0 e σ H Hv){i:Nat}{w:W}{v:V}(hm:M i=false)(r:gf Hv w v):R1 M H0 Hv0 (e.set i (aa w)) (σ.set i (aa v)) H Hv:=by
 have nj:∀{j:Nat} {w':W},(e.set i (aa w))[j]? = aa (aa w')->M j=true->i≠j/\e[j]? = aa (aa w'):=λ{j w'} h m=>by
  rcases h9 h with ⟨rfl,_,_⟩|⟨n,h⟩
  ·rw[hm]at m;cases m
  ·exact⟨n,h⟩
 refine⟨I.toR0.set hm r,I.gw,λj w' a h m q=>?_,λj k w1 w2 a b hjk h1 h2 m1 m2 q1 q2=>?_⟩
 ·obtain⟨n,h⟩:=nj h m;rw[dC n]at q;exact I.fresh j w' a h m q
 ·obtain⟨n1,h1⟩:=nj h1 m1;obtain⟨n2,h2⟩:=nj h2 m2;rw[dC n1]at q1;rw[dC n2]at q2;exact I.sep j k w1 w2 a b hjk h1 h2 m1 m2 q1 q2
def mW(ρ:List (Option Nat))(M:Nat->Bool):Nat->Bool:=λi=>match ρ[i]? with
 |some (aa j)=>M j
 |_=>false
theorem CJ{α:Type}{ρ:List (Option Nat)}{e:List (Option α)}{i:Nat}{w:α}(h:(ρ.map λo=>o.bind λj=>(e[j]?).join)[i]? = aa (aa w)):∃j,ρ[i]? = aa (aa j)/\e[j]? = aa (aa w):=by
 rw[c9]at h;cases hr:ρ[i]? with
 |none=>rw[hr]at h;cases h
 |some o=>
  rw[hr]at h;cases o with
  |none=>cases h
  |some j=>
   refine⟨j,rfl,?_⟩;have h:(e[j]?).join=aa w:=fY h;cases hq:e[j]? with
   |none=>rw[hq]at h;cases h
   | some o' => rw [hq] at h; have h : o' = aa w := h
                rw[h]
theorem BE{α:Type}{ρ:List (Option Nat)}{e:List (Option α)}{i j:Nat}{w:α}(h1:ρ[i]? = aa (aa j))(h2:e[j]? = aa (aa w)):(ρ.map λo=>o.bind λj=>(e[j]?).join)[i]? = aa (aa w):=by rw[c9,h1];show aa ((e[j]?).join)=_;rw[h2];rfl
theorem R0.pick{M:Nat->Bool}{e:Mi.Env}{σ:L2.St}{H Hv:Hp}(I:R0 M e σ H Hv)(ρ:List (Option Nat)):R0 (mW ρ M) (Mi.iz ρ e) (L2.pick ρ σ) H Hv:=by
 refine⟨I.vw,by unfold Mi.iz L2.pick;rw[aM,aM],λi w h m=>?_,λi w h m=>?_⟩
 ·obtain⟨j,h1,h2⟩:=CJ h;have m:M j=false:=by unfold mW at m;rw[h1]at m;exact m
  obtain⟨v,q,z⟩:=I.nob j w h2 m;exact⟨v,BE h1 q,z⟩
 ·obtain⟨j,h1,h2⟩:=CJ h;have m:M j=true:=by unfold mW at m;rw[h1]at m;exact m
  obtain⟨v,q,z⟩:=I.own j w h2 m;exact⟨v,BE h1 q,z⟩
theorem Jy{tg:Tg}{c:Mi.C}{a:Mi.E}{e:Mi.Env}{x:D}{r:List D}{k:List D->Prop}(h:Fin (Mi.cJ tg c a e (x::r)) k) :
 Fin (tg.put x e) λe1=>Fin (c e1) λb=>if b=true then Fin (a e1) λy=>Fin (Mi.cJ tg c a e r) λys=>k (y::ys)else Fin (Mi.cJ tg c a e r) k:=by
 refine(au.mp h).mono λe1 h1=>(au.mp h1).mono λb h2=>?_;cases b with
 |true=>exact lY ((au.mp (Mi.nC h2)).mono λy h3=>(au.mp h3).mono λys h4=>h4)
 |false=>exact lQ (Mi.nz h2)
theorem eE{M:Nat->Bool}{K:aG}{ρ:List (Option Nat)}{wi:TI}{it:Mi.I}{tg:Tg}{tc:TT}{c:Mi.C}{te:TE}{a:Mi.E}(hi:xh M wi it)(hm:∀i∈ro tg,mW ρ M i=false)(hc:AT (mW ρ M) tc c)(he:AE (mW ρ M) qV te a) :
 AE M qN (t5 wi ρ (tX K tg) tc te) (Mi.cg ρ it tg c a):=λe σ H Hv Q I h=>
 hi e σ H Hv _ I ((au.mp h).mono λds h1 J H1 Hv1 P g1 O p1 per=>by
  obtain⟨hz,h1⟩:=Mi.cQ h1;have h1:=au.mp h1;have I1:=I.grow g1;refine⟨λi m acc H'=>m=ds.length-i/\i<=ds.length/\∃Hv',bz H1 Hv1 H' Hv'/\P H' Hv'/\acc.length<=i/\∃done,P2 (Rep Hv') done acc/\Fin (Mi.cJ tg c a (Mi.iz ρ e) (ds.drop i)) λys=>∀v H2 Hv2,bz H Hv H2 Hv2->qN H H2 Hv2 (.d (.lst (done++ys))) v->Q v H2,
   ⟨ds.length,by simp,gE _,Hv1,.refl g1.vw,p1,bA _,[],.nil,by rw[sr];exact h1.mono λys z=>z⟩,?_⟩
  rintro i m acc H' ⟨rfl,hle,Hv',g,pp,l,done,pd,hf⟩;by_cases hlt:i<ds.length
  ·refine .inr ⟨O.go i H' Hv' pp g.vw hlt,by rw[dS];omega,λacc' H2=>∃Hv2,bz H1 Hv1 H2 Hv2/\P H2 Hv2/\acc'.length<=i+1/\∃done,P2 (Rep Hv2) done acc'/\Fin (Mi.cJ tg c a (Mi.iz ρ e) (ds.drop (i+1))) λys=>∀v H3 Hv3,bz H Hv H3 Hv3->qN H H3 Hv3 (.d (.lst (done++ys))) v->Q v H3,
    λacc' H2 z=>⟨ds.length-(i+1),by omega,rfl,hlt,z⟩,λx H2 y=>?_⟩
   obtain⟨Hv2,d,g2,hd,rx⟩:=O.yld i H' Hv' x H2 pp g.vw hlt y;have g12:=g.trans g2;have hdr:ds.drop i=d::ds.drop (i+1):=by obtain⟨hl,e1⟩:=cv.mp hd;rw[yP hl,e1]
   rw[hdr]at hf;have hf:=Jy hf;refine x6 (P:=λe1 σ1=>R0 (mW ρ M) e1 σ1 H2 Hv2) g2.vw (λj hj e1 σ1 d1 v1 r1 z=>r1.set (hm j hj) z) ((I1.grow g12).pick ρ) rx (hf.mono λe1 hf1 σ1 r1=>?_);refine hc e1 σ1 H2 Hv2 _ r1 (hf1.mono λb hb H3 Hv3 g3=>?_);cases b with
   |true=>
    refine lY (he e1 σ1 H3 Hv3 _ (r1.grow g3) (Fin.mono (by simpa using hb) λy hy v H4 Hv4 g4 ry=>?_));exact⟨Hv4,g12.trans (g3.trans g4),per _ _ _ _ pp (g2.trans (g3.trans g4)),by rw[cu,jd];omega,done++[y],(dY (g2.trans (g3.trans g4)).vis pd).append (.cons ry .nil),hy.mono λys z v H5 Hv5 g5 k=>z v H5 Hv5 g5 (by rw[pJ]at k;exact k)⟩
   |false=>exact lQ ⟨Hv3,g12.trans g3,per _ _ _ _ pp (g2.trans g3),by omega,done,dY (g2.trans g3).vis pd,by simpa using hb⟩
  ·have hi:i=ds.length:=by omega
   subst hi;refine .inl ⟨O.stop H' Hv' pp g.vw,λp hp=>?_⟩;rw[uV (bA _)]at hf;have g2:bz H' Hv' (upd H' p (.lst acc)) Hv':=.m8 g.vw trivial hp;refine hf _ _ _ (g1.trans (g.trans g2)) ⟨p,.lst acc,rfl,(g1.old.trans g.old).free hp,bp,lR g.vw hp,?_⟩;show P2 (Rep Hv') (done++[]) acc;rw[nQ];exact pd)
def gQ(M:Nat->Bool)(κ:Kd)(H0 Hv0:Hp)(D:Ends)(Hv:Hp):Out->Prop
 |.nx e=>∀σ H' Hv',R1 M H0 Hv0 e σ H' Hv'->ca Hv Hv'->D.nx σ H'
 |.rt w=>∀v H' Hv',bz H0 Hv0 H' Hv'->κ H0 H' Hv' w v->D.rt v H'
 |.bk e=>∀σ H' Hv',R1 M H0 Hv0 e σ H' Hv'->ca Hv Hv'->D.bk σ H'
 |.ct e=>∀σ H' Hv',R1 M H0 Hv0 e σ H' Hv'->ca Hv Hv'->D.ct σ H'
def AS(M:Nat->Bool)(κ:Kd)(t:TS)(m:Mi.S):Prop:=∀H0 Hv0 e σ H Hv D,R1 M H0 Hv0 e σ H Hv->Fin (m e) (gQ M κ H0 Hv0 D Hv)->t D σ H
section
variable{M:Nat->Bool}{κ:Kd}{t u:TS}{m n:Mi.S}{te:TE}{a b:Mi.E}{w:Mi.EW}
theorem eG:AS M κ tG Mi.bD:=λH0 Hv0 e σ H Hv D I h=>h σ H Hv I (ca.refl _)
theorem EY:AS M κ Dy Mi.rq:=λH0 Hv0 e σ H Hv D I h=>h
theorem a5(h1:AS M κ t m)(h2:AS M κ u n):AS M κ (iD t u) (Mi.aD m n):=λH0 Hv0 e σ H Hv D I h=>
 h1 H0 Hv0 e σ H Hv _ I ((au.mp h).mono λo ho=>by
  cases o with
  |nx e'=>exactλσ' H' Hv' I' s=>h2 H0 Hv0 e' σ' H' Hv' D I' (Fin.mono ho λo z=>by
   cases o with
   |nx e2=>exactλσ2 H2 Hv2 I2 s2=>z σ2 H2 Hv2 I2 (s.trans s2)
   |rt w=>exact z
   |bk e2=>exactλσ2 H2 Hv2 I2 s2=>z σ2 H2 Hv2 I2 (s.trans s2)
   |ct e2=>exactλσ2 H2 Hv2 I2 s2=>z σ2 H2 Hv2 I2 (s.trans s2))
  |rt w=>exact ho
  |bk e'=>exact ho
  |ct e'=>exact ho)
theorem lS(ha:AE M qP te a):AS M κ (lZ te) (Mi.fB a):=λH0 Hv0 e σ H Hv D I h=>
 ha e σ H Hv _ I.toR0 ((au.mp h).mono λd hd v H1 Hv1 g1 r=>hd σ H1 Hv1 (I.grow g1) g1.vis)
theorem cU(i:Nat)(hm:M i=false)(ha:AE M qV te a):AS M κ (ip te (fJ i)) (Mi.bi i a):=λH0 Hv0 e σ H Hv D I h=>
 ha e σ H Hv _ I.toR0 ((au.mp h).mono λd hd v H1 Hv1 g1 r=>hd _ H1 Hv1 ((I.grow g1).set hm r) g1.vis)
theorem KZ{K:aG}(tg:Tg)(hm:∀i∈ro tg,M i=false)(ha:AE M qV te a):AS M κ (ip te (tX K tg)) (Mi.Ba tg a):=λH0 Hv0 e σ H Hv D I h=>
 ha e σ H Hv _ I.toR0 ((au.mp h).mono λd hd v H1 Hv1 g1 r=>
  x6 (P:=λe1 σ1=>R1 M H0 Hv0 e1 σ1 H1 Hv1) g1.vw (λj hj e1 σ1 d1 v1 r1 z=>r1.set (hm j hj) z) (I.grow g1) r ((au.mp hd).mono λe1 h1 σ1 I1=>h1 σ1 H1 Hv1 I1 g1.vis))
theorem dQ(ha:AW M qV te w):AS M qV (qi te) (Mi.br w):=λH0 Hv0 e σ H Hv D I h=>
 ha e σ H Hv _ I.toR0 ((au.mp h).mono λd hd v H1 Hv1 g1 r=>hd v H1 Hv1 (I.gw.trans g1) r)
theorem i0(ha:AW M qN te w):AS M qN (qi te) (Mi.br w):=λH0 Hv0 e σ H Hv D I h=>
 ha e σ H Hv _ I.toR0 ((au.mp h).mono λd hd v H1 Hv1 g1 r=>hd v H1 Hv1 (I.gw.trans g1) (KM.mono (κ:=qN) I.gw.old r))
theorem eD{tt:TT}{c:Mi.C}(hc:AT M tt c)(h1:AS M κ t m)(h2:AS M κ u n):AS M κ (uo tt t u) (Mi.bv c m n):=λH0 Hv0 e σ H Hv D I h=>
 hc e σ H Hv _ I.toR0 ((au.mp h).mono λb hb H1 Hv1 g1=>by
  have up:∀o,gQ M κ H0 Hv0 D Hv o->gQ M κ H0 Hv0 D Hv1 o:=λo z=>by
   cases o with
   |nx e2=>exactλσ2 H2 Hv2 I2 s2=>z σ2 H2 Hv2 I2 (g1.vis.trans s2)
   |rt w=>exact z
   |bk e2=>exactλσ2 H2 Hv2 I2 s2=>z σ2 H2 Hv2 I2 (g1.vis.trans s2)
   |ct e2=>exactλσ2 H2 Hv2 I2 s2=>z σ2 H2 Hv2 I2 (g1.vis.trans s2)
  cases b with
  |true=>exact lY (h1 H0 Hv0 e σ H1 Hv1 D (I.grow g1) (Fin.mono (Mi.nC hb) up))
  |false=>exact lQ (h2 H0 Hv0 e σ H1 Hv1 D (I.grow g1) (Fin.mono (Mi.nz hb) up)))
theorem gQ.up{H0 Hv0 Hv Hv1:Hp}{D:Ends}(s:ca Hv Hv1){o:Out}(z:gQ M κ H0 Hv0 D Hv o):gQ M κ H0 Hv0 D Hv1 o:=by
 cases o with
 |nx e2=>exactλσ2 H2 Hv2 I2 s2=>z σ2 H2 Hv2 I2 (s.trans s2)
 |rt w=>exact z
 |bk e2=>exactλσ2 H2 Hv2 I2 s2=>z σ2 H2 Hv2 I2 (s.trans s2)
 |ct e2=>exactλσ2 H2 Hv2 I2 s2=>z σ2 H2 Hv2 I2 (s.trans s2)
theorem eQ{K:aG}{wi:TI}{it:Mi.I}{tg:Tg}(hi:gU M wi it)(hm:∀i∈ro tg,M i=false)(hb:AS M κ t m):AS M κ (Bk wi (tX K tg) t) (Mi.cr it tg m):=λH0 Hv0 e σ H Hv D I h=>
 hi e σ H Hv _ I.toR0 ((au.mp h).mono λds h1 J H1 Hv1 P g1 O p1 per=>by
  refine⟨λi k σ' H'=>k=ds.length-i/\i<=ds.length/\∃e' Hv',R1 M H0 Hv0 e' σ' H' Hv'/\P H' Hv'/\Fin (Mi.eY tg m (ds.drop i) e') (gQ M κ H0 Hv0 D Hv'),
   ⟨ds.length,by simp,gE _,e,Hv1,I.grow g1,p1,by rw[sr];exact h1.mono λo z=>z.up g1.vis⟩,?_⟩
  rintro i k σ' H' ⟨rfl,hle,e',Hv',I',pp,hf⟩;by_cases hlt:i<ds.length
  ·refine .inr ⟨O.go i H' Hv' pp I'.vw hlt,λσ2 H2=>∃e2 Hv2,R1 M H0 Hv0 e2 σ2 H2 Hv2/\P H2 Hv2/\Fin (Mi.eY tg m (ds.drop (i+1)) e2) (gQ M κ H0 Hv0 D Hv2),
    λσ2 H2 z=>⟨ds.length-(i+1),by omega,rfl,hlt,z⟩,λx H2 y=>?_⟩
   obtain⟨Hv2,d,g2,hd,rx⟩:=O.yld i H' Hv' x H2 pp I'.vw hlt y;have I2:=I'.grow g2;have hdr:ds.drop i=d::ds.drop (i+1):=by obtain⟨hl,e1⟩:=cv.mp hd;rw[yP hl,e1]
   rw[hdr]at hf;refine x6 (P:=λe1 σ1=>R1 M H0 Hv0 e1 σ1 H2 Hv2) g2.vw (λj hj e1 σ1 d1 v1 r1 z=>r1.set (hm j hj) z) I2 rx ((au.mp hf).mono λe1 h1 σ1 I1=>?_);refine hb H0 Hv0 e1 σ1 H2 Hv2 _ I1 ((au.mp h1).mono λo ho=>?_);cases o with
   |nx e2=>exactλσ2 H3 Hv3 I3 s3=>⟨e2,Hv3,I3,per _ _ _ _ pp (g2.vis.trans s3) I3.vw,Fin.mono ho λo z=>z.up (g2.vis.trans s3)⟩
   |ct e2=>exactλσ2 H3 Hv3 I3 s3=>⟨e2,Hv3,I3,per _ _ _ _ pp (g2.vis.trans s3) I3.vw,Fin.mono ho λo z=>z.up (g2.vis.trans s3)⟩
   |bk e2=>exactλσ2 H3 Hv3 I3 s3=>ho σ2 H3 Hv3 I3 (g2.vis.trans s3)
   |rt w=>exact ho
  ·have hi:i=ds.length:=by omega
   subst hi;refine .inl ⟨O.stop H' Hv' pp I'.vw,?_⟩;rw[uV (bA _)]at hf;exact hf σ' H' Hv' I' (ca.refl _))
theorem Ek{tt:TT}{c:Mi.C}(k:Nat)(hc:AT M tt c)(hb:AS M κ t m):AS M κ (Dh tt t) (Mi.kB k c m):=λH0 Hv0 e σ H Hv D I h=>by
 refine⟨λj σ' H'=>∃e' Hv',R1 M H0 Hv0 e' σ' H' Hv'/\Fin (Mi.hG c m j e') (gQ M κ H0 Hv0 D Hv'),⟨k,e,Hv,I,h⟩,?_⟩;rintro j σ' H' ⟨e',Hv',I',hf⟩;cases j with
 |zero=>exact hf.elim
 |succ j=>
  refine hc e' σ' H' Hv' _ I'.toR0 ((au.mp hf).mono λb hb' H1 Hv1 g1=>?_);cases b with
  |false=>exact lQ ((Mi.nr (Mi.nz hb')) σ' H1 Hv1 (I'.grow g1) g1.vis)
  |true=>
   refine lY ⟨λσ2 H2=>∃e2 Hv2,R1 M H0 Hv0 e2 σ2 H2 Hv2/\Fin (Mi.hG c m j e2) (gQ M κ H0 Hv0 D Hv2),λσ2 H2 z=>⟨j,zj j,z⟩,?_⟩;refine hb H0 Hv0 e' σ' H1 Hv1 _ (I'.grow g1) ((au.mp (Mi.nC hb')).mono λo ho=>?_);cases o with
   |nx e2=>exactλσ2 H2 Hv2 I2 s2=>⟨e2,Hv2,I2,Fin.mono ho λo z=>z.up (g1.vis.trans s2)⟩
   |ct e2=>exactλσ2 H2 Hv2 I2 s2=>⟨e2,Hv2,I2,Fin.mono ho λo z=>z.up (g1.vis.trans s2)⟩
   |bk e2=>exactλσ2 H2 Hv2 I2 s2=>ho σ2 H2 Hv2 I2 (g1.vis.trans s2)
   |rt w=>exact ho
end
end A
namespace A
open PySem L2 PyProof.Rows
open Mi (D W Rs Fin au Out Tg)
variable[Tb:bM]
section
variable{M:Nat->Bool}{κ:Kd}{te:TE}{a b:Mi.E}{w:Mi.EW}{K:aG}
theorem R1.write{H0 Hv0:Hp}{e:Mi.Env}{σ:L2.St}{H Hv:Hp}(I:R1 M H0 Hv0 e σ H Hv){i:Nat}{w w':W}{p:ah}{o:HO}(hm:M i=true)(he:e[i]? = aa (aa w))(hs:σ[i]? = aa (aa (.ref p)))(c:dZ Hv w' o):R1 M H0 Hv0 (e.set i (aa w')) σ (upd H p o) Hv:=by
 have hp:∃o',H p=aa o'/\Hv p=ab/\qu o':=by obtain⟨v,q,a,o',e1,q1,n,c'⟩:=I.own i w he hm;rw[hs]at q;cases q;cases e1;exact⟨o',q1,n,c'.Es⟩
 obtain⟨o',hp,hn,hcc⟩:=hp;have h0:H0 p=ab:=I.fresh i w p he hm hs;have vw:Vw (upd H p o) Hv:=by
  refine⟨λb u q=>?_,λb xs q=>?_,λb z u q=>?_,I.vw.cd.put hp hcc c.nw,I.vw.nv⟩
  ·rw[aE (cG q hn)];exact I.vw.sub b u q
  ·by_cases hb:b=p
   ·subst hb;rw[bp]at q;cases q;exact c.cell.elim
   ·rw[aE hb]at q;exact I.vw.tup b xs q
  ·by_cases hb:b=p
   ·subst hb;rw[bp]at q;cases q;exact c.cell.elim
   ·rw[aE hb]at q;exact I.vw.frz b z u q
 have get:∀{j:Nat} {w2:W},(e.set i (aa w'))[j]? = aa (aa w2)->(i=j/\w'=w2)\/(i≠j/\e[j]? = aa (aa w2)):=λ{j w2} h=>by
  rcases h9 h with ⟨x,y,_⟩|z
  ·exact .inl ⟨x,fY y⟩
  ·exact .inr z
 have get':∀{j:Nat} {w2:W},(e.set i (aa w'))[j]? = aa (aa w2)->∃w3,e[j]? = aa (aa w3):=λ{j w2} h=>by
  rcases get h with ⟨x,_⟩|⟨_,z⟩
  ·subst x;exact⟨w,he⟩
  ·exact⟨w2,z⟩
 refine⟨⟨vw,by rw[jg];exact I.len,λj w2 h m=>?_,λj w2 h m=>?_⟩,⟨I.gw.old.put h0 hp,I.gw.vis,vw,I.gw.hid⟩,λj w2 x h m q=>?_,λj k w1 w2 x y hjk h1 h2 m1 m2 q1 q2=>?_⟩
 ·rcases get h with ⟨rfl,_⟩|⟨_,z⟩
  ·rw[hm]at m;cases m
  ·exact I.nob j w2 z m
 ·rcases get h with ⟨rfl,rfl⟩|⟨n,z⟩
  ·exact⟨.ref p,hs,p,o,rfl,bp,hn,c⟩
  ·obtain⟨v,q,x,u,e1,q1,n1,c1⟩:=I.own j w2 z m;subst e1;have:=I.sep i j w w2 p x n he z hm m hs q;exact⟨.ref x,q,x,u,rfl,by rw[aE (dN this)];exact q1,n1,c1⟩
 ·obtain⟨w3,z⟩:=get' h;exact I.fresh j w3 x z m q
 ·obtain⟨w3,z3⟩:=get' h1;obtain⟨w4,z4⟩:=get' h2;exact I.sep j k w3 w4 x y hjk z3 z4 m1 m2 q1 q2
theorem R1.cell{H0 Hv0:Hp}{e:Mi.Env}{σ:L2.St}{H Hv:Hp}(I:R1 M H0 Hv0 e σ H Hv){i:Nat}{w:W}(hm:M i=true)(he:e[i]? = aa (aa w)):∃p o,σ[i]? = aa (aa (.ref p))/\H p=aa o/\Hv p=ab/\H0 p=ab/\dZ Hv w o:=by obtain⟨v,q,p,o,rfl,q1,n,c⟩:=I.own i w he hm;exact⟨p,o,q,q1,n,I.fresh i w p he hm q,c⟩
theorem nk{e:Mi.Env}{i:Nat}{k:List D->Prop}(h:Fin (Mi.getL e i) k):∃ds,e[i]? = aa (aa (.d (.lst ds)))/\k ds:=by
 unfold Mi.getL at h;split at h
 ·exact⟨_,‹_›,h⟩
 ·exact h.elim
theorem R1.list{H0 Hv0:Hp}{e:Mi.Env}{σ:L2.St}{H Hv:Hp}(I:R1 M H0 Hv0 e σ H Hv){i:Nat}{ds:List D}(hm:M i=true)(he:e[i]? = aa (aa (.d (.lst ds)))):∃p xs,σ[i]? = aa (aa (.ref p))/\H p=aa (.lst xs)/\Hv p=ab/\P2 (Rep Hv) ds xs:=by
 obtain⟨p,o,q,q1,n,_,c⟩:=I.cell hm he;cases o with
 |lst xs=>exact⟨p,xs,q,q1,n,c⟩
 |_=>exact c.elim
theorem R1.name{H0 Hv0:Hp}{e:Mi.Env}{σ:L2.St}{H Hv H1 Hv1:Hp}(I:R1 M H0 Hv0 e σ H Hv)(g:bz H Hv H1 Hv1){i:Nat}{w:W}{v:V}(hm:M i=true)(k:qN H H1 Hv1 w v):R1 M H0 Hv0 (e.set i (aa w)) (σ.set i (aa v)) H1 Hv1:=by
 obtain⟨p,o,rfl,hf,hp,hn,c⟩:=k;have I1:=I.grow g;have other:∀{j:Nat} {w2:W} {x:ah},e[j]? = aa (aa w2)->M j=true->σ[j]? = aa (aa (.ref x))->x≠p:=λ{j w2 x} h m q=>by
  obtain⟨p',o',q',q1,_⟩:=I.cell m h;rw[q]at q';cases q';exact cG q1 hf
 refine⟨⟨I1.vw,by rw[jg,jg];exact I.len,λj w2 h m=>?_,λj w2 h m=>?_⟩,I1.gw,λj w2 x h m q=>?_,λj k w1 w2 x y hjk h1 h2 m1 m2 q1 q2=>?_⟩
 ·rcases h9 h with ⟨rfl,_⟩|⟨n,z⟩
  ·rw[hm]at m;cases m
  ·obtain⟨u,q,r⟩:=I1.nob j w2 z m;exact⟨u,by rw[dC n];exact q,r⟩
 ·rcases h9 h with ⟨rfl,h,l⟩|⟨n,z⟩
  ·cases h;exact⟨.ref p,by rw[lq (by rw[I.len];exact l)],p,o,rfl,hp,hn,c⟩
  ·obtain⟨u,q,r⟩:=I1.own j w2 z m;exact⟨u,by rw[dC n];exact q,r⟩
 ·rcases h9 h with ⟨rfl,h,l⟩|⟨n,z⟩
  ·rw[lq (by rw[I.len];exact l)]at q;cases q;exact I.gw.old.free hf
  ·rw[dC n]at q;exact I.fresh j w2 x z m q
 ·rcases h9 h1 with ⟨rfl,_,l⟩|⟨n,z⟩
  ·rw[lq (by rw[I.len];exact l)]at q1;cases q1;rcases h9 h2 with ⟨rfl,_,_⟩|⟨n2,z2⟩
   ·exact absurd rfl hjk
   ·rw[dC n2]at q2;exact dN (other z2 m2 q2)
  ·rw[dC n]at q1;rcases h9 h2 with ⟨rfl,_,l⟩|⟨n2,z2⟩
   ·rw[lq (by rw[I.len];exact l)]at q2;cases q2;exact other z m1 q1
   ·rw[dC n2]at q2;exact I.sep j k w1 w2 x y hjk z z2 m1 m2 q1 q2
theorem iO(i:Nat)(hm:M i=true)(ha:AE M qN te a):AS M κ (ip te (fJ i)) (Mi.bi i a):=λH0 Hv0 e σ H Hv D I h=>
 ha e σ H Hv _ I.toR0 ((au.mp h).mono λd hd v H1 Hv1 g1 r=>hd _ H1 Hv1 (I.name g1 hm r) g1.vis)
theorem uE(i:Nat)(hm:M i=true)(ha:AW M qN te w):AS M κ (ip te (fJ i)) (Mi.kU i w):=λH0 Hv0 e σ H Hv D I h=>
 ha e σ H Hv _ I.toR0 ((au.mp h).mono λd hd v H1 Hv1 g1 r=>hd _ H1 Hv1 (I.name g1 hm r) g1.vis)
theorem Cy:AW M qN Bi (λ_=>.ok (.dk [])):=λe σ H Hv Q I h p hp=>
 h _ _ Hv (.m8 I.vw trivial hp) ⟨p,.dK [],rfl,hp,bp,lR I.vw hp,.nil⟩
theorem No:AW M qN Dw (λ_=>.ok (.dt [])):=λe σ H Hv Q I h p hp=>
 h _ _ Hv (.m8 I.vw trivial hp) ⟨p,.dT [],rfl,hp,bp,lR I.vw hp,.nil⟩
theorem lp(i:Nat)(hm:M i=true)(ha:AE M qV te a):AS M κ (lZ (nD K "list" xt (eA i) (fN te gO))) (Mi.ce i a):=λH0 Hv0 e σ H Hv D I h=>by
 obtain⟨d,hd,h⟩:=jK (au.mp h);obtain⟨ds,he,h⟩:=nk (au.mp h);obtain⟨hz,h⟩:=Mi.cQ h;obtain⟨p,xs,q,q1,n,c⟩:=I.list hm he;refine⟨.ref p,q,.inl ⟨rfl,xs,.inl (.inl q1)⟩,ha e σ H Hv _ I.toR0 (by
  rw[hd];intro v H1 Hv1 g1 r;have I1:=I.grow g1;refine⟨p,xs,v,rfl,rfl,g1.old.at q1,by rw[<- c.len,dS];exact hz,?_⟩;exact h σ _ Hv1 (I1.write hm he q (show dZ Hv1 (.d (.lst (ds++[d]))) (.lst (xs++[v]))from(dY g1.vis c).append (.cons r .nil))) g1.vis)⟩
theorem OL(i:Nat)(hm:M i=true):AS M κ (lZ (qJ K "list" BA (eA i))) (Mi.w5 i):=λH0 Hv0 e σ H Hv D I h=>by
 obtain⟨ds,he,h⟩:=nk (au.mp h);obtain⟨p,xs,q,q1,n,c⟩:=I.list hm he;exact⟨.ref p,q,.inl ⟨rfl,xs,.inl (.inl q1)⟩,p,xs,rfl,rfl,q1,h σ _ Hv (I.write hm he q (show dZ Hv (.d (.lst ds.reverse)) (.lst xs.reverse)from c.rev)) (ca.refl _)⟩
theorem hW{α:Type}{o:Option α}{k:α->Prop}(h:Fin (Mi.dA o) k):∃x,o=aa x/\k x:=by
 cases o with
 |some x=>exact⟨x,rfl,h⟩
 |none=>exact h.elim
theorem Is(x y:Nat)(hx:M x=false)(hy:M y=true):AS M κ (ip (qJ K "list" FK (eA y)) (fJ x)) (Mi.qA x y):=λH0 Hv0 e σ H Hv D I h=>by
 obtain⟨ds,he,h⟩:=nk (au.mp h);obtain⟨d,hd,h⟩:=hW (au.mp h);obtain⟨p,xs,q,q1,n,c⟩:=I.list hy he;rw[c.len]at hd;obtain⟨v,hv,r⟩:=c.getL hd;exact⟨.ref p,q,.inl ⟨rfl,xs,.inl (.inl q1)⟩,p,xs,v,rfl,rfl,q1,hv,h _ _ Hv ((I.write hy he q (show dZ Hv (.d (.lst ds.dropLast)) (.lst xs.dropLast)from c.dropLast)).set hx r) (ca.refl _)⟩
theorem Dl{n:Nat}{i:Int}{k:Nat}(h:Mi.fI n i=aa k):seqIndex? i n=aa k:=by
 unfold Mi.fI at h;split at h
 ·split at h
  ·rw[seqIndex_of (by omega) (by omega)];exact h
  ·cases h
 ·split at h
  ·rw[seqIndex_neg (by omega) (by omega)];exact h
  ·cases h
theorem DR{ds:List D}{i:Int}{k:D×List D->Prop}(h:Fin (Mi.ng ds i) k):-(2 ^ 63)<=i/\i<2 ^ 63/\∃j d,Mi.fI ds.length i=aa j/\ds[j]? = aa d/\k (d,ds.eraseIdx j):=by obtain⟨⟨h1,h2⟩,h⟩:=Mi.cQ h;obtain⟨j,hj,h⟩:=hW (au.mp h);obtain⟨d,hd,h⟩:=hW (au.mp h);exact⟨h1,h2,j,d,hj,hd,h⟩
theorem IM(x y:Nat)(hx:M x=false)(hy:M y=true)(ha:AE M qP te a):AS M κ (ip (nD K "list" x9 (eA y) (fN te gO)) (fJ x)) (Mi.lO x y a):=λH0 Hv0 e σ H Hv D I h=>by
 obtain⟨z,hz,h⟩:=jK (au.mp h);obtain⟨i,rfl,h⟩:=tK (au.mp h);obtain⟨ds,he,h⟩:=nk (au.mp h);obtain⟨h1,h2,j,d,hj,hd,h⟩:=DR (au.mp h);obtain⟨p,xs,q,q1,n,c⟩:=I.list hy he;refine⟨.ref p,q,.inl ⟨rfl,xs,.inl (.inl q1)⟩,ha e σ H Hv _ I.toR0 (by
  rw[hz];intro v H1 Hv1 g1 r;have I1:=I.grow g1;cases RD.int r;obtain⟨u,hu,ru⟩:=c.getL hd;rw[c.len]at hj;refine⟨p,xs,i,j,u,rfl,rfl,g1.old.at q1,h1,h2,Dl hj,hu,?_⟩;exact h _ _ Hv1 ((I1.write hy he q (show dZ Hv1 (.d (.lst (ds.eraseIdx j))) (.lst (xs.eraseIdx j))from(dY g1.vis c).erase j)).set hx (jr g1.vis ru)) g1.vis)⟩
theorem Og(x y:Nat)(hxy:x≠y)(hx:M x=true)(hy:M y=true)(ha:AE M qP te a):AS M κ (lZ (nD K "list" xt (eA x) (fN (nD K "list" x9 (eA y) (fN te gO)) gO))) (Mi.sU x y a):=λH0 Hv0 e σ H Hv D I h=>by
 obtain⟨z,hz,h⟩:=jK (au.mp h);obtain⟨i,rfl,h⟩:=tK (au.mp h);obtain⟨ds,he,h⟩:=nk (au.mp h);obtain⟨h1,h2,j,d,hj,hd,h⟩:=DR (au.mp h);obtain⟨es,he2,h⟩:=nk (au.mp h);obtain⟨hsz,h⟩:=Mi.cQ h;have GX:e[x]? = aa (aa (.d (.lst es))):=by
  have he2:(e.set y (aa (.d (.lst (ds.eraseIdx j)))))[x]? = _:=he2
  rwa [dC (dN hxy)]at he2
 obtain⟨p,xs,q,q1,n,c⟩:=I.list hy he;obtain⟨p',xs',q',q1',n',c'⟩:=I.list hx GX;have hpp:p'≠p:=I.sep x y _ _ p' p hxy GX he hx hy q' q;refine⟨.ref p',q',.inl ⟨rfl,xs',.inl (.inl q1')⟩,.ref p,q,.inl ⟨rfl,xs,.inl (.inl q1)⟩,ha e σ H Hv _ I.toR0 (by
  rw[hz];intro v H1 Hv1 g1 r;have I1:=I.grow g1;cases RD.int r;obtain⟨u,hu,ru⟩:=c.getL hd;rw[c.len]at hj;refine⟨p,xs,i,j,u,rfl,rfl,g1.old.at q1,h1,h2,Dl hj,hu,?_⟩;have I2:=I1.write hy he q (show dZ Hv1 (.d (.lst (ds.eraseIdx j))) (.lst (xs.eraseIdx j))from(dY g1.vis c).erase j);refine⟨p',xs',u,rfl,rfl,by rw[aE hpp];exact g1.old.at q1',by rw[<- c'.len,dS];exact hsz,?_⟩;exact h σ _ Hv1 (I2.write hx he2 q' (show dZ Hv1 (.d (.lst (es++[d]))) (.lst (xs'++[u]))from(dY g1.vis c').append (.cons (jr g1.vis ru) .nil))) g1.vis)⟩
theorem qO(i:Nat)(hm:M i=true):AS M qN (qi (eA i)) (Mi.br (Mi.wV i)):=λH0 Hv0 e σ H Hv D I h=>by
 obtain⟨w,he,h⟩:=pw (au.mp h);obtain⟨p,o,q,q1,n,h0,c⟩:=I.cell hm he;exact⟨.ref p,q,h _ H Hv I.gw ⟨p,o,rfl,h0,q1,n,c⟩⟩
theorem R1.II{H0 Hv0:Hp}{e:Mi.Env}{σ:L2.St}{H Hv:Hp}(I:R1 M H0 Hv0 e σ H Hv){y:Nat}{w:W}(hy:M y=true)(he:e[y]? = aa (aa w)):∃p Hv',σ[y]? = aa (aa (.ref p))/\R1 M H0 Hv0 (e.set y ab) σ H Hv'/\ca Hv Hv'/\gf Hv' w (.ref p):=by
 obtain⟨p,o,q,q1,n,h0,c⟩:=I.cell hy he;obtain⟨vw,s⟩:=I.vw.show q1 n c.nt;have nj:∀{j:Nat} {w':W},(e.set y ab)[j]? = aa (aa w')->y≠j/\e[j]? = aa (aa w'):=λ{j w'} h=>by
  rcases h9 h with ⟨_,h,_⟩|z
  ·cases h
  ·exact z
 refine⟨p,upd Hv p o,q,⟨⟨vw,by rw[jg];exact I.len,λj w' h m=>?_,λj w' h m=>?_⟩,⟨I.gw.old,I.gw.vis.trans s,vw,λb u z1 z2=>?_⟩,λj w' x h m z=>?_,λj k w1 w2 x z hjk h1 h2 m1 m2 z1 z2=>?_⟩,s,sW bp (c.same s)⟩
 ·obtain⟨_,h⟩:=nj h;obtain⟨v,z,r⟩:=I.nob j w' h m;exact⟨v,z,m9 s r⟩
 ·obtain⟨hne,h⟩:=nj h;obtain⟨v,z,x,u,e1,q2,n2,c2⟩:=I.own j w' h m;subst e1;have:=I.sep y j w w' p x hne he h hy m q z;exact⟨.ref x,z,x,u,rfl,q2,by rw[aE (dN this)];exact n2,c2.same s⟩
 ·rw[aE (cG z1 h0)];exact I.gw.hid b u z1 z2
 ·exact I.fresh j w' x (nj h).2 m z
 ·exact I.sep j k w1 w2 x z hjk (nj h1).2 (nj h2).2 m1 m2 z1 z2
theorem vX{κ':Type}[DecidableEq κ']{H:Hp}{k:κ'}{ak:List (κ'×D)}{kv:List (κ'×V)}(h:eF H ak kv):match Mi.gB ak k with
 |some d=>∃v,gJ kv k=aa v/\Rep H d v
 |none=>gJ kv k=ab:=by
 unfold Mi.gB gJ
 induction h with
 |nil=>rfl
 | @cons p q l m hpq t ih=>
  rw[j0,j0,hpq.1];by_cases hk:q.1=k
  ·rw[bV hk];exact⟨q.2,rfl,hpq.2⟩
  ·rw[cE hk];exact ih
theorem B6{κ':Type}[DecidableEq κ']{H:Hp}{k:κ'}{d:D}{v:V}(r:Rep H d v){ak:List (κ'×D)}{kv:List (κ'×V)}(h:eF H ak kv):eF H (Mi.putK k d ak) (L2.putK kv k v):=by
 have e:(ak.any λx=>decide (x.1=k))=(kv.any λx=>decide (x.1=k)):=by
  induction h with
  |nil=>rfl
  | @cons p q l m hpq t ih=>rw[iF,iF,ih,hpq.1]
 unfold Mi.putK L2.putK;rw[e];split
 ·rename_i hh;clear hh e
  induction h with
  |nil=>exact .nil
  | @cons p q l m hpq t ih=>
   rw[cS,cS];refine .cons ?_ ih
   ·by_cases hk:q.1=k
    ·rw[bb hk,bb (hpq.1.trans hk)];exact⟨hpq.1,r⟩
    ·rw[bc hk,bc (λz=>hk (hpq.1.symm.trans z))];exact hpq
 ·exact P2.append h (.cons ⟨rfl,r⟩ .nil)
end
end A
namespace A
open PySem L2 PyProof.Rows
open Mi (D W Rs Fin au Out Tg)
variable[Tb:bM]
section
variable{X:Cx}{K:aG}
def Jp:R2:=λx y H Q=>∃i j,x=.str i/\y=.str j/\i.length+j.length<=sizeLine/\Q (.str (i++j)) H
theorem ub{ae:List (ah×Obj)}{σ:L2.St}{H:Hp}{s:ap}{a:ah}{xs:List V}(I:Inv X ae σ H s)(h:Lst H a xs):∃(am:List ai) (n:Nat),Vals xs am/\xs.length<=sizeLine/\s.heap.get? a=aa { cls:=.type "list", data:=.seq am.toArray n }:=by
 rcases h with h|⟨o,h⟩
 ·obtain⟨z,am,n,r,e⟩:=I.hok a _ h;exact⟨am,n,r,z,e⟩
 ·obtain⟨_,z,am,n,r,e⟩:=I.hok a _ h;exact⟨am,n,r,z,e⟩
def Cg:R2:=λx y H Q=>∃l b xs zs,x=.ref l/\y=.ref b/\Lst H l xs/\Lst H b zs/\xs.length+zs.length<=sizeLine/\∀p,H p=ab->Q (.ref p) (upd H p (.lst (xs++zs)))
theorem Kv:c7 X (binaryOp .Add) Cg:=by
 intro ae s σ H x y v u Q I rx ry h;obtain⟨l,b,xs,zs,rfl,rfl,hH,hB,hz,q⟩:=h;cases rx;cases ry;obtain⟨am,n,r,z,e⟩:=ub I hH;obtain⟨its2,n2,r2,z2,e2⟩:=ub I hB;have hl:=r.length;have hl2:=r2.length;refine PySem.P.add_list e e2 ?_ (by rw[cX,cX];omega);have ea:am.toArray++its2.toArray=(am++its2).toArray:=by simp
 rw[ea];exact⟨.ref _,_,I.Js (t':=s.toks) (r.append r2) (by rw[cu];omega),rfl,q _ I.fresh⟩
def EM:R2:=λx y H Q=>j8 (λi j=>.int (i+j)) x y H Q\/Jp x y H Q\/Cg x y H Q
theorem cO:c7 X (binaryOp .Add) EM:=OI.or (c7.or Ou Kv)
theorem Av{H Hv:Hp}(vw:Vw H Hv){ds:List D}{xs:List V}(r:P2 (Rep Hv) ds xs){p:ah}(hp:H p=ab):bz H Hv (upd H p (.lst xs)) Hv/\qN H (upd H p (.lst xs)) Hv (.d (.lst ds)) (.ref p):=⟨.m8 vw trivial hp,p,.lst xs,rfl,hp,bp,lR vw hp,r⟩
theorem xR{H Hv:Hp}(vw:Vw H Hv){ds:List D}{xs:List V}(r:P2 (Rep Hv) ds xs){p:ah}(hp:H p=ab):bz H Hv (upd H p (.lst xs)) (upd Hv p (.lst xs))/\qV H (upd H p (.lst xs)) (upd Hv p (.lst xs)) (.d (.lst ds)) (.ref p):=by have g:bz H Hv (upd H p (.lst xs)) (upd Hv p (.lst xs)):=.new vw hp;exact⟨g,i3.mpr ⟨p,xs,rfl,.inl bp,dY g.vis r⟩⟩
theorem uP{H Hv:Hp}(vw:Vw H Hv){ds:List D}{xs:List V}(r:P2 (Rep Hv) ds xs){p:ah}(hp:H p=ab):bz H Hv (upd H p (.tup xs)) (upd Hv p (.tup xs))/\qV H (upd H p (.tup xs)) (upd Hv p (.tup xs)) (.d (.tup ds)) (.ref p):=by have g:bz H Hv (upd H p (.tup xs)) (upd Hv p (.tup xs)):=.new vw hp;exact⟨g,i8.mpr ⟨p,xs,rfl,bp,dY g.vis r⟩⟩
theorem cM:B2 qV EM Mi.aY:=λx y v u H Hv Q vw rx ry h=>by
 cases x with
 | int i=>cases y with
  |int j=>cases RD.int rx;cases RD.int ry;exact .inl ⟨i,j,rfl,rfl,h _ H Hv (.refl vw) jV⟩
  |_=>exact h.elim
 | str i=>cases y with
  |str j=>
   cases RD.str rx;cases RD.str ry;obtain⟨hz,h⟩:=Mi.cQ h;exact .inr (.inl ⟨i,j,rfl,rfl,by rw[dS];exact hz,h _ H Hv (.refl vw) qC⟩)
  |_=>exact h.elim
 | lst a=>cases y with
  |lst b=>
   obtain⟨hz,h⟩:=Mi.cQ h;obtain⟨p,xs,rfl,l1,r1⟩:=RD.lst vw rx;obtain⟨q,ys,rfl,l2,r2⟩:=RD.lst vw ry;refine .inr (.inr ⟨p,q,xs,ys,rfl,rfl,l1,l2,by rw[<- r1.len,<- r2.len,dS];exact hz,λa ha=>?_⟩);obtain⟨g,k⟩:=xR vw (r1.append r2) ha;exact h _ _ _ g k
  |_=>exact h.elim
 |_=>cases y<;>exact h.elim
theorem ET:B2 qV (j8 λi j=>.int (i-j)) Mi.kZ:=λx y v u H Hv Q vw rx ry h=>by
 cases x with
 | int i=>cases y with
  |int j=>cases RD.int rx;cases RD.int ry;exact⟨i,j,rfl,rfl,h _ H Hv (.refl vw) jV⟩
  |_=>exact h.elim
 |_=>cases y<;>exact h.elim
theorem gq:B2 qV (rI uG λi j=>.int (i*j)) Mi.bY:=λx y v u H Hv Q vw rx ry h=>by
 cases x with
 | int i=>cases y with
  |int j=>cases RD.int rx;cases RD.int ry;obtain⟨hz,h⟩:=Mi.cQ h;exact⟨i,j,rfl,rfl,hz,h _ H Hv (.refl vw) jV⟩
  |_=>exact h.elim
 |_=>cases y<;>exact h.elim
theorem jN:B2 qV (rI A6 λi j=>.int (i/j)) Mi.cW:=λx y v u H Hv Q vw rx ry h=>by
 cases x with
 | int i=>cases y with
  |int j=>cases RD.int rx;cases RD.int ry;obtain⟨hz,h⟩:=Mi.cQ h;exact⟨i,j,rfl,rfl,hz,h _ H Hv (.refl vw) jV⟩
  |_=>exact h.elim
 |_=>cases y<;>exact h.elim
theorem fk:B2 qV (rI (λ_ j=>0<j) λi j=>.int (i%j)) Mi.bI:=λx y v u H Hv Q vw rx ry h=>by
 cases x with
 | int i=>cases y with
  |int j=>cases RD.int rx;cases RD.int ry;obtain⟨hz,h⟩:=Mi.cQ h;exact⟨i,j,rfl,rfl,hz,h _ H Hv (.refl vw) jV⟩
  |_=>exact h.elim
 |_=>cases y<;>exact h.elim
def Ch:R2:=λx y H Q=>j8 (λi j=>.bl (decide (i<j))) x y H Q\/∃i j,x=.str i/\y=.str j/\Q (.bl (decide (i.cps.toList<j.cps.toList))) H
theorem uF:c7 X (compareOp .Lt) Ch:=OK.or LV
def DP:R2:=λx y H Q=>j8 (λi j=>.bl (decide (j<i))) x y H Q\/∃i j,x=.str i/\y=.str j/\Q (.bl (decide (j.cps.toList<i.cps.toList))) H
theorem DG:c7 X (compareOp .Gt) DP:=KS.or OZ
theorem uM:B2 qV Ch Mi.fV:=λx y v u H Hv Q vw rx ry h=>by
 cases x with
 | int i=>cases y with
  |int j=>cases RD.int rx;cases RD.int ry;exact .inl ⟨i,j,rfl,rfl,h _ H Hv (.refl vw) eZ⟩
  |_=>exact h.elim
 | str i=>cases y with
  |str j=>cases RD.str rx;cases RD.str ry;exact .inr ⟨i,j,rfl,rfl,h _ H Hv (.refl vw) eZ⟩
  |_=>exact h.elim
 |_=>cases y<;>exact h.elim
theorem CO:B2 qV DP Mi.nF:=λx y v u H Hv Q vw rx ry h=>by
 cases x with
 | int i=>cases y with
  |int j=>cases RD.int rx;cases RD.int ry;exact .inl ⟨i,j,rfl,rfl,h _ H Hv (.refl vw) eZ⟩
  |_=>exact h.elim
 | str i=>cases y with
  |str j=>cases RD.str rx;cases RD.str ry;exact .inr ⟨i,j,rfl,rfl,h _ H Hv (.refl vw) eZ⟩
  |_=>exact h.elim
 |_=>cases y<;>exact h.elim
def uc(K:aG)(neg:Bool):R2:=λx y H Q=>∃d e,L2.Rep K H d x/\L2.Rep K H e y/\d.dep<=16/\Q (.bl (if neg then !Mi.bF d e else Mi.bF d e)) H
theorem jO:B2 qV (uc K false) Mi.b9:=λx y v u H Hv Q vw rx ry h=>by
 obtain⟨hz,h⟩:=Mi.cQ h;exact⟨x,y,kS K (RD.full vw rx),kS K (RD.full vw ry),hz,h _ H Hv (.refl vw) eZ⟩
theorem mU:B2 qV (uc K true) Mi.fQ:=λx y v u H Hv Q vw rx ry h=>by
 obtain⟨hz,h⟩:=Mi.cQ h;exact⟨x,y,kS K (RD.full vw rx),kS K (RD.full vw ry),hz,h _ H Hv (.refl vw) eZ⟩
def FG(K:aG):R2:=λx y H Q=>uy K false x y H Q\/Fp false x y H Q
theorem oW(hu:X.A.units+64<cLine):c7 X (compareOp .In) (FG X.K):=(Ln hu).or Jv
theorem uv{H:Hp}{ds:List D}{xs:List V}(h:P2 (Rep H) ds xs):L2.bj K H ds xs:=t8 K (mZ.mpr h)
theorem oE:B2 qV (FG K) Mi.eR:=λx y v u H Hv Q vw rx ry h=>by
 cases y with
 |lst ds=>
  obtain⟨hz,h⟩:=Mi.cQ h;obtain⟨p,xs,rfl,l1,r1⟩:=RD.lst vw ry;exact .inl ⟨p,xs,x,ds,rfl,.inl l1.sq,kS K (RD.full vw rx),uv (dY vw.sub r1),hz,h _ H Hv (.refl vw) eZ⟩
 |tup ds=>
  obtain⟨hz,h⟩:=Mi.cQ h;obtain⟨p,xs,rfl,l1,_,r1⟩:=RD.tup vw ry;exact .inl ⟨p,xs,x,ds,rfl,.inr (.inl (.inl l1)),kS K (RD.full vw rx),uv (dY vw.sub r1),hz,h _ H Hv (.refl vw) eZ⟩
 | str z=>cases x with
  |str c=>
   obtain⟨hz,h⟩:=Mi.cQ h;cases RD.str rx;cases RD.str ry;obtain⟨⟨l⟩⟩:=c
   match l,hz with
   |[c],_=>exact .inr ⟨c,z,rfl,rfl,h _ H Hv (.refl vw) eZ⟩
  |_=>exact h.elim
 |_=>exact h.elim
theorem jy:B2 qV (uy K true) Mi.dH:=λx y v u H Hv Q vw rx ry h=>by
 cases y with
 |lst ds=>
  obtain⟨hz,h⟩:=Mi.cQ h;obtain⟨p,xs,rfl,l1,r1⟩:=RD.lst vw ry;exact⟨p,xs,x,ds,rfl,.inl l1.sq,kS K (RD.full vw rx),uv (dY vw.sub r1),hz,h _ H Hv (.refl vw) eZ⟩
 |tup ds=>
  obtain⟨hz,h⟩:=Mi.cQ h;obtain⟨p,xs,rfl,l1,_,r1⟩:=RD.tup vw ry;exact⟨p,xs,x,ds,rfl,.inr (.inl (.inl l1)),kS K (RD.full vw rx),uv (dY vw.sub r1),hz,h _ H Hv (.refl vw) eZ⟩
 |_=>exact h.elim
theorem Lu{α:Type}(xs:List α)(i:Int):Mi.dO xs i=L2.dO xs i:=rfl
theorem DL{α β:Type}{F:α->β->Prop}{l:List α}{m:List β}(h:P2 F l m){i:Int}{a:α}(e:Mi.dO l i=aa a):∃b,L2.dO m i=aa b/\F a b:=by
 unfold Mi.dO at e;cases hj:Mi.fI l.length i with
 |none=>rw[hj]at e;cases e
 |some j=>
  rw[hj]at e;have e:l[j]? = aa a:=e;obtain⟨b,hb,r⟩:=h.getL e;refine⟨b,?_,r⟩;rw[<- Lu];unfold Mi.dO;rw[<- h.len,hj];exact hb
theorem c8:B2 qV (qm K) Mi.bd:=λx y v u H Hv Q vw rx ry h=>by
 cases y with
 |int i=>
  cases RD.int ry;cases x with
  |lst ds=>
   obtain⟨d,e,h⟩:=hW h;obtain⟨p,xs,rfl,l1,r1⟩:=RD.lst vw rx;obtain⟨z,ez,rz⟩:=DL r1 e;exact .inl ⟨p,xs,i,z,rfl,rfl,l1.sq,ez,h z H Hv (.refl vw) rz⟩
  |tup ds=>
   obtain⟨d,e,h⟩:=hW h;obtain⟨p,xs,rfl,l1,_,r1⟩:=RD.tup vw rx;obtain⟨z,ez,rz⟩:=DL r1 e;exact .inr (.inl ⟨p,xs,i,z,rfl,rfl,.inl (.inl l1),ez,h z H Hv (.refl vw) rz⟩)
  |str z=>
   cases RD.str rx;obtain⟨hz,h⟩:=Mi.cQ h;obtain⟨c,e,h⟩:=hW (au.mp h);exact .inr (.inr ⟨z,i,c,rfl,rfl,by rw[dS];exact hz,e,h _ H Hv (.refl vw) qC⟩)
  |_=>exact h.elim
 |_=>cases x<;>exact h.elim
theorem E6{F:D->V->Prop}{l:List D}{m:List V}(h:P2 F l m)(lo hi:Option Int):P2 F (Mi.jI l lo hi) (L2.oo m lo hi):=by unfold Mi.jI L2.oo;rw[h.len];exact(h.drop _).take _
def EH(K:aG):V->Option Int->Option Int->Hp->VK->Prop:=λx lo hi H Q=>wX K x lo hi H Q\/Bc x lo hi H Q
theorem qS:kz X (EH X.K):=FF.or NF
theorem Jx(z:Str)(lo hi:Option Int):ox z lo hi=Mi.ma z lo hi:=by
 unfold ox Mi.ma Mi.jI;have:z.cps.toList.length=z.length:=by simp[nY]
 rw[this];rfl
theorem ri:BS qV (EH K) Mi.g6:=λx lo hi v H Hv Q vw rx h=>by
 cases x with
 |lst ds=>
  obtain⟨p,xs,rfl,l1,r1⟩:=RD.lst vw rx;refine .inl ⟨p,xs,rfl,l1.sq,λa ha=>?_⟩;obtain⟨g,k⟩:=xR vw (E6 r1 lo hi) ha;exact h _ _ _ g k
 |str z=>
  cases RD.str rx;obtain⟨hz,h⟩:=Mi.cQ h;exact .inr ⟨z,rfl,by rw[dS];exact hz,h _ H Hv (.refl vw) (by rw[Jx];exact qC)⟩
 |_=>exact h.elim
theorem mq{F:D->V->Prop}{d:D}{vs:List V}(h:P2 F [d] vs):∃v,vs=[v]/\F d v:=by
 cases h with
 |cons r t=>cases t;exact⟨_,rfl,r⟩
theorem Fw{F:D->V->Prop}{d e:D}{vs:List V}(h:P2 F [d,e] vs):∃v u,vs=[v,u]/\F d v/\F e u:=by
 cases h with
 | cons r t=>cases t with
  |cons r' t=>cases t;exact⟨_,_,rfl,r,r'⟩
def AG(K:aG):List V->Hp->VK->Prop:=λxs H Q=>∃x n,xs=[x]/\EK K x H n/\Q (.int n) H
theorem lV:f8 X (.builtin "len") (AG X.K):=Li
theorem gg:BN qV (AG K) Mi.d3:=λds vs H Hv Q vw r h=>by
 match ds,r,h with
 |[.lst ds],r,h=>
  obtain⟨v,ev,rr⟩:=mq r;subst ev;replace r:=rr;obtain⟨p,xs,rfl,l1,r1⟩:=RD.lst vw r;refine⟨_,xs.length,rfl,.inl ⟨xs,l1.sq,rfl⟩,?_⟩;rw[<- r1.len];exact h _ H Hv (.refl vw) jV
 |[.tup ds],r,h=>
  obtain⟨v,ev,rr⟩:=mq r;subst ev;replace r:=rr;obtain⟨p,xs,rfl,l1,_,r1⟩:=RD.tup vw r;refine⟨_,xs.length,rfl,.inr ⟨xs,.inl (.inl l1),rfl⟩,?_⟩;rw[<- r1.len];exact h _ H Hv (.refl vw) jV
 |[.str z],r,h=>
  obtain⟨v,ev,rr⟩:=mq r;subst ev;replace r:=rr;cases RD.str r;obtain⟨hz,h⟩:=Mi.cQ h;exact⟨_,z.length,rfl,⟨by rw[dS];exact hz,rfl⟩,h _ H Hv (.refl vw) jV⟩
def Bl:List V->Hp->VK->Prop:=λxs H Q=>∃i j z,xs=[.int i,.int j]/\max i j=z/\Q (.int z) H
def D2:List V->Hp->VK->Prop:=λxs H Q=>∃i j z,xs=[.int i,.int j]/\min i j=z/\Q (.int z) H
theorem AX(hc:X.calm=true):f8 X (.builtin "max") Bl:=Lw hc
theorem Jb(hc:X.calm=true):f8 X (.builtin "min") D2:=NN hc
theorem qh:BN qV Bl Mi.iu:=λds vs H Hv Q vw r h=>by
 match ds,r,h with
 |[.int i,.int j],r,h=>
  obtain⟨v,u,ev,rr,r'⟩:=Fw r;subst ev;replace r:=rr;cases RD.int r;cases RD.int r';exact⟨i,j,_,rfl,rfl,h _ H Hv (.refl vw) jV⟩
theorem v9:BN qV D2 Mi.lK:=λds vs H Hv Q vw r h=>by
 match ds,r,h with
 |[.int i,.int j],r,h=>
  obtain⟨v,u,ev,rr,r'⟩:=Fw r;subst ev;replace r:=rr;cases RD.int r;cases RD.int r';exact⟨i,j,_,rfl,rfl,h _ H Hv (.refl vw) jV⟩
theorem BC{Hv:Hp}:∀{ds:List D} {xs:List V} {bs:List Bool},Mi.jz ds=aa bs->P2 (Rep Hv) ds xs->xs=bs.map V.bl
 |[],_,bs,e,r=>by cases e;cases r;rfl
 |.bl b::ds,_,bs,e,r=>by
  cases r with
  |cons x t=>
   cases hb:Mi.jz ds with
   |none=>rw[Mi.jz,hb]at e;cases e
   |some cs=>
    rw[Mi.jz,hb]at e;cases e;rw[BC hb t,og.mp x];rfl
 |.non::_,_,_,e,_=>by cases e
 |.int _::_,_,_,e,_=>by cases e
 |.str _::_,_,_,e,_=>by cases e
 |.lst _::_,_,_,e,_=>by cases e
 |.tup _::_,_,_,e,_=>by cases e
theorem xu:BN qV (Be K (·.any id)) Mi.yI:=λds vs H Hv Q vw r h=>by
 match ds,r,h with
 |[.lst ds],r,h=>
  obtain⟨v,ev,rr⟩:=mq r;subst ev;replace r:=rr;obtain⟨bs,e,h⟩:=hW (au.mp h);obtain⟨p,xs,rfl,l1,r1⟩:=RD.lst vw r;have:=BC e r1;subst this;exact⟨p,bs,rfl,l1.sq,h _ H Hv (.refl vw) eZ⟩
def Em(K:aG):List V->Hp->VK->Prop:=λxs H Q=>∃p ys,xs=[.ref p]/\(d6 K H p ys\/eK K H p ys)/\∀l,H l=ab->Q (.ref l) (upd H l (.lst ys))
theorem kj:f8 X (.type "list") (Em X.K):=LX
theorem ed:BN qN (Em K) Mi.d9:=λds vs H Hv Q vw r h=>by
 match ds,r,h with
 |[.lst ds],r,h=>
  obtain⟨v,ev,rr⟩:=mq r;subst ev;replace r:=rr;obtain⟨p,xs,rfl,l1,r1⟩:=RD.lst vw r;refine⟨p,xs,rfl,.inl l1.sq,λa ha=>?_⟩;obtain⟨g,k⟩:=Av vw r1 ha;exact h _ _ _ g k
 |[.tup ds],r,h=>
  obtain⟨v,ev,rr⟩:=mq r;subst ev;replace r:=rr;obtain⟨p,xs,rfl,l1,_,r1⟩:=RD.tup vw r;refine⟨p,xs,rfl,.inr (.inl (.inl l1)),λa ha=>?_⟩;obtain⟨g,k⟩:=Av vw r1 ha;exact h _ _ _ g k
def Bs(K:aG):List V->Hp->VK->Prop:=λxs H Q=>∃p ys,xs=[.ref p]/\((d6 K H p ys/\∀l,H l=ab->Q (.ref l) (upd H l (.tup ys)))\/(eK K H p ys/\Q (.ref p) H))
theorem lI:f8 X (.type "tuple") (Bs X.K):=HZ
theorem fS:BN qV (Bs K) Mi.ki:=λds vs H Hv Q vw r h=>by
 match ds,r,h with
 |[.lst ds],r,h=>
  obtain⟨v,ev,rr⟩:=mq r;subst ev;replace r:=rr;obtain⟨p,xs,rfl,l1,r1⟩:=RD.lst vw r;refine⟨p,xs,rfl,.inl ⟨l1.sq,λa ha=>?_⟩⟩;obtain⟨g,k⟩:=uP vw r1 ha;exact h _ _ _ g k
 |[.tup ds],r,h=>
  obtain⟨v,ev,rr⟩:=mq r;subst ev;replace r:=rr;obtain⟨p,xs,rfl,l1,l2,r1⟩:=RD.tup vw r;exact⟨p,xs,rfl,.inr ⟨.inl (.inl l1),h _ H Hv (.refl vw) (i8.mpr ⟨p,xs,rfl,l2,r1⟩)⟩⟩
end
end A
namespace A
open PySem L2 PyProof.Rows
open Mi (D W Rs Fin au Out Tg)
variable[Tb:bM]
section
variable{X:Cx}{ae:List (ah×Obj)}{σ:L2.St}{H:Hp}{s:ap}
open SeqAt in
theorem Km:∀{d e:D} {A:bK} {x y:V} {u u':ai},d.flat=true->e.flat=true->L2.Rep X.K H d x->L2.Rep X.K H e y->RelV x u->RelV y u'->RcAt A s u u' (Mi.bF d e)/\RcNeAt A s u u' (!Mi.bF d e):=by
 intro d e A x y u u' h1 h2 r1 r2 q1 q2;cases d with
 |non=>
  rw[L2.Rep]at r1;subst r1;cases q1;cases e with
  |non=>rw[L2.Rep]at r2;subst r2;cases q2;exact⟨RcAt.none_none,RcNeAt.none_none⟩
  |bl b=>rw[L2.Rep]at r2;subst r2;cases q2;exact⟨RcAt.none_bool b,RcNeAt.none_bool b⟩
  |int b=>rw[L2.Rep]at r2;subst r2;obtain⟨t,rfl⟩:=q2;exact⟨RcAt.none_int b t,RcNeAt.none_int b t⟩
  |str b=>rw[L2.Rep]at r2;subst r2;obtain⟨t,rfl⟩:=q2;exact⟨RcAt.none_str b t,RcNeAt.none_str b t⟩
  |_=>cases h2
 |bl a=>
  rw[L2.Rep]at r1;subst r1;cases q1;cases e with
  |non=>rw[L2.Rep]at r2;subst r2;cases q2;exact⟨RcAt.bool_none a,RcNeAt.bool_none a⟩
  |bl b=>rw[L2.Rep]at r2;subst r2;cases q2;rw[Mi.bF];exact⟨RcAt.bool_bool a b,RcNeAt.bool_bool a b⟩
  |int b=>rw[L2.Rep]at r2;subst r2;obtain⟨t,rfl⟩:=q2;rw[Mi.bF];exact⟨RcAt.bool_int a b t,RcNeAt.bool_int a b t⟩
  |str b=>rw[L2.Rep]at r2;subst r2;obtain⟨t,rfl⟩:=q2;exact⟨RcAt.bool_str a b t,RcNeAt.bool_str a b t⟩
  |_=>cases h2
 |int a=>
  rw[L2.Rep]at r1;subst r1;obtain⟨t1,rfl⟩:=q1;cases e with
  |non=>rw[L2.Rep]at r2;subst r2;cases q2;exact⟨RcAt.int_none a t1,RcNeAt.int_none a t1⟩
  |bl b=>rw[L2.Rep]at r2;subst r2;cases q2;rw[Mi.bF];exact⟨RcAt.int_bool a t1 b,RcNeAt.int_bool a t1 b⟩
  |int b=>rw[L2.Rep]at r2;subst r2;obtain⟨t,rfl⟩:=q2;rw[Mi.bF];exact⟨RcAt.int_int a t1 b t,RcNeAt.int_int a t1 b t⟩
  |str b=>rw[L2.Rep]at r2;subst r2;obtain⟨t,rfl⟩:=q2;exact⟨RcAt.int_str a t1 b t,RcNeAt.int_str a t1 b t⟩
  |_=>cases h2
 |str a=>
  rw[L2.Rep]at r1;subst r1;obtain⟨t1,rfl⟩:=q1;cases e with
  |non=>rw[L2.Rep]at r2;subst r2;cases q2;exact⟨RcAt.str_none a t1,RcNeAt.str_none a t1⟩
  |bl b=>rw[L2.Rep]at r2;subst r2;cases q2;exact⟨RcAt.str_bool a t1 b,RcNeAt.str_bool a t1 b⟩
  |int b=>rw[L2.Rep]at r2;subst r2;obtain⟨t,rfl⟩:=q2;exact⟨RcAt.str_int a t1 b t,RcNeAt.str_int a t1 b t⟩
  |str b=>rw[L2.Rep]at r2;subst r2;obtain⟨t,rfl⟩:=q2;rw[Mi.bF];exact⟨RcAt.str_str a t1 b t,RcNeAt.str_str a t1 b t⟩
  |_=>cases h2
 |_=>cases h1
open SeqAt in
theorem C6(I:Inv X ae σ H s):∀(d e:D) (A:bK) {x y:V} {u u':ai},d.dep<=16->A.units+17<cLine->L2.Rep X.K H d x->L2.Rep X.K H e y->RelV x u->RelV y u'->RcAt A s u u' (Mi.bF d e)/\RcNeAt A s u u' (!Mi.bF d e):=by
 intro d e A x y u u' hd hu h h' r r';have hu0:A.units<cLine:=by omega
 have item:∀{ds es:List D} {xs ys:List V} {am its':List ai},Mi.dw ds<=16->L2.bj X.K H ds xs->L2.bj X.K H es ys->Vals xs am->Vals ys its' ->
  ∀j (h1:j<am.toArray.size) (h2:j<its'.toArray.size),EqAt A.in1 s am.toArray[j] its'.toArray[j] (Mi.bF (ds.getD j .non) (es.getD j .non)):=by
  intro ds es xs ys am its' hn q q' v v' j h1 h2;have h1':j<am.length:=by simpa using h1
  have h2':j<its'.length:=by simpa using h2
  have e1:j<xs.length:=by rw[v.length];exact h1'
  have e2:j<ys.length:=by rw[v'.length];exact h2'
  have g1:xs[j]? = aa xs[j]:=by simp[e1]
  have g2:ys[j]? = aa ys[j]:=by simp[e2]
  obtain⟨w1,k1,r1⟩:=v.get g1;obtain⟨w2,k2,r2⟩:=v'.get g2;have t1:am.toArray[j]=w1:=by obtain⟨_,k1⟩:=cv.mp k1;simpa using k1
  have t2:its'.toArray[j]=w2:=by obtain⟨_,k2⟩:=cv.mp k2;simpa using k2
  rw[t1,t2];have:=wY (ds:=ds) (j:=j);refine Cj I 16 _ _ A.in1 (by omega) ?_ (q.get g1) (q'.get g2) r1 r2;show A.units+1+16<cLine;omega
 by_cases hdf:d.flat=true
 ·by_cases hef:e.flat=true
  ·exact Km hdf hef h h' r r'
  ·cases e with
   |lst es=>
    rw[L2.Rep]at h';obtain⟨a,xs,rfl,q,_⟩:=h';cases r';obtain⟨am,_,p,_⟩:=I.list q;cases d with
    |non=>rw[L2.Rep]at h;subst h;cases r;exact⟨RcAt.none_list p.isList hu0,RcNeAt.none_list p.isList hu0⟩
    |bl b=>rw[L2.Rep]at h;subst h;cases r;exact⟨RcAt.bool_list b p.isList hu0,RcNeAt.bool_list b p.isList hu0⟩
    |int b=>rw[L2.Rep]at h;subst h;obtain⟨t,rfl⟩:=r;exact⟨RcAt.int_list b t p.isList hu0,RcNeAt.int_list b t p.isList hu0⟩
    |str b=>rw[L2.Rep]at h;subst h;obtain⟨t,rfl⟩:=r;exact⟨RcAt.str_list b t p.isList hu0,RcNeAt.str_list b t p.isList hu0⟩
    |_=>cases hdf
   |tup es=>
    rw[L2.Rep]at h';obtain⟨a,xs,rfl,q,_⟩:=h';cases r';obtain⟨am,_,p,_⟩:=I.tuple q;cases d with
    |non=>rw[L2.Rep]at h;subst h;cases r;exact⟨RcAt.none_tuple p hu0,RcNeAt.none_tuple p hu0⟩
    |bl b=>rw[L2.Rep]at h;subst h;cases r;exact⟨RcAt.bool_tuple b p hu0,RcNeAt.bool_tuple b p hu0⟩
    |int b=>rw[L2.Rep]at h;subst h;obtain⟨t,rfl⟩:=r;exact⟨RcAt.int_tuple b t p hu0,RcNeAt.int_tuple b t p hu0⟩
    |str b=>rw[L2.Rep]at h;subst h;obtain⟨t,rfl⟩:=r;exact⟨RcAt.str_tuple b t p hu0,RcNeAt.str_tuple b t p hu0⟩
    |_=>cases hdf
   |_=>exact absurd rfl hef
 ·cases d with
  |lst ds=>
   rw[L2.Rep]at h;obtain⟨a,xs,rfl,q,rr⟩:=h;cases r;obtain⟨am,v,p,_⟩:=I.list q;have hn:Mi.dw ds<=16:=by rw[Mi.D.dep]at hd;omega
   cases e with
   |non=>rw[L2.Rep]at h';subst h';cases r';exact⟨RcAt.list_none p.isList hu0,RcNeAt.list_none p.isList hu0⟩
   |bl b=>rw[L2.Rep]at h';subst h';cases r';exact⟨RcAt.list_bool b p.isList hu0,RcNeAt.list_bool b p.isList hu0⟩
   |int b=>rw[L2.Rep]at h';subst h';obtain⟨t,rfl⟩:=r';exact⟨RcAt.list_int b t p.isList hu0,RcNeAt.list_int b t p.isList hu0⟩
   |str b=>rw[L2.Rep]at h';subst h';obtain⟨t,rfl⟩:=r';exact⟨RcAt.list_str b t p.isList hu0,RcNeAt.list_str b t p.isList hu0⟩
   |lst es=>
    rw[L2.Rep]at h';obtain⟨b,ys,rfl,q',rr'⟩:=h';cases r';obtain⟨its',v',p',_⟩:=I.list q';have l1:=rr.length;have l2:=rr'.length;have l3:=v.length;have l4:=v'.length;by_cases hl:ds.length=es.length
    ·rw[Mi.bF,rg hl];have e1:am.toArray.size=ds.length:=by simp;omega
     have k1:=RcAt.lists p.isList p'.isList (by simp;omega) hu0 (item hn rr rr' v v');have k2:=RcNeAt.lists p.isList p'.isList (by simp;omega) hu0 (item hn rr rr' v v');rw[e1]at k1 k2;exact⟨k1,k2⟩
    ·rw[Mi.bF,rJ hl];exact⟨RcAt.lists_lengths p.isList p'.isList (by simp;omega) hu0,RcNeAt.lists_lengths p.isList p'.isList (by simp;omega) hu0⟩
   |tup es=>
    rw[L2.Rep]at h';obtain⟨b,ys,rfl,q',_⟩:=h';cases r';obtain⟨its',_,p',_⟩:=I.tuple q';exact⟨RcAt.list_tuple p.isList p' hu0,RcNeAt.list_tuple p.isList p' hu0⟩
  |tup ds=>
   rw[L2.Rep]at h;obtain⟨a,xs,rfl,q,rr⟩:=h;cases r;obtain⟨am,v,p,_⟩:=I.tuple q;have hn:Mi.dw ds<=16:=by rw[Mi.D.dep]at hd;omega
   cases e with
   |non=>rw[L2.Rep]at h';subst h';cases r';exact⟨RcAt.tuple_none p hu0,RcNeAt.tuple_none p hu0⟩
   |bl b=>rw[L2.Rep]at h';subst h';cases r';exact⟨RcAt.tuple_bool b p hu0,RcNeAt.tuple_bool b p hu0⟩
   |int b=>rw[L2.Rep]at h';subst h';obtain⟨t,rfl⟩:=r';exact⟨RcAt.tuple_int b t p hu0,RcNeAt.tuple_int b t p hu0⟩
   |str b=>rw[L2.Rep]at h';subst h';obtain⟨t,rfl⟩:=r';exact⟨RcAt.tuple_str b t p hu0,RcNeAt.tuple_str b t p hu0⟩
   |tup es=>
    rw[L2.Rep]at h';obtain⟨b,ys,rfl,q',rr'⟩:=h';cases r';obtain⟨its',v',p',_⟩:=I.tuple q';have l1:=rr.length;have l2:=rr'.length;have l3:=v.length;have l4:=v'.length;have k1:=RcAt.tuples p p' hu0 (item hn rr rr' v v');have k2:=RcNeAt.tuples p p' hu0 (item hn rr rr' v v');have e1:am.toArray.size=ds.length:=by simp;omega
    have e2:its'.toArray.size=es.length:=by simp;omega
    rw[e1,e2]at k1 k2;by_cases hl:ds.length=es.length
    ·rw[Mi.bF,rg hl];rw[hl,Nat.min_self,qG,Bool.and_true,<- hl]at k1 k2;exact⟨k1,k2⟩
    ·rw[Mi.bF,rJ hl];have:(ds.length==es.length)=false:=by simpa using hl
     rw[this,vq]at k1 k2;exact⟨k1,k2⟩
   |lst es=>
    rw[L2.Rep]at h';obtain⟨b,ys,rfl,q',_⟩:=h';cases r';obtain⟨its',_,p',_⟩:=I.list q';exact⟨RcAt.tuple_list p p'.isList hu0,RcNeAt.tuple_list p p'.isList hu0⟩
  |_=>exact absurd rfl hdf
theorem jU(hu:X.A.units+64<cLine):c7 X (compareOp .Eq) (uc X.K false):=by intro ae s σ H x y v u Q I rx ry h;obtain⟨d,e,r1,r2,hz,q⟩:=h;exact(C6 I d e X.A hz (by omega) r1 r2 rx ry).1 _ _ _ _ ⟨.bl _,H,I,rfl,q⟩
theorem mP(hu:X.A.units+64<cLine):c7 X (compareOp .NotEq) (uc X.K true):=by intro ae s σ H x y v u Q I rx ry h;obtain⟨d,e,r1,r2,hz,q⟩:=h;exact(C6 I d e X.A hz (by omega) r1 r2 rx ry).2 _ _ _ _ ⟨.bl _,H,I,rfl,q⟩
end
section
variable{X:Cx}{K:aG}{M:Nat->Bool}{κ:Kd}{ta tb te:TE}{a b:Mi.E}
theorem Bp{H Hv:Hp}(vw:Vw H Hv){d:D}{v:V}(r:RD H Hv d v):gy K H v (.type (Mi.xO d)):=by
 cases d with
 |non=>cases RD.non r;exact .non
 |bl b=>cases RD.bl r;exact .bl b
 |int b=>cases RD.int r;exact .int b
 |str b=>cases RD.str r;exact .str b
 |lst ds=>
  obtain⟨p,xs,rfl,l,_⟩:=RD.lst vw r;rcases l with l|⟨o,l⟩
  ·exact .lst l
  ·exact .frz l
 |tup ds=>
  obtain⟨p,xs,rfl,l,_⟩:=RD.tup vw r;exact .tup l
def jH(K:aG)(T:String):Prop:=∀d:D,zc K (.type (Mi.xO d)) (.type T)=aa (Mi.oM T d)
theorem l9{T:String}(hT:jH K T)(ha:AE M qP ta a):AE M qV (rD (Ei K) (fN ta (fN (tC (.ty T)) gO))) (Mi.m1 (Mi.ee [T]) a):=λe σ H Hv Q I h=>
 ha e σ H Hv _ I ((au.mp h).mono λx hx v H1 Hv1 g1 rx=>⟨v,_,T,_,rfl,Bp g1.vw rx,hT x,(Mi.nr hx) _ H1 Hv1 g1 (by
  have:([T].any λt=>Mi.oM t x)=Mi.oM T x:=by simp
  rw[this];exact eZ)⟩)
theorem ty_bool(K:aG):jH K "bool" := λd=>by cases d<;>rfl
theorem ty_int(K:aG):jH K "int" := λd=>by cases d<;>rfl
theorem ty_str(K:aG):jH K "str" := λd=>by cases d<;>rfl
theorem ty_list(K:aG):jH K "list" := λd=>by cases d<;>rfl
theorem ty_tuple(K:aG):jH K "tuple" := λd=>by cases d<;>rfl
end
end A
namespace A
open PySem L2 PyProof.Rows
open Mi (D W Rs Fin au Out Tg)
variable[Tb:bM]
def Mo(l:List Nat):Nat->Bool:=λi=>l.contains i
theorem CU{M:Nat->Bool}{N:List Str}{k:Nat}{ws:List W}{vs:List V}{H Hv:Hp}(vw:Vw H Hv)(p:P2 (gf Hv) ws vs)(hk:ws.length=k)(hM:∀i,i<k->M i=false) :
 R1 M H Hv (ws.map aa++cH (N.length-ws.length) ab) (start N vs) H Hv:=by
 have get:∀{i:Nat} {w:W},(ws.map aa++cH (N.length-ws.length) ab)[i]? = aa (aa w)->ws[i]? = aa w/\i<k:=λ{i w} h=>by
  by_cases hi:i<ws.length
  ·rw[yO (by simpa using hi),c9]at h;cases e:ws[i]? with
   |none=>rw[e]at h;cases h
   |some a=>rw[e]at h;cases h;exact⟨rfl,by omega⟩
  ·rw[FT (by simpa using hi),FU]at h;split at h<;>cases h
 have no:∀{i:Nat} {w:W},(ws.map aa++cH (N.length-ws.length) ab)[i]? = aa (aa w)->M i=true->False:=λ{i w} h m=>by
  rw[hM i (get h).2]at m;cases m
 refine⟨⟨vw,?_,λi w h m=>?_,λi w h m=>(no h m).elim⟩,.refl vw,λi w a h m=>(no h m).elim,λi j w w' a b _ h _ m=>(no h m).elim⟩
 ·unfold L2.start;rw[cu,cu,aM,aM,yS,yS,p.len]
 ·obtain⟨hw,hi⟩:=get h;obtain⟨v,hv,r⟩:=p.getL hw;refine⟨v,?_,r⟩;unfold L2.start;rw[yO (by rw[aM,<- p.len];omega),c9,hv];rfl
theorem A7{f:Mi.S}{k n:Nat}{vs:List V}{H:Hp}{Q:VK}{E:XK}(h:aC (Mi.dc k n f) vs H Q E):vs.length=k:=by obtain⟨Hv,ws,_,p,q⟩:=h;rw[<- p.len];exact(Mi.cQ q).1
theorem vV{f:Mi.S}{k n:Nat}{vs:List V}{H:Hp}{Q:VK}{E:XK}(h:b8 (Mi.eS k n f) vs H Q E):vs.length=k:=by obtain⟨Hv,ws,_,p,q⟩:=h;rw[<- p.len];exact(Mi.cQ q).1
theorem Cc{N:List Str}{M:Nat->Bool}{k:Nat}{t:TS}{m:Mi.S}(hA:AS M qV t m)(hM:∀i,i<k->M i=false){vs:List V}{H:Hp}{Q:VK}{E:XK}(h:aC (Mi.dc k N.length m) vs H Q E) :
 t { nx:=λ_ H'=>Q .non H',rt:=Q } (start N vs) H:=by
 obtain⟨Hv,ws,vw,p,q⟩:=h;obtain⟨hk,q⟩:=Mi.cQ q;refine hA H Hv _ _ H Hv _ (CU vw p hk hM) ((au.mp q).mono λo ho=>?_);cases o with
 |nx e=>exactλσ H' Hv' I s=>ho _ H' Hv' I.gw C7
 |rt w=>exactλv H' Hv' g r=>ho v H' Hv' g r
 |bk e=>exact ho.elim
 |ct e=>exact ho.elim
theorem runN{N:List Str}{M:Nat->Bool}{k:Nat}{t:TS}{m:Mi.S}(hA:AS M qN t m)(hM:∀i,i<k->M i=false){vs:List V}{H:Hp}{Q:VK}{E:XK}(h:b8 (Mi.eS k N.length m) vs H Q E) :
 t { nx:=λ_ H'=>Q .non H',rt:=Q } (start N vs) H:=by
 obtain⟨Hv,ws,vw,p,q⟩:=h;obtain⟨hk,q⟩:=Mi.cQ q;refine hA H Hv _ _ H Hv _ (CU vw p hk hM) ((au.mp q).mono λo ho=>?_);cases o with
 |rt w=>exactλv H' Hv' g r=>ho v H' Hv' g r
 |nx e=>exact ho.elim
 |bk e=>exact ho.elim
 |ct e=>exact ho.elim
theorem LB{P:bh}{w:a8}{K:aG}{mg:Str->Option ai}{base:aK}{CX:gi}{k:Nat}{f:ah}{fd:bx}{ps:List Str}:bu P w K mg base CX k f fd ps (aC Mi.ED):=⟨λvs H Q E h=>by obtain⟨_,_,_,_,q⟩:=h;exact q.elim,λA outer s H args us vs Q E _ _ _ _ h=>by obtain⟨_,_,_,_,q⟩:=h;exact q.elim⟩
def sg:Sp:=λvs H Q _=>∃(a:ah) (ns:List Int),vs=[.ref a]/\Lst H a (ns.map V.int)/\ns.length<=63/\f9 H/\∀H',Q (.bl true) H'
theorem ints_rep(H:Hp):∀ns:List Int,P2 (Rep H) (ns.map D.int) (ns.map V.int)
 |[]=>.nil
 |n::r=>.cons (rh.mpr rfl) (ints_rep H r)
theorem KA{P:bh}{w:a8}{K:aG}{mg:Str->Option ai}{base:aK}{CX:gi}{k:Nat}{f:ah}{fd:bx}{ps:List Str}{m:Mi.Fn}(F:bu P w K mg base CX k f fd ps (aC m))
 (h:∀ns:List Int,ns.length<=63->m [.d (.lst (ns.map D.int))]=.ok (.d (.bl true))):bu P w K mg base CX k f fd ps sg:=
 F.imp λvs H Q E ⟨a,ns,e,l,hl,k,q⟩=>by
  subst e;have l':Lst (ic H) a (ns.map V.int):=by
   rcases l with l|⟨o,l⟩
   ·exact .inl (jq l trivial)
   ·exact .inr ⟨o,jq l trivial⟩
  refine⟨ic H,[.d (.lst (ns.map D.int))],.all k,.cons (i3.mpr ⟨a,_,rfl,l',ints_rep _ ns⟩) .nil,?_⟩;rw[h ns hl];intro v H' Hv' g r;cases(og (H:=Hv')).mp r;exact q H'
theorem By{X:Cx}{ae:List (ah×Obj)}{σ:L2.St}{H:Hp}{s:ap}{fp:List ah}{T:ah}{o:HO}{h':aK}{t':Nat}(I:Inv X ae σ H s)(hf:∀b∈fp,gK X ae H b)
 (k:∀b u,b∉fp->s.heap.get? b=aa u->h'.get? b=aa u) (hT:s.heap.objs.size<=T) (new:cj X.prog X.w (upd H T o) h' T o):Inv X ae σ (upd H T o) { s with heap:=h',toks:=t' }:=by
 have hn:H T=ab:=I.hok.fresh hT;have nfp:∀b u,H b=aa u->b∉fp:=λb u e z=>by rw[(hf b z).1]at e;cases e
 refine I.call' (s':={ s with heap:=h',toks:=t' }) (ch:=fp) rfl ⟨λb u e _ _ hb=>k b u hb e,λb u e _ _ hb=>⟨u.slots,k b u hb e⟩,λb u e hb _=>?_,λb u e hb=>⟨u,k b u hb e⟩,λb xs e=>?_,λb q u e=>?_,λb w ps e=>⟨#[],?_⟩⟩ ?_ I.bare
  λb hb=>⟨(hf b hb).2.2.2.1,(hf b hb).2.1,(hf b hb).2.2.2.2.1,(hf b hb).2.2.2.2.2⟩
 ·have:b≠T:=gn (fW (b0 e) hT);rw[aE this];exact hb
 ·rw[aE (cG e hn)];exact e
 ·rw[aE (cG e hn)];exact e
 ·rw[aE (cG e hn),e];simp
 ·intro b u e;by_cases hb:b=T
  ·subst hb;rw[bp]at e;cases e;exact new
  ·rw[aE hb]at e;refine(I.hok b u e).stay (λc v hc q=>k c v ?_ q) (λc q=>by rw[aE (cG q hn)];exact q) λc xs q=>by rw[aE (cG q hn)];exact q
   rcases hc with z|z
   ·rw[z];exact nfp b u e
   ·exact nfp c _ z
theorem AR{X:Cx}{ae:List (ah×Obj)}{σ:L2.St}{H:Hp}{s:ap}{fp:List ah}{h':aK}{t':Nat}(I:Inv X ae σ H s)(hf:∀b∈fp,gK X ae H b)
 (k:∀b u,b∉fp->s.heap.get? b=aa u->h'.get? b=aa u):Inv X ae σ H { s with heap:=h',toks:=t' }:=by
 have nfp:∀b u,H b=aa u->b∉fp:=λb u e z=>by rw[(hf b z).1]at e;cases e
 refine I.call' (s':={ s with heap:=h',toks:=t' }) (ch:=fp) rfl ⟨λb u e _ _ hb=>k b u hb e,λb u e _ _ hb=>⟨u.slots,k b u hb e⟩,λb u e hb _=>hb,λb u e hb=>⟨u,k b u hb e⟩,λb xs e=>e,λb q u e=>e,λb w ps e=>⟨#[],by rw[e];simp⟩⟩ ?_ I.bare
  λb hb=>⟨(hf b hb).2.2.2.1,(hf b hb).2.1,(hf b hb).2.2.2.2.1,(hf b hb).2.2.2.2.2⟩
 intro b u e;refine(I.hok b u e).stay (λc v hc q=>k c v ?_ q) (λc q=>q) λc xs q=>q;rcases hc with z|z
 ·rw[z];exact nfp b u e
 ·exact nfp c _ z
section
variable{X:Cx}{elts:List aS}{k1:Nat}{tpos:Pos}
theorem DQ:∀{ds:List D} {k i:Nat} {d:D},ds[i]? = aa d->(Mi.ko k ds)[i]? = aa (.tup [.int ((k+i:Nat):Int),d])
 |[],_,_,_,h=>by simp at h
 |d::r,k,0,e,h=>by simp at h;subst h;rfl
 |d::r,k,i+1,e,h=>by
  have:=DQ (ds:=r) (k:=k+1) (i:=i) (d:=e) (by simpa using h);rw[Mi.ko,jX,this];rw[show k+1+i=k+(i+1)by omega]
theorem uz:∀(ds:List D) (k:Nat),(Mi.ko k ds).length=ds.length
 |[],_=>rfl
 |d::r,k=>by rw[Mi.ko,cR,cR,uz r]
end
end A
namespace A
open PySem L2 PyProof.Rows
open Mi (D W Rs Fin au Out Tg)
variable[Tb:bM]
section
variable{X:Cx}{K:aG}{M:Nat->Bool}{κ:Kd}{ta tb te tk:TE}{a b k:Mi.E}
theorem BY{Hv:Hp}:∀{ds:List D} {xs:List V} {bs:List Str},Mi.lj ds=aa bs->P2 (Rep Hv) ds xs->xs=bs.map V.str
 |[],_,bs,e,r=>by cases e;cases r;rfl
 |.str b::ds,_,bs,e,r=>by
  cases r with
  |cons x t=>
   cases hb:Mi.lj ds with
   |none=>rw[Mi.lj,hb]at e;cases e
   |some cs=>
    rw[Mi.lj,hb]at e;cases e;rw[BY hb t,mX.mp x];rfl
 |.non::_,_,_,e,_=>by cases e
 |.int _::_,_,_,e,_=>by cases e
 |.bl _::_,_,_,e,_=>by cases e
 |.lst _::_,_,_,e,_=>by cases e
 |.tup _::_,_,_,e,_=>by cases e
theorem EI(ha:AE M qP ta a)(hb:AE M qP tb b):AE M qV (nD K "str" (rJoin K) ta (fN tb gO)) (Mi.m2 Mi.tT a b):=λe σ H Hv Q I h=>by
 obtain⟨x,hx,h⟩:=jK (au.mp h);obtain⟨y,hy,h⟩:=jK (au.mp h);cases x with
 | str sep=>cases y with
  |lst ds=>
   obtain⟨ys,hs,h⟩:=hW (au.mp h);obtain⟨hz,h⟩:=Mi.cQ h;refine ha e σ H Hv _ I (by
    rw[hx];intro v H1 Hv1 g1 r1;cases RD.str r1;refine⟨rfl,hb e σ H1 Hv1 _ (I.grow g1) (by
     rw[hy];intro v2 H2 Hv2 g2 r2;obtain⟨p,xs,rfl,l,r⟩:=RD.lst g2.vw r2;have:=BY hs r;subst this;exact⟨sep,p,ys,rfl,rfl,l.sq,hz,(Mi.nr h) _ H2 Hv2 (g1.trans g2) qC⟩)⟩)
  |_=>exact h.elim
 |_=>cases y<;>exact h.elim
def Bg:V->List V->Hp->VK->Prop:=λx vs H Q=>∃l b xs zs,x=.ref l/\vs=[.ref b]/\H l=aa (.lst xs)/\Lst H b zs/\xs.length+zs.length<=sizeLine/\Q .non (upd H l (.lst (xs++zs)))
theorem Du:ph X "list.extend" Bg:=by
 intro ae s σ H x vs v us Q I rx rv h;obtain⟨l,b,xs,zs,rfl,rfl,hH,hB,hz,q⟩:=h;cases rx;obtain⟨u,rfl,ru⟩:=rv.one;cases ru;obtain⟨z,am,n,r,hl,e⟩:=I.oH hH;obtain⟨its2,n2,r2,z2,e2⟩:=ub I hB;have hl2:=r2.length;have hsz:am.toArray.size+its2.toArray.size<=sizeLine:=by rw[cX,cX];omega
 have vH:¬ (!am.toArray.isEmpty&&zu (am.toArray.size+its2.toArray.size))=true:=by rw[IC hsz,vq];exact du
 refine pQ F.slot_list_extend ⟨_,e,rfl⟩ F.entry_list_extend (F.args_list_extend_2 _ _)
  (AutoSeq1.list_extend_list_list_0 l am.toArray n b its2.toArray n2 vH (by rw[cX];omega) (by omega)) ⟨e,e2,?_⟩
 refine⟨.non,_,I.oh (its':=am++its2) hH e (by simp) (r.append r2) ?_,rfl,q⟩;rw[cu];omega
theorem De(i:Nat)(hm:M i=true)(ha:AE M qV te a):AS M κ (lZ (nD K "list" Bg (eA i) (fN te gO))) (Mi.l8 i a):=λH0 Hv0 e σ H Hv D I h=>by
 obtain⟨d,hd,h⟩:=jK (au.mp h);obtain⟨ds,he,h⟩:=nk (au.mp h);cases d with
 |lst es=>
  obtain⟨hz,h⟩:=Mi.cQ h;obtain⟨p,xs,q,q1,n,c⟩:=I.list hm he;refine⟨.ref p,q,.inl ⟨rfl,xs,.inl (.inl q1)⟩,ha e σ H Hv _ I.toR0 (by
   rw[hd];intro v H1 Hv1 g1 r;have I1:=I.grow g1;obtain⟨b,ys,rfl,l,r⟩:=(i3 (H:=Hv1)).mp r;refine⟨p,b,xs,ys,rfl,rfl,g1.old.at q1,l.same g1.vw.sub,by rw[<- c.len,<- r.len,dS];exact hz,?_⟩;exact h σ _ Hv1 (I1.write hm he q (show dZ Hv1 (.d (.lst (ds++es))) (.lst (xs++ys))from(dY g1.vis c).append r)) g1.vis)⟩
 |_=>exact h.elim
theorem uJ{H:Hp}{d:D}{v:V}{y:Mi.Ky}(h:Mi.l5 d=aa y)(r:Rep H d v):v=kV y:=by
 cases d with
 |bl i=>cases h;exact og.mp r
 |str i=>cases h;exact mX.mp r
 |_=>cases h
theorem sO{H:Hp}:∀{ds:List D} {vs:List V} {ys:List Mi.Ky},Mi.nJ ds=aa ys->P2 (Rep H) ds vs->vs=ys.map kV
 |[],_,_,h,r=>by cases h;cases r;rfl
 |d::ds,_,ys,h,r=>by
  cases r with
  |cons x t=>
   unfold Mi.nJ at h;cases h1:Mi.l5 d with
   |none=>rw[h1]at h;cases h
   |some y=>
    cases h2:Mi.nJ ds with
    |none=>rw[h1,h2]at h;cases h
    |some zs=>
     rw[h1,h2]at h;cases h;rw[uJ h1 x,sO h2 t];rfl
theorem yD{H Hv:Hp}(vw:Vw H Hv){w:W}{x:V}{d:D}{v:V}{q:Option D->Prop}(hw:RB H Hv w x)(r:Rep Hv d v)(h:Fin (Mi.pf w d) q):∃a o o',x=.ref a/\gZ H a v o/\q o'/\match o' with
 |some d'=>∃v',o=aa v'/\Rep Hv d' v'
 |none=>o=ab:=by
 cases w with
 |d x=>exact h.elim
 |ex z=>exact h.elim
 |fn z=>exact h.elim
 |dk ak=>
  obtain⟨y,hy,h⟩:=hW (au.mp h);have h:q (Mi.gB ak y):=h;have:∃a kv,x=.ref a/\H a=aa (.dK kv)/\eF Hv ak kv:=by
   rcases hw with ⟨a,kv,e,z,c⟩|⟨a,o,e,z,c⟩
   ·exact⟨a,kv,e,vw.sub _ _ z,c⟩
   ·cases o with
    |dK kv=>exact⟨a,kv,e,z,c⟩
    |_=>exact c.elim
  obtain⟨a,kv,e,z,c⟩:=this;have hv:=uJ hy r;subst hv;exact⟨a,_,_,e,gZ.k z,h,vX c⟩
 |dt ak=>
  cases d with
  |tup ds=>
   obtain⟨y,hy,h⟩:=hW (au.mp h);have h:q (Mi.gB ak y):=h;have:∃a kv,x=.ref a/\H a=aa (.dT kv)/\eF Hv ak kv:=by
    rcases hw with ⟨a,kv,e,z,c⟩|⟨a,o,e,z,c⟩
    ·exact⟨a,kv,e,vw.sub _ _ z,c⟩
    ·cases o with
     |dT kv=>exact⟨a,kv,e,z,c⟩
     |_=>exact c.elim
   obtain⟨a,kv,e,z,c⟩:=this;obtain⟨b,xs,rfl,l,r⟩:=i8.mp r;have hv:=sO hy r;subst hv;exact⟨a,_,_,e,gZ.t z (vw.sub _ _ l),h,vX c⟩
  |_=>exact h.elim
 |df ak=>
  cases d with
  |tup ds=>
   obtain⟨y,hy,h⟩:=hW (au.mp h);have h:q (Mi.gB ak y):=h;have:∃a ob kv,x=.ref a/\H a=aa (.frz ob (.dT kv))/\eF Hv ak kv:=by
    rcases hw with ⟨a,ob,kv,e,z,c⟩|⟨a,o,e,z,c⟩
    ·exact⟨a,ob,kv,e,vw.sub _ _ z,c⟩
    ·exact c.elim
   obtain⟨a,ob,kv,e,z,c⟩:=this;obtain⟨b,xs,rfl,l,r⟩:=i8.mp r;have hv:=sO hy r;subst hv;exact⟨a,_,_,e,.inr ⟨kv,y,b,.inr ⟨ob,z⟩,rfl,vw.sub _ _ l,rfl⟩,h,vX c⟩
  |_=>exact h.elim
theorem D3(i:Nat)(hk:AE M qV tk k):AE M qV (AU tk (eA i)) (Mi.lF i k):=λe σ H Hv Q I h=>
 hk e σ H Hv _ I ((au.mp h).mono λd hd v H1 Hv1 g1 r=>by
  obtain⟨w,he,hd⟩:=pw (au.mp hd);have I1:=I.grow g1;obtain⟨x,q,z⟩:=I1.any he;obtain⟨a,o,o',e1,g,h2,m⟩:=yD g1.vw z r (au.mp hd);refine⟨x,q,a,o,e1,g,?_⟩;have:o.isSome=o'.isSome:=by
   cases o' with
   |none=>have m:o=ab:=m;rw[m];rfl
   |some d'=>obtain⟨v',m,_⟩:=m;rw[m];rfl
  rw[this];exact h2 _ H1 Hv1 g1 eZ)
theorem DK(i:Nat)(hk:AE M qV tk k):AE M qV (EN tk (eA i)) (Mi.fK i k):=λe σ H Hv Q I h=>
 hk e σ H Hv _ I ((au.mp h).mono λd hd v H1 Hv1 g1 r=>by
  obtain⟨w,he,hd⟩:=pw (au.mp hd);have I1:=I.grow g1;obtain⟨x,q,z⟩:=I1.any he;obtain⟨a,o,o',e1,g,h2,m⟩:=yD g1.vw z r (au.mp hd);refine⟨x,q,a,o,e1,g,?_⟩;have:o.isSome=o'.isSome:=by
   cases o' with
   |none=>have m:o=ab:=m;rw[m];rfl
   |some d'=>obtain⟨v',m,_⟩:=m;rw[m];rfl
  rw[this];exact h2 _ H1 Hv1 g1 eZ)
theorem Dx(i:Nat)(hk:AE M qV tk k):AE M qV (Ft (eA i) tk) (Mi.ku i k):=λe σ H Hv Q I h=>by
 obtain⟨d,hd,h⟩:=jK (au.mp h);obtain⟨w,he,h⟩:=pw (au.mp h);obtain⟨x,q,z⟩:=I.any he;refine⟨x,q,hk e σ H Hv _ I (by
  rw[hd];intro v H1 Hv1 g1 r;obtain⟨a,o,o',e1,g,h2,m⟩:=yD g1.vw (z.grow g1) r (au.mp h);cases o' with
  |none=>exact h2.elim
  |some d'=>
   obtain⟨v',rfl,rv⟩:=m;exact⟨a,v',e1,g,h2 v' H1 Hv1 g1 rv⟩)⟩
theorem rH{tv:TE}{v:Mi.E}(i:Nat)(hm:M i=true)(hk:AE M qV tk k)(hv:AE M qV tv v):AS M κ (L2.da (eA i) tk tv) (Mi.da i k v):=λH0 Hv0 e σ H Hv D I h=>by
 obtain⟨d,hd,h⟩:=jK (au.mp h);obtain⟨y,hy,h⟩:=jK (au.mp h);obtain⟨w,he,h⟩:=pw (au.mp h);refine hv e σ H Hv _ I.toR0 (by
  rw[hd];intro x H1 Hv1 g1 rx;have I1:=I.grow g1;obtain⟨p,o,q,q1,n,h0,c⟩:=I1.cell hm he;refine⟨.ref p,q,hk e σ H1 Hv1 _ I1.toR0 (by
   rw[hy];intro u H2 Hv2 g2 ru;have I2:=I1.grow g2;have c2:=c.same g2.vis;have q2:=g2.old.at q1 c.nt;have g12:=g1.trans g2;have rx2:=jr g2.vis rx;cases w with
   |d x=>exact(show False from au.mp h).elim
   |ex z=>exact(show False from au.mp h).elim
   |fn z=>exact(show False from au.mp h).elim
   |df z=>exact(show False from au.mp h).elim
   |dk ak=>
    obtain⟨hz,h⟩:=Mi.cQ (au.mp h);obtain⟨ky,hky,h⟩:=hW (au.mp h);cases o with
    |dK kv=>
     have c2:eF Hv2 ak kv:=c2;have hu:=uJ hky ru;subst hu;refine⟨p,_,rfl,l0.k q2 (by rw[<- P2.len c2,dS];exact hz),?_⟩;exact h σ _ Hv2 (I2.write hm he q (show dZ Hv2 (.dk (Mi.putK ky d ak)) (.dK (L2.putK kv ky x))from B6 rx2 c2)) g12.vis
    |_=>exact c2.elim
   |dt ak=>
    cases y with
    |tup ds=>
     obtain⟨hz,h⟩:=Mi.cQ (au.mp h);obtain⟨ky,hky,h⟩:=hW (au.mp h);cases o with
     |dT kv=>
      have c2:eF Hv2 ak kv:=c2;obtain⟨b,xs,rfl,l,r⟩:=(i8 (H:=Hv2)).mp ru;have hu:=sO hky r;subst hu;refine⟨p,_,rfl,l0.t q2 (g2.vw.sub _ _ l) (by rw[<- P2.len c2,dS];exact hz),?_⟩;exact h σ _ Hv2 (I2.write hm he q (show dZ Hv2 (.dt (Mi.putK ky d ak)) (.dT (L2.putK kv ky x))from B6 rx2 c2)) g12.vis
     |_=>exact c2.elim
    |_=>exact(show False from au.mp h).elim)⟩)
end
end A
namespace Zp
open PySem PySem.Spec PyProof.Rows L2
variable[Tb:A.bM]
section
variable{P:bh}{w:a8}{B:bK}{F:ai->ap->Prop}{z:ap}
theorem Io{c t:ah}{i:Nat}{us:Array ai}{u:ai}{R:ai->ap->Prop}(hc:z.heap.IsTupleIter c t i)(ht:z.heap.IsTuple t us)(hu:us[i]? = aa u)
 (hR:∀h',h'.IsTupleIter c t (i+1)->mI c z.heap h'->R u { z with heap:=h' }):wpAny (model P w) B (nW (.ref c)) R F z:=by
 obtain⟨ob,gb,cb,db⟩:=id hc;obtain⟨ol,gl,_,nl,dl⟩:=ht;unfold nW;refine aI (pO (name:=pW "__next__") hc.typeIs vv (mD vv hc.typeIs Gn ?_ (Gm _)));show wpAny _ _ (field (.ref c) 0 >>= _) _ _ z;refine aI (mF gb db (x:=.ref t) rfl ?_);show wpAny _ _ (if(cI t==iJ)=true then _ else _) _ _ z;rw[bc (λq:(cI t==iJ)=true=>nomatch q)];show wpAny _ _ (field (.ref c) 1 >>= _) _ _ z;refine aI (mF gb db (x:=.int i 0) rfl ?_);show wpAny _ _ (seqItems? (.ref t) >>= _) _ _ z;refine aI (sy gl dl ?_);simp only[j3,hu];refine aI (vk gb db (by simp) (bE ⟨u,rfl,bE (hR _ ?_ (sC ..))⟩));refine⟨_,zi _ gb (GI (vE db _)),(Obj.cls_mapFields ..).trans cb,?_⟩;rw[vE db];simp[rawInt]
theorem IH{c t:ah}{i:Nat}{us:Array ai}{R:ai->ap->Prop}(hn:B.handled=ab)(hc:z.heap.IsTupleIter c t i)(ht:z.heap.IsTuple t us)(hu:us[i]? = ab)
 (hF:∀h' e,vo c z.heap h'->(∃o,h'.get? e=aa o/\o.cls=.type "StopIteration")->F (.ref e) { z with heap:=h' }):wpAny (model P w) B (nW (.ref c)) R F z:=by
 obtain⟨ob,gb,cb,db⟩:=id hc;obtain⟨ol,gl,_,nl,dl⟩:=ht;unfold nW;refine aI (pO (name:=pW "__next__") hc.typeIs vv (mD vv hc.typeIs Gn ?_ (Gm _)));show wpAny _ _ (field (.ref c) 0 >>= _) _ _ z;refine aI (mF gb db (x:=.ref t) rfl ?_);show wpAny _ _ (if(cI t==iJ)=true then _ else _) _ _ z;rw[bc (λq:(cI t==iJ)=true=>nomatch q)];show wpAny _ _ (field (.ref c) 1 >>= _) _ _ z;refine aI (mF gb db (x:=.int i 0) rfl ?_);show wpAny _ _ (seqItems? (.ref t) >>= _) _ _ z;refine aI (sy gl dl ?_);simp only[j3,hu];refine aI (wpAny_rule (aI (vk gb db (by simp) ?_)));show wpAny _ _ (newExc (.type "StopIteration") [] >>= _) _ _ _;refine aI ?_;simp only[newExc,newTuple];refine aI (sx ?_ (by size_fits));refine aI (m:=firstArgMember _ _) (wpAny_of_eq (a:=iJ) (by simp only[firstArgMember];rfl) (sx ?_ (by size_fits)));simp only[raiseNew];refine aI (wpAny_handled ?_)
 first|rw[show B.in1.handled=ab from hn]|rw[hn]
 exact aI (bE (wpAny_throw (hF _ _ (((sC ..).extBut.push _).push _) ⟨_,dE _ rfl,rfl⟩)))
end
def nm:Bool->String|true => "list" | false => "tuple"
def C0:Bool->String|true => "list_iterator" | false => "tuple_iterator"
def fU(k:Bool)(h:aK)(l:ah)(us:Array ai):Prop:=∃o,h.get? l=aa o/\o.cls=.type (nm k)/\∃n,o.data=.seq us n
def ig(k:Bool)(h:aK)(c l:ah)(i:Nat):Prop:=∃o,h.get? c=aa o/\o.cls=.type (C0 k)/\o.data=.fields #[.ref l,.int i 0]
theorem fU.at{k:Bool}{h h':aK}{l:ah}{us:Array ai}(x:fU k h l us)(f:∀o,h.get? l=aa o->h'.get? l=aa o):fU k h' l us:=let ⟨o,e,r⟩:=x;⟨o,f o e,r⟩
theorem ig.at{k:Bool}{h h':aK}{c l:ah}{i:Nat}(x:ig k h c l i)(f:∀o,h.get? c=aa o->h'.get? c=aa o):ig k h' c l i:=let ⟨o,e,r⟩:=x;⟨o,f o e,r⟩
theorem ig.cell{k:Bool}{h:aK}{c l:ah}{i:Nat}(x:ig k h c l i):∃o,h.get? c=aa o/\∀v,o.data≠.cell v:=let ⟨o,e,_,d⟩:=x;⟨o,e,λv q=>by rw[d]at q;cases q⟩
section
variable{P:bh}{w:a8}{B:bK}{F:ai->ap->Prop}{z:ap}
theorem nx{k:Bool}{c t:ah}{i:Nat}{us:Array ai}{u:ai}{R:ai->ap->Prop}(hc:ig k z.heap c t i)(ht:fU k z.heap t us)(hu:us[i]? = aa u)
 (hR:∀h',ig k h' c t (i+1)->mI c z.heap h'->R u { z with heap:=h' }):wpAny (model P w) B (nW (.ref c)) R F z:=by
 cases k
 ·exact Io hc ht hu hR
 ·exact wpAny_nextOf_list_item hc ht hu hR
theorem DY{k:Bool}{c t:ah}{i:Nat}{us:Array ai}{R:ai->ap->Prop}(hn:B.handled=ab)(hc:ig k z.heap c t i)(ht:fU k z.heap t us)(hu:us[i]? = ab)
 (hF:∀h' e,vo c z.heap h'->(∃o,h'.get? e=aa o/\o.cls=.type "StopIteration")->F (.ref e) { z with heap:=h' }):wpAny (model P w) B (nW (.ref c)) R F z:=by
 cases k
 ·exact IH hn hc ht hu hF
 ·exact wpAny_nextOf_list_end hn hc ht hu hF
abbrev mm(k:Bool)(l:ah):Obj:={ cls:=.type (C0 k),data:=.fields #[.ref l,.int 0 0] }
theorem qU{k:Bool}{l:ah}{us:Array ai}{R:ai->ap->Prop}(h:fU k z.heap l us)(hR:R (.ref z.heap.objs.size) { z with heap:=z.heap.push (mm k l) }):wpAny (model P w) B (pyIter (.ref l)) R F z:=by
 cases k
 ·exact wpAny_pyIter_tuple h hR
 ·exact vg h hR
end
theorem BB{P:bh}{w:a8}{B:bK}(hn:B.handled=ab)(k:Bool)(c l:ah)(hne:l≠c)(us:Array ai) :
 Draws P w B c [c,l] us.size (λi v=>us[i]? = aa v) (λi h=>ig k h c l i/\fU k h l us) where
 live:=λ_ _ st=>let ⟨o,ho,_⟩:=st.1;⟨o,ho⟩
 frame:=λ_ _ _ st f=>⟨st.1.at λo e=>f c (by simp) o e,st.2.at λo e=>f l (by simp) o e⟩
 item:=λi s Q E hi st hQ=>nx st.1 st.2 (u:=us[i]) (by simp[hi]) λh' a b=>hQ _ h' s.toks (by simp[hi]) ⟨a,st.2.at λo e=>b.extBut _ _ hne e⟩ b
 done:=λs Q E st hE=>DY hn st.1 st.2 (by simp) hE
end Zp
namespace Zp
open PySem PySem.Spec PyProof.Rows L2
variable[Tb:A.bM]
structure Sr where
 k:Bool
 c:ah
 l:ah
 us:Array ai
def On(h:aK)(i:Nat)(q:Sr):Prop:=ig q.k h q.c q.l i/\fU q.k h q.l q.us
theorem On.at{h h':aK}{i:Nat}{q:Sr}(x:On h i q)(f:∀b o,b=q.c\/b=q.l->h.get? b=aa o->h'.get? b=aa o):On h' i q:=⟨x.1.at λo e=>f _ o (.inl rfl) e,x.2.at λo e=>f _ o (.inr rfl) e⟩
abbrev TupAt(h:aK)(T:ah)(vs:List ai):Prop:=h.get? T=aa { cls:=.type "tuple", data:=.seq vs.toArray }
structure Ap(z TI TO:ah)(L:List Sr):Prop where
 TIz:TI≠z
 TOz:TO≠z
 TITO:TI≠TO
 nd:(L.map (·.c)).Nodup
 c:∀q∈L,q.c≠z/\q.c≠TI/\q.c≠TO
 l:∀q∈L,q.l≠z/\q.l≠TO/\∀r∈L,q.l≠r.c
theorem FJ{M:Model}{B:bK}{α β:Type}{b:β}{f:α->β->Sem (ForInStep β)}{E:ai->ap->Prop}(I:Nat->ap->Prop):∀(xs:List α) (n:Nat) (s:ap),
 (∀j x,xs[j]? = aa x->∀s,I (n+j) s->wpAny M B (f x b) (λr s'=>r=.yield b/\I (n+j+1) s') E s)->I n s->wpAny M B (forIn xs b f) (λr s'=>r=b/\I (n+xs.length) s') E s
 |[],n,s,_,h=>by
  rw[List.forIn_nil];exact bE ⟨rfl,h⟩
 |x::r,n,s,hs,h=>by
  rw[y0];refine aI (iH (hs 0 x rfl s h) (λy s' hy=>?_) λ_ _ e=>e);obtain⟨rfl,hy⟩:=hy;refine iH (FJ I r (n+1) s' (λj x' e s2 h2=>?_) hy) (λy s2 h2=>⟨h2.1,?_⟩) λ_ _ e=>e
  ·rw[show n+1+j=n+(j+1)by omega]at h2 ⊢;exact hs (j+1) x' (by simpa using e) s2 h2
  ·rw[cR,show n+(r.length+1)=n+1+r.length by omega];exact h2.2
section
variable{P:bh}{w:a8}{B:bK}{F:ai->ap->Prop}{s:ap}
def Kp(z TO:ah)(L:List Sr)(h h':aK):Prop:=∀b o,b≠z->b≠TO->b∉L.map (·.c)->h.get? b=aa o->h'.get? b=aa o
structure Mid(s:ap)(z TI TO:ah)(L:List Sr)(i n:Nat)(s':ap):Prop where
 zz:IsZip s'.heap z TI TO .ellipsis
 vs:∃vs:List ai,vs.length=L.length/\TupAt s'.heap TO vs/\∀(j:Nat) (q:Sr),j<n->L[j]? = aa q->vs[j]? = q.us[i]?/\i<q.us.size
 on:∀(j:Nat) (q:Sr),L[j]? = aa q->On s'.heap (if j<n then i+1 else i) q
 sz:s'.heap.objs.size=s.heap.objs.size
 kp:Kp z TO L s.heap s'.heap
 eq:s'={ s with heap:=s'.heap }
theorem IY{L:List Sr}(h:(L.map (·.c)).Nodup){i j:Nat}{p q:Sr}(hp:L[i]? = aa p)(hq:L[j]? = aa q)(hij:i≠j):p.c≠q.c:=by
 intro e;have h1:(L.map (·.c))[i]? = aa p.c:=by rw[c9,hp];rfl
 have h2:(L.map (·.c))[j]? = aa q.c:=by rw[c9,hq];rfl
 obtain⟨l1,g1⟩:=cv.mp h1;obtain⟨l2,g2⟩:=cv.mp h2;exact hij ((pK h).mp (by rw[g1,g2,e]))
theorem Cr{z TI TO:ah}{L:List Sr}{i:Nat}{vs:List ai}{R:ai->ap->Prop}(hh:B.handled=ab)(D:Ap z TI TO L)(h0:L≠[])
 (hz:IsZip s.heap z TI TO .none) (hI:TupAt s.heap TI (L.map λq=>.ref q.c)) (hO:TupAt s.heap TO vs) (hl:vs.length=L.length) (hL:L.length<=8) (hon:∀q∈L,On s.heap i q)
 (hR:∀(h':aK) (ws:List ai),IsZip h' z TI TO (rawInt s.heap.objs.size)->ws.length=L.length->(∀(j:Nat) (q:Sr),L[j]? = aa q->ws[j]? = q.us[i]?/\i<q.us.size)->TupAt h' TO ws->TupAt h' s.heap.objs.size ws->(∀q∈L,On h' (i+1) q) ->
  Kp z TO L s.heap h'->R (.ref s.heap.objs.size) { s with heap:=h' })
 (hF:∀(h':aK) (e:ah),Kp z TO L s.heap h'->(∃o,h'.get? e=aa o/\o.cls=.type "StopIteration")->(∃q∈L,q.us.size<=i)->F (.ref e) { s with heap:=h' }) :
 wpAny (model P w) B (Builtin.«zip.__next__» ⟨[.ref z],[]⟩) (λfin s'=>∃v,fin=.done (.ret v)/\R v s') F s:=by
 show wpAny _ _ (field (.ref z) 2 >>= _) _ _ _;refine aI (mF hz rfl (x:=.bool false) rfl ?_);show wpAny _ _ (field (.ref z) 3 >>= _) _ _ _;refine aI (mF hz rfl (x:=.ref TI) rfl ?_);refine aI (sy hI rfl ?_);have hne:((L.map λq=>cI q.c).toArray.isEmpty)=false:=by cases L with|nil=>exact absurd rfl h0|cons q r=>rfl
 simp only[hne,nU,ik];show wpAny _ _ (GB (.ref z) >>= _) _ _ _;refine aI ?_;unfold GB;refine aI (mF hz rfl (x:=.none) rfl (bE ?_));simp only[jE];refine aI (wpAny_rule (aI (mF hz rfl (x:=.ref TO) rfl (aI (vf hz (by simp) λh1 hz1 hs1=>?_)))));replace hz1:IsZip h1 z TI TO .ellipsis:=hz1;have M0:Mid s z TI TO L i 0 { s with heap:=h1 }:=⟨hz1,⟨vs,hl,hs1.extBut _ _ D.TOz hO,λj q h _=>absurd h (ly _)⟩,λj q e=>(hon q (je e)).at λb o hb x=>by
  have hq:=je e;rcases hb with rfl|rfl
  ·exact hs1.extBut _ _ (D.c q hq).1 x
  ·exact hs1.extBut _ _ (D.l q hq).1 x,hs1.1,λb o b1 _ _ x=>hs1.extBut _ _ b1 x,rfl⟩
 refine aI (iH (FJ (Mid s z TI TO L i) _ 0 _ ?_ M0) ?_ λ_ _ e=>e)
 ·intro j x e s2 M;rw[cY]at M ⊢;obtain⟨q,hq,rfl⟩ : ∃q,L[j]? = aa q/\x=(cI q.c,j):=by
   simp only[List.getElem?_zipIdx,c9,Option.map_map]at e;obtain⟨q,hq,e⟩:=gF.mp e;exact⟨q,hq,by rw[<- e];simp⟩
  have hqm:=je hq;have jlt:j<L.length:=(cv.mp hq).1;have onq:=M.on j q hq;rw[bc (jh j)]at onq;obtain⟨ws,wl,wO,wv⟩:=M.vs;refine aI (wpAny_onRaise ?_);show wpAny _ _ (nW (.ref q.c) >>= _) _ _ _;cases hu:q.us[i]? with
  |none=>
   refine aI (DY hh onq.1 onq.2 hu λh3 e2 x3 he=>?_);obtain⟨oe,goe,coe⟩:=he;have hz3:IsZip h3 z TI TO .ellipsis:=x3 _ _ (D.c q hqm).1.symm M.zz;have hez:e2≠z:=λy=>by subst y;rw[hz3]at goe;cases goe;simp at coe
   refine vf hz3 (by simp) λh4 _ x4=>?_;rw[M.eq];exact hF h4 e2 (λb o b1 b2 b3 y=>x4.extBut _ _ b1 (x3 _ _ (λq'=>b3 (by rw[q'];exact mv hqm)) (M.kp b o b1 b2 b3 y))) ⟨oe,x4.extBut _ _ hez goe,coe⟩ ⟨q,hqm,by simpa using hu⟩
  |some u=>
   refine aI (nx onq.1 onq.2 hu λh3 a3 x3=>bE ?_);have hO3:TupAt h3 TO ws:=x3.extBut _ _ (D.c q hqm).2.2.symm wO;refine aI (sy hO3 rfl (aI (wpAny_updateSeq hO3 rfl ?_ (by rw[cX,wl,dS];omega) (by simp only[Array.size_setIfInBounds,cX];rw[wl,dS];omega))));refine aI (wpAny_letGo (bE ⟨rfl,?_⟩));have x4:mI TO h3 (h3.update TO (sD (·.setIfInBounds j u))):=sC ..;have hu':i<q.us.size:=(Array.getElem?_eq_some_iff.mp hu).1;have up:∀b o,b≠q.c->b≠TO->s2.heap.get? b=aa o->(h3.update TO (sD (·.setIfInBounds j u))).get? b=aa o:=λb o b1 b2 y=>x4.extBut _ _ b2 (x3.extBut _ _ b1 y);refine⟨up _ _ (D.c q hqm).1.symm D.TOz.symm M.zz,⟨ws.set j u,by rw[jg];exact wl,?_,λk r hk hr=>?_⟩,λk r hr=>?_,?_,λb o b1 b2 b3 y=>up b o (λq'=>b3 (by rw[q'];exact mv hqm)) b2 (M.kp b o b1 b2 b3 y),?_⟩
   ·show(h3.update TO _).get? TO=_;rw[zi _ hO3 rfl];simp[sD]
   ·by_cases hkj:k=j
    ·subst hkj;rw[hq]at hr;cases hr;rw[yX,bb rfl,bb (by omega),hu];exact⟨rfl,hu'⟩
    ·rw[yX,bc (λq=>hkj q.symm)];exact wv k r (by omega) hr
   ·have hrm:=je hr;by_cases hkj:k=j
    ·subst hkj;rw[hq]at hr;cases hr;rw[bb (zj _)];exact⟨a3.at λo y=>x4.extBut _ _ (D.c q hqm).2.2 y,onq.2.at λo y=>up _ o ((D.l q hqm).2.2 q hqm) (D.l q hqm).2.1 y⟩
    ·have:=M.on k r hr;rw[show(if k<j then i+1 else i)=(if k<j+1 then i+1 else i)from by
      by_cases h:k<j
      ·rw[bb h,bb (by omega)]
      ·rw[bc h,bc (by omega)]]at this
     exact this.at λb o hb y=>by
      rcases hb with rfl|rfl
      ·exact up _ _ (IY D.nd hr hq hkj) (D.c r hrm).2.2 y
      ·exact up _ _ ((D.l r hrm).2.2 q hqm) (D.l r hrm).2.1 y
   ·show(h3.update TO _).objs.size=_;rw[x4.1,x3.1,M.sz]
   ·rw[M.eq]
 ·rintro r s2 ⟨rfl,M⟩;have hL2:0+((L.map λq=>cI q.c).toArray.toList.zipIdx).length=L.length:=by simp
  rw[hL2]at M;obtain⟨ws,wl,wO,wv⟩:=M.vs;refine aI (sy wO rfl (aI (wpAny_newTuple ?_ (by show ws.length<=_;rw[wl,dS];omega))));show wpAny _ _ (GA (.ref z) (.ref s2.heap.objs.size) >>= _) _ _ _;refine aI ?_;unfold GA;have hz6:IsZip (s2.heap.push { cls:=.type "tuple", data:=.seq ws.toArray }) z TI TO .ellipsis:=cA _ M.zz;refine aI (vf hz6 (by simp) λh7 hz7 x7=>?_);replace hz7:IsZip h7 z TI TO (rawInt s2.heap.objs.size):=hz7;refine vf hz7 (by simp) λh8 hz8 x8=>?_;replace hz8:IsZip h8 z TI TO (rawInt s2.heap.objs.size):=hz8;have up:∀b o,b≠z->s2.heap.get? b=aa o->h8.get? b=aa o:=λb o b1 y=>x8.extBut _ _ b1 (x7.extBut _ _ b1 (cA _ y));have hzl:z<s2.heap.objs.size:=b0 M.zz;have hT8:TupAt h8 s2.heap.objs.size ws:=x8.extBut _ _ (sA hzl) (x7.extBut _ _ (sA hzl) (dE _ rfl));refine bE ⟨_,rfl,?_⟩;show R (.ref s2.heap.objs.size) _;rw[M.sz]at hz8 hT8 ⊢;have e:=M.eq;rw[e];exact hR h8 ws hz8 wl (λj q hq=>wv j q (cv.mp hq).1 hq) (up _ _ D.TOz wO) hT8 (λq hq=>by
   obtain⟨j,hj⟩:=kF hq;have:=M.on j q hj;rw[bb (cv.mp hj).1]at this;exact this.at λb o hb y=>by
    rcases hb with rfl|rfl
    ·exact up _ _ (D.c q hq).1 y
    ·exact up _ _ (D.l q hq).1 y) λb o b1 b2 b3 y=>up b o b1 (M.kp b o b1 b2 b3 y)
end
end Zp
namespace Zp
open PySem PySem.Spec PyProof.Rows L2
variable[Tb:A.bM]
section
variable{P:bh}{w:a8}{B:bK}{F':ai->ap->Prop}{s:ap}
abbrev zO(TI TO:ah):Obj:={ cls:=.type "zip", data:=.fields #[.none,.bool false,.bool false,.ref TI,.ref TO] }
abbrev tO(vs:List ai):Obj:={ cls:=.type "tuple", data:=.seq vs.toArray }
theorem mk2(k1 k2:Bool)(l1 l2:ah)(xs ys:Array ai) :
 Meets (Builtin.«zip.__new__» ⟨[.type "zip", .ref l1,.ref l2],[]⟩) (λ_ R s=>fU k1 s.heap l1 xs/\fU k2 s.heap l2 ys /\
  ∀h1 h2 h3 h4:aK,h1=s.heap.push (mm k1 l1)->h2=h1.push (mm k2 l2)->h3=h2.push (tO [.ref s.heap.objs.size,.ref h1.objs.size])->h4=h3.push (tO [.none,.none]) ->
  R (.ok (.ret (.ref h4.objs.size))) { s with heap:=h4.push (zO h2.objs.size h3.objs.size) }):=
 .of_wp λprog w A R s h=>by
  obtain⟨hp,g,d,tk,os⟩:=s;obtain⟨a1,a2,h⟩:=h;have hsub:=sub_zip;have b1:fU k1 (zx ⟨hp,g,d,tk,os⟩) l1 xs:=a1;have b2:fU k2 (zx ⟨hp.push (mm k1 l1),g,d,tk,os⟩) l2 ys:=a2.at λo e=>cA _ e
  wp_walk using qU b1,qU b2
  exact⟨_,rfl,h _ _ _ _ rfl rfl rfl rfl⟩
abbrev Tr:=Bool×ah×ah
structure Zs(h:aK)(z TI TO:ah)(T:List Tr)(i:Nat):Prop where
 zz:IsZip h z TI TO .none
 ti:TupAt h TI (T.map λq=>.ref q.2.1)
 to:∃vs:List ai,vs.length=T.length/\TupAt h TO vs
 it:∀q∈T,ig q.1 h q.2.1 q.2.2 i
theorem call2{k1 k2:Bool}{l1 l2:ah}{xs ys:Array ai}{R:ai->ap->Prop}(a1:fU k1 s.heap l1 xs)(a2:fU k2 s.heap l2 ys)
 (h:∀h',Zs h' (s.heap.objs.size+4) (s.heap.objs.size+2) (s.heap.objs.size+3) [(k1,s.heap.objs.size,l1),(k2,s.heap.objs.size+1,l2)] 0->(∀c o,s.heap.get? c=aa o->h'.get? c=aa o) ->
  R (.ref (s.heap.objs.size+4)) { s with heap:=h' }):wpAny (model P w) B (call (.type "zip") [.ref l1,.ref l2]) R F' s:=by
 refine callType_new F.called_zip (by decide) (F.typeCall_zip_2 _ _) (F.newCall_zip_2 _ _) (λobj=>F.args_object_init_3 obj _ _) F.entry_zip_new (mk2 k1 k2 l1 l2 xs ys) ⟨a1,a2,?_⟩;intro h1 h2 h3 h4 e1 e2 e3 e4;have z1:h1.objs.size=s.heap.objs.size+1:=by rw[e1];exact pU ..
 have z2:h2.objs.size=s.heap.objs.size+2:=by rw[e2,pU,z1]
 have z3:h3.objs.size=s.heap.objs.size+3:=by rw[e3,pU,z2]
 have z4:h4.objs.size=s.heap.objs.size+4:=by rw[e4,pU,z3]
 have p1:∀c o,s.heap.get? c=aa o->h1.get? c=aa o:=λc o x=>by rw[e1];exact cA _ x
 have p2:∀c o,h1.get? c=aa o->h2.get? c=aa o:=λc o x=>by rw[e2];exact cA _ x
 have p3:∀c o,h2.get? c=aa o->h3.get? c=aa o:=λc o x=>by rw[e3];exact cA _ x
 have p4:∀c o,h3.get? c=aa o->h4.get? c=aa o:=λc o x=>by rw[e4];exact cA _ x
 have p5:∀c o,h4.get? c=aa o->(h4.push (zO h2.objs.size h3.objs.size)).get? c=aa o:=λc o x=>cA _ x;have g1:h1.get? s.heap.objs.size=aa (mm k1 l1):=by rw[e1];exact dE _ rfl
 have g2:h2.get? h1.objs.size=aa (mm k2 l2):=by rw[e2];exact dE _ rfl
 have g3:h3.get? h2.objs.size=aa (tO [.ref s.heap.objs.size,.ref h1.objs.size]):=by rw[e3];exact dE _ rfl
 have g4:h4.get? h3.objs.size=aa (tO [.none,.none]):=by rw[e4];exact dE _ rfl
 have g5:(h4.push (zO h2.objs.size h3.objs.size)).get? h4.objs.size=aa (zO h2.objs.size h3.objs.size):=dE _ rfl;show _/\_;refine⟨⟨_,g5,rfl⟩,?_⟩;rw[z1]at g2 g3;rw[z2]at g3;rw[z3]at g4;rw[z4]at g5 ⊢;rw[z2,z3]at g5 p5 ⊢;exact h _ ⟨g5,p5 _ _ (p4 _ _ g3),⟨_,rfl,p5 _ _ g4⟩,λq hq=>by
  rcases bH.mp hq with rfl|hq
  ·exact⟨_,p5 _ _ (p4 _ _ (p3 _ _ (p2 _ _ g1))),rfl,rfl⟩
  ·obtain rfl:=bX.mp hq;exact⟨_,p5 _ _ (p4 _ _ (p3 _ _ g2)),rfl,rfl⟩⟩ λc o x=>p5 _ _ (p4 _ _ (p3 _ _ (p2 _ _ (p1 _ _ x))))
end
end Zp
namespace Zp
open PySem PySem.Spec PyProof.Rows L2 A
variable[Tb:A.bM]
def fw(H:Hp)(s:Bool×ah)(xs:List V):Prop:=match s.1 with
 |true=>Lst H s.2 xs
 |false=>H s.2=aa (.tup xs)
theorem fw.nn{H:Hp}{s:Bool×ah}{xs:List V}(h:fw H s xs):H s.2≠ab:=by
 obtain⟨k,a⟩:=s;cases k
 ·have h:H a=_:=h;show H a≠ab;rw[h];simp
 ·rcases(show Lst H a xs from h)with h|⟨o,h⟩
  ·show H a≠ab;rw[h];simp
  ·show H a≠ab;rw[h];simp
theorem fw.inj{H:Hp}{s:Bool×ah}{xs ys:List V}(h:fw H s xs)(h':fw H s ys):xs=ys:=by
 obtain⟨k,a⟩:=s;cases k
 ·have h:H a=aa (.tup xs):=h;have h':H a=aa (.tup ys):=h';rw[h]at h';cases h';rfl
 ·rcases(show Lst H a xs from h)with h|⟨o,h⟩<;>rcases(show Lst H a ys from h')with h'|⟨o',h'⟩<;>rw[h]at h'<;>cases h'<;>rfl
theorem fw.at{X:Cx}{ae:List (ah×Obj)}{σ:L2.St}{H:Hp}{s:ap}{k:Bool}{a:ah}{xs:List V}(I:Inv X ae σ H s)(h:fw H (k,a) xs):∃am:List ai,Vals xs am/\fU k s.heap a am.toArray:=by
 cases k
 ·have h:H a=aa (.tup xs):=h;obtain⟨_,am,rv,o,e,c,_,d⟩:=I.hok a _ h;exact⟨am,rv,o,e,c,d⟩
 ·have h:Lst H a xs:=h;obtain⟨am,rv,⟨o,n,e,c,_,d⟩,_⟩:=I.list h.sq;exact⟨am,rv,o,e,c,n,d⟩
abbrev i7(H:Hp)(S:List (Bool×ah))(xss:List (List V)):Prop:=P2 (λs xs=>fw H s xs) S xss
def qv(S:List (Bool×ah)):It:=
 ⟨fun i H => ∃ xss, i7 H S xss ∧ ∀ xs ∈ xss, i < xs.length,
  λi H v H'=>∃p ws,(∀xss,i7 H S xss->P2 (λ(xs:List V) x=>xs[i]? = aa x) xss ws)/\H p=ab/\v=.ref p/\H'=upd H p (.tup ws),
  λi H=>∃xss,i7 H S xss/\∃xs∈xss,xs.length<=i⟩
theorem EL{H:Hp}:∀{S:List (Bool×ah)} {xss yss:List (List V)},i7 H S xss->i7 H S yss->xss=yss
 |_,_,_,.nil,.nil=>rfl
 |_,_,_,.cons a r,.cons b t=>by rw[a.inj b,EL r t]
theorem lie{X:Cx}{ae:List (ah×Obj)}{σ:L2.St}{H:Hp}{s:ap}(I:Inv X ae σ H s):∀{T:List Tr} {xss:List (List V)},i7 H (T.map λq=>(q.1,q.2.2)) xss ->
 ∃L:List Sr,L.map (λq=>(q.k,q.c,q.l))=T/\(∀q∈L,fU q.k s.heap q.l q.us/\H q.l≠ab)/\P2 (λ(q:Sr) xs=>Vals xs q.us.toList) L xss
 |[],_,.nil=>⟨[],rfl,λq h=>absurd h (by simp),.nil⟩
 |(k,c,l)::T,_,.cons a r=>by
  obtain⟨L,e,h,p⟩:=lie I r;obtain⟨am,rv,q⟩:=a.at I;refine⟨⟨k,c,l,am.toArray⟩::L,by rw[cS,e],λy hy=>?_,.cons rv p⟩;rcases bH.mp hy with rfl|hy
  ·exact⟨q,a.nn⟩
  ·exact h y hy
theorem pick{i:Nat}:∀{L:List Sr} {xss:List (List V)} {ws:List ai},P2 (λ(q:Sr) xs=>Vals xs q.us.toList) L xss->ws.length=L.length->(∀(j:Nat) (q:Sr),L[j]? = aa q->ws[j]? = q.us[i]?/\i<q.us.size) ->
 ∃vws:List V,Vals vws ws/\P2 (λ(xs:List V) x=>xs[i]? = aa x) xss vws
 |_,_,[],.nil,_,_=>⟨[],.nil,.nil⟩
 |_,_,w::ws,.cons (a:=q) (b:=xs) rv t,hl,h=>by
  obtain⟨vws,r,p⟩:=pick t (by simpa using hl) λj r hr=>by simpa using h (j+1) r (by simpa using hr)
  obtain⟨e,hi⟩:=h 0 q rfl;have hlen:=rv.length;have hix:i<xs.length:=by simp at hlen;omega
  obtain⟨u,hu,ru⟩:=rv.get (i:=i) (x:=xs[i]) (by simp[hix]);have:aa w=aa u:=by have e':aa w=q.us[i]?:=e;rw[e',<- hu];simp
  cases this;exact⟨xs[i]::vws,.cons ru r,.cons (by simp[hix]) p⟩
 |_,_,[],.cons _ _,hl,_=>by simp at hl
 |_,_,w::ws,.nil,hl,_=>by simp at hl
structure FN(z TI TO:ah)(T:List Tr):Prop where
 TIz:TI≠z
 TOz:TO≠z
 TITO:TI≠TO
 nd:(T.map (·.2.1)).Nodup
 c:∀q∈T,q.2.1≠z/\q.2.1≠TI/\q.2.1≠TO
theorem KW{P:bh}{w:a8}{K:aG}{elts:List aS}{k1:Nat}{pos:Pos}{z TI TO:ah}{T:List Tr}(D0:FN z TI TO T)(hT0:T≠[])(hT8:T.length<=8) :
 Turn P w K (.Tuple elts k1 pos) (qv (T.map λq=>(q.1,q.2.2))) (z::TI::TO::T.map (·.2.1)) z (λi h=>Zs h z TI TO T i) where
 mem:=by simp
 obj:=λi h st b hb=>by
  rcases bH.mp hb with rfl|hb
  ·exact⟨_,st.zz,λv q=>by cases q⟩
  rcases bH.mp hb with rfl|hb
  ·exact⟨_,st.ti,λv q=>by cases q⟩
  rcases bH.mp hb with rfl|hb
  ·obtain⟨vs,_,h⟩:=st.to;exact⟨_,h,λv q=>by cases q⟩
  ·obtain⟨q,hq,rfl⟩:=cq.mp hb;exact(st.it q hq).cell
 keep:=λi h h' st kk=>⟨kk z (by simp) _ st.zz,kk TI (by simp) _ st.ti,let ⟨vs,l,e⟩:=st.to;⟨vs,l,kk TO (by simp) _ e⟩,λq hq=>(st.it q hq).at λo e=>kk _ (by simp only[bH];exact .inr (.inr (.inr (mv (f:=λq:Tr=>q.2.1) hq)))) o e⟩
 item:=by
  intro X hP hw hK hc i ae s σ H E I hf st hg;subst hP hw hK;obtain⟨xss,hq,hx⟩:=hg;obtain⟨L,eL,at_,rL⟩:=lie I hq;have eT:T.map (λq=>(cI q.2.1))=L.map λq=>.ref q.c:=by rw[<- eL,dq];rfl
  have eC:T.map (λq=>q.2.1)=L.map λq=>q.c:=by rw[<- eL,dq];rfl
  have lT:T.length=L.length:=by rw[<- eL,aM]
  have inT:∀q∈L,(q.k,q.c,q.l)∈T:=λq h=>by rw[<- eL];exact mv (f:=λq:Sr=>(q.k,q.c,q.l)) h
  have lne:∀q∈L,∀b∈z::TI::TO::T.map (·.2.1),q.l≠b:=λq h b hb e=>(at_ q h).2 (by rw[e];exact(hf b hb).1);have D:Ap z TI TO L:=⟨D0.TIz,D0.TOz,D0.TITO,by rw[<- eC];exact D0.nd,λq h=>D0.c _ (inT q h),λq h=>⟨lne q h z (by simp),lne q h TO (by simp),λr hr=>lne q h r.c (by rw[eC];simp only[bH];exact .inr (.inr (.inr (mv (f:=λq:Sr=>q.c) hr))))⟩⟩;have hO:=st.to;obtain⟨vs,vl,hO⟩:=hO;have hTI:=st.ti;rw[eT]at hTI;have hty:s.TypeIs (.ref z) "zip" := ⟨_,st.zz,rfl⟩;unfold pyNext;refine aI (vm (pO (name:=pW "__next__") hty vy (mD vy hty F.entry_zip_next
   (Cr (by first|exact I.ok.hd hc|(simp;exact I.ok.hd hc)) D (λe=>hT0 (by rw[e]at lT;exact yN lT)) st.zz hTI hO (by rw[vl,lT]) (by omega) (λq h=>⟨st.it _ (inT q h),(at_ q h).1⟩) (λh' ws hz' wl wv hO' hN on' kp=>bE ?_) (λh' e kp he hend=>?_)) (F.args_zip_next_1 _))))
  ·refine⟨_,rfl,wpAny_letOwnedTupleGo_zip hz' λh2 hz2 hs2=>?_⟩;have kk:∀b o,b∉z::TI::TO::T.map (·.2.1)->s.heap.get? b=aa o->h2.get? b=aa o:=λb o hb q=>by
    simp only[bH,not_or]at hb;exact(hs2.2 b hb.1).trans (kp b o hb.1 hb.2.2.1 (by rw[<- eC];exact hb.2.2.2) q)
   have hne:∀b∈z::TI::TO::T.map (·.2.1),b≠s.heap.objs.size:=λb hb e=>by
    obtain⟨o,ho,_⟩ : ∃o,s.heap.get? b=aa o/\True:=by
     rcases bH.mp hb with rfl|hb
     ·exact⟨_,st.zz,trivial⟩
     rcases bH.mp hb with rfl|hb
     ·exact⟨_,st.ti,trivial⟩
     rcases bH.mp hb with rfl|hb
     ·exact⟨_,hO,trivial⟩
     ·obtain⟨q,hq,rfl⟩:=cq.mp hb;obtain⟨o,ho,_⟩:=st.it q hq;exact⟨o,ho,trivial⟩
    exact absurd (b0 ho) (by rw[e];exact jh _)
   obtain⟨vws,hv,hy⟩ : ∃vws:List V,Vals vws ws/\P2 (λ(xs:List V) x=>xs[i]? = aa x) xss vws:=by exact pick rL wl wv
   have hN2:TupAt h2 s.heap.objs.size ws:=(hs2.2 _ (λe=>hne z (by simp) e.symm)).trans hN;refine⟨.ref s.heap.objs.size,upd H s.heap.objs.size (.tup vws),By (s:=s) (t':=s.toks) I hf kk (bA _) ⟨?_,ws,hv,⟨_,hN2,rfl,rfl,_,rfl⟩⟩,rfl,⟨_,vws,λyss h=>by rw[EL h hq];exact hy,I.hok.fresh (bA _),rfl,rfl⟩,?_,λb hb=>?_⟩
   ·rw[hv.length,wl,dS];omega
   ·refine⟨hz2,(hs2.2 _ D0.TIz).trans ?_,⟨ws,by rw[wl,lT],(hs2.2 _ D0.TOz).trans hO'⟩,λq hq2=>?_⟩
    ·exact kp _ _ D0.TIz D0.TITO (λh=>by
      rw[<- eC]at h;obtain⟨q,hq2,e⟩:=cq.mp h;exact(D0.c q hq2).2.1 e) st.ti
    ·rw[<- eL]at hq2;obtain⟨r,hr,rfl⟩:=cq.mp hq2;exact(on' r hr).1.at λo q=>(hs2.2 _ (D.c r hr).1).trans q
   ·rw[aE (hne b hb)];exact(hf b hb).1
  ·exfalso;obtain⟨q,hqm,hle⟩:=hend;obtain⟨j,hj⟩:=kF hqm;obtain⟨xs,hxs,rv⟩:=rL.getL hj;have:=hx xs (je hxs);have:=rv.length;simp at this;omega
 done:=by
  intro X hP hw hK hc i ae s σ H E I hf st hg;subst hP hw hK;obtain⟨xss,hq,xs0,hx0,hxl⟩:=hg;obtain⟨L,eL,at_,rL⟩:=lie I hq;have eT:T.map (λq=>(cI q.2.1))=L.map λq=>.ref q.c:=by rw[<- eL,dq];rfl
  have eC:T.map (λq=>q.2.1)=L.map λq=>q.c:=by rw[<- eL,dq];rfl
  have lT:T.length=L.length:=by rw[<- eL,aM]
  have inT:∀q∈L,(q.k,q.c,q.l)∈T:=λq h=>by rw[<- eL];exact mv (f:=λq:Sr=>(q.k,q.c,q.l)) h
  have lne:∀q∈L,∀b∈z::TI::TO::T.map (·.2.1),q.l≠b:=λq h b hb e=>(at_ q h).2 (by rw[e];exact(hf b hb).1);have D:Ap z TI TO L:=⟨D0.TIz,D0.TOz,D0.TITO,by rw[<- eC];exact D0.nd,λq h=>D0.c _ (inT q h),λq h=>⟨lne q h z (by simp),lne q h TO (by simp),λr hr=>lne q h r.c (by rw[eC];simp only[bH];exact .inr (.inr (.inr (mv (f:=λq:Sr=>q.c) hr))))⟩⟩;have hO:=st.to;obtain⟨vs,vl,hO⟩:=hO;have hTI:=st.ti;rw[eT]at hTI;have hty:s.TypeIs (.ref z) "zip" := ⟨_,st.zz,rfl⟩;unfold pyNext;refine aI (vm (pO (name:=pW "__next__") hty vy (mD vy hty F.entry_zip_next
   (Cr (by first|exact I.ok.hd hc|(simp;exact I.ok.hd hc)) D (λe=>hT0 (by rw[e]at lT;exact yN lT)) st.zz hTI hO (by rw[vl,lT]) (by omega) (λq h=>⟨st.it _ (inT q h),(at_ q h).1⟩) (λh' ws hz' wl wv hO' hN on' kp=>?_) (λh' e kp he hend=>?_)) (F.args_zip_next_1 _))))
  ·exfalso;obtain⟨j,hj⟩:=kF hx0;obtain⟨q,hqj,rv⟩:=rL.xI hj;have:=(wv j q hqj).2;have:=rv.length;simp at this;omega
  ·obtain⟨o,ho,hcl⟩:=he;refine aI (wpAny_isInstance (T := "StopIteration") (b:=true) ⟨o,ho,hcl⟩ isSubtype_stop (bE ⟨rfl,?_⟩));exact AR (s:=s) (t':=s.toks) I hf λb o hb q=>by
    simp only[bH,not_or]at hb;exact kp b o hb.1 hb.2.2.1 (by rw[<- eC];exact hb.2.2.2) q
 self:=λ_ i s Q E st h=>wpAny_pyIter_zip st.zz h
end Zp
namespace Mi
def ux:D->Rs (List D)
 |.lst ds=>.ok ds
 |.tup ds=>.ok ds
 |_=>.no
def xi(a b:E):I:=λe=>(a e).bind λx=>(b e).bind λy=>(ux x).bind λds=>(ux y).bind λes=>.ok (iA ds es)
end Mi
namespace Zp
open PySem PySem.Spec PyProof.Rows L2 A
open Mi (D W Rs Fin au)
variable[Tb:A.bM]
theorem fw.same{H H':Hp}{s:Bool×ah}{xs:List V}(h:ca H H')(q:fw H s xs):fw H' s xs:=by
 obtain⟨k,a⟩:=s;cases k
 ·exact h _ _ q
 ·exact Lst.same (a:=a) h q
theorem si{H H':Hp}{S:List (Bool×ah)}{xss:List (List V)}(h:ca H H')(q:i7 H S xss):i7 H' S xss:=q.imp λ_ _ x=>x.same h
def BZ(dss:List (List D))(dz:List D):Prop:=(∀i,i<dz.length->∃us,dz[i]? = aa (.tup us)/\P2 (λ(ds:List D) u=>ds[i]? = aa u) dss us)/\∃ds∈dss,ds.length=dz.length
theorem picks{Hv:Hp}{i:Nat}:∀{dss:List (List D)} {xss:List (List V)} {us:List D} {ws:List V},P2 (P2 (Rep Hv)) dss xss->P2 (λ(ds:List D) u=>ds[i]? = aa u) dss us->P2 (λ(xs:List V) x=>xs[i]? = aa x) xss ws->P2 (Rep Hv) us ws
 |_,_,_,_,.nil,.nil,.nil=>.nil
 |_,_,_,_,.cons a r,.cons b s,.cons c t=>.cons (a.get b c) (picks r s t)
theorem BG{α β:Type}{F:α->β->Prop}:∀{l:List α} {m:List β} {b:β},P2 F l m->b∈m->∃a∈l,F a b
 |_,_,_,.cons x t,h=>by
  rcases bH.mp h with rfl|h
  ·exact⟨_,dj ..,x⟩
  ·obtain⟨a,ha,q⟩:=BG t h;exact⟨a,dJ _ ha,q⟩
theorem v8{α β:Type}{F:α->β->Prop}:∀{l:List α} {m:List β} {a:α},P2 F l m->a∈l->∃b∈m,F a b
 |_,_,_,.cons x t,h=>by
  rcases bH.mp h with rfl|h
  ·exact⟨_,dj ..,x⟩
  ·obtain⟨a,ha,q⟩:=v8 t h;exact⟨a,dJ _ ha,q⟩
def ZP(S:List (Bool×ah))(dss:List (List D))(xss:List (List V))(_ Hv:Hp):Prop:=i7 Hv S xss/\P2 (P2 (Rep Hv)) dss xss
theorem IE{S:List (Bool×ah)}{dss:List (List D)}{xss:List (List V)}{dz:List D}(hz:BZ dss dz):oP (qv S) (ZP S dss xss) dz:=by
 refine⟨λi H Hv p v hi=>?_,λi H Hv x H' p v hi y=>?_,λH Hv p v=>?_⟩
 ·obtain⟨us,_,hu⟩:=hz.1 i hi;refine⟨xss,si v.sub p.1,λxs hx=>?_⟩;obtain⟨ds,hd,r⟩:=BG p.2 hx;obtain⟨u,_,e⟩:=v8 hu hd;have:=(cv.mp e).1;rw[<- r.len];exact this
 ·obtain⟨us,hd,hu⟩:=hz.1 i hi;obtain⟨q,ws,hw,hq,rfl,rfl⟩:=y;have r:=picks p.2 hu (hw xss (si v.sub p.1));obtain⟨g,k⟩:=uP v r hq;exact⟨_,.tup us,g,hd,k⟩
 ·obtain⟨ds,hd,e⟩:=hz.2;obtain⟨xs,hx,r⟩:=v8 p.2 hd;exact⟨xss,si v.sub p.1,xs,hx,by rw[<- r.len];omega⟩
theorem EZ:∀ds es:List D,BZ [ds,es] (Mi.iA ds es)
 |[],es=>⟨λi h=>absurd h (by simp[Mi.iA]),[],by simp,by simp[Mi.iA]⟩
 |d::r,[]=>⟨λi h=>absurd h (by simp[Mi.iA]),[],by simp,by simp[Mi.iA]⟩
 |d::r,e::s=>by
  obtain⟨h1,ds,hd,hl⟩:=EZ r s;refine⟨λi hi=>?_,?_⟩
  ·cases i with
   |zero=>exact⟨[d,e],rfl,.cons rfl (.cons rfl .nil)⟩
   |succ i=>
    obtain⟨us,a,b⟩:=h1 i (by simpa [Mi.iA]using hi);refine⟨us,by simpa [Mi.iA]using a,?_⟩;cases b with
    |cons x t=>
     cases t with
     |cons y t=>cases t;exact .cons (by simpa using x) (.cons (by simpa using y) .nil)
  ·rcases bH.mp hd with rfl|hd
   ·exact⟨d::ds,by simp,by simp[Mi.iA,hl]⟩
   ·obtain rfl:=bX.mp hd;exact⟨e::ds,by simp,by simp[Mi.iA,hl]⟩
theorem wB{x:D}{k:List D->Prop}(h:Fin (Mi.ux x) k):∃ds,(x=.lst ds\/x=.tup ds)/\k ds:=by
 cases x with
 |lst b=>exact⟨b,.inl rfl,h⟩
 |tup b=>exact⟨b,.inr rfl,h⟩
 |_=>exact h.elim
theorem vS{H:Hp}{x:D}{ds:List D}{v:V}(h:x=.lst ds\/x=.tup ds)(r:Rep H x v):∃k a xs,v=.ref a/\fw H (k,a) xs/\P2 (Rep H) ds xs:=by
 rcases h with rfl|rfl
 ·obtain⟨a,xs,e,l,r⟩:=i3.mp r;exact⟨true,a,xs,e,l,r⟩
 ·obtain⟨a,xs,e,l,r⟩:=i8.mp r;exact⟨false,a,xs,e,l,r⟩
section
variable{X:Cx}{elts:List aS}{k1:Nat}{tpos:Pos}{M:Nat->Bool}
theorem k3{a b:Nat}(h:a≠b):@Ne ah a b:=h
theorem HQ{n:Nat}:∀{b:Nat},b∈([n+4,n+2,n+3,n,n+1]:List Nat)->n<=b:=λ{b} h=>by simp at h;omega
theorem Lj(n:Nat)(k k':Bool)(l l':ah):FN (n+4) (n+2) (n+3) [(k,n,l),(k',n+1,l')]:=
 ⟨k3 (by omega),k3 (by omega),k3 (by omega),by show([n,n+1]:List Nat).Nodup;simp,λq hq=>by
  rcases bH.mp hq with rfl|hq
  ·exact⟨k3 (show n≠n+4 by omega),k3 (show n≠n+2 by omega),k3 (show n≠n+3 by omega)⟩
  ·obtain rfl:=bX.mp hq;exact⟨k3 (show n+1≠n+4 by omega),k3 (show n+1≠n+2 by omega),k3 (show n+1≠n+3 by omega)⟩⟩
def Ev(ta tb:TE):TI:=λσ H R=>ta σ H λx H1=>tb σ H1 λy H2=>∃S xss,[x,y]=S.map (λs:Bool×ah=>V.ref s.2)/\S.length=2/\i7 H2 S xss/\R (qv S) H2
theorem LW{a b:aS}{ta tb:TE}{p pos:Pos}(hg:Gl X "zip")(hm:X.mg "zip" = ab)(ha:PE X a ta)(hb:PE X b tb)(hs:starEach [a,b] X.env=[(false,eval a X.env),(false,eval b X.env)]:=by rfl)(hs0:starEach [a,b] X.env=(false,eval a X.env)::starEach [b] X.env:=by rfl)(hs1:starEach [b] X.env=(false,eval b X.env)::starEach [] X.env:=by rfl)(hpl:(backTo pos (starEach [b] X.env)).any (·.1)=false:=by rfl) :
 PI X (.Tuple elts k1 tpos) (.Call (.Name "zip" p) [a,b] [] pos) (Ev ta tb):=by
 intro ae s σ H R I h;refine Call_ (pj I hg hm boot_zip (vB (aX (ao ha (ao hb a9 hs1) hs0 pos ae s σ H (λvs H1=>∃S xss,vs=S.map (λs:Bool×ah=>V.ref s.2)/\S.length=2/\i7 H1 S xss/\R (qv S) H1) I ?_) λus s1 ⟨vs,H1,I1,r1,q1⟩=>?_) hs0 hpl))
 ·exact h
 ·obtain⟨S,xss,e,hl,hS,q⟩:=q1;obtain⟨⟨k,l⟩,⟨k',l'⟩,rfl⟩ : ∃x y,S=[x,y]:=by
   match S,hl with
   |[x,y],_=>exact⟨x,y,rfl⟩
  subst e;have hS0:=hS;cases hS with
  |cons s1' t=>
  cases t with
  |cons s2' t=>
  cases t;cases r1 with
  |cons u1 r1=>
  cases r1 with
  |cons u2 r1=>
  cases r1;cases u1;cases u2;obtain⟨i1,_,a1⟩:=s1'.at I1;obtain⟨i2,_,a2⟩:=s2'.at I1;refine call2 a1 a2 λh' hZ hk=>wpAny_pyIter_zip hZ.zz ?_;have I2:Inv X ae σ H1 { s1 with heap:=h' }:=I1.kept (t':=s1.toks) λb o e=>hk b o e;refine⟨_,_,_,_,H1,rfl,I2,KW (z:=s1.heap.objs.size+4) (TI:=s1.heap.objs.size+2) (TO:=s1.heap.objs.size+3) (Lj _ k k' l l') (by simp) (by simp),hZ,λb hb=>?_,q⟩;have hb:s1.heap.objs.size<=b:=HQ hb;exact I1.g9 hb (I1.hok.fresh hb)
theorem NC{ta tb:TE}{a b:Mi.E}(ha:AE M qV ta a)(hb:AE M qV tb b):gU M (Ev ta tb) (Mi.xi a b):=λe σ H Hv R I h=>
 ha e σ H Hv _ I ((au.mp h).mono λx hx v H1 Hv1 g1 rx=>hb e σ H1 Hv1 _ (I.grow g1) ((au.mp hx).mono λy hy u H2 Hv2 g2 ry=>by
  obtain⟨ds,hd,hk⟩:=wB (au.mp hy);obtain⟨es,he,hk⟩:=wB (au.mp hk);obtain⟨k,a,xs,rfl,s1,r1⟩:=vS hd (jr g2.vis (show Rep Hv1 x v from rx));obtain⟨k',a',ys,rfl,s2,r2⟩:=vS he (show Rep Hv2 y u from ry);have S2:i7 Hv2 [(k,a),(k',a')] [xs,ys]:=.cons s1 (.cons s2 .nil);exact⟨[(k,a),(k',a')],[xs,ys],rfl,rfl,si g2.vw.sub S2,hk (qv [(k,a),(k',a')]) H2 Hv2 (ZP [(k,a),(k',a')] [ds,es] [xs,ys]) (g1.trans g2) (IE (EZ ds es)) ⟨S2,.cons r1 (.cons r2 .nil)⟩ λ_ _ _ _ z s _=>⟨si s z.1,z.2.imp λ_ _ q=>dY s q⟩⟩))
end
end Zp
namespace Zp
open PySem PySem.Spec PyProof.Rows L2 A
open Mi (D W Rs Fin au)
variable[Tb:A.bM]
section
variable{X:Cx}{ae:List (ah×Obj)}{σ:L2.St}{H:Hp}{s:ap}{B:bK}{E:ai->ap->Prop}{Q:ai->ap->Prop}{b:Bool}
theorem kit_at{x:V}{u t:ai}(I:Inv X ae σ H s)(rx:RelV x u)(ty:gy X.K H x t):∃P:aK->Prop,PySem.W.KitX X.K u t P/\P s.heap/\u≠.builtin "__main__.__loader__#opaque":= by
 cases ty with
 |non=>cases(show u=iJ from rx);exact⟨_,Gb,gG,λz=>nomatch z⟩
 |bl y=>cases(show u=iI y from rx);exact⟨_,Gc,gG,λz=>nomatch z⟩
 |int i=>obtain⟨t,q⟩:=(show∃t,u=Value.int i t from rx);cases q;exact⟨_,Gf,gG,λz=>nomatch z⟩
 |str y=>obtain⟨t,q⟩:=(show∃t,u=mK y t from rx);cases q;exact⟨_,Gg,gG,λz=>nomatch z⟩
 |flt y=>obtain⟨t,q⟩:=(show∃t,u=zr y t from rx);cases q;exact⟨_,F7,gG,λz=>nomatch z⟩
 | @lst a xs ea=>
  cases(show u=cI a from rx);obtain⟨_,_,n,_,h1⟩:=(show cj X.prog X.w H s.heap a (.lst xs)from I.hok a _ ea);exact⟨_,u5,⟨_,h1,rfl⟩,λz=>nomatch z⟩
 | @frz a ob xs ea=>
  cases(show u=cI a from rx);obtain⟨_,_,_,n,_,h1⟩:=(show cj X.prog X.w H s.heap a (.frz ob (.lst xs))from I.hok a _ ea);exact⟨_,u5,⟨_,h1,rfl⟩,λz=>nomatch z⟩
 | @tup a xs ea=>
  cases(show u=cI a from rx);obtain⟨_,_,_,o,h1,h2,_⟩:=(show cj X.prog X.w H s.heap a (.tup xs)from I.hok a _ ea);exact⟨_,F8,⟨o,h1,h2⟩,λz=>nomatch z⟩
 | @dK a ak ea=>
  cases(show u=cI a from rx);obtain⟨_,_,vs,_,o,es,ep,h1,h2,_⟩:=(show cj X.prog X.w H s.heap a (.dK ak)from I.hok a _ ea);exact⟨_,u6,⟨o,h1,h2.1⟩,λz=>nomatch z⟩
 | @dT a ak ea=>
  cases(show u=cI a from rx);obtain⟨_,_,xs,_,o,es,ep,h1,h2,_⟩:=(show cj X.prog X.w H s.heap a (.dT ak)from I.hok a _ ea);exact⟨_,u6,⟨o,h1,h2.1⟩,λz=>nomatch z⟩
 | @ins a C dx fs ea cl ha hn htk hm=>
  cases(show u=cI a from rx);obtain⟨mA,O,_⟩:=CL I.hok ea;obtain⟨od,J,_⟩:=O.look;exact⟨_,Gh (cl.get _) cl.hd ha hn htk hm,J,λz=>nomatch z⟩
theorem BV:∀{Ts:List String} {us:List ai},Vals (Ts.map V.ty) us->us=Ts.map .type
 |[],_,.nil=>rfl
 |T::r,_,.cons a t=>by
  have a:_=vA T:=a;rw[a,BV t];rfl
def CY(K:aG):List V->Hp->VK->Prop:=λxs H Q=>∃(x:V) (t:ai) (tp:ah) (Ts:List String) (b:Bool),xs=[x,.ref tp]/\H tp=aa (.tup (Ts.map V.ty))/\gy K H x t/\zd K t (Ts.map .type)=aa b/\Q (.bl b) H
theorem At:f8 X (.builtin "isinstance") (CY X.K):=by intro ae s σ H xs us Q I r h;obtain⟨x,t,tp,Ts,b,rfl,ht,ty,e,q⟩:=h;obtain⟨u,w',rfl,rx,rt⟩:=vals2 r;cases(show w'=cI tp from rt);obtain⟨_,am,rv,o,h1,h2,_,n,h3⟩:=(show cj X.prog X.w H s.heap tp (.tup (Ts.map V.ty))from I.hok tp _ ht);obtain rfl:=BV rv;obtain⟨c,d,dt,sl⟩:=o;simp only at h2 h3;subst h2 h3;obtain⟨P,kx,p,hn⟩:=kit_at I rx ty;exact PySem.W.kia_tup kx I.fe p h1 e hn λtk=>⟨.bl b,H,I.tok tk,rfl,q⟩
end
theorem Fj{K:aG}{d:D}:∀{Ts:List String},(∀T∈Ts,jH K T)->zd K (.type (Mi.xO d)) (Ts.map .type)=aa (Ts.any λt=>Mi.oM t d)
 |[],_=>rfl
 |T::r,h=>by
  have h1:=h T (dj ..) d;have h2:=Fj (d:=d) λT' hT=>h T' (dJ _ hT);rw[cS,zd,h1];cases e:Mi.oM T d
  ·simp only[iF,e,vt];exact h2
  ·simp only[iF,e,Bool.true_or]
theorem CW{K:aG}{S T:String}(h:jH K S)(g:jH K T):∀U∈[S,T],jH K U:=λU hU=>by
 rcases bH.mp hU with rfl|hU
 ·exact h
 ·obtain rfl:=bX.mp hU;exact g
def yz:List String->TA
 |[]=>gO
 |T::r=>fN (tC (.ty T)) (yz r)
theorem Ca:∀(Ts:List String) (σ:L2.St) (H:Hp) (Q:List V->Hp->Prop),Q (Ts.map V.ty) H->yz Ts σ H Q
 |[],_,_,_,h=>h
 |T::r,σ,H,Q,h=>Ca r σ H _ h
section
variable{M:Nat->Bool}{K:aG}{ta:TE}{a:Mi.E}
theorem El{Ts:List String}(hT:∀T∈Ts,jH K T)(hl:Ts.length<=8)(ha:AE M qP ta a):AE M qV (rD (CY K) (fN ta (fN (xJ (yz Ts)) gO))) (Mi.m1 (Mi.ee Ts) a):=λe σ H Hv Q I h=>
 ha e σ H Hv _ I ((au.mp h).mono λx hx v H1 Hv1 g1 rx=>Ca Ts σ H1 _ ⟨by rw[aM,dS];omega,λp hp=>by
  have g2:bz H1 Hv1 (upd H1 p (.tup (Ts.map V.ty))) (upd Hv1 p (.tup (Ts.map V.ty))):=.new g1.vw hp;have g:=g1.trans g2;exact⟨v,_,p,Ts,_,rfl,bp,Bp g.vw (RB.grow g2 rx),Fj hT,(Mi.nr hx) _ _ _ g eZ⟩⟩)
end
end Zp
namespace Mi
def md(a:E):I:=λe=>(a e).bind λx=>(ux x).bind λds=>.ok (ko 0 ds)
end Mi
namespace Zp
open PySem PySem.Spec PyProof.Rows L2 A
open Mi (D W Rs Fin au)
open AutoSeq1 (wpAny_loadPart')
variable[Tb:A.bM]
abbrev eO(c:ah):Obj:={ cls:=.type "enumerate", data:=.fields #[.none,.bool false,.ref c,rawInt 0,.none,.none] }
theorem HR(l:ah)(us:Array ai)(n:Nat)(dd:Option ah)(sl:Array (Option ai)) :
 Meets (Builtin.«enumerate.__new__» ⟨[.type "enumerate",.ref l],[]⟩) (λ_ R s=>s.heap.get? l=aa { cls:=.type "tuple", dict:=dd,data:=.seq us n,slots:=sl } /\
  ∀h1:aK,h1=s.heap.push (mm false l)->R (.ok (.ret (.ref h1.objs.size))) { s with heap:=h1.push (eO s.heap.objs.size) }):=
 .of_wp λprog w A R s h=>by
  obtain⟨hp,g,d,tk,os⟩:=s;obtain⟨ht,h⟩:=h;have hsub:=sub_enumerate;have hQ:fU false (zx ⟨hp,g,d,tk,os⟩) l us:=⟨_,ht,rfl,n,rfl⟩
  wp_walk using vj ht
  refine wpAny_stack_any λst=>bE ?_;split
  ·rename_i c _ _ _ _ _;cases(c==vA "enumerate")
   ·wp_walk using vj ht,qU hQ
    exact⟨_,rfl,h _ rfl⟩
   ·wp_walk using vj ht,qU hQ
    exact⟨_,rfl,h _ rfl⟩
  ·wp_walk using vj ht,qU hQ
   exact⟨_,rfl,h _ rfl⟩
theorem Ml{P:bh}{w:a8}{B:bK}{E':ai->ap->Prop}{s:ap}{k:Bool}{l:ah}{us:Array ai}{R:ai->ap->Prop}(hQ:fU k s.heap l us)
 (h:∀h',IsEnum h' (s.heap.objs.size+1) s.heap.objs.size 0 .none->ig k h' s.heap.objs.size l 0->(∀b o,s.heap.get? b=aa o->h'.get? b=aa o)->R (.ref (s.heap.objs.size+1)) { s with heap:=h' }) :
 wpAny (model P w) B (call (.type "enumerate") [.ref l]) R E' s:=by
 cases k
 ·obtain⟨⟨c,dd,dt,sl⟩,hl,hc,n,hd⟩:=hQ;replace hc:c=.type "tuple" := hc;replace hd:dt=.seq us n:=hd;subst hc hd;refine callType_new F.called_enumerate (by decide) (F.typeCall_enumerate_1 _) (F.newCall_enumerate_1 _) (λobj=>F.args_object_init_2 obj _) F.entry_enumerate_new (HR l us n dd sl) ⟨hl,?_⟩;intro h1 e1;have z1:h1.objs.size=s.heap.objs.size+1:=by rw[e1];exact pU ..
  have g1:h1.get? s.heap.objs.size=aa (mm false l):=by rw[e1];exact dE _ rfl
  have g2:(h1.push (eO s.heap.objs.size)).get? h1.objs.size=aa (eO s.heap.objs.size):=dE _ rfl;show _/\_;refine⟨⟨_,g2,rfl⟩,?_⟩;rw[z1]at g2 ⊢;exact h _ g2 ⟨_,cA _ g1,rfl,rfl⟩ λb o x=>cA _ (by rw[e1];exact cA _ x)
 ·exact call_enumerate_list hQ λh' a b _ d=>h h' a b d
def rP(q:Bool×ah):It:=⟨λi H=>∃xs x,fw H q xs/\xs[i]? = aa x,λi H v H'=>∃p x,(∀xs,fw H q xs->xs[i]? = aa x)/\H p=ab/\v=.ref p/\H'=upd H p (.tup [.int i,x]),λi H=>∃xs,fw H q xs/\xs.length=i⟩
theorem J5{P:bh}{w:a8}{K:aG}{elts:List aS}{k1:Nat}{pos:Pos}(k:Bool)(a e it:ah)(hne:e≠it):Turn P w K (.Tuple elts k1 pos) (rP (k,a)) [e,it] e (λi h=>(∃old,IsEnum h e it i old)/\ig k h it a i) where
 mem:=by simp
 obj:=λi h st b hb=>by
  obtain⟨⟨old,he⟩,hi⟩:=st;rcases bH.mp hb with rfl|hb
  ·exact⟨_,he,λv z=>by cases z⟩
  ·have e1:b=it:=by simpa using hb
   subst e1;exact hi.cell
 keep:=λi h h' st kk=>⟨let ⟨old,he⟩:=st.1;⟨old,kk e (by simp) _ he⟩,st.2.at λo q=>kk it (by simp) o q⟩
 item:=by
  intro X hP hw hK hc i ae s σ H E I hf st hg;subst hP hw hK;obtain⟨xs,x,hq,hx⟩:=hg;obtain⟨am,rv,p⟩:=hq.at I;obtain⟨u,hu,ru⟩:=rv.get hx;obtain⟨⟨old,he⟩,hli⟩:=st;have hlt:i<am.toArray.size:=by rw[cX];exact(cv.mp hu).1
  have hai:a≠it:=λz=>hq.nn (by show H a=ab;rw[z];exact(hf it (by simp)).1);have hea:e≠a:=λz=>hq.nn (by show H a=ab;rw[<- z];exact(hf e (by simp)).1);refine wpAny_pyNext_enum_itemD (BB (by first|exact I.ok.hd hc|(simp;exact I.ok.hd hc)) k it a hai am.toArray) he ⟨hli,p⟩ hlt hne (by simp[hne,hea]) λy h' tk hy ho hs' hT hsz hk=>?_;have hy:y=u:=by
   have hu':am.toArray[i]? = aa u:=by simpa using hu
   rw[hu']at hy;exact(fY hy).symm
  subst hy;refine⟨_,rfl,wpAny_letOwnedTupleGo_enum ho λh2 he2 hs2=>?_⟩;have kk:∀b o,b∉[e,it]->s.heap.get? b=aa o->h2.get? b=aa o:=λb o hb q=>by
   simp at hb;exact(hs2.2 b hb.1).trans (hk b o hb.1 hb.2 q)
  have hTn:s.heap.objs.size≠e:=λz=>absurd (b0 he) (by rw[z];exact jh _);refine⟨.ref s.heap.objs.size,upd H s.heap.objs.size (.tup [.int i,x]),By (s:=s) (t':=tk+1) I hf kk (bA _) ?_,rfl,⟨_,x,λys hy=>by rw[hy.inj hq];exact hx,I.hok.fresh (bA _),rfl,rfl⟩,⟨⟨_,he2⟩,?_⟩,λb hb=>?_⟩
  ·exact⟨by simp only[cR,iE];rw[dS];decide,[.int i tk,y],.cons ⟨_,rfl⟩ (.cons ru .nil),⟨_,(hs2.2 _ hTn).trans hT,rfl,rfl,_,rfl⟩⟩
  ·exact hs'.1.at λo q=>(hs2.2 it (dN hne)).trans q
  ·have:b≠s.heap.objs.size:=λz=>by
    subst z;rcases bH.mp hb with z|z
    ·exact hTn z
    ·have z:s.heap.objs.size=it:=by simpa using z
     obtain⟨o,ho,_⟩:=hli;exact absurd (b0 ho) (by rw[<- z];exact jh _)
   rw[aE this];exact(hf b hb).1
 done:=by
  intro X hP hw hK hc i ae s σ H E I hf st hg;subst hP hw hK;obtain⟨xs,hq,hx⟩:=hg;obtain⟨am,rv,p⟩:=hq.at I;obtain⟨⟨old,he⟩,hli⟩:=st;have hl:=rv.length;have hai:a≠it:=λz=>hq.nn (by show H a=ab;rw[z];exact(hf it (by simp)).1);subst hx;have D:=BB (P:=X.prog) (w:=X.w) (B:=X.A.in1) (by first|exact I.ok.hd hc|(simp;exact I.ok.hd hc)) k it a hai am.toArray;have hn:am.toArray.size=xs.length:=by simp;omega
  rw[hn]at D;exact wpAny_pyNext_enum_endD D he ⟨hli,p⟩ λh' hx=>⟨rfl,AR (s:=s) (t':=s.toks) I hf λb o hb q=>hx b o (λz=>hb (by simp[z])) q⟩
 self:=λ_ i s Q E st h=>let ⟨⟨old,he⟩,_⟩:=st;wpAny_pyIter_enum he h
section
variable{X:Cx}{elts:List aS}{k1:Nat}{tpos:Pos}{M:Nat->Bool}
def DA(tl:TE):TI:=λσ H R=>tl σ H λx H1=>∃k a,[x]=[V.ref a]/\(∃xs,fw H1 (k,a) xs)/\R (rP (k,a)) H1
theorem vW{a:aS}{ta:TE}{p pos:Pos}(hg:Gl X "enumerate")(hm:X.mg "enumerate" = ab)(ha:PE X a ta)(hs:starEach [a] X.env=[(false,eval a X.env)]:=by rfl)(hs0:starEach [a] X.env=(false,eval a X.env)::starEach [] X.env:=by rfl) :
 PI X (.Tuple elts k1 tpos) (.Call (.Name "enumerate" p) [a] [] pos) (DA ta):=by
 intro ae s σ H R I h;refine Call_ (pj I hg hm boot_enumerate (vB (aX (ao ha a9 hs0 pos ae s σ H (λvs H1=>∃k l,vs=[.ref l]/\(∃xs,fw H1 (k,l) xs)/\R (rP (k,l)) H1) I ?_) λus s1 ⟨vs,H1,I1,r1,q1⟩=>?_) hs rfl))
 ·exact h
 ·obtain⟨k,l,e,⟨xs,hq⟩,q⟩:=q1;subst e;obtain⟨u,rfl,ru⟩:=vals1 r1;cases ru;obtain⟨am,rv,pl⟩:=hq.at I1;refine Ml pl λh' hE hI hk=>?_;refine wpAny_pyIter_enum hE ?_;have I2:Inv X ae σ H1 { s1 with heap:=h' }:=I1.kept (t':=s1.toks) λb o e=>hk b o e;refine⟨_,[s1.heap.objs.size+1,s1.heap.objs.size],_,_,H1,rfl,I2,J5 k l (s1.heap.objs.size+1) s1.heap.objs.size (sA (zj _)),⟨⟨_,hE⟩,hI⟩,λb hb=>?_,q⟩;have hb:s1.heap.objs.size<=b:=by
   rcases bH.mp hb with z|z
   ·rw[z];exact Nat.le_succ _
   ·have z:b=s1.heap.objs.size:=by simpa using z
    rw[z];exact bA _
  exact I1.g9 hb (I1.hok.fresh hb)
theorem Oc{q:Bool×ah}{ds:List D}{P:Hp->Hp->Prop}(ok:∀H Hv,P H Hv->Vw H Hv->∃xs,fw H q xs/\P2 (Rep Hv) ds xs):oP (rP q) P (Mi.ko 0 ds):=by
 refine⟨λi H Hv p v hi=>?_,λi H Hv x H' p v hi y=>?_,λH Hv p v=>?_⟩
 ·obtain⟨xs,l,r⟩:=ok H Hv p v;rw[uz]at hi;obtain⟨x,hx,_⟩:=r.getL (i:=i) (a:=ds[i]) (by simp[hi]);exact⟨xs,x,l,hx⟩
 ·obtain⟨xs,l,r⟩:=ok H Hv p v;rw[uz]at hi;obtain⟨q,z,hz,hq,rfl,rfl⟩:=y;obtain⟨x,hx,rx⟩:=r.getL (i:=i) (a:=ds[i]) (by simp[hi]);rw[hz xs l]at hx;cases hx;obtain⟨g,k⟩:=uP v (ds:=[.int i,ds[i]]) (xs:=[.int i,z]) (.cons (rh.mpr rfl) (.cons rx .nil)) hq;refine⟨_,.tup [.int i,ds[i]],g,?_,k⟩;rw[DQ (i:=i) (d:=ds[i]) (by simp[hi])];simp
 ·obtain⟨xs,l,r⟩:=ok H Hv p v;exact⟨xs,l,by rw[uz,r.len]⟩
theorem v7{ta:TE}{a:Mi.E}(ha:AE M qV ta a):gU M (DA ta) (Mi.md a):=λe σ H Hv R I h=>
 ha e σ H Hv _ I ((au.mp h).mono λx hx v H1 Hv1 g1 rx=>by
  obtain⟨ds,hd,hk⟩:=wB (au.mp hx);obtain⟨k,p,xs,rfl,l,r⟩:=vS hd (show Rep Hv1 x v from rx);exact⟨k,p,rfl,⟨xs,l.same g1.vw.sub⟩,hk (rP (k,p)) H1 Hv1 (λH Hv=>fw Hv (k,p) xs/\P2 (Rep Hv) ds xs) g1 (Oc λH Hv z v=>⟨xs,z.1.same v.sub,z.2⟩) ⟨l,r⟩ λH1 Hv1 H2 Hv2 z s v=>⟨z.1.same s,dY s z.2⟩⟩)
end
end Zp
namespace Mi
def FM(k v:E):EW:=λe=>(k e).bind λd=>(v e).bind λx=>(dA (l5 d)).bind λy=>.ok (.dk [(y,x)])
end Mi
namespace Zp
open PySem PySem.Spec PyProof.Rows L2 A
open Mi (D W Rs Fin au)
variable[Tb:A.bM]
section
variable{X:Cx}{M:Nat->Bool}{κ:Kd}
theorem Mf{k v:aS}{tk tv:TE}{pos:Pos}(hk:PE X k tk)(hv:PE X v tv):PE X (.Dict [aa k] [v] pos) (yu [(tk,tv)]):=IB (OV hk hv NP) rfl rfl (by simp) (by simp)
theorem Jg{tk tv:TE}{k v:Mi.E}(hk:AE M qV tk k)(hv:AE M qV tv v):AW M qN (yu [(tk,tv)]) (Mi.FM k v):=λe σ H Hv Q I h p hp=>by
 have g0:bz H Hv (upd H p (.dK [])) Hv:=.m8 I.vw trivial hp;refine hk e σ _ Hv _ (I.grow g0) ((au.mp h).mono λd hd x H1 Hv1 g1 rx=>hv e σ H1 Hv1 _ ((I.grow g0).grow g1) ((au.mp hd).mono λc hc y H2 Hv2 g2 ry=>?_));obtain⟨z,hz,hq⟩:=hW (au.mp hc);have hx:=uJ hz (show Rep Hv1 d x from rx);subst hx;have hp2:H2 p=aa (.dK []):=g2.old.at (g1.old.at bp);have n1:Hv1 p=ab:=g1.hid p _ bp (lR I.vw hp);have n2:Hv2 p=ab:=g2.hid p _ (g1.old.at bp) n1;have G:=g0.trans (g1.trans g2);refine⟨hp2,[(z,y)],rfl,by simp,hq (.ref p) (upd H2 p (.dK [(z,y)])) Hv2 ⟨G.old.put hp hp2,g1.vis.trans g2.vis,⟨λb u q=>?_,λb xs q=>?_,λb o u q=>?_,g2.vw.cd.put hp2 trivial trivial,g2.vw.nv⟩,G.hid⟩ ⟨p,.dK [(z,y)],rfl,hp,bp,n2,.cons ⟨rfl,show Rep Hv2 c y from ry⟩ .nil⟩⟩
 ·have hb:b≠p:=cG q n2;rw[aE hb];exact g2.vw.sub _ _ q
 ·by_cases hb:b=p
  ·subst hb;rw[bp]at q;cases q
  ·rw[aE hb]at q;exact g2.vw.tup _ _ q
 ·by_cases hb:b=p
  ·subst hb;rw[bp]at q;cases q
  ·rw[aE hb]at q;exact g2.vw.frz _ _ _ q
end
end Zp
namespace Mi
abbrev SN:=List D->List D->Env->Rs Out
def jC(i:Nat)(ra rb:List D)(e:Env):Env:=e.set i (aa (.d (.lst [.lst ra,.lst rb])))
def rZ(i:Nat)(c:C)(b:Bool)(r:SN):SN:=λra rb e=>(c (jC i ra rb e)).bind λx=>if x=true then .ok (.rt (.d (.bl b)))else r ra rb e
def sZ(r:SN):SN:=λra rb e=>r [] rb e
def tI(r:SN):SN:=λra rb e=>r ra [] e
def oJ(i j:Nat)(a:E)(r:SN):SN:=λra rb e=>(a (jC i ra rb e)).bind λd=>be (i5 d=true) (r ra rb (e.set j (aa (.d d))))
def tL(i:Nat)(m:S):SN:=λra rb e=>m (jC i ra rb e)
def sS(i:Nat)(a b:E)(r:SN):S:=λe=>(a e).bind λx=>(b e).bind λy=>match x,y with
 |.lst ra,.lst rb=>be (i<e.length) (r ra rb (e.set i ab))
 |_,_=>.no
end Mi
namespace Zp
open PySem PySem.Spec PyProof.Rows L2 A
open Mi (D W Rs Fin au Out)
variable[Tb:A.bM]
structure NS(M:Nat->Bool)(H0 Hv0:Hp)(E:Mi.Env)(σ:L2.St)(H Ho:Hp)(i:Nat)(p0 p1 p2:ah)(ra rb:List D):Prop where
 I:R1 M H0 Hv0 E σ H Ho
 no:∀w,E[i]?≠aa (aa w)
 s:σ[i]? = aa (aa (.ref p0))
 h0:H p0=aa (.lst [.ref p1,.ref p2])
 h1:∃xs,H p1=aa (.lst xs)/\P2 (Rep Ho) ra xs
 h2:∃xs,H p2=aa (.lst xs)/\P2 (Rep Ho) rb xs
 n:∀p∈[p0,p1,p2],Ho p=ab/\H0 p=ab/\∀j w x,E[j]? = aa (aa w)->M j=true->σ[j]? = aa (aa (.ref x))->x≠p
 d01:p0≠p1
 d02:p0≠p2
 d12:p1≠p2
def Ja:Option HO->Bool
 |some (.tup _)=>true
 |some (.frz _ _)=>true
 |_=>false
def iT(H' Ho:Hp):Hp:=λa=>if Ja (H' a)then H' a else Ho a
theorem Eb{H Ho H':Hp}(v:Vw H Ho)(s:Old H H')(k:f9 H'):bz H Ho H' (iT H' Ho):=by
 refine⟨s,λa o q=>?_,⟨λa o q=>?_,λa xs q=>?_,λa o u q=>?_,k,λa o q=>?_⟩,λa o q n=>?_⟩
 ·unfold iT;split
  ·exact s.at (v.sub _ _ q) (v.nv _ _ q)
  ·exact q
 ·unfold iT at q;split at q
  ·exact q
  ·exact s.at (v.sub _ _ q) (v.nv _ _ q)
 ·unfold iT;rw[q];rfl
 ·unfold iT;rw[q];rfl
 ·unfold iT at q;split at q
  ·rename_i h;rw[q]at h;cases o<;>first|trivial|cases h
  ·exact v.nv _ _ q
 ·unfold iT;split
  ·rename_i h;exfalso;cases o with
   |tup xs=>rw[v.tup _ _ q]at n;cases n
   |frz ob u=>rw[v.frz _ _ _ q]at n;cases n
   |tbl w ps=>
    obtain⟨p,z⟩:=s.tb _ _ _ q;rw[z]at h;cases h
   |_=>rw[s.at q]at h;cases h
  ·exact n
section
variable{M:Nat->Bool}{H0 Hv0:Hp}{E:Mi.Env}{σ:L2.St}{H Ho:Hp}{i:Nat}{p0 p1 p2:ah}{ra rb:List D}
theorem NS.shown(S:NS M H0 Hv0 E σ H Ho i p0 p1 p2 ra rb)(hm:M i=false):∃Hs,R1 M H0 Hv0 (Mi.jC i ra rb E) σ H Hs/\ca Ho Hs:=by
 obtain⟨xs1,q1,r1⟩:=S.h1;obtain⟨xs2,q2,r2⟩:=S.h2;have n0:=S.n p0 (by simp);have n1:=S.n p1 (by simp);have n2:=S.n p2 (by simp);obtain⟨v1,s1⟩:=S.I.vw.show S.h0 n0.1 trivial;have m1:upd Ho p0 (.lst [.ref p1,.ref p2]) p1=ab:=by rw[aE (dN S.d01)];exact n1.1
 obtain⟨v2,s2⟩:=v1.show q1 m1 trivial;have m2:upd (upd Ho p0 (.lst [.ref p1,.ref p2])) p1 (.lst xs1) p2=ab:=by rw[aE (dN S.d12),aE (dN S.d02)];exact n2.1
 obtain⟨v3,s3⟩:=v2.show q2 m2 trivial;have sm:=s1.trans (s2.trans s3);have g1:=s3 p1 (.lst xs1) bp;have g0:=s3 p0 (.lst [.ref p1,.ref p2]) (s2 p0 _ bp);have away:∀{x:ah},x≠p0->x≠p1->x≠p2->upd (upd (upd Ho p0 (.lst [.ref p1,.ref p2])) p1 (.lst xs1)) p2 (.lst xs2) x=Ho x:=λa b c=>by rw[aE c,aE b,aE a]
 have nj:∀{j:Nat} {w:W},(Mi.jC i ra rb E)[j]? = aa (aa w)->(i=j/\.d (.lst [.lst ra,.lst rb])=w)\/E[j]? = aa (aa w):=λ{j w} h=>by
  rcases h9 h with ⟨a,b,_⟩|⟨_,z⟩
  ·exact .inl ⟨a,fY b⟩
  ·exact .inr z
 have ow:∀{j:Nat} {w:W},(Mi.jC i ra rb E)[j]? = aa (aa w)->M j=true->E[j]? = aa (aa w):=λ{j w} h m=>by
  rcases nj h with ⟨rfl,_⟩|z
  ·rw[hm]at m;cases m
  ·exact z
 refine⟨_,⟨⟨v3,by unfold Mi.jC;rw[jg];exact S.I.len,λj w h m=>?_,λj w h m=>?_⟩,⟨S.I.gw.old,S.I.gw.vis.trans sm,v3,λa o q n=>?_⟩,λj w a h m q=>S.I.fresh j w a (ow h m) m q,λj k w w' a b hjk h h' m m' q q'=>S.I.sep j k w w' a b hjk (ow h m) (ow h' m') m m' q q'⟩,sm⟩
 ·rcases nj h with ⟨rfl,rfl⟩|z
  ·refine⟨.ref p0,S.s,(i3 (H:=_)).mpr ⟨p0,_,rfl,.inl g0,.cons (i3.mpr ⟨p1,xs1,rfl,.inl g1,dY sm r1⟩) (.cons (i3.mpr ⟨p2,xs2,rfl,.inl bp,dY sm r2⟩) .nil)⟩⟩
  ·obtain⟨v,q,r⟩:=S.I.nob j w z m;exact⟨v,q,m9 sm r⟩
 ·have z:=ow h m;obtain⟨v,q,a,o,rfl,q1,n,c⟩:=S.I.own j w z m;exact⟨_,q,a,o,rfl,q1,(away (n0.2.2 j w a z m q) (n1.2.2 j w a z m q) (n2.2.2 j w a z m q)).trans n,c.same sm⟩
 ·have a0:a≠p0:=cG q n0.2.1;have a1:a≠p1:=cG q n1.2.1;have a2:a≠p2:=cG q n2.2.1;exact(away a0 a1 a2).trans (S.I.gw.hid a o q n)
theorem NS.later(S:NS M H0 Hv0 E σ H Ho i p0 p1 p2 ra rb){H':Hp}(s:Old H H')(k:f9 H'):NS M H0 Hv0 E σ H' (iT H' Ho) i p0 p1 p2 ra rb/\ca Ho (iT H' Ho):=by
 have g:=Eb S.I.vw s k;obtain⟨xs1,q1,r1⟩:=S.h1;obtain⟨xs2,q2,r2⟩:=S.h2;refine⟨⟨S.I.grow g,S.no,S.s,s.at S.h0,⟨xs1,s.at q1,dY g.vis r1⟩,⟨xs2,s.at q2,dY g.vis r2⟩,λp hp=>?_,S.d01,S.d02,S.d12⟩,g.vis⟩;have hH:∃o,H p=aa o:=by
  simp at hp;rcases hp with rfl|rfl|rfl
  ·exact⟨_,S.h0⟩
  ·exact⟨_,q1⟩
  ·exact⟨_,q2⟩
 obtain⟨o,ho⟩:=hH;exact⟨g.hid _ _ ho (S.n p hp).1,(S.n p hp).2⟩
theorem NS.put{q:ah}(S:NS M H0 Hv0 E σ H Ho i p0 p1 p2 ra rb)(hq:q∈[p0,p1,p2])(xs:List V):R1 M H0 Hv0 E σ (upd H q (.lst xs)) Ho:=by
 obtain⟨n1,n2,n3⟩:=S.n q hq;have hH:∃ys,H q=aa (.lst ys):=by
  obtain⟨xs1,q1,_⟩:=S.h1;obtain⟨xs2,q2,_⟩:=S.h2;simp at hq;rcases hq with rfl|rfl|rfl
  ·exact⟨_,S.h0⟩
  ·exact⟨_,q1⟩
  ·exact⟨_,q2⟩
 obtain⟨ys,hH⟩:=hH;have vw:Vw (upd H q (.lst xs)) Ho:=by
  refine⟨λb u z=>?_,λb ys z=>?_,λb o u z=>?_,S.I.vw.cd.put hH trivial trivial,S.I.vw.nv⟩
  ·rw[aE (cG z n1)];exact S.I.vw.sub b u z
  ·by_cases hb:b=q
   ·subst hb;rw[bp]at z;cases z
   ·rw[aE hb]at z;exact S.I.vw.tup b ys z
  ·by_cases hb:b=q
   ·subst hb;rw[bp]at z;cases z
   ·rw[aE hb]at z;exact S.I.vw.frz b o u z
 refine⟨⟨vw,S.I.len,S.I.nob,λj w h m=>?_⟩,⟨S.I.gw.old.put n2 hH,S.I.gw.vis,vw,S.I.gw.hid⟩,S.I.fresh,S.I.sep⟩
 ·obtain⟨v,z,a,o,rfl,z1,n,c⟩:=S.I.own j w h m;exact⟨_,z,a,o,rfl,by rw[aE (n3 j w a h m z)];exact z1,n,c⟩
theorem NS.Fz(S:NS M H0 Hv0 E σ H Ho i p0 p1 p2 ra rb){ra':List D}{xs:List V}(r:P2 (Rep Ho) ra' xs):NS M H0 Hv0 E σ (upd H p1 (.lst xs)) Ho i p0 p1 p2 ra' rb:=by obtain⟨xs2,q2,r2⟩:=S.h2;exact⟨S.put (by simp) xs,S.no,S.s,by rw[aE S.d01];exact S.h0,⟨xs,bp,r⟩,⟨xs2,by rw[aE (dN S.d12)];exact q2,r2⟩,S.n,S.d01,S.d02,S.d12⟩
theorem NS.put2(S:NS M H0 Hv0 E σ H Ho i p0 p1 p2 ra rb){rb':List D}{xs:List V}(r:P2 (Rep Ho) rb' xs):NS M H0 Hv0 E σ (upd H p2 (.lst xs)) Ho i p0 p1 p2 ra rb':=by obtain⟨xs1,q1,r1⟩:=S.h1;exact⟨S.put (by simp) xs,S.no,S.s,by rw[aE S.d02];exact S.h0,⟨xs1,by rw[aE S.d12];exact q1,r1⟩,⟨xs,bp,r⟩,S.n,S.d01,S.d02,S.d12⟩
end
def gL(M:Nat->Bool)(i:Nat)(t:TS)(m:Mi.SN):Prop:=∀H0 Hv0 E σ H Ho p0 p1 p2 ra rb D,NS M H0 Hv0 E σ H Ho i p0 p1 p2 ra rb->Fin (m ra rb E) (gQ M qV H0 Hv0 D Ho)->t D σ H
theorem oa{M:Nat->Bool}{κ:Kd}{H0 Hv0 Hv Hv1:Hp}{D:Ends}(s:ca Hv Hv1){o:Out}(z:gQ M κ H0 Hv0 D Hv o):gQ M κ H0 Hv0 D Hv1 o:=by
 cases o with
 |nx e2=>exactλσ2 H2 Hv2 I2 s2=>z σ2 H2 Hv2 I2 (s.trans s2)
 |rt w=>exact z
 |bk e2=>exactλσ2 H2 Hv2 I2 s2=>z σ2 H2 Hv2 I2 (s.trans s2)
 |ct e2=>exactλσ2 H2 Hv2 I2 s2=>z σ2 H2 Hv2 I2 (s.trans s2)
section
variable{M:Nat->Bool}{i:Nat}{K:aG}{u:TS}{r:Mi.SN}
theorem A9{m:Mi.S}(hm:M i=false)(h:AS M qV u m):gL M i u (Mi.tL i m):=λH0 Hv0 E σ H Ho p0 p1 p2 ra rb D S f=>by
 obtain⟨Hs,I,s⟩:=S.shown hm;exact h H0 Hv0 _ σ H Hs D I (f.mono λo z=>oa s z)
theorem CQ{tt:TT}{c:Mi.C}{b:Bool}(hm:M i=false)(hc:AT M tt c)(h:gL M i u r):gL M i (iD (uo tt (qi (tC (.bl b))) tG) u) (Mi.rZ i c b r):=λH0 Hv0 E σ H Ho p0 p1 p2 ra rb D S f=>by
 obtain⟨Hs,I,s⟩:=S.shown hm;refine hc _ σ H Hs _ I.toR0 ((au.mp f).mono λx hx H1 Hv1 g1=>?_);cases x with
 |true=>
  rw[bb rfl];have hx:gQ M qV H0 Hv0 D Ho (.rt (.d (.bl b))):=hx;exact hx (.bl b) H1 Hv1 (I.gw.trans g1) eZ
 |false=>
  rw[bc (by simp)];obtain⟨S1,s1⟩:=S.later g1.old g1.vw.cd;exact h H0 Hv0 E σ H1 _ p0 p1 p2 ra rb D S1 (Fin.mono (show Fin (r ra rb E) _ from hx) λo z=>oa s1 z)
theorem at0{p1 p2:ah}:dO [V.ref p1,V.ref p2] 0=aa (.ref p1):=rfl
theorem at1{p1 p2:ah}:dO [V.ref p1,V.ref p2] 1=aa (.ref p2):=rfl
theorem EU(h:gL M i u r):gL M i (iD (lZ (qJ K "list" wZ (mf (qm K) (eA i) (tC (.int 0))))) u) (Mi.sZ r):=λH0 Hv0 E σ H Ho p0 p1 p2 ra rb D S f=>by
 obtain⟨xs1,q1,r1⟩:=S.h1;exact⟨.ref p0,S.s,.inl ⟨p0,_,0,.ref p1,rfl,rfl,.inl (.inl S.h0),at0,.inl ⟨rfl,xs1,.inl (.inl q1)⟩,p1,xs1,rfl,rfl,q1,h H0 Hv0 E σ _ Ho p0 p1 p2 _ rb D (S.Fz (xs:=[]) .nil) f⟩⟩
theorem Bt(h:gL M i u r):gL M i (iD (lZ (qJ K "list" wZ (mf (qm K) (eA i) (tC (.int 1))))) u) (Mi.tI r):=λH0 Hv0 E σ H Ho p0 p1 p2 ra rb D S f=>by
 obtain⟨xs2,q2,r2⟩:=S.h2;exact⟨.ref p0,S.s,.inl ⟨p0,_,1,.ref p2,rfl,rfl,.inl (.inl S.h0),at1,.inl ⟨rfl,xs2,.inl (.inl q2)⟩,p2,xs2,rfl,rfl,q2,h H0 Hv0 E σ _ Ho p0 p1 p2 ra _ D (S.put2 (xs:=[]) .nil) f⟩⟩
theorem ym{j:Nat}{te:TE}{a:Mi.E}(hm:M i=false)(hj:M j=false)(hij:j≠i)(ha:AE M qV te a)(h:gL M i u r):gL M i (iD (ip te (fJ j)) u) (Mi.oJ i j a r):=λH0 Hv0 E σ H Ho p0 p1 p2 ra rb D S f=>by
 obtain⟨Hs,I,s⟩:=S.shown hm;refine ha _ σ H Hs _ I.toR0 ((au.mp f).mono λd hd v H1 Hv1 g1 k=>?_);obtain⟨him,hd⟩:=Mi.cQ hd;obtain⟨S1,s1⟩:=S.later g1.old g1.vw.cd;have rv:Rep (iT H1 Ho) d v:=yv (λb xs q=>by
  have q':=g1.vw.sub _ _ q;unfold iT;rw[q'];rfl) him (show Rep Hv1 d v from k)
 have nj:∀{k:Nat} {w:W},(E.set j (aa (.d d)))[k]? = aa (aa w)->M k=true->j≠k/\E[k]? = aa (aa w):=λ{k w} h m=>by
  rcases h9 h with ⟨rfl,_,_⟩|z
  ·rw[hj]at m;cases m
  ·exact z
 refine h H0 Hv0 (E.set j (aa (.d d))) (σ.set j (aa v)) H1 _ p0 p1 p2 ra rb D ⟨S1.I.set hj (w:=.d d) rv,λw z=>?_,?_,S1.h0,S1.h1,S1.h2,λp hp=>⟨(S1.n p hp).1,(S1.n p hp).2.1,λk w x z m q=>?_⟩,S1.d01,S1.d02,S1.d12⟩ (hd.mono λo z=>oa s1 z)
 ·rw[dC hij]at z;exact S1.no w z
 ·rw[dC hij];exact S1.s
 ·obtain⟨n,z'⟩:=nj z m;rw[dC n]at q;exact(S1.n p hp).2.2 k w x z' m q
theorem N7{ta tb:TE}{a b:Mi.E}(hm:M i=false)(ha:AE M qN ta a)(hb:AE M qN tb b)(h:gL M i u r):AS M qV (iD (ip (yk (fN ta (fN tb gO))) (fJ i)) u) (Mi.sS i a b r):=λH0 Hv0 e σ H Hv D I f=>by
 refine ha e σ H Hv _ I.toR0 ((au.mp f).mono λx hx v H1 Hv1 g1 k1=>hb e σ H1 Hv1 _ (I.toR0.grow g1) ((au.mp hx).mono λy hy v2 H2 Hv2 g2 k2=>⟨by simp[dS],λp0 hp0=>?_⟩));obtain⟨p1,o1,rfl,f1,q1,n1,c1⟩:=k1;obtain⟨p2,o2,rfl,f2,q2,n2,c2⟩:=k2;have e1:∃ra xs1,x=.lst ra/\o1=.lst xs1/\P2 (Rep Hv1) ra xs1:=by
  cases x with
  |lst ra=>
   cases o1 with
   |lst xs1=>exact⟨ra,xs1,rfl,rfl,c1⟩
   |_=>exact c1.elim
  |_=>exact(by cases o1<;>exact c1.elim)
 have e2:∃rb xs2,y=.lst rb/\o2=.lst xs2/\P2 (Rep Hv2) rb xs2:=by
  cases y with
  |lst ra=>
   cases o2 with
   |lst xs1=>exact⟨ra,xs1,rfl,rfl,c2⟩
   |_=>exact c2.elim
  |_=>exact(by cases o2<;>exact c2.elim)
 obtain⟨ra,xs1,rfl,rfl,r1⟩:=e1;obtain⟨rb,xs2,rfl,rfl,r2⟩:=e2;obtain⟨hi,hy⟩:=Mi.cQ (show Fin (Mi.be (i<e.length) (r ra rb (e.set i ab))) (gQ M qV H0 Hv0 D Hv)from hy);have hi:i < σ.length:=by rw[I.len];exact hi
 have g3:bz H2 Hv2 (upd H2 p0 (.lst [.ref p1,.ref p2])) Hv2:=.m8 g2.vw trivial hp0;have g:=g1.trans (g2.trans g3);have I3:=I.grow g;have q1':H2 p1=aa (.lst xs1):=g2.old.at q1;have d01:p0≠p1:=λz=>by rw[<- z,hp0]at q1';cases q1'
 have d02:p0≠p2:=λz=>by rw[<- z,hp0]at q2;cases q2
 have d12:p1≠p2:=λz=>by rw[<- z,q1]at f2;cases f2
 have nj:∀{j:Nat} {w:W},(e.set i ab)[j]? = aa (aa w)->i≠j/\e[j]? = aa (aa w):=λ{j w} h=>by
  rcases h9 h with ⟨_,z,_⟩|z
  ·cases z
  ·exact z
 have fr:∀p,H p=ab->H0 p=ab:=λp z=>I.gw.old.free z;have f2':H p2=ab:=g1.old.free f2;have f0':H p0=ab:=(g1.old.trans g2.old).free hp0;have top:∀{j:Nat} {w:W} {x p:ah},(e.set i ab)[j]? = aa (aa w)->M j=true->(σ.set i (aa (.ref p0)))[j]? = aa (aa (.ref x))->H p=ab->x≠p:=λ{j w x p} h m q hp=>by
  obtain⟨n,z⟩:=nj h;rw[dC n]at q;obtain⟨p',o',q',q1,_⟩:=I.cell m z;rw[q]at q';cases q';exact cG q1 hp
 show u D (σ.set i (aa (.ref p0))) (upd H2 p0 (.lst [.ref p1,.ref p2]))
 ·refine h H0 Hv0 (e.set i ab) (σ.set i (aa (.ref p0))) _ Hv2 p0 p1 p2 ra rb D ⟨⟨⟨g3.vw,by rw[jg,jg];exact I.len,λj w h m=>?_,λj w h m=>?_⟩,I3.gw,λj w x h m q=>?_,λj k w w' x y hjk h h' m m' q q'=>?_⟩,λw z=>?_,?_,bp,⟨xs1,by rw[aE (dN d01)];exact q1',dY g2.vis r1⟩,⟨xs2,by rw[aE (dN d02)];exact q2,r2⟩,λp hp=>?_,d01,d02,d12⟩ (hy.mono λo z=>oa (g1.vis.trans g2.vis) z)
  ·obtain⟨n,z⟩:=nj h;obtain⟨v,q,r⟩:=I3.nob j w z m;exact⟨v,by rw[dC n];exact q,r⟩
  ·obtain⟨n,z⟩:=nj h;obtain⟨v,q,r⟩:=I3.own j w z m;exact⟨v,by rw[dC n];exact q,r⟩
  ·obtain⟨n,z⟩:=nj h;rw[dC n]at q;exact I.fresh j w x z m q
  ·obtain⟨n,z⟩:=nj h;obtain⟨n',z'⟩:=nj h';rw[dC n]at q;rw[dC n']at q';exact I.sep j k w w' x y hjk z z' m m' q q'
  ·obtain⟨n,_⟩:=nj z;exact n rfl
  ·rw[lq hi]
  ·simp at hp;rcases hp with rfl|rfl|rfl
   ·exact⟨lR g2.vw hp0,fr _ f0',λj w x h m q=>top h m q f0'⟩
   ·exact⟨g2.hid _ _ q1 n1,fr _ f1,λj w x h m q=>top h m q f1⟩
   ·exact⟨n2,fr _ f2',λj w x h m q=>top h m q f2'⟩
end
end Zp
namespace A
end A
namespace A
end A
namespace Mi
open PySem
def rO(x:D)(lo hi:Option Int):Rs D:=match x with
 |.lst ds=>.ok (.lst (jI ds lo hi))
 | .tup ds=>match lo,hi with
  |some a,ab=>be (1<=a/\a<=(ds.length:Int)/\ds.length<=16777216) (.ok (.tup (ds.drop a.toNat)))
  |_,_=>.no
 |_=>.no
def Ox(xs ys:List Str):Bool:=xs.all (λx=>decide (x∈ys))&&ys.all (λy=>decide (y∈xs))
end Mi
namespace A
end A
namespace A
open PySem L2 PyProof.Rows
open Mi (D W Rs Fin au Out Tg met)
variable[Tb:bM]
section
variable{X:Cx}{K:aG}{M:Nat->Bool}{te ta tb:TE}{a b:Mi.E}
def FO(K:aG):V->Option Int->Option Int->Hp->VK->Prop:=λx lo hi H Q=>∃p xs a,x=.ref p/\eK K H p xs/\lo=aa a/\hi=ab/\1<=a/\a<=(xs.length:Int)/\xs.length<=sizeLine/\∀q,H q=ab->Q (.ref q) (upd H q (.tup (xs.drop a.toNat)))
theorem MH:kz X (FO X.K):=by
 intro ae s σ H x v vl vu lo hi sl Q I rx hs pl pu h;obtain⟨p,xs,a,rfl,hx,rfl,rfl,h1,h2,hz,q⟩:=h;cases rx;obtain⟨am,r,ht,_⟩:=I.tuple hx;have hl:=r.length;refine⟨"tuple", _,slot_tuple_getitem.lookup,ht.typeIs,?_⟩;cases pl with
 |int _ t=>
 cases pu;obtain⟨n,rfl⟩ : ∃n:Nat,a=n:=⟨a.toNat,by omega⟩;refine getItem_tuple_from ht hs (by omega) (by rw[cX];omega) ?_ (by rw[cX];omega);rw[show(am.toArray.toList.drop n)=am.drop n by simp];have q:=q _ (I.hok.fresh (bA _));rw[j3]at q;exact⟨.ref s.heap.objs.size,_,I.laid (t':=s.toks) (o:=.tup (xs.drop n)) (λb ob q=>cA _ q) (bA _) ⟨by rw[jf];omega,_,r.drop n,⟨_,dE _ rfl,rfl,rfl,0,rfl⟩⟩,rfl,q⟩
def Ce(K:aG):V->Option Int->Option Int->Hp->VK->Prop:=λx lo hi H Q=>wX K x lo hi H Q\/FO K x lo hi H Q
theorem JH:kz X (Ce X.K):=FF.or MH
theorem Ks:BS qV (Ce K) Mi.rO:=λx lo hi v H Hv Q vw rx h=>by
 cases x with
 |lst ds=>
  obtain⟨p,xs,rfl,l1,r1⟩:=RD.lst vw rx;refine .inl ⟨p,xs,rfl,l1.sq,λa ha=>?_⟩;obtain⟨g,k⟩:=xR vw (E6 r1 lo hi) ha;exact h _ _ _ g k
 |tup ds=>
  obtain⟨p,xs,rfl,l1,_,r1⟩:=RD.tup vw rx;cases lo with
  |none=>exact h.elim
  | some a=>cases hi with
   |some c=>exact h.elim
   |none=>
    obtain⟨⟨z1,z2,z3⟩,h⟩:=Mi.cQ h;refine .inr ⟨p,xs,a,rfl,.inl (.inl l1),rfl,rfl,z1,by rw[<- r1.len];exact z2,by rw[<- r1.len,dS];exact z3,λc hc=>?_⟩;obtain⟨g,k⟩:=uP vw (r1.drop a.toNat) hc;exact h _ _ _ g k
 |_=>exact h.elim
end
end A
namespace So
end So
namespace So
end So
namespace So
end So
namespace L2
open PySem PySem.Spec PyProof.Rows
abbrev pi(qual:Str)(scope:d8)(s:ap)(f c':ah)(cl:List (Str×ah)):Env:=PySem.W.envX qual scope s.heap.objs.size f (.ref c') cl
end L2
namespace So
end So
namespace L2
open PySem PySem.Spec PyProof.Rows A So
variable[Tb:bM]
def Tab(T:ah)(q:Str)(H H':Hp):Prop:=H'=H\/∃ps ps' c,H T=aa (.tbl q ps)/\H c=ab/\c≠T/\H'=upd (upd H T (.tbl q ps')) c (.ext (gp c q))/\f9 H'
theorem LF{c:ai}{p:Pos}:∀{l:List ai},pT l->pT (l++[rawInt p.line,rawInt p.col,c]):=λ{l} h=>by
 fun_induction pT l with
 |case1=>exact trivial
 |case2 a b c' d e rest ih=>exact ih h
 |case3 _ _=>exact h.elim
theorem LI{c v:ai}{p p2:Pos}:∀{l:List ai},pT l->codeAmong p2 (l++[rawInt p.line,rawInt p.col,c])=aa v->codeAmong p2 l=aa v\/v=c:=λ{l} h e=>by
 fun_induction pT l with
 |case1=>
  simp only[u3,codeAmong,rawInt]at e;split at e
  ·exact .inr (by cases e;rfl)
  ·cases e
 |case2 a b c' d e' rest ih=>
  simp only[yY,codeAmong]at e ⊢;split at e
  ·rename_i q;rw[bb q];exact .inl e
  ·rename_i q;rw[bc q];exact ih h e
 |case3 _ _=>exact h.elim
def BM(mg:Str->Option ai)(base:aK):Prop:=∃bm o,mg "__builtins__" = aa (.ref bm)/\bm≠builtinsNs/\bm≠mainGlobals/\base.get? bm=aa o/\o.cls=.type "module" /\ o.dict=aa builtinsNs/\o.data=.plain
section
variable{X:Cx}{ae:List (ah×Obj)}{σ:St}{H:Hp}{s:ap}{qual x:Str}{ps:pR}{body:aS}{sc:d8}{cl:List (Str×ah)}{c T:ah}{pos:Pos}
theorem MS(c:ah)(q:Str):∀h1 h2:aK,gp c q h1->(∀o,h1.get? c=aa o->h2.get? c=aa o)->gp c q h2:=λh1 h2 ⟨o,vs,t,e,d,r⟩ k=>⟨o,vs,t,k o e,d,r⟩
theorem Kh{Q:ai->ap->Prop}{E:ai->ap->Prop}(I:Inv X ae σ H s)(hc:X.env.code=.ref c)(C:iG X.base c T)(k:f9 H){tps:Array ai}(hT:H T=aa (.tbl qual tps))(hB:BM X.mg X.base)
 (hdef:defaultsOf ps X.env=([],[])) (hq:X.env.qual ++ "<lambda>" = qual) (hcl:closureFor sc X.env=pure cl)
 (h:∀f c' ctv pm s' H',Tab T qual H H'->H' c'=aa (.ext (gp c' qual))->s'.heap.get? f=aa (pM "<lambda>" qual ps body sc cl pm c' ctv)->Inv X ae σ H' s'->gK X ae H' f->Q (.ref f) s') :
 wpAny (model X.prog X.w) X.A (eval (.Lambda ps body sc pos) X.env) Q E s:=by
 obtain⟨ok1,ok2⟩:=k.cd T qual tps hT;have hP:s.heap.get? T=aa (u7 tps):=I.hok T _ hT;have hg:s.heap.Ns mainGlobals X.mg:=I.mod.glob.keeps I.bk;have C':iG s.heap c T:=C.keeps I.bk;obtain⟨bm,bo,b1,b2,b3,b4,b5,b6,b7⟩:=hB;have nT:∀b o,X.base.get? b=aa o->b≠T:=λb o e z=>by
  have:=(I.bs b o e).2;rw[z,hT]at this;cases this
 have hb:s.heap.BuiltinsAt X.mg T:=⟨bm,bo,b1,b2,b3,nT _ _ b4,I.bk _ _ b4,b5,b6,b7⟩;have hgT:mainGlobals≠T:=by obtain⟨o,es,ep,e,_⟩:=I.mod.glob;exact nT _ _ e
 refine PySem.W.kla_eval hdef ?_;rw[hq];cases hf:codeAmong pos tps.toList with
 |some v=>
  obtain⟨c',rfl,hc'⟩:=ok2 pos v hf;refine PySem.W.kla_makeFunctionHit hcl I.ok.glob hg hc C' hP ok1 hf hb λctv h' tk kp sz=>?_;have I':Inv X ae σ H { s with heap:=h'.push _,toks:=tk }:=I.kept (h':=h'.push (pM "<lambda>" qual ps body sc cl ((X.mg "__name__").getD .none) c' ctv)) λb o e=>cA _ (kp b o e);exact h _ c' ctv _ _ H (.inl rfl) hc' (dE _ rfl) I' (I.g9 sz (I.hok.fresh sz))
 |none=>
  refine PySem.W.kla_makeFunction hcl I.ok.glob hg hc C' hP ok1 hf hgT hb λc' ctv h' tk kp h1 h2 hrec htb=>?_;have nc:H c'=ab:=I.hok.fresh h1;have cT:c'≠T:=λz=>by rw[z,hT]at nc;cases nc
  have hx:gp c' qual h':=by obtain⟨c2,o,vs,t,e,r⟩:=hrec;cases e;exact⟨o,vs,t,r⟩
  obtain⟨oc,hoc⟩ : ∃o,h'.get? c'=aa o:=let ⟨o,_,_,e,_⟩:=hx;⟨o,e⟩;have u1:Un X.fs [] H (upd H T (.tbl qual (tps ++ #[rawInt pos.line,rawInt pos.col,.ref c']))) s.heap h':=by
   have nn:∀b,H b=ab->b≠T:=λb n z=>by rw[z,hT]at n;cases n
   refine⟨λb o e n _ _=>kp b o (nn b n) e,λb o e n _ _=>⟨o.slots,kp b o (nn b n) e⟩,λb o e n _=>by rw[aE (nn b n)];exact n,λb o e _=>?_,λb xs e=>?_,λb o u e=>?_,λb w ps e=>?_⟩
   ·by_cases z:b=T
    ·rw[z];exact⟨_,htb⟩
    ·exact⟨o,kp b o z e⟩
   ·rw[aE (λz=>by rw[z,hT]at e;cases e)];exact e
   ·rw[aE (λz=>by rw[z,hT]at e;cases e)];exact e
   ·by_cases z:b=T
    ·subst z;rw[hT]at e;cases e;exact⟨_,bp⟩
    ·exact⟨#[],by rw[aE z,e];simp⟩
  have O4:cP X.prog X.w (upd H T (.tbl qual (tps ++ #[rawInt pos.line,rawInt pos.col,.ref c']))) h':=λb u e=>by
   by_cases z:b=T
   ·subst z;rw[bp]at e;cases e;exact htb
   ·rw[aE z]at e;refine(I.hok b u e).stay (λy v hy q=>kp y v ?_ q) (λy q=>by rw[aE (λw=>by rw[w,hT]at q;cases q)];exact q) λy xs q=>by rw[aE (λw=>by rw[w,hT]at q;cases q)];exact q
    rcases hy with w|w
    ·rw[w];exact z
    ·exactλw2=>by rw[w2,hT]at w;cases w
  have I1:Inv X ae σ (upd H T (.tbl qual (tps ++ #[rawInt pos.line,rawInt pos.col,.ref c']))) { s with heap:=h',toks:=tk }:=I.un u1 O4;have nc1:upd H T (.tbl qual (tps ++ #[rawInt pos.line,rawInt pos.col,.ref c'])) c'=ab:=by rw[aE cT];exact nc
  have I2:Inv X ae σ (upd (upd H T (.tbl qual (tps ++ #[rawInt pos.line,rawInt pos.col,.ref c']))) c' (.ext (gp c' qual))) { s with heap:=h',toks:=tk }:=by
   have F:gK X ae (upd H T (.tbl qual (tps ++ #[rawInt pos.line,rawInt pos.col,.ref c']))) c':=⟨nc1,(I.g9 (H':=H) h1 nc).2⟩;have sH:∀b u,(upd H T (.tbl qual (tps ++ #[rawInt pos.line,rawInt pos.col,.ref c']))) b=aa u->b≠c':=λb u e=>cG e nc1;refine I1.call' (s':={ s with heap:=h',toks:=tk }) (ch:=[c']) rfl ⟨λb u e _ _ _=>e,λb u e _ _ _=>⟨u.slots,e⟩,λb u e n hb=>?_,λb u e hb=>⟨u,e⟩,λb xs e=>by rw[aE (sH _ _ e)];exact e,λb q u e=>by rw[aE (sH _ _ e)];exact e,λb w ps e=>⟨#[],by rw[aE (sH _ _ e),e];simp⟩⟩ ?_ I.bare
    λb hb=>by
     obtain rfl:b=c':=by simpa using hb
     exact⟨F.2.2.2.1,F.2.1,F.2.2.2.2.1,F.2.2.2.2.2⟩
   ·rw[aE (λz=>hb (by simp[z]))];exact n
   ·intro b u e;by_cases z:b=c'
    ·subst z;rw[bp]at e;cases e;exact⟨hx,⟨oc,hoc⟩,MS b qual⟩
    ·rw[aE z]at e;exact(I1.hok b u e).stay (λy v hy q=>q) (λy q=>by rw[aE (sH _ _ q)];exact q) λy xs q=>by rw[aE (sH _ _ q)];exact q
  have O5:∀b o,h'.get? b=aa o->(h'.push (pM "<lambda>" qual ps body sc cl ((X.mg "__name__").getD .none) c' ctv)).get? b=aa o:=λb o e=>cA _ e;have I3:=I2.kept (t':=tk) O5;have szs:s.heap.objs.size<=h'.objs.size:=dr h1 (vp h2);have ck:f9 (upd (upd H T (.tbl qual (tps ++ #[rawInt pos.line,rawInt pos.col,.ref c']))) c' (.ext (gp c' qual))):=by
   have nT':∀{b:ah} {o:HO},H b=aa o->NT o->upd (upd H T (.tbl qual (tps ++ #[rawInt pos.line,rawInt pos.col,.ref c']))) c' (.ext (gp c' qual)) b=aa o:=λ{b o} e n=>by
    rw[aE (cG e nc),aE (λz=>by rw[z,hT]at e;cases e;exact n)];exact e
   refine⟨λr hr=>?_,λT2 q2 ps2 e=>?_,λa2 q2 xs2 e=>?_⟩
   rotate_left 2
   ·by_cases z:a2=c'
    ·subst z;rw[bp]at e;cases e
    ·rw[aE z]at e;by_cases z2:a2=T
     ·subst z2;rw[bp]at e;cases e
     ·rw[aE z2]at e;exact k.fz a2 q2 xs2 e
   ·obtain⟨p0,e0⟩:=k.has r hr;by_cases z:r.1=T
    ·rw[z,hT]at e0;have:qual=r.2:=by injection e0 with e0;injection e0
     exact⟨_,by rw[aE (by rw[z];exact dN cT),z,bp,this]⟩
    ·exact⟨p0,by rw[aE (cG e0 nc),aE z];exact e0⟩
   ·by_cases z:T2=c'
    ·subst z;rw[bp]at e;cases e
    ·rw[aE z]at e;by_cases z2:T2=T
     ·subst z2;rw[bp]at e;have e1:qual=q2:=by injection e with e;injection e
      have e2:tps ++ #[rawInt pos.line,rawInt pos.col,.ref c']=ps2:=by injection e with e;injection e
      subst e1 e2;refine⟨by rw[vC];exact LF ok1,λp2 v hv=>?_⟩;rw[vC]at hv;rcases LI ok1 hv with q|q
      ·obtain⟨y,y1,y2⟩:=ok2 p2 v q;exact⟨y,y1,nT' y2 trivial⟩
      ·exact⟨c',q,bp⟩
     ·rw[aE z2]at e;obtain⟨t1,t2⟩:=k.cd T2 q2 ps2 e;refine⟨t1,λp2 v hv=>?_⟩;obtain⟨y,y1,y2⟩:=t2 p2 v hv;exact⟨y,y1,nT' y2 trivial⟩
  refine h h'.objs.size c' ctv _ _ _ (.inr ⟨tps,_,c',hT,nc,cT,rfl,ck⟩) bp (dE _ rfl) I3 ?_;refine I.g9 szs ?_;rw[aE (sA h2),aE (λz=>?_)]
  ·exact I.hok.fresh szs
  ·have:=I.hok.fresh szs;rw[z,hT]at this;cases this
end
end L2
namespace L2
end L2
namespace Mi
open PySem
end Mi
namespace A
end A
namespace So
open PySem
end So
namespace A
open PySem L2 PyProof.Rows So
open Mi (D W Rs Fin au Out Tg)
variable[Tb:bM]
theorem OH{T:ah}{q:Str}{H H' Hv:Hp}(v:Vw H Hv)(t:Tab T q H H'):bz H Hv H' Hv:=by
 rcases t with rfl|⟨ps,ps',c,hT,hc,ne,rfl,ck⟩
 ·exact .refl v
 ·have get:∀{a o},H a=aa o->NT o->upd (upd H T (.tbl q ps')) c (.ext (gp c q)) a=aa o:=λ{a o} e n=>by
   rw[aE (cG e hc),aE (λz=>by rw[z,hT]at e;cases e;exact n)];exact e
  have back:∀{a o},upd (upd H T (.tbl q ps')) c (.ext (gp c q)) a=aa o->(∀w ps,o≠.tbl w ps)->(∀φ,o≠.ext φ)->H a=aa o:=λ{a o} e n1 n2=>by
   by_cases z:a=c
   ·subst z;rw[bp]at e;cases e;exact absurd rfl (n2 _)
   ·rw[aE z]at e;by_cases z2:a=T
    ·subst z2;rw[bp]at e;cases e;exact absurd rfl (n1 _ _)
    ·rw[aE z2]at e;exact e
  refine⟨⟨λa o e n=>get e n,λa e=>?_,λa w p0 e=>?_⟩,ca.refl _,⟨λa o e=>get (v.sub a o e) (v.nv a o e),λa xs e=>v.tup a xs (back e (λ_ _ z=>by cases z) (λ_ z=>by cases z)),λa o u e=>v.frz a o u (back e (λ_ _ z=>by cases z) (λ_ z=>by cases z)),ck,v.nv⟩,λ_ _ _ n=>n⟩
  ·by_cases z:a=c
   ·subst z;exact hc
   ·rw[aE z]at e;by_cases z2:a=T
    ·subst z2;rw[bp]at e;cases e
    ·rw[aE z2]at e;exact e
  ·by_cases z2:a=T
   ·subst z2;rw[hT]at e;cases e;exact⟨ps',by rw[aE (dN ne),bp]⟩
   ·exact⟨p0,by rw[aE (cG e hc),aE z2];exact e⟩
end A
namespace L2
open PySem PySem.Spec PyProof.Rows A So
structure rS(K:aG)(x qual:Str)(st:bn)(c f:ah)(fd:bx):Prop where
 ex:∃(oc:ai) (od:Option ah) (kV doc pm:ai) (an:Option ah) (ct:ai) (osl:Array (Option ai)),
  fd=j2 x qual (lg st) (ia st) (bq st) .none kV doc pm an (.ref c) ct/\K.lookup f=aa ⟨oc,od,.func fd,osl⟩/\pN K (.ref c) qual=true
section
variable{P:bh}{w:a8}{K:aG}{mg:Str->Option ai}{base:aK}
theorem rS.ok{x qual:Str}{st:bn}{c f:ah}{fd:bx}{N ps:List Str}{k:Nat}{sp:Sp}(F:rS K x qual st c f fd)(S:bU N ps (bq st))(len:∀vs H Q E,sp vs H Q E->vs.length=ps.length)
 (hbody:∀(A:bK) (outer:List Env) (s:ap) (H:Hp) (vs:List V) (Q:VK) (E:XK),cL k (A.deeper (envOfC qual (bq st) s.heap.objs.size f (.ref c)))->sp vs H Q E ->
  ∃t,gc (km aB P w K mg base N qual (bq st) f (.ref c) A outer s H E).kn (ia st) t/\t { nx:=λ_ H'=>Q .non H',rt:=Q } (start N vs) H):bu P w K mg base aB (k+1) f fd ps sp:=by
 obtain⟨oc,od,kV,doc,pm,an,ct,osl,rfl,lk,hcd⟩:=F.ex;refine EX lk hcd S len λA outer s H vs Q E hr hsp=>?_;obtain⟨t,h,q⟩:=hbody A outer s H vs Q E hr hsp;exact⟨t,h.kn,q⟩
end
structure sV(K:aG)(mg:Str->Option ai)(x:Str)(st:bn)(ps:List Str)(c:ah):Prop where
 ex:∃(f:ah) (fd:bx),mg x=aa (.ref f)/\kG K (.ref f)=true/\Binds K fd ps []/\rS K x x st c f fd
theorem HP{K:aG}{h:aK}{mg:Str->Option ai}{x:Str}{st:bn}{ps:List Str}{f c:ah}{oc:ai}{od an:Option ah}{osl:Array (Option ai)}{kV doc pm ct:ai}(X:K.In h)(G:h.Ns mainGlobals mg)
 (hb:∀(kV doc pm:ai) (an:Option ah) (cdv ct:ai) (us:List ai),us.length=ps.length->bindArgs (j2 x x (lg st) (ia st) (bq st) .none kV doc pm an cdv ct) ⟨us,[]⟩=pure (ps.zip us))
 (a:fb K mainGlobals x=aa (aa (.ref f))) (l:K.lookup f=aa ⟨oc,od,.func (j2 x x (lg st) (ia st) (bq st) .none kV doc pm an (.ref c) ct),osl⟩)
 (cc:pN K (.ref c) x=true) (k:kG K (.ref f)=true):sV K mg x st ps c:=by
 have F:=Fv (st:=st) l cc k;exact⟨f,_,u9 X G a,k,F.binds hb,⟨oc,od,kV,doc,pm,an,ct,osl,rfl,l,cc⟩⟩
theorem sV.cal{P:bh}{w:a8}{K:aG}{mg:Str->Option ai}{base:aK}{CX:gi}{k:Nat}{x:Str}{st:bn}{ps:List Str}{c:ah}{sp:Sp}(F:sV K mg x st ps c)(h:∀f fd,rS K x x st c f fd->bu P w K mg base CX k f fd ps sp) :
 bG P w K mg base CX k x ps sp:=by
 obtain⟨f,fd,h1,h2,h3,h4⟩:=F.ex;exact⟨f,fd,h1,h2,h3,h f fd h4⟩
section
variable[Tb:bM]
theorem JE{P:bh}{w:a8}{K:aG}{mg mb:Str->Option ai}{k:Nat}{fa a c T:ah}{q:Str}{fd:bx}{x:Str}{s₁:ap}{vs:List ai}{ns:List Int}(hTb:Tb.l=[(T,q)])
 (KX:K.In s₁.heap) (hns:s₁.heap.Ns mainGlobals mg) (hb:s₁.heap.Ns builtinsNs mb) (hbb:∀x:Str,x ≠ "__name__" -> mb x=bootBuiltins x) (hlim:s₁.heap.NoLimit) (hg:s₁.gens = #[])
 (ha:s₁.heap.get? a=aa { cls:=.type "list", data:=.seq vs.toArray }) (hi:IntsAre vs ns) (hl:ns.length<=63) (hr:cL k callerA)
 (hKa:K.lookup a=ab) (hKT:K.lookup T=ab) (C:iG s₁.heap c T) (hT:s₁.heap.get? T=aa (u7 #[])) (hB:BM mg s₁.heap)
 (F:∀base:aK,K.In base->base.Ns mainGlobals mg->BM mg base->iG base c T->bu P w K mg base aB k fa fd [x] sg) (hbind:∀(s:ap) (u:ai),lw s fd ⟨[u],[]⟩ [(x,u)]) :
 codeAny (model P w) callerA (.call (.ref fa) ⟨[.ref a],[]⟩) (λr s'=>r=.ok (.ret (.bool true))/\OldK s₁.heap s'.heap/\s'.os=s₁.os/\mM s'.gens) s₁:=by
 have rv:=Dj hi;have lenV:=hi.length;have aT:a≠T:=λz=>by rw[z,hT]at ha;cases ha
 let H:Hp:=λb=>if b=a then aa (.frz { cls:=.type "list",data:=.seq vs.toArray } (.lst (ns.map V.int)))else if b=T then aa (.tbl q #[])else ab;have Ha:H a=aa (.frz { cls:=.type "list", data:=.seq vs.toArray } (.lst (ns.map V.int))):=bb rfl;have HT:H T=aa (.tbl q #[]):=by show(if T=a then _ else _)=_;rw[bc (dN aT),bb rfl]
 have Hn:∀b,b≠a->b≠T->H b=ab:=λb h1 h2=>by show(if b=a then _ else _)=_;rw[bc h1,bc h2]
 have Hd:∀{b u},H b=aa u->(b=a/\u=.frz { cls:=.type "list", data:=.seq vs.toArray } (.lst (ns.map V.int)))\/(b=T/\u=.tbl q #[]):=λ{b u} e=>by
  by_cases h1:b=a
  ·subst h1;rw[Ha]at e;cases e;exact .inl ⟨rfl,rfl⟩
  ·by_cases h2:b=T
   ·subst h2;rw[HT]at e;cases e;exact .inr ⟨rfl,rfl⟩
   ·rw[Hn b h1 h2]at e;cases e
 have hok:cP P w H s₁.heap:=λb u e=>by
  rcases Hd e with ⟨rfl,rfl⟩|⟨rfl,rfl⟩
  ·exact⟨ha,by rw[aM,dS];omega,vs,_,rv,ha⟩
  ·exact hT
 have free:∀{b:ah} {o:Obj},s₁.heap.get? b=aa o->o.cls≠.type "list" -> o≠u7 #[]->H b=ab:=λ{b o} e h1 h2=>by
  refine Hn b (λz=>?_) λz=>?_
  ·rw[z,ha]at e;cases e;exact h1 rfl
  ·rw[z,hT]at e;cases e;exact h2 rfl
 have vI:∀{b:ah} {o:Obj},s₁.heap.get? b=aa o->H b=ab->(jB s₁.heap H).get? b=aa o:=λe n=>KO e n;have nsK:∀{b:ah} {m:Str->Option ai},s₁.heap.Ns b m->(jB s₁.heap H).Ns b m:=λ{b m} ⟨o,es,ep,e,d,r⟩=>⟨o,es,ep,vI e (Hn b (λz=>by rw[z,ha]at e;cases e;cases d) λz=>by rw[z,hT]at e;cases e;cases d),d,r⟩;have hKb:K.In (jB s₁.heap H):=λb o e=>vI (KX b o e) (Hn b (λz=>by rw[z,hKa]at e;cases e) λz=>by rw[z,hKT]at e;cases e);have hM:Mod K mg (jB s₁.heap H):=⟨hKb,nsK hns,⟨mb,nsK hb,hbb⟩,let ⟨mc,h1,h2⟩:=hlim;⟨mc,nsK h1,h2⟩⟩;have e0:mi P w K mg (jB s₁.heap H) callerA [] s₁ H:=⟨rfl,hM,λb o e=>Mb e,Nat.le_of_eq (Md _ _),trivial,λb hb=>absurd (show b∈([]:List ah)from hb) (by simp),hok,.of_eq hg⟩;have hB':BM mg (jB s₁.heap H):=by obtain⟨bm,bo,b1,b2,b3,b4,b5,b6,b7⟩:=hB;exact⟨bm,bo,b1,b2,b3,vI b4 (free b4 (by rw[b5];decide) (λz=>by rw[z]at b5;cases b5)),b5,b6,b7⟩
 have C':iG (jB s₁.heap H) c T:=by obtain⟨o,vs2,file,tf,flags,tg,inF,text,tt,e,h1,r⟩:=C;exact⟨o,vs2,file,tf,flags,tg,inF,text,tt,vI e (free e (by rw[h1];decide) (λz=>by rw[z]at h1;cases h1)),h1,r⟩
 have ck:f9 H:=⟨λr hr=>by
  rw[hTb]at hr;obtain rfl:r=(T,q):=by simpa using hr
  exact⟨#[],HT⟩,λT2 q2 ps e=>by
  rcases Hd e with ⟨_,z⟩|⟨_,z⟩
  ·cases z
  ·cases z;exact⟨trivial,λpos v hv=>by cases hv⟩,λb o xs e=>by
  rcases Hd e with ⟨_,z⟩|⟨_,z⟩
  ·cases z;intro x hx;obtain⟨i,_,rfl⟩:=cq.mp hx;exact⟨i,rfl⟩
  ·cases z⟩
 refine vn ((F _ hKb (nsK hns) hB' C').run callerA [] s₁ H ⟨[.ref a],[]⟩ [.ref a] [.ref a] (λv _=>v=.bl true) (λ_ _ _=>False) hr e0 (hbind s₁ (.ref a)) (.cons rfl .nil) ⟨a,ns,rfl,.inr ⟨_,Ha⟩,hl,ck,λ_=>rfl⟩) λr s' h=>?_;cases r with
 |error e=>exact h.elim
 |ok fl=>
  cases fl with
  |next=>exact gW h
  |brk=>exact gW h
  |cont=>exact gW h
  |ret u=>
   obtain⟨v,H',os,bare,un,hok',r',q'⟩:=h;have q':v=.bl true:=q';subst q';obtain rfl:u=iI true:=r';have old:∀b o,s₁.heap.get? b=aa o->asItWas s₁.heap s'.heap b o:=λb o e=>by
    by_cases h1:b=a
    ·subst h1;have z2:=un.kK b _ _ Ha;obtain⟨e2,_⟩:=hok' b _ z2;rw[ha]at e;cases e;exact .inl e2
    ·by_cases h2:b=T
     ·subst h2;obtain⟨more,z2⟩:=un.kL b _ _ HT;have e2:s'.heap.get? b=aa (u7 (#[]++more)):=hok' b _ z2;rw[hT]at e;cases e;obtain⟨oc,vs2,_,_,_,_,_,_,_,f1,f2,f3,f4,_⟩:=C;exact .inr (.inl ⟨⟨c,oc,vs2,f1,f2,f3,f4⟩,rfl,#[],more,rfl,e2⟩)
     ·exact .inl (un.keep b o e (Hn b h1 h2) (by intro z;exact absurd (show b∈([]:List ah)from z) (by simp)) (by simp))
   exact⟨rfl,⟨old,λb o e=>un.there b o e (by simp)⟩,os,bare⟩
theorem Mj{l:za}{k:Nat}{q:bh}{loose:List Str}{XP:(Str->Option ai)->aK->Prop}{YP:a8->aK->Prop}{d:DefRec}{K:Params->aG}{x dn:Str}{c T:ah}{qn:Str}(hTb:Tb.l=[(T,qn)])
 (hn:l.most=aa 63) (hdf:d.params.defaults=[]) (hr:cL k callerA)
 (hY:∀(w:a8) (h:aK),YP w h->(K w.params).In h) (hL:∀w:a8,∀a o,(K w.params).lookup a=aa o->o.cls≠.type "list") (hK:∀w:a8,(K w.params).lookup T=ab)
 (hrec:∃d,(recsOf q).find? (λe=>e.name==dn)=aa d) (htab:∀w:a8,PySem.W.tabIn (K w.params) dn=aa (c,T))
 (F:∀(w:a8) (mg:Str->Option ai) (fa:ah) (h:aK),(K w.params).In h->h.Ns mainGlobals mg->mg d.name=aa (.ref fa) ->
  ∃fd:bx,(∀(s:ap) (u:ai),lw s fd ⟨[u],[]⟩ [(x,u)]) /\
   ∀base:aK,(K w.params).In base->base.Ns mainGlobals mg->BM mg base->iG base c T->bu l.prog w (K w.params) mg base aB k fa fd [x] sg) :
 PySem.W.WalkO q loose XP YP l.row.toRowW d [] (λf vs=>zg f vs):=by
 refine Att.NZ hn hdf λw s₀ s₁ mg mb fa o pm cd doc a vs ns G Y ho hd hcd hmg hobj hints hlen hg=>?_;have KX:=hY w _ Y;obtain⟨fd,hb,hF⟩:=F w mg fa _ KX G.T.g hmg;obtain⟨dd,hdd⟩:=hrec;obtain⟨C,hT⟩:=PySem.W.tab_of G.T KX hdd (htab w);have hB:BM mg s₁.heap:=by obtain⟨bm,ob,b1,b2,b3,b4,b5,b6⟩:=G.T.bmain;refine⟨bm,ob,b1,b2,λz=>?_,b3,b4,b5,b6⟩;obtain⟨o2,es,ep,e,d2,_⟩:=G.T.g;rw[z,e]at b3;cases b3;rw[d2]at b6;cases b6
 have hKa:(K w.params).lookup a=ab:=by
  cases z:(K w.params).lookup a with
  |none=>rfl
  |some o2=>
   have e:=KX a o2 z;rw[hobj]at e;cases e;exact absurd rfl (hL w a _ z)
 exact JE hTb KX G.T.g G.T.b G.T.builtins G.T.nolimit hg hobj hints hlen hr hKa (hK w) C hT hB hF hb
end
end L2
namespace A
open PySem L2 PyProof.Rows So
open Mi (D W Rs Fin au Out Tg)
variable[Tb:bM]
end A
namespace Mi
end Mi
namespace A
open PySem L2 PyProof.Rows So
open Mi (D W Rs Fin au Out Tg)
variable[Tb:bM]
end A
namespace L2
end L2
namespace L2
end L2
namespace L2
end L2
namespace Mi
open PySem
def nE{α:Type}(r:Rs α)(k:α->Prop)(x:k5->Prop):Prop:=match r with
 |.ok a=>k a
 |.ex z=>x z
 |.no=>False
theorem tw{α β:Type}{r:Rs α}{f:α->Rs β}{k:β->Prop}{x:k5->Prop}:nE (r.bind f) k x↔nE r (λa=>nE (f a) k x) x:=by cases r<;>exact Iff.rfl
end Mi
namespace A
open PySem L2 PyProof.Rows So
open Mi (D W Rs Fin nE au tw Out Tg k5)
variable[Tb:bM]
end A
namespace L2
end L2
namespace L2
end L2
namespace L2
open PySem PySem.Spec PyProof.Rows
end L2
namespace Mi
open PySem
end Mi
namespace A
open PySem L2 PyProof.Rows So
open Mi (D W Rs Fin nE au tw Out Tg k5)
variable[Tb:bM]
end A
namespace PySem.W
end PySem.W
namespace L2
open PySem PySem.Spec PyProof.Rows
open A (AV)
end L2
namespace Mi
open PySem
end Mi
namespace A
open PySem L2 PyProof.Rows So
open Mi (D W Rs Fin nE au tw Out Tg k5)
variable[Tb:bM]
end A
namespace Mi
open PySem
def iB(x:Str):Str:=⟨PySem.placed x λ_ c=>Unicode.upperOf c⟩
end Mi
namespace L2
open PySem PySem.Spec PyProof.Rows
end L2
namespace A
open PySem L2 PyProof.Rows So
open Mi (D W Rs Fin au)
variable[Tb:bM]
end A
namespace Mi
def q0(m:S):S:=λe=>match m e with
 |.ok (.rt w)=>.ok (.rt w)
 |_=>.no
end Mi
namespace A
open PySem L2 PyProof.Rows So
open Mi (D W Rs Fin au Out Tg)
variable[Tb:bM]
section
variable{M:Nat->Bool}{κ:Kd}{t:TS}{m:Mi.S}
theorem Fs(y:Nat)(hy:M y=true)(h:AS (λj=>M j && !(j==y)) κ t m):AS M κ t (Mi.q0 m):=λH0 Hv0 e σ H Hv D I f=>by
 have nb:∀{j:Nat},(M j && !(j==y))=false->M j=false\/j=y:=λ{j} z=>by
  cases q:M j with
  |false=>exact .inl rfl
  |true=>rw[q]at z;exact .inr (by simpa using z)
 have nt:∀{j:Nat},(M j && !(j==y))=true->M j=true/\j≠y:=λ{j} z=>by simpa using z
 have fin:∀Hv',bz H0 Hv0 H Hv'->R0 (λj=>M j && !(j==y)) e σ H Hv'->t D σ H:=λHv' gw R=>by
  refine h H0 Hv0 e σ H Hv' D ⟨R,gw,λi w a q1 q2 q3=>I.fresh i w a q1 (nt q2).1 q3,λi j w w' a b hij q1 q2 q3 q4 q5 q6=>I.sep i j w w' a b hij q1 q2 (nt q3).1 (nt q4).1 q5 q6⟩ ?_;unfold Mi.q0 at f;cases hm:m e with
  |no=>rw[hm]at f;exact f.elim
  |ex z=>rw[hm]at f;exact f.elim
  |ok o=>
   rw[hm]at f;cases o with
   |rt w=>exact f
   |nx e2=>exact f.elim
   |bk e2=>exact f.elim
   |ct e2=>exact f.elim
 have other:(∀w0,e[y]?≠aa (aa w0))->t D σ H:=λab=>fin Hv I.gw ⟨I.vw,I.len,λj w' z q=>by
  rcases nb q with q|rfl
  ·exact I.nob j w' z q
  ·exact absurd z (ab w'),λj w' z q=>I.own j w' z (nt q).1⟩
 cases he:e[y]? with
 |none=>exact other λw0 z=>by rw[he]at z;cases z
 |some ow=>
  cases ow with
  |none=>exact other λw0 z=>by rw[he]at z;cases z
  |some w0=>
   obtain⟨p,Hv',q,I',s,r⟩:=I.II hy he;refine fin Hv' I'.gw ⟨I'.vw,I.len,λj w' z q2=>?_,λj w' z q2=>?_⟩
   ·by_cases hj:j=y
    ·subst hj;rw[he]at z;cases z;exact⟨_,q,r⟩
    ·exact I'.nob j w' (by rw[dC (dN hj)];exact z) ((nb q2).resolve_right hj)
   ·obtain⟨m1,hj⟩:=nt q2;exact I'.own j w' (by rw[dC (dN hj)];exact z) m1
end
end A
namespace Mi
open PySem
end Mi
namespace L2
open PySem PySem.Spec PyProof.Rows
end L2
namespace A
open PySem L2 PyProof.Rows So
open Mi (D W Rs Fin au)
variable[Tb:bM]
end A
namespace Mi
open PySem
end Mi
namespace A
open PySem L2 PyProof.Rows So
open Mi (D W Rs Fin nE au tw Out Tg k5)
variable[Tb:bM]
end A
namespace L2
open PySem PySem.Spec PyProof.Rows
section
variable{pr:bh}{wo:a8}{Ar:bK}{Ex:ai->ap->Prop}
theorem Cp{it l:ah}{zs:Array ai}(ne:l≠it):∀(k j:Nat) (z:ap) (R:List ai->ap->Prop),z.heap.IsListIter it l j->z.heap.IsList l zs->j+k<=zs.size ->
 (∀g,g.IsListIter it l (j+k)->mI it z.heap g->R ((zs.toList.drop j).take k) { z with heap:=g })->wpAny (model pr wo) Ar (draw (.ref it) k) R Ex z
 |0,j,z,R,a,_,_,q=>by
  show wpAny _ _ (pure []) R Ex z;refine bE ?_;have:=q z.heap a (Heap.SameBut.refl ..);simpa using this
 |k+1,j,z,R,a,b,c,q=>by
  have lt:j<zs.size:=by omega
  show wpAny _ _ (pyNext (.ref it) >>= _) R Ex z;refine aI (Gk a b (x:=zs[j]) (by simp[lt]) λg1 a1 b1=>aI (pP ?_));refine Cp ne k (j+1) _ _ a1 (b.extBut b1.extBut ne) (by omega) λg2 a2 b2=>bE ?_;have e:zs.toList.drop j=zs[j]::zs.toList.drop (j+1):=by simp[yP,lt]
  have r:=q g2 (by rw[show j+(k+1)=j+1+k by omega];exact a2) (b1.trans b2);rw[e,List.take_succ_cons]at r;exact r
theorem LL{l:ah}{zs:Array ai}{z:ap}{R:List ai->ap->Prop}(h0:Ar.handled=ab)(b:z.heap.IsList l zs)(q:∀g,vo z.heap.objs.size z.heap g->R zs.toList { z with heap:=g }) :
 wpAny (model pr wo) Ar (unpackItems (.ref l) zs.size ab) R Ex z:=by
 have ne:l≠z.heap.objs.size:=by obtain⟨o,ho,_⟩:=b;exact gn (b0 ho)
 unfold unpackItems notIterableAtAll;refine aI (aI (vh b.typeIs PySem.F.slot_list_iter.lookup (bE ?_)));simp only[nU,ik];refine aI (pP (vg b ?_));refine aI (pP (Cp ne zs.size 0 _ _ ⟨_,dE _ rfl,rfl,rfl⟩ (b.push _) (by omega) λg1 a1 b1=>?_));rw[show List.take zs.size (List.drop 0 zs.toList)=zs.toList by rw[sr];exact pF (by simp),bc (by simp)];have c1:g1.IsList l zs:=(b.push _).extBut b1.extBut ne;refine aI (pP (wpAny_pyNext_list_end h0 a1 c1 (by simp) λg2 b2=>?_));simp only[Option.isSome_none,nU,ik];exact bE (q g2 λd o hd e=>b2 d o hd (b1.extBut d o hd (cA _ e)))
end
end L2
namespace Mi
open PySem
def uR(is:List Nat)(a:E):S:=λe=>(a e).bind λd=>match d with
 |.lst ds=>(lU is ds e).bind λe'=>.ok (.nx e')
 |_=>.no
end Mi
namespace A
open PySem L2 PyProof.Rows So
open Mi (D W Rs Fin au Out Tg)
variable[Tb:bM]
section
variable{X:Cx}{pos:Pos}
def Bj(n:Nat)(t:hX):TG:=λv σ H Q=>∃a xs,v=.ref a/\Lst H a xs/\xs.length=n/\t xs σ H Q
theorem L6{es:List aS}{k:Nat}{t:hX}{n:Nat}(hc:X.calm=true)(h:se X es t)(hn:(assignEach es X.env).length=n:=by rfl)(hst:(assignEach es X.env).findIdx? (·.1)=ab:=by rfl):PG X (.Tuple es k pos) (Bj n t):=by
 intro ae s σ H v u Q I r hw;obtain⟨a,xs,e1,hq,hl,hw⟩:=hw;subst e1;cases r;obtain⟨am,n0,rv,hz,ho⟩:=ub I hq;have hli:=rv.length;rw[assign_Tuple];refine aI (zh ?_);unfold unpack;rw[hn,hst];have sz:n=am.toArray.size:=by rw[cX];omega
 rw[sz];refine aI (pP (LL (I.ok.hd hc) ⟨_,ho,rfl,_,rfl⟩ λg hx=>?_));have I1:Inv X ae σ H { s with heap:=g }:=I.kept (t':=s.toks) λb o e=>hx b o (gn (b0 e)) e;exact h ae _ σ H xs _ Q I1 (by simpa using rv) hw
end
section
variable{M:Nat->Bool}{κ:Kd}{te:TE}{a:Mi.E}
theorem IK(is:List Nat)(hm:∀i∈is,M i=false)(ha:AE M qV te a):AS M κ (ip te (Bj is.length (uj is))) (Mi.uR is a):=λH0 Hv0 e σ H Hv D I h=>
 ha e σ H Hv _ I.toR0 ((au.mp h).mono λd hd v H1 Hv1 g1 r=>by
  cases d with
  |lst ds=>
   obtain⟨p,xs,rfl,l,rr⟩:=i3.mp r;have hd:=au.mp (show Fin (Rs.bind (Mi.lU is ds e) _) _ from hd);have I2:=I.grow g1;refine⟨p,xs,rfl,l.same g1.vw.sub,by rw[<- rr.len];exact xU hd,?_⟩;exact yJ (P:=λe1 σ1=>R1 M H0 Hv0 e1 σ1 H1 Hv1) (λi hi e1 σ1 d1 v1 p1 r1=>p1.set (hm i hi) r1) I2 rr (hd.mono λe' h' σ' p'=>h' σ' H1 Hv1 p' g1.vis)
  |_=>exact hd.elim)
end
end A
namespace Mi
open PySem
end Mi
namespace L2
open PySem PySem.Spec PyProof.Rows
end L2
namespace A
open PySem L2 PyProof.Rows
open Mi (D W Rs Fin au)
variable[Tb:bM]
end A
namespace Mi
open PySem
end Mi
namespace L2
open PySem PySem.Spec PyProof.Rows
end L2
namespace A
open PySem L2 PyProof.Rows
open Mi (D W Rs Fin au)
variable[Tb:bM]
end A
namespace Mi
open PySem
end Mi
namespace A
open PySem L2 PyProof.Rows So
open Mi (D W Rs Fin au Out Tg)
open Zp (iT Eb)
variable[Tb:bM]
end A
namespace L2
open PySem PySem.Spec PyProof.Rows
def pk(h:aK)(d:ah)(es:Array DictEntry)(ep:Nat):Prop:=∃o,h.get? d=aa o/\o.ExactDict/\o.data=.dict es ep
theorem pk.ty{s:ap}{d:ah}{es:Array DictEntry}{ep:Nat}(x:pk s.heap d es ep):s.TypeIs (.ref d) "dict" := let ⟨o,e,c,_⟩:=x;⟨o,e,c.1⟩
section
variable{P:bh}{w:a8}{A:bK}{E:ai->ap->Prop}{s:ap}{d it:ah}{es:Array DictEntry}{ep i:Nat}
theorem Mx{Q:ai->ap->Prop}(nd:(d==sysModules)=false)(x:pk s.heap d es ep)
 (q:Q (.ref s.heap.objs.size) { s with heap:=s.heap.push { cls:=.type "dict_keyiterator", data:=.fields #[.ref d,.int 0 0,.int es.size 0,.int ep 0] } }):wpAny (model P w) A (pyIter (.ref d)) Q E s:=by
 obtain⟨o,e,c,dt⟩:=id x;have ty:=x.ty;refine wpAny_pyIter_slot ty F.slot_dict_iter (mD F.slot_dict_iter ty F.entry_dict_iter ?_ (F.args_dict_iter_1 _));unfold Builtin.«dict.__iter__» Builtin.Dict.dictSlotNone;refine aI (aI (wpAny_notOrdered_dict ty ?_));show wpAny _ _ (pure (cI d)) _ _ s;refine bE ?_;show wpAny _ _ (GL d >>= _) _ _ s;unfold GL;rw[bc (by rw[nd];exact du)];refine aI (bE (aI (ze e dt (aI (zf e dt ?_)))));refine aI (sx (bE ⟨_,rfl, "dict_keyiterator", _,⟨_,dE _ rfl,rfl⟩,sB.lookup,?_⟩));simpa [rawInt]using q
theorem Op{Q:Option ai->ap->Prop}(hI:s.heap.IsKeyIter it d i es.size ep)(x:pk s.heap d es ep)(lt:i<es.size)
 (q:∀h',h'.IsKeyIter it d (i+1) es.size ep->mI it s.heap h'->Q (aa es[i].key) { s with heap:=h' }):wpAny (model P w) A (pyNext (.ref it)) Q E s:=by
 obtain⟨oi,ei,ci,di⟩:=id hI;obtain⟨o,e,c,dt⟩:=id x;unfold pyNext;refine aI (vm (pO (name:=pW "__next__") hI.typeIs sB (mD sB hI.typeIs Gr ?_ (Go _))));refine aI (bE (aI (aI ?_)))
 first|refine aI (vb hI.typeIs (bE ?_))|refine aI (vc hI.typeIs (bE ?_))
 refine aI (wpAny_fieldsOf ei di ?_);simp only[show GJ "dict_keyiterator" = false by decide,nU,ik];show wpAny _ _ (if(cI d==iJ)=true then _ else _) _ _ s;rw[bc (by exact du)];refine aI (bE (aI (ze e dt ?_)));rw[bc (by simp)];refine aI (bE (aI (zf e dt ?_)));rw[bc (by simp)];refine bE ?_;simp only[show¬ ((i:Int)<0)from by omega,ik,j3,GD lt];refine aI ?_
 first|refine aI (vb hI.typeIs (bE ?_))|refine aI (vc hI.typeIs (bE ?_))
 refine aI (wpAny_isOneOf_keyiter hI.typeIs ?_);show wpAny _ _ (setField (.ref it) 1 (rawInt ((i:Int)+1)) >>= _) _ _ s;refine aI (vk ei di (by simp) ?_);have hJ:(s.heap.update it (Obj.mapFields (·.setIfInBounds 1 (rawInt ((i:Int)+1))))).IsKeyIter it d (i+1) es.size ep:=
  ⟨_,zi _ ei (GI (vE di _)),(Obj.cls_mapFields ..).trans ci,by rw[vE di];simp[rawInt]⟩
 refine aI (pP (aI (wpAny_isOneOf_keyiter (s:={ s with heap:=s.heap.update it (Obj.mapFields (·.setIfInBounds 1 (rawInt ((i:Int)+1)))) }) hJ.typeIs ?_)));show wpAny _ _ (pure es[i].key) _ _ _;exact bE (bE ⟨_,rfl,bE (q _ hJ (sC ..))⟩)
theorem N1{Q:Option ai->ap->Prop}(hh:A.handled=ab)(hI:s.heap.IsKeyIter it d i es.size ep)(x:pk s.heap d es ep)(ge:es.size<=i)
 (q:∀h',vo it s.heap h'->Q ab { s with heap:=h' }):wpAny (model P w) A (pyNext (.ref it)) Q E s:=by
 obtain⟨oi,ei,ci,di⟩:=id hI;obtain⟨o,e,c,dt⟩:=id x;unfold pyNext;refine aI (vm (pO (name:=pW "__next__") hI.typeIs sB (mD sB hI.typeIs Gr ?_ (Go _))));refine aI (bE (aI (aI ?_)))
 first|refine aI (vb hI.typeIs (bE ?_))|refine aI (vc hI.typeIs (bE ?_))
 refine aI (wpAny_fieldsOf ei di ?_);simp only[show GJ "dict_keyiterator" = false by decide,nU,ik];show wpAny _ _ (if(cI d==iJ)=true then _ else _) _ _ s;rw[bc (by exact du)];refine aI (bE (aI (ze e dt ?_)));rw[bc (by simp)];refine aI (bE (aI (zf e dt ?_)));rw[bc (by simp)];refine bE ?_;simp only[show¬ ((i:Int)<0)from by omega,ik,j3,Array.getElem?_eq_none ge];refine aI ?_
 first|refine aI (vb hI.typeIs (bE ?_))|refine aI (vc hI.typeIs (bE ?_))
 show wpAny _ _ (setField (.ref it) 0 .none >>= _) _ _ s;refine aI (vk ei di (by simp) ?_);show wpAny _ _ (newExc (.type "StopIteration") [] >>= _) _ _ _;refine aI ?_;simp only[newExc,newTuple];refine aI (sx ?_ (by size_fits));refine aI (m:=firstArgMember _ _) (wpAny_of_eq (a:=iJ) (by first|rfl|(simp only[firstArgMember];rfl)) (sx ?_ (by size_fits)));simp only[raiseNew];refine aI (wpAny_handled ?_);rw[show A.in1.handled=ab from hh];refine aI (bE (wpAny_throw ?_));exact aI (wpAny_isInstance (b:=true) (T := "StopIteration") ⟨_,dE _ rfl,rfl⟩ isSubtype_stop (bE (q _ (((sC ..).extBut.push _).push _))))
end
end L2
namespace So
end So
namespace Mi
open PySem
def ui:Ky->D
 |.inl i=>.bl i
 |.inr x=>.str x
def C2:W->Rs W
 |.dt ak=>.ok (.df ak)
 |_=>.no
def uD(m:EW):EW:=λe=>(m e).bind C2
def om(i:Nat):I:=λe=>(wV i e).bind λw=>match w with
 |.df ak=>.ok (ak.map λkv=>.tup (kv.1.map ui))
 |_=>.no
end Mi
namespace L2
open PySem PySem.Spec PyProof.Rows
theorem Inv.K9{X:Cx}{ae:List (ah×Obj)}{σ:St}{H:Hp}{s:ap}{a:ah}{kv:List (List Key×V)}(I:Inv X ae σ H s)(h:H a=aa (.dT kv)):∃ob,Inv X ae σ (upd H a (.frz ob (.dT kv))) s:=by
 obtain⟨z1,z2,xs,r,ob,es,ep,e,c⟩:=(show cj X.prog X.w H s.heap a (.dT kv)from I.hok a _ h);have ne:∀b u,H b=aa u->u≠.dT kv->b≠a:=λb u q n z=>by subst z;rw[h]at q;exact n (fY q).symm
 have st:∀b u,cj X.prog X.w H s.heap b u->cj X.prog X.w (upd H a (.frz ob (.dT kv))) s.heap b u:=λb u q=>
  q.stay (λ_ _ _ q=>q) (λc q=>by rw[aE (ne c _ q (by simp))];exact q) λc xs q=>by rw[aE (ne c _ q (by simp))];exact q
 refine⟨ob,I.un (t':=s.toks) ⟨λb o q _ _ _=>q,λb o q _ _ _=>⟨o.slots,q⟩,λb o q n _=>by rw[aE (λz=>by subst z;rw[h]at n;cases n)];exact n,λb o q _=>⟨o,q⟩,
  λb xs q=>by rw[aE (ne b _ q (by simp))];exact q,λb o u q=>by rw[aE (ne b _ q (by simp))];exact q,λb w ps q=>⟨#[],by rw[aE (ne b _ q (by simp)),q];simp⟩⟩ λb u q=>?_⟩
 by_cases hb:b=a
 ·subst hb;rw[bp]at q;cases q;exact⟨e,st b _ (I.hok b _ h)⟩
 ·rw[aE hb]at q;exact st b u (I.hok b u q)
def Fm(te:TE):TE:=λσ H Q=>te σ H λv H1=>∃a kv,v=.ref a/\H1 a=aa (.dT kv)/\∀ob,Q v (upd H1 a (.frz ob (.dT kv)))
theorem Mg{X:Cx}{e:aS}{te:TE}(h:PE X e te):PE X e (Fm te):=λae s σ H Q I q=>
 aX (h ae s σ H _ I q) λv s1 ⟨x,H1,I1,r1,a,kv,e,q1,q2⟩=>by
  obtain⟨ob,I2⟩:=I1.K9 q1;exact⟨x,_,I2,r1,q2 ob⟩
def wp(a:ah)(ob:Obj)(kv:List (List Key×V)):It:=⟨λi H=>H a=aa (.frz ob (.dT kv))/\i<kv.length,λi H x H'=>H'=H/\∃b k v,kv[i]? = aa (k,v)/\x=.ref b/\H b=aa (.tup (k.map kV)),λi H=>H a=aa (.frz ob (.dT kv))/\kv.length<=i⟩
theorem Cb{α β:Type}{F:α->β->Prop}:∀{l:List α} {m:List β} {i:Nat} {x:α},mH F l m->l[i]? = aa x->∃y,m[i]? = aa y/\F x y
 |_,_,_,_,.nil,e=>by simp at e
 |_,_,0,_,.cons r _,e=>by simp at e;subst e;exact⟨_,rfl,r⟩
 |_,_,i+1,x,.cons _ t,e=>by
  obtain⟨u,h1,h2⟩:=Cb (i:=i) (x:=x) t (by simpa using e);exact⟨u,by simpa using h1,h2⟩
theorem wq{X:Cx}{ae:List (ah×Obj)}{σ:St}{H:Hp}{s:ap}{a:ah}{ob:Obj}{kv:List (List Key×V)}(I:Inv X ae σ H s)(q:H a=aa (.frz ob (.dT kv))) :
 (a==sysModules)=false/\kv.length<=sizeLine/\∃es ep,ob.data=.dict es ep/\pk s.heap a es ep/\es.size=kv.length/\∀i k v,kv[i]? = aa (k,v)->∃(lt:i<es.size) (b:ah),es[i].key=.ref b/\H b=aa (.tup (k.map kV))/\RelV v es[i].val:=by
 obtain⟨e,z1,z2,xs,r,ob',es,ep,e',c1,c2,c3,c4⟩:=(show cj X.prog X.w H s.heap a (.frz ob (.dT kv))from I.hok a _ q);rw[e]at e';cases e';have hl:es.size=xs.length:=size_of_entries c3;have hl2:kv.length=xs.length:=sE r;refine⟨z2,z1,es,ep,c2,⟨ob,e,c1,c2⟩,by omega,λi k v hk=>?_⟩;obtain⟨x,hx,h1,h2,h3⟩:=Cb r hk;have lt:i<es.size:=by rw[hl];exact(cv.mp hx).1
 have he:=entry_at c3 i;rw[hx,Option.map_some,GD lt]at he;have he:=fY he;refine⟨lt,x.2.1,by rw[he];rfl,h2,by rw[he];exact h3⟩
theorem Kw{P:bh}{w:a8}{K:aG}{tg:aS}(a it:ah)(ob:Obj)(es:Array DictEntry)(ep:Nat)(kv:List (List Key×V))(hd:ob.data=.dict es ep) :
 Turn P w K tg (wp a ob kv) [it] it (λi h=>h.IsKeyIter it a i es.size ep) where
 mem:=bX.mpr rfl
 obj:=λi h st b hb=>by
  cases bX.mp hb;obtain⟨o,e,c,d⟩:=st;exact⟨o,e,λv z=>by rw[d]at z;cases z⟩
 keep:=λi h h' st k=>st.at λo e=>k it (bX.mpr rfl) o e
 item:=by intro X hP hw hK hc i ae s σ H E I hf st hg;subst hP hw hK;obtain⟨q,lt⟩:=hg;obtain⟨_,_,es',ep',d',R,hl,at_⟩:=wq I q;rw[hd]at d';cases d';obtain⟨f0,f1,f2,f3,f4,f5⟩:=hf it (bX.mpr rfl);obtain⟨⟨k,v⟩,hk⟩ : ∃p,kv[i]? = aa p:=⟨kv[i],by simp[lt]⟩;obtain⟨lt',b,ek,hb,_⟩:=at_ i k v hk;refine Op st R lt' λh' st' sb=>?_;have I1:Inv X ae σ H { s with heap:=h' }:=I.turned (t':=s.toks) (λb o hb e=>(sb.2 b hb).trans e) f0 f1 f3 f4 f5;obtain⟨o,e,c,d⟩:=id st';exact⟨_,rfl,qt (s:={ s with heap:=h' }) e c d (by decide) ⟨.ref b,H,I1,ek,⟨rfl,b,k,v,hk,rfl,hb⟩,st',λb hb=>(hf b hb).1⟩⟩
 done:=by intro X hP hw hK hc i ae s σ H E I hf st hg;subst hP hw hK;obtain⟨q,ge⟩:=hg;obtain⟨_,_,es',ep',d',R,hl,at_⟩:=wq I q;rw[hd]at d';cases d';obtain⟨f0,f1,f2,f3,f4,f5⟩:=hf it (bX.mpr rfl);exact N1 (I.ok.hd hc) st R (by omega) λh' eb=>⟨rfl,I.turned (t':=s.toks) (λb o hb e=>eb b o hb e) f0 f1 f3 f4 f5⟩
 self:=λ_ _ _ _ _ st h=>wpAny_pyIter_keyiter st h
def om(tl:TE):TI:=λσ H R=>tl σ H λx H1=>∃a ob kv,x=.ref a/\H1 a=aa (.frz ob (.dT kv))/\R (wp a ob kv) H1
theorem JP{X:Cx}{tg l:aS}{tl:TE}(hl:PE X l tl):PI X tg l (om tl):=by intro ae s σ H R I h;refine aX (hl ae s σ H _ I h) λv s1 ⟨x,H1,I1,r1,a,ob,kv,e,hq,q⟩=>?_;subst e;cases r1;obtain⟨nd,_,es,ep,d,Rw,hn,_⟩:=wq I1 hq;refine Mx nd Rw ⟨s1.heap.objs.size,[s1.heap.objs.size],_,_,H1,rfl,I1.kept (t':=s1.toks) λb o e=>cA _ e,Kw a _ ob es ep kv d,⟨_,dE _ rfl,rfl,rfl⟩,λb hb=>?_,q⟩;cases bX.mp hb;exact I1.g9 (bA _) (I1.hok.fresh (bA _))
end L2
namespace A
open PySem L2 PyProof.Rows
open Mi (D W Rs Fin au)
variable[Tb:bM]{M:Nat->Bool}
theorem wE{H:Hp}:∀(k:List Key),P2 (Rep H) (k.map Mi.ui) (k.map kV)
 |[]=>.nil
 |.inl i::r=>.cons (og.mpr rfl) (wE r)
 |.inr x::r=>.cons (mX.mpr rfl) (wE r)
theorem Mk{H Hv H' Hv':Hp}(g:bz H Hv H' Hv'){a:ah}{kv:List (List Key×V)}{ak:List (List Mi.Ky×D)}(n:H a=ab)(q:H' a=aa (.dT kv))(nv:Hv' a=ab)(c:eF Hv' ak kv)(ob:Obj) :
 ∃j4,bz H Hv (upd H' a (.frz ob (.dT kv))) j4/\gf j4 (.df ak) (.ref a):=by
 have ne:∀b u,H b=aa u->b≠a:=λb u e z=>by subst z;rw[n]at e;cases e
 have sm:ca Hv' (upd Hv' a (.frz ob (.dT kv))):=qE nv;refine⟨upd Hv' a (.frz ob (.dT kv)),⟨?_,g.vis.trans sm,⟨λb u e=>?_,λb xs e=>?_,λb o u e=>?_,g.vw.cd.put q trivial trivial,λb u e=>?_⟩,λb u e m=>?_⟩,a,ob,kv,rfl,bp,c.same sm⟩
 ·exact g.old.put n q
 ·by_cases hb:b=a
  ·subst hb;rw[bp]at e ⊢;exact e
  ·rw[aE hb]at e ⊢;exact g.vw.sub b u e
 ·by_cases hb:b=a
  ·subst hb;rw[bp]at e;cases e
  ·rw[aE hb]at e ⊢;exact g.vw.tup b xs e
 ·by_cases hb:b=a
  ·subst hb;rw[bp]at e ⊢;exact e
  ·rw[aE hb]at e ⊢;exact g.vw.frz b o u e
 ·by_cases hb:b=a
  ·subst hb;rw[bp]at e;cases e;trivial
  ·rw[aE hb]at e;exact g.vw.nv b u e
 ·rw[aE (ne b u e)];exact g.hid b u e m
theorem NV{t:TE}{m:Mi.EW}(h:AW M qN t m):AW M qV (Fm t) (Mi.uD m):=λe σ H Hv Q I q=>
 h e σ H Hv _ I ((au.mp q).mono λw z v H' Hv' g k=>by
  obtain⟨a,o,rfl,n,q1,nv,c⟩:=k;cases w with
  | dt ak=>cases o with
   |dT kv=>
    refine⟨a,kv,rfl,q1,λob=>?_⟩;obtain⟨j4,g',r⟩:=Mk g n q1 nv c ob;exact z (.ref a) _ j4 g' r
   |_=>exact c.elim
  |_=>exact z.elim)
theorem M6(i:Nat)(hm:M i=false):gU M (om (eA i)) (Mi.om i):=λe σ H Hv R I h=>by
 obtain⟨w,he,h⟩:=pw (au.mp h);obtain⟨v,hv,r⟩:=I.nob i w he hm;cases w with
 |df ak=>
  obtain⟨a,ob,kv,rfl,q,c⟩:=r;refine⟨.ref a,hv,a,ob,kv,rfl,I.vw.sub _ _ q,h (wp a ob kv) H Hv (λH Hv=>Hv a=aa (.frz ob (.dT kv))/\eF Hv ak kv) (.refl I.vw) ⟨λi H Hv p v hi=>?_,λi H Hv x H' p v hi y=>?_,λH Hv p v=>?_⟩ ⟨q,c⟩ λH1 Hv1 H2 Hv2 z s v=>⟨s _ _ z.1,z.2.same s⟩⟩
  ·exact⟨v.sub _ _ p.1,by rw[<- P2.len p.2];simpa using hi⟩
  ·obtain⟨rfl,b,k,v',hk,rfl,hb⟩:=y;obtain⟨kd,hkd,e1,_⟩:=P2.xI p.2 hk;refine⟨Hv,.tup (kd.1.map Mi.ui),.refl v,by rw[c9,hkd];rfl,i8.mpr ⟨b,_,rfl,v.tup _ _ hb,?_⟩⟩;have e1:kd.1=k:=e1;rw[e1];exact wE k
  ·exact⟨v.sub _ _ p.1,by rw[<- P2.len p.2];simp⟩
 |_=>exact h.elim
end A
namespace L2
end L2
namespace A
end A
namespace L2
end L2
namespace Rv
end Rv
namespace L2
end L2
namespace A
end A
namespace So
end So
namespace L2
end L2
namespace A
end A
namespace Mi
open PySem
end Mi
namespace L2
open PySem PySem.Spec PyProof.Rows
open PySem.Builtin PySem.Builtin.Str
end L2
namespace A
open PySem L2 PyProof.Rows So
open Mi (D W Rs Fin au)
variable[Tb:bM]
end A
namespace Mi
open PySem
def OE(ys:List Str):Str:=ys.foldl (· ++ ·) nZ
end Mi
namespace L2
open PySem PySem.Spec PyProof.Rows
end L2
namespace A
open PySem L2 PyProof.Rows So
open Mi (D W Rs Fin au)
variable[Tb:bM]
end A
namespace Mi
end Mi
namespace A
open PySem L2 PyProof.Rows
open Mi (D W Rs Fin au)
variable[Tb:bM]
end A
namespace Mi
end Mi
namespace A
open PySem L2 PyProof.Rows
open Mi (D W Rs Fin au)
variable[Tb:bM]{M:Nat->Bool}{κ:Kd}{tr:TA}{a b:Mi.E}
end A
namespace A
end A
namespace A
end A
namespace A
end A
namespace Mi
end Mi
namespace A
open PySem L2 PyProof.Rows
open Mi (D W Rs Fin au Out)
end A
namespace A
end A
namespace L2
open PySem PySem.Spec PyProof.Rows A So
variable[Tb:bM]
def qT(P:bh)(w:a8)(K:aG)(mg:Str->Option ai)(base:aK)(A:bK)(N':List Str)(env:Env)(s:ap)(H:Hp)(outer:List Env):Cx:={ prog:=P,w:=w,K:=K,mg:=mg,base:=base,A:=A.deeper env,N:=N',s₀:=s,H₀:=H,env:=env,outer:=outer,stack:=env::outer,ex:=[],fn:=λ_=>false,calm:=true,pn:=[],xe:=λ_ _=>False }
def Kept(us:List (ah×Obj))(outer:List Env)(H:Hp)(h:aK):Prop:=∀p∈us,h.get? p.1=aa p.2/\H p.1=ab/\p.1∉frs outer
structure xP(x:Str)(ys:List Str)(gs:List V)(sc:d8)(cl:List (Str×ah))(us:List (ah×Obj)):Prop where
 kind:sc.kind=.function
 co:sc.isCoroutine=false
 gen:sc.isGenerator=false
 lB:∀y∈sc.names,y.2≠.cell
 par:sc.names.lookup x=aa .local
 has:∀y,sc.names.lookup y=aa .free->∃c,cl.lookup y=aa c
 inj:∀y z c,cl.lookup y=aa c->cl.lookup z=aa c->y=z
 len:ys.length=gs.length
 cell:∀y c,cl.lookup y=aa c->∃o v,(c,o)∈us/\o.data=.cell v
 val:∀(i:Nat) y g,ys[i]? = aa y->gs[i]? = aa g->sc.names.lookup y=aa .free/\∃c o u,cl.lookup y=aa c/\(c,o)∈us/\o.data=.cell (aa u)/\RelV g u
section
variable{P:bh}{w:a8}{K:aG}{mg:Str->Option ai}{base:aK}{outer:List Env}{H:Hp}{s:ap}{A:bK}{k:Nat}{qual x:Str}{ps:pR}{body:aS}{sc:d8}{cl:List (Str×ah)}{pm ctv:ai}{f c':ah}{ys:List Str}{gs:List V}{us:List (ah×Obj)}
theorem Ih{h1:aK}{tk:Nat}{v:V}{u:ai}(e0:mi P w K mg base A outer s H)(hd:A.handled=ab)(S:xP x ys gs sc cl us)(kp:Kept us outer H s.heap)(rv:RelV v u)
 (hns:h1.Ns s.heap.objs.size λy=>[(x,u)].reverse.lookup y) (hk:∀b o,s.heap.get? b=aa o->h1.get? b=aa o) :
 Inv (qT P w K mg base A (x::ys) (pi qual sc s f c' cl) s H outer) [] (aa v::gs.map aa) H { s with heap:=h1,toks:=tk }:=by
 have noA:∀b:ah,b∉([]:List ah):=λb z=>absurd z (by simp);refine⟨⟨e0.mod,S.kind,rfl,rfl,bA _,S.inj,λy hy=>?_,λy c z=>(nomatch z),λ_=>hd,GS e0.frames,.inr ⟨rfl,rfl⟩,λb z=>absurd z (noA b),e0.bs,e0.bsz,λb _ _=>noA b,λb z=>absurd z (noA b),e0.iq,e0.frf⟩,
  rfl,e0.bare,Un.kept hk,⟨_,hns,λi y w h2 h3 h4=>?_⟩,λy c e=>?_,e0.hok.fresh (bA _),λy c e=>?_,λp hp=>absurd (show p∈([]:List (ah×Obj))from hp) (by simp),e0.hok.kept hk,?_⟩
 ·have hy:sc.names.lookup y=aa .cell\/sc.names.lookup y=aa .free:=hy;rcases hy with hy|hy
  ·exact absurd rfl (S.lB _ (lr hy))
  ·exact S.has y hy
 ·have h2:(x::ys)[i]? = aa y:=h2;cases i with
  |zero=>
   have e:x=y:=by simpa using h2
   subst e;have e2:v=w:=by simpa using h3
   subst e2;exact⟨u,rv,.inl ⟨S.par,by simp⟩⟩
  |succ i=>
   have hy:ys[i]? = aa y:=by simpa using h2
   have h3:(gs.map aa)[i]? = aa (aa w):=by simpa using h3
   rw[c9]at h3;obtain⟨g,hg,e⟩:=gF.mp h3;cases e;obtain⟨n1,c,o,u2,n2,n3,n4,n5⟩:=S.val i y w hy hg;exact⟨u2,n5,.inr ⟨.inr n1,c,n2,o,hk _ _ (kp _ n3).1,n4⟩⟩
 ·obtain⟨o,v2,n1,n2⟩:=S.cell y c e;exact⟨v2,o,hk _ _ (kp _ n1).1,n2⟩
 ·obtain⟨o,v2,n1,n2⟩:=S.cell y c e;exact(kp _ n1).2.1
 ·show(aa v::gs.map aa).length=(x::ys).length;simp[S.len]
theorem JM{u:ai}{v:V}{tb:TE}{Q:VK}(e0:mi P w K mg base A outer s H)(hr:cL (k+1) A)(S:xP x ys gs sc cl us)(kp:Kept us outer H s.heap)
 (ho:(f,pM "<lambda>" qual ps body sc cl pm c' ctv)∈us) (hcd:s.heap.CodeRec (.ref c') qual)
 (hbind:bindArgs (u8 "<lambda>" qual ps body sc cl pm (.ref c') ctv) ⟨[u],[]⟩=pure [(x,u)]) (rv:RelV v u)
 (hb:∀env:Env,cL k (A.deeper env)->env=pi qual sc s f c' cl->PE (qT P w K mg base A (x::ys) env s H outer) body tb) (h:tb (aa v::gs.map aa) H Q) :
 wpAny (model P w) A (call (.ref f) [u]) (CE outer P w H s Q) (λ_ _=>False) s:=by
 refine wpAny_call (PySem.W.kla_callFunE hr.depth (kp _ ho).1 rfl S.co S.gen rfl hcd ?_);rw[hbind];have lim:s.heap.NoLimit:=e0.mod.nolimit.keeps λb o e=>(e0.bs b o e).1;refine bE (wpAny_newFunctionEnv S.lB (λy hy=>by
  have e:y=(x,u):=by simpa using hy
  rw[e];exact S.par) (λh1 hns hsb=>⟨lim.fresh _ hsb,?_⟩) S.kind)
 show codeAny _ _ (.expr body (pi qual sc s f c' cl)) _ _;have hk:∀b o,s.heap.get? b=aa o->h1.get? b=aa o:=λb o e=>hsb.extBut b o (gn (b0 e)) (cA _ e);have J:=Ih (tk:=s.toks+[(x,u)].length) (qual:=qual) (f:=f) (c':=c') e0 hr.hd S kp rv hns hk;refine PySem.W.kla_codeExpr (iH (hb _ (hr.deeper _) rfl [] _ (aa v::gs.map aa) H Q J h) (λk' s' hq=>?_) λ_ _ z=>z.elim);obtain⟨v2,H2,I2,r2,q⟩:=hq;exact⟨v2,H2,I2.os,I2.bare,I2.base,I2.hok,r2,q⟩
end
structure sM(P:bh)(w:a8)(K:aG)(mg:Str->Option ai)(base:aK)(k:Nat)(f:ah)(us:List (ah×Obj))(c':ah)(q:Str)(sp:V->Hp->VK->Prop):Prop where
 fn:∃oc od fd sl,(f,(⟨oc,od,.func fd,sl⟩ : Obj))∈us
 run:∀(A:bK) (outer:List Env) (s:ap) (H:Hp) (u:ai) (v:V) (Q:VK),cL k A->mi P w K mg base A outer s H->Kept us outer H s.heap->H c'=aa (.ext (gp c' q))->RelV v u->sp v H Q ->
  wpAny (model P w) A (call (.ref f) [u]) (CE outer P w H s Q) (λ_ _=>False) s
section
variable{X:Cx}{x:Str}{e:aS}{p pos:Pos}{k i:Nat}{f c':ah}{q:Str}{us:List (ah×Obj)}{te:TE}{sp:V->Hp->VK->Prop}
theorem Kept.inv{ae:List (ah×Obj)}{σ:St}{H:Hp}{s:ap}(I:Inv X ae σ H s)(hx:X.ex=[])(kp:Kept us X.outer X.H₀ X.s₀.heap):Kept us X.stack H s.heap:=λp hp=>by
 obtain⟨h1,h2,h3⟩:=kp p hp;have nx:p.1∉X.ex:=by rw[hx];simp
 refine⟨I.base.keep _ _ h1 h2 h3 nx,I.base.free _ _ h1 h2 nx,λz=>?_⟩;rcases bH.mp (I.rB p.1 z)with y|y
 ·have:=b0 h1;have:=I.ok.above;rw[y]at *;exact absurd (fW ‹_› this) (jh _)
 ·exact h3 y
def Fo(i:Nat)(f c':ah)(q:Str)(te:TE)(sp:V->Hp->VK->Prop):TE:=λσ H Q=>σ[i]? = aa (aa (.ref f))/\te σ H λv H1=>H1 c'=aa (.ext (gp c' q))/\sp v H1 Q
theorem Mq(L:sM X.prog X.w X.K X.mg X.base k f us c' q sp)(kp:Kept us X.outer X.H₀ X.s₀.heap)(hx:X.ex=[])(hr:cL k X.A)(hv:PE X (.Name x p) (eA i))(he:PE X e te)
 (hs:starEach [e] X.env=(false,eval e X.env)::starEach [] X.env:=by rfl) (hpl:(backTo pos (starEach [] X.env)).any (·.1)=false:=by rfl) :
 PE X (.Call (.Name x p) [e] [] pos) (Fo i f c' q te sp):=by
 intro ae s σ H Q I ⟨h1,h2⟩;have fnAt:∀{ae:List (ah×Obj)} {σ:St} {H:Hp} {s:ap},Inv X ae σ H s->PySem.W.FnAt f s.heap:=λI=>by
  obtain⟨oc,od,fd,sl,m⟩:=L.fn;exact⟨oc,od,fd,sl,((kp.inv I hx) _ m).1⟩
 refine sw (aX (hv ae s σ H (λv H1=>v=.ref f/\te σ H1 λv H1=>H1 c'=aa (.ext (gp c' q))/\sp v H1 Q) I ⟨_,h1,rfl,h2⟩) λu s1 ⟨v,H1,I1,r,e1,q1⟩=>?_);subst e1;cases r;refine PySem.W.callWith_F (fnAt I1) ?_ hs hpl;rw[hs];show wpAny _ _ (spliced ((false,eval e X.env)::backTo pos (starEach [] X.env))) _ _ s1;refine vD (aX (he ae s1 σ H1 _ I1 q1) λu2 s2 ⟨v2,H2,I2,r2,q2,q3⟩=>zw ⟨fnAt I2,?_⟩);refine iH (L.run X.A X.stack s2 H2 u2 v2 Q hr I2.env0 (kp.inv I2 hx) q2 r2 q3) (λk' s' hq=>I2.after hq) λ_ _ z=>z.elim
end
open Mi (Kp)
abbrev _root_.Mi.Kp.vs(κ:Kp):List V:=κ.ga.map V.ref
structure rj(P:bh)(w:a8)(K:aG)(mg:Str->Option ai)(base:aK)(k:Nat)(f:ah)(fd:bx)(ps:List Str)(kl:Nat)(spl:List V->V->Hp->VK->Prop)(sp:Kp->Sp):Prop where
 len:∀κ vs H Q E,sp κ vs H Q E->vs.length=ps.length
 run:∀(A:bK) (outer:List Env) (s:ap) (H:Hp) (args:Args) (us:List ai) (vs:List V) (Q:VK) (κ:Kp) (us':List (ah×Obj)),cL k A->mi P w K mg base A outer s H->lw s fd args (ps.zip us)->Vals vs us ->
  sM P w K mg base kl κ.a us' κ.c κ.q (spl κ.vs)->Kept us' outer H s.heap->sp κ vs H Q E0->codeAny (model P w) A (.call (.ref f) args) (CR aB outer P w H s Q E0) s
theorem JN{P:bh}{w:a8}{K:aG}{mg:Str->Option ai}{base:aK}{k kl:Nat}{f:ah}{x qual:Str}{st:bn}{fd:bx}{N ps:List Str}{spl:List V->V->Hp->VK->Prop}{sp:Kp->Sp}(F:bP K x qual st f fd)(S:bU N ps (bq st))
 (len:∀κ vs H Q E,sp κ vs H Q E->vs.length=ps.length)
 (hbody:∀(cdv:ai) (A:bK) (outer:List Env) (s:ap) (H:Hp) (vs:List V) (Q:VK) (κ:Kp) (us':List (ah×Obj)),cL k (A.deeper (envOfC qual (bq st) s.heap.objs.size f cdv)) ->
  sM P w K mg base kl κ.a us' κ.c κ.q (spl κ.vs)->Kept us' outer H s.heap->sp κ vs H Q E0 ->
  ∃t,gc (km aB P w K mg base N qual (bq st) f cdv A outer s H E0).kn (ia st) t/\t { nx:=λ_ H'=>Q .non H',rt:=Q } (start N vs) H) :
 rj P w K mg base (k+1) f fd ps kl spl sp:=by
 obtain⟨oc,od,kV,doc,pm,an,cdv,ct,osl,rfl,lk,hcd⟩:=F.ex;refine⟨len,λA outer s H args us vs Q κ us' hr e0 hb r L kp h=>?_⟩;obtain⟨t,ht,hq⟩:=hbody cdv A outer s H vs Q κ us' (hr.deeper _) L kp h;have old:∀b o,base.get? b=aa o->s.heap.get? b=aa o:=λb o e=>(e0.bs b o e).1;have kx:K.In s.heap:=e0.mod.kin.keeps old;refine codeAny_call_function hr.depth (kx _ _ lk) rfl S.co S.gen rfl (Ga kx hcd) (hb _ _ _ _ (Gj S.kind (λy hy=>?_) λenv he s1 x1=>?_))
 ·rcases S.par y.1 (u0 (a:=y.1) (b:=y.2) hy).1 with z|z
  ·exact .inl z
  ·exact .inr ⟨z,y7 _ _ _ (.inl z)⟩
 ·subst he;refine⟨(e0.mod.nolimit.keeps old).keeps x1.toInCall.keep,codeAny_func ?_⟩;refine iH (ht.kn [] s1 (start N vs) H _ (AK S hr.hd e0 (len _ _ _ _ _ h) r x1) hq) (λfl s' hs=>?_) λe s' hs=>hs;cases fl with
  |ret u=>obtain⟨v,σ',H',J,rv,q⟩:=hs;exact⟨v,H',J.os,J.bare,J.base,J.hok,rv,q⟩
  |next=>obtain⟨σ',H',J,q⟩:=hs;exact⟨.non,H',J.os,J.bare,J.base,J.hok,rfl,q⟩
  |brk=>obtain⟨_,_,_,q⟩:=hs;exact gW q
  |cont=>obtain⟨_,_,_,q⟩:=hs;exact gW q
structure py(X:Cx)(x:Str)(ρ:List Nat)(ys:List Str)(sc:d8)(cl:List (Str×ah)):Prop where
 kind:sc.kind=.function
 co:sc.isCoroutine=false
 gen:sc.isGenerator=false
 lB:∀y∈sc.names,y.2≠.cell
 par:sc.names.lookup x=aa .local
 clo:∀p∈cl,X.env.cells.lookup p.1=aa p.2
 has:∀y,sc.names.lookup y=aa .free->∃c,cl.lookup y=aa c
 len:ys.length = ρ.length
 ix:∀(i j:Nat) y,ρ[i]? = aa j->ys[i]? = aa y->X.N[j]? = aa y/\sc.names.lookup y=aa .free/\(X.env.kindOf y=aa .cell\/X.env.kindOf y=aa .free)
section
variable{X:Cx}{fx lx qual:Str}{e:aS}{ps:pR}{body:aS}{sc:d8}{cl:List (Str×ah)}{c T fa:ah}{p pos gX:Pos}{k kl:Nat}{ρ:List Nat}{ys pps:List Str}{te tb:TE}{fd:bx}{spl:List V->V->Hp->VK->Prop}{sp:Kp->Sp}
def xD(T:ah)(q:Str)(ρ:List Nat)(te:TE)(sp:Kp->Sp):TE:=λσ H Q=>te σ H λv H1=>∃(tps:Array ai) (ga:List ah),H1 T=aa (.tbl q tps)/\f9 H1/\(∀(i:Nat) (j:Nat),ρ[i]? = aa j->∃a:ah,ga[i]? = aa a/\σ[j]? = aa (aa (V.ref a)))/\ga.length = ρ.length /\
 ∀H2 f c',Tab T q H1 H2->H2 c'=aa (.ext (gp c' q))->H2 f=ab->sp ⟨f,c',q,ga⟩ [v,.ref f] H2 Q E0
theorem KH{ae:List (ah×Obj)}{σ:St}{H:Hp}{s:ap}{f c':ah}{pm ctv:ai}{ga:List ah}(I:Inv X ae σ H s)(hfn:∀x,X.fn x=true)(S:py X lx ρ ys sc cl)(hf:s.heap.get? f=aa (pM "<lambda>" qual ps body sc cl pm c' ctv))(fp:gK X ae H f)
 (hga:∀(i:Nat) (j:Nat),ρ[i]? = aa j->∃a:ah,ga[i]? = aa a/\σ[j]? = aa (aa (V.ref a))) (hgl:ga.length = ρ.length)
 (hbind:∀(pm:ai) (c':ah) (ctv u:ai),bindArgs (u8 "<lambda>" qual ps body sc cl pm (.ref c') ctv) ⟨[u],[]⟩=pure [(lx,u)])
 (hb:∀(A:bK) (f c':ah) (s:ap) (H:Hp) (env:Env) (outer:List Env),cL kl (A.deeper env)->env=pi qual sc s f c' cl->PE (qT X.prog X.w X.K X.mg X.base A (lx::ys) env s H outer) body tb)
 (hsp:∀gs v H Q,spl gs v H Q->tb (aa v::gs.map aa) H Q) :
 ∃us,sM X.prog X.w X.K X.mg X.base (kl+1) f us c' qual (spl (ga.map V.ref))/\Kept us X.stack H s.heap:=by
 have GY:∀b,b≠X.env.locals->b∉X.fs->b∉frs X.stack:=λb h1 h2 z=>by
  rcases bH.mp (I.rB b z)with y|y
  ·exact h1 y
  ·exact h2 y
 have cfs:∀y c,X.env.cells.lookup y=aa c->c∉X.fs:=λy c e z=>by
  obtain⟨_,o,ho,_⟩:=I.ok.iq.mem z;exact absurd (fW (b0 ho) (I.ok.cab y c (hfn y) e)) (jh _)
 let us:List (ah×Obj):=(f,pM "<lambda>" qual ps body sc cl pm c' ctv)::cl.filterMap λyc=>(s.heap.get? yc.2).map λo=>(yc.2,o);have mem:∀y c o,cl.lookup y=aa c->s.heap.get? c=aa o->(c,o)∈us:=λy c o h1 h2=>by
  refine dJ _ (uZ.mpr ⟨(y,c),lr h1,?_⟩);simp[h2]
 have kp:Kept us X.stack H s.heap:=λp hp=>by
  rcases bH.mp hp with rfl|hp
  ·exact⟨hf,fp.1,GY f fp.2.1 fp.2.2.1⟩
  ·obtain⟨⟨y,c2⟩,h1,h2⟩:=uZ.mp hp;obtain⟨o,h3,rfl⟩:=gF.mp h2;have hc:X.env.cells.lookup y=aa c2:=S.clo _ h1;exact⟨h3,I.jk y c2 hc,GY c2 (I.mn y c2 hc) (cfs y c2 hc)⟩
 have clo:∀y c,cl.lookup y=aa c->X.env.cells.lookup y=aa c:=λy c e=>S.clo (y,c) (lr e);have SC:xP lx ys (ga.map V.ref) sc cl us:=by
  refine⟨S.kind,S.co,S.gen,S.lB,S.par,S.has,λy z c h1 h2=>I.ok.inj y z c (clo y c h1) (clo z c h2),by rw[S.len,aM,hgl],λy c e=>?_,λi y g h1 h2=>?_⟩
  ·obtain⟨v,o,ho,hd⟩:=I.cell y c (clo y c e);exact⟨o,v,mem y c o e ho,hd⟩
  ·have hi:i < ρ.length:=by rw[<- S.len];exact(cv.mp h1).1
   have hj:ρ[i]? = aa ρ[i]:=by simp[hi]
   obtain⟨n1,n2,n3⟩:=S.ix i _ y hj h1;obtain⟨a,h3,h4⟩:=hga i _ hj;rw[c9,h3]at h2;cases h2;obtain⟨m,hm,hl⟩:=I.loc;have vis:qL X.env.scope y:=by
    rcases n3 with z|z
    ·exact .inr (.inl z)
    ·exact .inr (.inr z)
   obtain⟨u2,r2,lk⟩:=hl _ y _ n1 h4 vis;obtain⟨c2,hc2⟩:=S.has y n2;refine⟨n2,?_⟩;rcases lk with ⟨z,_⟩|⟨_,c3,e3,o,ho,hd⟩
   ·rcases n3 with y1|y1
    ·rw[z]at y1;cases y1
    ·rw[z]at y1;cases y1
   ·rw[clo y c2 hc2]at e3;cases e3;exact⟨c2,o,u2,hc2,mem y c2 o hc2 ho,hd,r2⟩
 refine⟨us,⟨⟨_,_,_,_,dj⟩,λA outer s3 H3 u v Q hr e0 kp3 hc3 rv h=>?_⟩,kp⟩;have hrec:s3.heap.CodeRec (.ref c') qual:=by obtain⟨⟨o,vs,t,e1,e2,e3⟩,_⟩:=e0.hok c' _ hc3;exact⟨c',o,vs,t,rfl,e1,e2,e3⟩
 exact JM e0 hr SC kp3 dj hrec (hbind pm c' ctv u) rv (λenv h1 h2=>hb A f c' s3 H3 env outer h1 h2) (hsp _ _ _ _ h)
theorem ML(F:rj X.prog X.w X.K X.mg X.base k fa fd pps (kl+1) spl sp)(hr:cL k X.A)(hg:Gl X fx)(hm:X.mg fx=aa (.ref fa))(hkp:kG X.K (.ref fa)=true)(hbd:Binds X.K fd pps [])(he:PE X e te)
 (hc:X.env.code=.ref c) (C:iG X.base c T) (hB:BM X.mg X.base) (hdef:defaultsOf ps X.env=([],[])) (hq:X.env.qual ++ "<lambda>" = qual) (hcl:closureFor sc X.env=pure cl) (hfn:∀x,X.fn x=true) (S:py X lx ρ ys sc cl)
 (hbind:∀(pm:ai) (c':ah) (ctv u:ai),bindArgs (u8 "<lambda>" qual ps body sc cl pm (.ref c') ctv) ⟨[u],[]⟩=pure [(lx,u)])
 (hb:∀(A:bK) (f c':ah) (s:ap) (H:Hp) (env:Env) (outer:List Env),cL kl (A.deeper env)->env=pi qual sc s f c' cl->PE (qT X.prog X.w X.K X.mg X.base A (lx::ys) env s H outer) body tb)
 (hsp:∀gs v H Q,spl gs v H Q->tb (aa v::gs.map aa) H Q)
 (hdb:(fx==("__debug__" : Str))=false:=by decide) (hs1:starEach [e,.Lambda ps body sc gX] X.env=(false,eval e X.env)::starEach [.Lambda ps body sc gX] X.env:=by rfl)
 (hs2:starEach [.Lambda ps body sc gX] X.env=(false,eval (.Lambda ps body sc gX) X.env)::starEach [] X.env:=by rfl) (hpl:(backTo pos (starEach [.Lambda ps body sc gX] X.env)).any (·.1)=false:=by rfl) :
 PE X (.Call (.Name fx p) [e,.Lambda ps body sc gX] [] pos) (xD T qual ρ te sp):=by
 intro ae s σ H Q I h;refine sw (yb I hg hm ?_ hdb);refine F9 (h₀:=X.base) I.ok.mod.kin hkp ?_ hs1 hpl;rw[hs1];show wpAny _ _ (spliced ((false,eval e X.env)::backTo pos (starEach [.Lambda ps body sc gX] X.env))) _ _ s;refine vD (aX (he ae s σ H _ I h) λu s1 ⟨v,H1,I1,r1,q1⟩=>?_);obtain⟨tps,ga,hT,ck,hga,hgl,q2⟩:=q1;rw[hs2];show wpAny _ _ (spliced ((false,eval (.Lambda ps body sc gX) X.env)::backTo pos (starEach [] X.env))) _ _ s1;refine vD (Kh I1 hc C ck hT hB hdef hq hcl λf c' ctv pm s2 H2 tab hc' hf I2 fpf=>zw ⟨I2.fe,?_⟩);obtain⟨us,L,kp⟩:=KH (spl:=spl) (qual:=qual) I2 hfn S hf fpf hga hgl hbind hb hsp;have q3:=q2 H2 f c' tab hc' fpf.1;have r2:Vals [v,.ref f] ([u,.ref f]++[]):=.cons r1 (.cons rfl .nil);have hl:([u,.ref f]++[]:List ai).length=pps.length:=by rw[<- r2.length];exact F.len _ _ _ _ _ q3
 show wpAny _ _ (call (.ref fa) [u,.ref f]) _ _ s2;refine wpAny_call (vn (F.run X.A X.stack s2 H2 ⟨[u,.ref f],[]⟩ _ _ Q ⟨f,c',qual,ga⟩ us hr I2.env0 (hbd s2 [u,.ref f] I2.fe hl) r2 L kp q3) λr s' hq=>?_);cases r with
 |error e=>exact hq.elim
 |ok fl=>
  cases fl with
  |ret u=>exact I2.after hq
  |next=>exact gW hq
  |brk=>exact gW hq
  |cont=>exact gW hq
end
end L2
namespace Mi
def nH(κ:Kp)(i:Nat)(f:Fn)(a:E):E:=λe=>match e[i]? with
 |some (aa (.fn κ' aF))=>if κ' = κ then(a e).bind λx=>(f (.d x::aF.map W.d)).bind k9 else .no
 |_=>.no
def isRef:D->Bool
 |.lst _=>true
 |.tup _=>true
 |_=>false
def tY:List Nat->Env->Rs (List D)
 |[],_=>.ok []
 | j::r,e=>match e[j]? with
  |some (aa (.d d))=>if isRef d=true then(tY r e).bind λds=>.ok (d::ds)else .no
  |_=>.no
def Dz:W->Rs W
 |.dt ak=>if fL (ak.map (·.2))=true then .ok (.dt ak)else .no
 |_=>.no
def w6(F:D->List D->Rs W)(ρ:List Nat)(a:E):EW:=λe=>(a e).bind λx=>(tY ρ e).bind λaF=>(F x aF).bind Dz
def A4(a:E):Fn:=λws=>(a (ws.map aa)).bind λd=>.ok (.d d)
def ur(a:E):E:=λe=>(e5 a e).bind λc=>.ok (.bl (!c))
end Mi
namespace A
open PySem L2 PyProof.Rows So
open Mi (D W Rs Fin au Out Kp)
variable[Tb:bM]
section
variable{M:Nat->Bool}{te:TE}{a:Mi.E}{fn:Mi.Fn}{κ:Kp}{i:Nat}{ρ:List Nat}{T:ah}{q:Str}{F:Kp->Mi.Fn}{F0:D->List D->Rs W}
def uf(fn:Mi.Fn)(gs:List V)(v:V)(H:Hp)(Q:VK):Prop:=aC fn (v::gs) H Q E0
theorem Dt{H:Hp}:∀{aF:List D} {ga:List ah},P2 (λd a=>Rep H d (.ref a)) aF ga->P2 (gf H) (aF.map W.d) (ga.map V.ref)
 |_,_,.nil=>.nil
 |_,_,.cons h t=>.cons h (Dt t)
theorem JK(hM:M i=false)(ha:AE M qV te a):AE M qV (Fo i κ.a κ.c κ.q te (uf fn κ.vs)) (Mi.nH κ i fn a):=λe σ H Hv Q I h=>by
 unfold Mi.nH at h;cases he:e[i]? with
 |none=>rw[he]at h;exact h.elim
 |some o=>
  cases o with
  |none=>rw[he]at h;exact h.elim
  |some w=>
   cases w with
   |fn κ' aF=>
    rw[he]at h;by_cases hk:κ' = κ
    ·subst hk;simp only[jE]at h;obtain⟨v,q,rfl,hc,rc⟩:=I.nob i _ he hM;refine⟨q,ha e σ H Hv _ I ((au.mp h).mono λx hx v H1 Hv1 g1 rx=>⟨g1.vw.sub _ _ (g1.vis _ _ hc),Hv1,_,g1.vw,.cons rx (Dt (rc.imp λ_ _ z=>jr g1.vis z)),(au.mp hx).mono λw hw v2 H2 Hv2 g2 k=>?_⟩)⟩;cases w with
     |d y=>exact hw v2 H2 Hv2 (g1.trans g2) (KM.mono (κ:=qV) g1.old k)
     |_=>exact hw.elim
    ·simp only[hk,ik]at h;exact h.elim
   |_=>rw[he]at h;exact h.elim
theorem Fd{e:Mi.Env}{σ:L2.St}{H Hv:Hp}(I:R0 M e σ H Hv):∀{ρ:List Nat} (_:∀j∈ρ,M j=false) {Q:List D->Prop},Fin (Mi.tY ρ e) Q->∃aF ga,P2 (λd a=>Rep Hv d (V.ref a)) aF ga/\(∀(i j:Nat),ρ[i]? = aa j->∃a:ah,ga[i]? = aa a/\σ[j]? = aa (aa (V.ref a)))/\ga.length = ρ.length/\Q aF
 |[],_,Q,h=>⟨[],[],.nil,λi j z=>by simp at z,rfl,h⟩
 |j::r,hM,Q,h=>by
  unfold Mi.tY at h;cases he:e[j]? with
  |none=>rw[he]at h;exact h.elim
  |some o=>
   cases o with
   |none=>rw[he]at h;exact h.elim
   |some w=>
    cases w with
    |d d=>
     rw[he]at h;by_cases hd:Mi.isRef d=true
     ·simp only[hd,jE]at h;obtain⟨aF,ga,h1,h2,h3,h4⟩:=Fd I (λk hk=>hM k (dJ _ hk)) (au.mp h);obtain⟨v,hv,rv⟩:=I.nob j _ he (hM j dj);have rv:Rep Hv d v:=rv;obtain⟨b,rfl⟩ : ∃b,v=V.ref b:=by
       cases d with
       |lst ds=>obtain⟨b,_,e,_⟩:=i3.mp rv;exact⟨b,e⟩
       |tup ds=>obtain⟨b,_,e,_⟩:=i8.mp rv;exact⟨b,e⟩
       |_=>cases hd
      refine⟨d::aF,b::ga,.cons rv h1,λi k hk=>?_,by simp[h3],h4⟩;cases i with
      |zero=>
       have:j=k:=by simpa using hk
       subst this;exact⟨b,rfl,hv⟩
      |succ i=>exact h2 i k (by simpa using hk)
     ·simp only[hd,ik]at h;exact h.elim
    |_=>rw[he]at h;exact h.elim
theorem Lx{H Hv H' Hv':Hp}{b:ah}{kv:List (List Key×V)}(v:Vw H Hv)(g:bz H Hv H' Hv')(hn:H b=ab)(ho:H' b=aa (.dT kv)):bz H Hv H' (λc=>if c=b then ab else Hv' c):=by
 have ne:∀{c o},Hv c=aa o->c≠b:=λ{c o} e z=>by subst z;have:=v.sub _ _ e;rw[hn]at this;cases this
 have get:∀{c o},(if c=b then ab else Hv' c)=aa o->Hv' c=aa o:=λ{c o} e=>by
  split at e
  ·cases e
  ·exact e
 refine⟨g.old,λc o e=>?_,⟨λc o e=>g.vw.sub c o (get e),λc xs e=>?_,λc q u e=>?_,g.vw.cd,λc o e=>g.vw.nv c o (get e)⟩,λc o e n=>?_⟩
 ·show(if c=b then ab else Hv' c)=aa o;rw[bc (ne e)];exact g.vis c o e
 ·show(if c=b then ab else Hv' c)=_;rw[bc (λz=>by subst z;rw[ho]at e;cases e)];exact g.vw.tup c xs e
 ·show(if c=b then ab else Hv' c)=_;rw[bc (λz=>by subst z;rw[ho]at e;cases e)];exact g.vw.frz c q u e
 ·show(if c=b then ab else Hv' c)=ab;split
  ·rfl
  ·exact g.hid c o e n
theorem Eg{H H':Hp}(t:∀a xs,H a=aa (.tup xs)->H' a=aa (.tup xs)):∀{ak:List (List Key×D)} {kv:List (List Key×V)},Mi.fL (ak.map (·.2))=true->eF H ak kv->eF H' ak kv
 |_,_,_,.nil=>.nil
 |p::r,_,hi,.cons h k=>by
  rw[cS,Mi.fL,ji]at hi;exact .cons ⟨h.1,yv t hi.1 h.2⟩ (Eg t hi.2 k)
theorem Kj(hM:∀j∈ρ,M j=false)(hTb:(T,q)∈Tb.l)(O6:∀(κ:Kp) (x:D) (aF:List D),F κ [.d x,.fn κ aF]=F0 x aF)(ha:AE M qP te a):AW M qN (xD T q ρ te λκ=>b8 (F κ)) (Mi.w6 F0 ρ a):=λe σ H Hv Q I h=>
 ha e σ H Hv _ I ((au.mp h).mono λx hx v H1 Hv1 g1 rx=>by
  have I1:=I.grow g1;obtain⟨aF,ga,rc,hga,hgl,hq⟩:=Fd I1 hM (au.mp hx);obtain⟨tps,hT⟩:=g1.vw.cd.has (T,q) hTb;refine⟨tps,ga,hT,g1.vw.cd,hga,hgl,λH2 f c' tab hc' hf=>?_⟩;have g2:=OH g1.vw tab;have rx2:qP H H2 Hv1 (.d x) v:=KG.go g2 rx;have full:ca Hv1 (ic H2):=λb o z=>jq (g2.vw.sub b o z) (g2.vw.nv b o z);refine⟨ic H2,[.d x,.fn ⟨f,c',q,ga⟩ aF],.all g2.vw.cd,.cons (RB.MZ g2.vw rx2) (.cons ⟨rfl,jq hc' trivial,rc.imp λ_ _ z=>jr full z⟩ .nil),?_⟩;show Fin (F ⟨f,c',q,ga⟩ [.d x,.fn ⟨f,c',q,ga⟩ aF]) _;rw[O6];refine(au.mp hq).mono λw hd v3 H3 Hv3 g3 k=>?_;cases w with
  |dt ak=>
   have hd:Fin (if Mi.fL (ak.map (·.2))=true then Rs.ok (W.dt ak)else Rs.no) _:=hd;by_cases hi:Mi.fL (ak.map (·.2))=true
   ·rw[bb hi]at hd;obtain⟨b,o,rfl,n,q3,nv,c⟩:=k;cases o with
    |dT kv=>
     have g4:=Lx g2.vw (ON g2.vw g3.old g3.vw.cd) n q3;have c:eF Hv3 ak kv:=c;refine hd (.ref b) H3 _ (g1.trans (g2.trans g4)) ⟨b,.dT kv,rfl,g1.old.free (g2.old.free n),q3,bb rfl,?_⟩;exact Eg g4.vw.tup hi (c.same g3.vw.sub)
    |_=>exact c.elim
   ·rw[bc hi]at hd;exact hd.elim
  |_=>exact hd.elim)
end
theorem JW{X:Cx}{a:aS}{ta:TE}{pos:Pos}(ha:PE X a ta):PE X (.UnaryOp .Not a pos) (λσ H Q=>ta σ H λx H'=>∃k,qW X.K x H' k/\Q (.bl (!k)) H'):=by intro ae s σ H Q I h;refine UnaryOp_ (aX (ha ae s σ H _ I h) λv s1 ⟨x,H1,I1,r1,q1⟩=>?_);exact not_of (aX (E2 ae s1 σ H1 x v (λk H'=>Q (.bl (!k)) H') I1 r1 q1) λc s2 ⟨H2,I2,q2⟩=>⟨.bl (!c),H2,I2,rfl,q2⟩)
theorem LY{K:aG}{M:Nat->Bool}{ta:TE}{a:Mi.E}(ha:AE M qP ta a):AE M qV (λσ H Q=>ta σ H λx H'=>∃k,qW K x H' k/\Q (.bl (!k)) H') (Mi.ur a):=λe σ H Hv Q I h=>
 oN ha e σ H Hv (λk H'=>Q (.bl (!k)) H') I ((au.mp h).mono λk hk H1 Hv1 g1=>hk _ H1 Hv1 g1 eZ)
end A
namespace L2
open PySem PySem.Spec PyProof.Rows A So
theorem py.of{X:Cx}{x:Str}{ρ:List Nat}{ys:List Str}{sc:d8}{cl:List (Str×ah)}(kind:sc.kind=.function)(co:sc.isCoroutine=false)(gen:sc.isGenerator=false)(par:sc.names.lookup x=aa .local)(lB:∀y∈sc.names,y.2≠.cell)
 (clo:∀p∈cl,X.env.cells.lookup p.1=aa p.2) (has:sc.names.all (λp=>!(decide (p.2=.free))||(cl.map (·.1)).contains p.1)=true) (len:ys.length = ρ.length)
 (ix:(bQ ρ.length).all (λi=>match ρ[i]?,ys[i]? with
  |some j,aa y=>decide (X.N[j]? = aa y)&&(decide (sc.names.lookup y=aa .free)&&decide (X.env.kindOf y=aa .cell))
  |_,_=>false)=true):py X x ρ ys sc cl:=by
 refine⟨kind,co,gen,lB,par,clo,λy hy=>?_,len,λi j y h1 h2=>?_⟩
 ·have:=nP.mp has _ (lr hy);simp only[decide_true,Bool.not_true,vt,List.contains_iff_mem]at this;obtain⟨⟨z,c⟩,hm,e⟩:=cq.mp this;have e:z=y:=e;subst e;cases q:cl.lookup z with
  |some c2=>exact⟨c2,rfl⟩
  |none=>
   have key:∀l:List (Str×ah),(z,c)∈l->l.lookup z≠ab:=λl=>by
    induction l with
    |nil=>intro h;cases h
    |cons p r ih=>
     obtain⟨u,v⟩:=p;intro h;rw[y4];split
     ·exactλz=>by cases z
     ·rename_i hb;rcases bH.mp h with w|w
      ·cases w;rw[qG]at hb;cases hb
      ·exact ih w
   exact absurd q (key cl hm)
 ·have hi:i < ρ.length:=(cv.mp h1).1;have:=nP.mp ix i (gD.mpr hi);rw[h1,h2]at this;simp only[ji,pA]at this;exact⟨this.1,this.2.1,.inl this.2.2⟩
theorem K8{cs:List (Str×ah)}{y z:Str}{c d:ah}(h1:cs.lookup y=aa c)(h2:cs.lookup z=aa d):∀p∈[(y,c),(z,d)],cs.lookup p.1=aa p.2:=λp hp=>by
 rcases bH.mp hp with rfl|hp
 ·exact h1
 ·rw[bX.mp hp];exact h2
end L2
namespace A
open PySem L2 PyProof.Rows So
open Mi (D W Rs Fin au Out Kp)
variable[Tb:bM]
theorem LU{tb:TE}{a:Mi.E}(ha:AE (λ_=>false) qV tb a):∀(gs:List V) (v:V) (H:Hp) (Q:VK),uf (Mi.A4 a) gs v H Q->tb (aa v::gs.map aa) H Q:=λgs v H Q ⟨Hv,ws,vw,p,h⟩=>by
 have get:∀(i:Nat) (w:W),(ws.map aa)[i]? = aa (aa w)->ws[i]? = aa w:=λi w e=>by
  rw[c9]at e;obtain⟨z,e1,e2⟩:=gF.mp e;cases e2;exact e1
 have:=ha (ws.map aa) ((v::gs).map aa) H Hv Q ⟨vw,by rw[aM,aM,p.len],λi w e _=>?_,λi w e z=>by cases z⟩ ((au.mp h).mono λd z v H' Hv' g k=>z v H' Hv' g k)
 ·exact this
 ·obtain⟨u,h1,h2⟩:=p.getL (get i w e);exact⟨u,by rw[c9,h1];rfl,h2⟩
end A
namespace L2
open PySem PySem.Spec PyProof.Rows A So
variable[Tb:bM]
structure xB(P:bh)(w:a8)(K:aG)(mg:Str->Option ai)(base:aK)(k:Nat)(x:Str)(ps:List Str)(kl:Nat)(spl:List V->V->Hp->VK->Prop)(sp:Mi.Kp->Sp):Prop where
 ex:∃(f:ah) (fd:bx),mg x=aa (.ref f)/\kG K (.ref f)=true/\Binds K fd ps []/\rj P w K mg base k f fd ps kl spl sp
theorem bW.Od{K:aG}{mg:Str->Option ai}{k kl:Nat}{x:Str}{st:bn}{ps:List Str}{spl:List V->V->Hp->VK->Prop}{sp:Mi.Kp->Sp}(F:bW K mg x st ps)(P:bh)(w:a8)(base:aK)
 (h:∀f fd,bP K x x st f fd->rj P w K mg base k f fd ps kl spl sp):xB P w K mg base k x ps kl spl sp:=by
 obtain⟨f,fd,h1,h2,h3,_,h4⟩:=F.ex;exact⟨f,fd,h1,h2,h3,h f fd h4⟩
theorem L9{X:Cx}{fx lx qual:Str}{e:aS}{ps:pR}{body:aS}{sc:d8}{cl:List (Str×ah)}{c T:ah}{p pos gX:Pos}{k kl:Nat}{ρ:List Nat}{ys pps:List Str}{te tb:TE}{spl:List V->V->Hp->VK->Prop}{sp:Mi.Kp->Sp}
 (C':xB X.prog X.w X.K X.mg X.base k fx pps (kl+1) spl sp) (hr:cL k X.A) (hg:Gl X fx) (he:PE X e te)
 (hc:X.env.code=.ref c) (C:iG X.base c T) (hB:BM X.mg X.base) (hdef:defaultsOf ps X.env=([],[])) (hq:X.env.qual ++ "<lambda>" = qual) (hcl:closureFor sc X.env=pure cl) (hfn:∀x,X.fn x=true) (S:py X lx ρ ys sc cl)
 (hbind:∀(pm:ai) (c':ah) (ctv u:ai),bindArgs (u8 "<lambda>" qual ps body sc cl pm (.ref c') ctv) ⟨[u],[]⟩=pure [(lx,u)])
 (hb:∀(A:bK) (f c':ah) (s:ap) (H:Hp) (env:Env) (outer:List Env),cL kl (A.deeper env)->env=pi qual sc s f c' cl->PE (qT X.prog X.w X.K X.mg X.base A (lx::ys) env s H outer) body tb)
 (hsp:∀gs v H Q,spl gs v H Q->tb (aa v::gs.map aa) H Q)
 (hdb:(fx==("__debug__" : Str))=false:=by decide) (hs1:starEach [e,.Lambda ps body sc gX] X.env=(false,eval e X.env)::starEach [.Lambda ps body sc gX] X.env:=by rfl)
 (hs2:starEach [.Lambda ps body sc gX] X.env=(false,eval (.Lambda ps body sc gX) X.env)::starEach [] X.env:=by rfl) (hpl:(backTo pos (starEach [.Lambda ps body sc gX] X.env)).any (·.1)=false:=by rfl) :
 PE X (.Call (.Name fx p) [e,.Lambda ps body sc gX] [] pos) (xD T qual ρ te sp):=by
 obtain⟨f,fd,h1,h2,h3,F⟩:=C'.ex;exact ML F hr hg h1 h2 h3 he hc C hB hdef hq hcl hfn S hbind hb hsp hdb hs1 hs2 hpl
end L2
namespace A
end A
namespace Mi
end Mi
namespace A
open PySem L2 PyProof.Rows
open Mi (D W Rs Fin au Out)
end A
namespace Mi
end Mi
namespace L2
open PySem PySem.Spec PyProof.Rows
variable{X:Cx}
end L2
namespace A
open PySem L2 PyProof.Rows
variable[Tb:bM]
end A
namespace Mi
end Mi
namespace L2
open PySem PySem.Spec PyProof.Rows
end L2
namespace A
open PySem L2 PyProof.Rows
open Mi (D W Rs Fin au Tg)
variable[Tb:bM]{M:Nat->Bool}{κ:Kd}{K:aG}
end A
namespace Mi
def sY(i:Nat)(c:C)(s r:SN):SN:=λra rb e=>(c (jC i ra rb e)).bind λx=>if x=true then s ra rb e else r ra rb e
end Mi
namespace Zp
open PySem PySem.Spec PyProof.Rows L2 A
open Mi (D W Rs Fin au Out)
variable[Tb:A.bM]{M:Nat->Bool}{i:Nat}{u s1:TS}{r m:Mi.SN}
theorem J2{tt:TT}{c:Mi.C}(hm:M i=false)(hc:AT M tt c)(h1:gL M i (iD s1 u) m)(h:gL M i u r):gL M i (iD (uo tt s1 tG) u) (Mi.sY i c m r):=λH0 Hv0 E σ H Ho p0 p1 p2 ra rb D S f=>by
 obtain⟨Hs,I,s⟩:=S.shown hm;refine hc _ σ H Hs _ I.toR0 ((au.mp f).mono λx hx H1 Hv1 g1=>?_);obtain⟨S1,s1⟩:=S.later g1.old g1.vw.cd;cases x with
 |true=>
  rw[bb rfl];exact h1 H0 Hv0 E σ H1 _ p0 p1 p2 ra rb D S1 (Fin.mono hx λo z=>oa s1 z)
 |false=>
  rw[bc (by simp)];exact h H0 Hv0 E σ H1 _ p0 p1 p2 ra rb D S1 (Fin.mono hx λo z=>oa s1 z)
theorem Kc{a b:TS}(h:gL M i (iD a (iD b u)) m):gL M i (iD (iD a b) u) m:=h
end Zp
namespace Mr
open PySem Mi
def DW:S:=
 (cr (bt (mV 1)) (.n 2)
 (bv (cB (m2 dH (mV 2) (mV 0)))
 rq
 bD))
def gt:Fn:=dc 2 3 DW
def Di:S:=
 (aD (fB (aJ gt [(wD (m2 bd (mV 0) (mC (.int 0)))),(wD (mN bC [(mV 1)]))]))
 (br (wD (mN ki [(cg [aa 1,ab,ab] (bt (m2 bd (mV 0) (mC (.int 1)))) (.t [1,2]) (cB (m2 b9 (mV 2) (mV 0))) (mV 1))]))))
def qZ:Fn:=dc 2 2 Di
def CC:S:=
 (aD (bi 2 (mC (.str "etaoinshrdlucmfwypvbgkqjxz")))
 (aD (bv (cB (m2 fV (m2 bI (mV 0) (mC (.int 4))) (mC (.int 2))))
 (aD (bi 3 (m2 tT (mC (.str "")) (cg [aa 2,aa 0,ab] (gI (mC (.int 8))) (.n 2) c6 (m2 bd (mV 0) (m2 bI (m2 cW (mV 1) (m2 aY (mC (.int 4)) (m2 bY (mC (.int 3)) (mV 2)))) (mC (.int 26)))))))
 (aD (bv (cB (m2 b9 (m2 bI (mV 0) (mC (.int 4))) (mC (.int 0))))
 (br (wD (cg [aa 3,ab] (gI (mV 1)) (.n 1) c6 (eI g6 (mV 0) ab (aa (m2 aY (mV 1) (mC (.int 1))))))))
 bD)
 (br (wD (cg [aa 3,ab] (gI (mV 1)) (.n 1) c6 (eI g6 (mV 0) (aa (m2 kZ (mC (.int 7)) (mV 1))) ab))))))
 bD)
 (aD (bi 4 (m2 bI (m2 cW (mV 0) (mC (.int 4))) (mC (.int 8))))
 (aD (bi 5 (m2 tT (mC (.str "")) (cg [aa 2,aa 0,ab] (gI (mV 4)) (.n 2) c6 (m2 bd (mV 0) (m2 bI (m2 aY (m2 aY (m2 cW (mV 1) (mC (.int 32))) (m2 bY (mC (.int 5)) (mV 2))) (m2 bY (mV 2) (mV 2))) (mC (.int 26)))))))
 (aD (bi 6 (m2 bI (m2 cW (mV 0) (mC (.int 256))) (m2 aY (mV 4) (mC (.int 1)))))
 (br (wD (cg [aa 5,aa 2,aa 6,aa 0,ab] (gI (mV 1)) (.n 4) c6 (m2 aY (m2 aY (eI g6 (mV 0) ab (aa (mV 2))) (m2 bd (mV 1) (m2 bI (m2 aY (m2 cW (mV 3) (mC (.int 7))) (m2 bY (mC (.int 5)) (mV 4))) (mC (.int 26))))) (eI g6 (mV 0) (aa (mV 2)) ab))))))))))
def r9:Fn:=eS 2 7 CC
def yo:S:=
 (aD (kU 3 (FM (mV 2) (mC (.bl true))))
 (aD (bi 4 (mN bC [(mV 2)]))
 (aD (kB 20 (e5 (mV 4))
 (aD (qA 5 4)
 (cr (bt (mV 1)) (.t [6,7])
 (bv (cF (cB (m2 b9 (mV 6) (mV 5))) (cB (fK 3 (mV 7))))
 (aD (da 3 (mV 7) (mC (.bl true)))
 (ce 4 (mV 7)))
 bD))))
 (br (wD (cg [aa 3,ab] (bt (mV 0)) (.n 1) (cB (lF 0 (mV 1))) (mV 1)))))))
def lc:Fn:=eS 3 8 yo
def E3:S:=
 (aD (fB (aJ gt [(wD (m2 bd (mV 0) (mC (.int 0)))),(wD (mN bC [(mV 1)]))]))
 (br (wD (aJ lc [(wD (m2 bd (mV 0) (mC (.int 0)))),(wD (m2 bd (mV 0) (mC (.int 1)))),(wD (mV 1))]))))
def qM:Fn:=eS 2 2 E3
def Fc:S:=
 (aD (kU 1 (λ_=>.ok (.dk [])))
 (cr (bt (mV 0)) (.n 2)
 (aD (bv (cB (lF 1 (mV 2)))
 rq
 bD)
 (da 1 (mV 2) (mC (.bl true))))))
def sd:Fn:=dc 1 3 Fc
def Cd:S:=(br (wD (mN yI [(cg [aa 2,ab] (bt (aJ qM [(wD (mV 0)),(wD (mV 1))])) (.n 1) c6 (m2 eR (mV 1) (mV 0)))])))
def oX:Fn:=dc 3 3 Cd
def DZ:S:=
 (aD (bv (cB (m2 fV (mV 1) (mN d3 [(mV 0)])))
 (br (wD (m2 bd (mV 0) (mV 1))))
 bD)
 (aD (bi 2 (m2 aY (mC (.int 30011)) (m2 bY (m2 bY (mC (.int 709)) (mV 1)) (mV 1))))
 (aD (bv (cB (m2 nF (mN d3 [(mV 0)]) (mC (.int 0))))
 (bi 2 (m2 aY (mV 2) (m2 bY (m2 bI (m2 bd (mV 0) (mC (.int 0))) (mC (.int 99991))) (m2 aY (m2 aY (m2 bY (mV 1) (mV 1)) (m2 bY (mC (.int 2)) (mV 1))) (mC (.int 5))))))
 bD)
 (br (wD (mV 2))))))
def gH:Fn:=dc 2 3 DZ
def Ay:S:=
 (aD (bi 2 (cg [ab] (gI (mV 1)) (.n 0) c6 (mV 0)))
 (aD (bi 3 (mN bC []))
 (aD (bi 4 (m2 bI (mV 0) (mC (.int 2147483647))))
 (aD (cr (gI (mV 1)) (.n 5)
 (aD (bi 4 (m2 bI (m2 aY (m2 aY (m2 bY (mV 4) (mC (.int 48271))) (m2 bY (mC (.int 7)) (mV 5))) (mC (.int 1))) (mC (.int 2147483647))))
 (sU 3 2 (m2 bI (m2 cW (mV 4) (mC (.int 32))) (mN d3 [(mV 2)])))))
 (br (wV 3))))))
def ql:Fn:=eS 2 6 Ay
def Db:S:=
 (aD (bi 2 (m2 aY (mC (.int 1)) (m2 bI (aJ gH [(wD (mV 0)),(wD (mC (.int 0)))]) (mV 1))))
 (aD (bi 3 (aJ r9 [(wD (aJ gH [(wD (mV 0)),(wD (mC (.int 1)))])),(wD (mV 2))]))
 (aD (bi 4 (aJ ql [(wD (aJ gH [(wD (mV 0)),(wD (mC (.int 2)))])),(wD (mV 2))]))
 (aD (bi 5 (m2 bd (mN bC [(mC (.int 4)),(mC (.int 1)),(mC (.int 2)),(mC (.int 3)),(mC (.int 2)),(mC (.int 3))]) (m2 bI (aJ gH [(wD (mV 0)),(wD (mC (.int 3)))]) (mC (.int 6)))))
 (aD (bi 6 (mN bC []))
 (aD (cr (gI (mV 2)) (.n 7)
 (cr (gI (mV 2)) (.n 8)
 (aD (bi 9 (aJ gH [(wD (mV 0)),(wD (m2 aY (m2 aY (mC (.int 4)) (m2 cW (m2 bY (mN iu [(mV 7),(mV 8)]) (m2 kZ (mN iu [(mV 7),(mV 8)]) (mC (.int 1)))) (mC (.int 2)))) (mN lK [(mV 7),(mV 8)])))]))
 (bv (cF (cB (m2 fV (m2 bd (mV 4) (mV 7)) (m2 bd (mV 4) (mV 8)))) (cB (m2 fV (m2 bI (m2 cW (m2 bI (m2 bY (mV 9) (mC (.int 48271))) (mC (.int 2147483647))) (mC (.int 16))) (mC (.int 4))) (mV 5))))
 (ce 6 (mN dTup [(m2 bd (mV 3) (mV 7)),(m2 bd (mV 3) (mV 8))]))
 bD))))
 (br (wD (mN dTup [(mN ki [(mV 3)]),(mN ki [(mV 6)])])))))))))
def qX:Fn:=dc 2 10 Db
def qI(F:Fn):S:=
 (aD (bv (jS (cB (m1 (ee ["str"]) (mV 1))) (cB (m1 (ee ["int"]) (mV 1))))
 (aD (bv (jS (cB (m2 fQ (m1 (ee ["bool"]) (mV 0)) (m1 (ee ["bool"]) (mV 1)))) (cB (m2 fQ (m1 (ee ["str"]) (mV 0)) (m1 (ee ["str"]) (mV 1)))))
 (br (wD (mC (.bl false))))
 bD)
 (br (wD (k8 (m1 (ee ["int","str"]) (mV 0)) (m2 b9 (mV 0) (mV 1))))))
 bD)
 (aD (bv (jS (cB (m2 fQ (m1 (ee ["list"]) (mV 0)) (m1 (ee ["list"]) (mV 1)))) (i4 (cB (m1 (ee ["list","tuple"]) (mV 0)))))
 (br (wD (mC (.bl false))))
 bD)
 (aD (bv (cB (m2 fQ (mN d3 [(mV 0)]) (mN d3 [(mV 1)])))
 (br (wD (mC (.bl false))))
 bD)
 (aD (cr (xi (mV 0) (mV 1)) (.t [2,3])
 (bv (i4 (cB (aJ F [(wD (mV 2)),(wD (mV 3))])))
 (br (wD (mC (.bl false))))
 bD))
 (br (wD (mC (.bl true))))))))
def dF:Nat->Fn
 |0=>ED
 |n+1=>dc 2 4 (qI (dF n))
def As:S:=
 (aD (bi 1 (mN bC []))
 (aD (cr (md (mV 0)) (.t [2,3])
 (l8 1 (cg [aa 3,ab] (bt (eI rO (mV 0) (aa (m2 aY (mV 2) (mC (.int 1)))) ab)) (.n 1) c6 (mN dTup [(mV 0),(mV 1)]))))
 (br (wV 1))))
def rF:Fn:=eS 1 4 As
def Ff:S:=(br (wD (k8 (sT oY oY (mC (.int 1)) (mN d3 [(mV 0)]) (mC (.int 8))) (mN v6 [(cg [ab] (bt (mV 0)) (.n 0) c6 (m2 eR (mV 0) (mC (.str "abcdefghijklmnopqrstuvwxyz"))))]))))
def qo:Fn:=dc 1 1 Ff
def Cz:S:=
 (aD (fB (aJ gt [(wD (m2 bd (mV 0) (mC (.int 0)))),(wD (mN bC [(mV 1)]))]))
 (br (wD (mN ki [(cg [aa 1,ab,ab] (bt (m2 bd (mV 0) (mC (.int 1)))) (.t [1,2]) (cB (m2 b9 (mV 1) (mV 0))) (mV 2))]))))
def qR:Fn:=dc 2 2 Cz
def AC:S:=
 (aD (bi 2 (mN d9 [(mV 1)]))
 (aD (cr (gI (mN d3 [(m2 bd (mV 0) (mC (.int 0)))])) (.n 3)
 (cr (bt (m2 bd (mV 0) (mC (.int 1)))) (.t [4,5])
 (bv (cF (cB (m2 eR (mV 5) (mV 2))) (cB (m2 dH (mV 4) (mV 2))))
 (ce 2 (mV 4))
 bD)))
 (br (wV 2))))
def ml:Fn:=eS 2 6 AC
def DU:S:=
 (aD (bi 4 (aJ ml [(wD (mV 0)),(wD (m2 aY (mN bC [(mV 1),(mV 2)]) (mN d9 [(mV 3)])))]))
 (aD (kU 5 (λ_=>.ok (.dk [])))
 (aD (cr (bt (mV 4)) (.n 6)
 (da 5 (mV 6) (m2 aY (mN bC [(mV 6)]) (cg [aa 6,ab,ab] (bt (m2 bd (mV 0) (mC (.int 1)))) (.t [1,2]) (cB (m2 b9 (mV 2) (mV 0))) (mV 1)))))
 (aD (bi 7 (mN bC [(mV 1)]))
 (aD (cr (gI (mN d3 [(mV 4)])) (.n 8)
 (cr (bt (mV 4)) (.n 6)
 (aD (bi 9 (cg [aa 7,ab] (bt (ku 5 (mV 6))) (.n 1) (cB (m2 eR (mV 1) (mV 0))) (mV 1)))
 (bv (cB (m2 nF (mN d3 [(mV 9)]) (mC (.int 0))))
 (bi 7 (m2 aY (mV 7) (cg [aa 7,aa 3,ab] (bt (ku 5 (mV 6))) (.n 2) (cF (cB (m2 dH (mV 2) (mV 0))) (cB (m2 dH (mV 2) (mV 1)))) (mV 2))))
 bD))))
 (br (wD (m2 dH (mV 2) (mV 7)))))))))
def lJ:Fn:=dc 4 10 DU
def Fg:S:=
 (aD (bi 1 (mN bC [(mN bC [])]))
 (aD (cr (bt (mV 0)) (.n 2)
 (bi 1 (m2 aY (mV 1) (cg [aa 2,ab] (bt (mV 1)) (.n 1) c6 (m2 aY (mV 1) (mN bC [(mV 0)]))))))
 (br (wD (mV 1)))))
def oG:Fn:=dc 1 3 Fg
def Ew:S:=
 (aD (fB (aJ gt [(wD (mV 0)),(wD (mV 1))]))
 (fB (aJ sd [(wD (mV 1))])))
def nu:Fn:=dc 2 2 Ew
def EQ:S:=
 (aD (fB (aJ nu [(wD (m2 bd (mV 0) (mC (.int 0)))),(wD (m2 aY (mN d9 [(mV 1)]) (mN d9 [(mV 2)])))]))
 (br (wD (mN ki [(cg [aa 1,aa 2,ab] (bt (m2 bd (mV 0) (mC (.int 0)))) (.n 2) (cF (cB (m2 dH (mV 2) (mV 0))) (cB (m2 dH (mV 2) (mV 1)))) (mV 2))]))))
def rG:Fn:=dc 3 3 EQ
def CM:S:=(br (wD (cg [ab] (bt (aJ qR [(wD (mV 0)),(wD (mV 1))])) (.n 0) c6 (mN dTup [(mV 0),(mC (.bl true))]))))
def kY:Fn:=eS 2 2 CM
def Dq:S:=(br (wD (cg [ab] (bt (aJ qZ [(wD (mV 0)),(wD (mV 1))])) (.n 0) c6 (mN dTup [(mV 0),(mC (.bl false))]))))
def kW:Fn:=eS 2 2 Dq
def EO:S:=
 (aD (Ba (.t [3,4]) (mV 1))
 (aD (bi 5 (m2 dH (mV 3) (mV 2)))
 (aD (bi 6 (kg (e5 (mV 4)) (aJ oX [(wD (mV 0)),(wD (mV 3)),(wD (mV 2))]) (mV 5)))
 (aD (bi 7 (kg (e5 (mV 5)) (aJ kY [(wD (mV 0)),(wD (mV 3))]) (mN bC [])))
 (aD (bi 8 (kg (e5 (mV 6)) (aJ kW [(wD (mV 0)),(wD (mV 3))]) (mN bC [])))
 (br (wD (m2 aY (mV 7) (mV 8)))))))))
def oV:Fn:=dc 3 9 EO
def ue:Fn:=A4 (aJ oV [(wD (mV 1)),(wD (mV 0)),(wD (mV 2))])
def xF(κ:Kp):S:=
 (aD (kU 2 (λ_=>.ok (.dt [])))
 (aD (bi 3 (mN bC []))
 (aD (cr (bt (mV 0)) (.n 4)
 (aD (da 2 (mV 4) (mC .non))
 (ce 3 (mV 4))))
 (aD (kB 40 (e5 (mV 3))
 (aD (lO 5 3 (mC (.int 0)))
 (cr (bt (nH κ 1 ue (mV 5))) (.n 4)
 (bv (cB (fK 2 (mV 4)))
 (aD (da 2 (mV 4) (mV 5))
 (ce 3 (mV 4)))
 bD))))
 (br (wV 2))))))
def sR(κ:Kp):Fn:=eS 2 6 (xF κ)
def qB(x:D)(aF:List D):Rs W:=sR ⟨0,0, "",[]⟩ [.d x,.fn ⟨0,0, "", []⟩ aF]
def Dd:S:=
 (aD (bi 3 (m2 aY (aJ kY [(wD (mV 0)),(wD (mV 1))]) (aJ kW [(wD (mV 0)),(wD (mV 1))])))
 (br (w6 qB [0,2] (mV 3))))
def lE:Fn:=eS 3 4 Dd
def DD:S:=(br (wD (cg [aa 0,ab] (om 1) (.n 1) (cB (m2 b9 (m2 bd (mV 1) (mC (.int 0))) (mV 0))) (mV 1))))
def na:Fn:=eS 2 2 DD
def Aw:S:=
 (aD (fB (aJ gt [(wD (m2 bd (mV 0) (mC (.int 0)))),(wD (mN bC [(mV 1)]))]))
 (br (wD (aJ lc [(wD (m2 bd (mV 0) (mC (.int 0)))),(wD (cg [ab,ab] (bt (m2 bd (mV 0) (mC (.int 1)))) (.t [0,1]) c6 (mN dTup [(mV 1),(mV 0)]))),(wD (mV 1))]))))
def n9:Fn:=eS 2 2 Aw
def CK:S:=
 (aD (bi 2 (mN bC []))
 (aD (cr (bt (mV 1)) (.n 3)
 (l8 2 (aJ n9 [(wD (mV 0)),(wD (mV 3))])))
 (br (wV 2))))
def lM:Fn:=eS 2 4 CK
def Co:S:=
 (aD (bi 5 (aJ lM [(wD (mV 0)),(wD (m2 aY (mN bC [(mV 3),(mV 4)]) (mN d9 [(mV 2)])))]))
 (br (wD (cg [aa 5,aa 3,aa 4,ab] (bt (mV 1)) (.n 3) (cF (cB (m2 eR (mV 3) (mV 0))) (cB (m2 dH (mV 3) (mN dTup [(mV 1),(mV 2)])))) (mV 3)))))
def lX:Fn:=eS 5 6 Co
def BI:S:=
 (aD (fB (aJ nu [(wD (m2 bd (mV 0) (mC (.int 0)))),(wD (m2 aY (mN bC [(mV 1),(mV 2)]) (mN d9 [(mV 3)])))]))
 (br (wD (ur (aJ na [(wD (mV 2)),(uD (jQ lE [(wD (mV 0)),(wD (mV 1)),(wD (mV 3))]))])))))
def nq:Fn:=dc 4 4 BI
def CA:S:=(br (wD (sK (aJ nq [(wD (mV 0)),(wD (mV 3)),(wD (mV 4)),(wD (m2 aY (aJ lX [(wD (mV 0)),(wD (mV 1)),(wD (mV 2)),(wD (mV 3)),(wD (mV 4))]) (mN d9 [(mV 2)])))]))))
def lh:Fn:=dc 5 5 CA
def BF:S:=(br (wD (kg (cB (m2 eR (mV 2) (aJ lM [(wD (mV 0)),(wD (m2 aY (mN bC [(mV 3)]) (mN d9 [(mV 1)])))]))) (mC (.str "tail")) (mC (.str "head")))))
def kq:Fn:=dc 4 4 BF
def BL:S:=
 (aD (bi 3 (aJ rG [(wD (mV 0)),(wD (mV 1)),(wD (mV 2))]))
 (aD (bi 4 (mN bC []))
 (aD (cr (bt (aJ rF [(wD (mV 3))])) (.t [5,6])
 (bv (cB (aJ lh [(wD (mV 0)),(wD (mV 3)),(wD (mV 2)),(wD (mV 5)),(wD (mV 6))]))
 (ce 4 (mN dTup [(mV 5),(mV 6),(aJ kq [(wD (mV 0)),(wD (mV 2)),(wD (mV 5)),(wD (mV 6))]),(aJ kq [(wD (mV 0)),(wD (mV 2)),(wD (mV 6)),(wD (mV 5))])]))
 bD))
 (br (wD (mN dTup [(mV 3),(mN ki [(mV 4)])]))))))
def jw:Fn:=dc 3 7 BL
def EA:S:=
 (aD (bi 2 (mN bC []))
 (aD (bi 3 (mN bC []))
 (aD (cr (md (m2 bd (mV 0) (mC (.int 0)))) (.t [4,5])
 (aD (bi 6 (m2 bI (m2 cW (m2 bI (m2 bY (mV 1) (m2 aY (mC (.int 48271)) (m2 bY (m2 bY (mC (.int 614)) (mV 4)) (mV 4)))) (mC (.int 2147483647))) (mC (.int 16))) (m2 bd (mN bC [(mC (.int 5)),(mC (.int 4)),(mC (.int 9))]) (m2 bI (mV 1) (mC (.int 3))))))
 (aD (bv (cB (m2 b9 (mV 6) (mC (.int 0))))
 (ce 2 (mV 5))
 bD)
 (bv (cB (m2 b9 (mV 6) (mC (.int 1))))
 (ce 3 (mV 5))
 bD))))
 (aD (bv (cB (m2 b9 (m2 bI (m2 cW (mV 1) (mC (.int 3))) (mC (.int 2))) (mC (.int 1))))
 (w5 2)
 bD)
 (q0 (q0 (br (wD (mN bC [(mV 2),(mV 3)])))))))))
def oB:Fn:=eS 2 7 EA
def FA:S:=
 (aD (bi 5 (cg [aa 2,aa 3,ab] (bt (mV 1)) (.n 2) (cF (cB (m2 fQ (mV 2) (mV 0))) (cB (m2 fQ (mV 2) (mV 1)))) (mV 2)))
 (aD (cr (bt (aJ oG [(wD (mV 5))])) (.n 6)
 (bv (cB (aJ lJ [(wD (mV 0)),(wD (mV 2)),(wD (mV 3)),(wD (m2 aY (mV 6) (mV 4)))]))
 (br (wD (mC (.bl false))))
 bD))
 (br (wD (mC (.bl true))))))
def kD:Fn:=dc 5 7 FA
def C5:S:=
 (aD (bv (cB (m2 eR (mV 1) (aJ ml [(wD (mV 0)),(wD (m2 aY (mN bC [(mV 2)]) (mV 3)))])))
 (br (wD (mC (.str "tail"))))
 bD)
 (br (wD (mC (.str "head")))))
def jc:Fn:=dc 4 4 C5
def EB:S:=
 (aD (bi 3 (cg [aa 1,aa 2,ab] (bt (m2 bd (mV 0) (mC (.int 0)))) (.n 2) (cF (cB (m2 dH (mV 2) (mV 0))) (cB (m2 dH (mV 2) (mV 1)))) (mV 2)))
 (aD (bi 4 (mN bC []))
 (aD (cr (md (mV 3)) (.t [5,6])
 (cr (bt (eI g6 (mV 3) (aa (m2 aY (mV 5) (mC (.int 1)))) ab)) (.n 7)
 (bv (cB (aJ kD [(wD (mV 0)),(wD (mV 3)),(wD (mV 6)),(wD (mV 7)),(wD (mV 2))]))
 (aD (bi 8 (aJ jc [(wD (mV 0)),(wD (mV 6)),(wD (mV 7)),(wD (mV 2))]))
 (ce 4 (mN dTup [(mV 6),(mV 7),(mV 8),(aJ jc [(wD (mV 0)),(wD (mV 7)),(wD (mV 6)),(wD (mV 2))])])))
 bD)))
 (br (wD (mN dTup [(mN ki [(mV 3)]),(mN ki [(mV 4)])]))))))
def lC:Fn:=dc 3 9 EB
def AB:S:=
 (aD (bi 1 (aJ qX [(wD (mV 0)),(wD (mC (.int 6)))]))
 (aD (bi 2 (aJ gH [(wD (mV 0)),(wD (mC (.int 33)))]))
 (aD (uR [3,4] (aJ oB [(wD (mV 1)),(wD (m2 cW (mV 2) (mC (.int 2))))]))
 (sS 5 (mN d9 [(mV 3)]) (mN d9 [(mV 4)])
 (oJ 5 6 (aJ jw [(wD (mV 1)),(wD (m2 bd (mV 5) (mC (.int 0)))),(wD (m2 bd (mV 5) (mC (.int 1))))])
 (oJ 5 7 (aJ lC [(wD (mV 1)),(wD (mV 3)),(wD (mV 4))])
 (rZ 5 (jS (i4 (cB (aJ (dF 4) [(wD (mV 6)),(wD (mV 7))]))) (cB (m2 fQ (mV 5) (mN bC [(mV 3),(mV 4)])))) false
 (sY 5 (cB (m2 b9 (m2 bI (mV 2) (mC (.int 2))) (mC (.int 1))))
 (oJ 5 8 (aJ jw [(wD (mV 1)),(wD (mV 4)),(wD (mV 3))])
 (rZ 5 (i4 (cB (aJ (dF 4) [(wD (mV 8)),(wD (aJ lC [(wD (mV 1)),(wD (mV 4)),(wD (mV 3))]))]))) false
 (sZ (tI (tL 5 (br (wD (k8 (aJ (dF 4) [(wD (mV 6)),(wD (mV 7))]) (aJ (dF 4) [(wD (aJ jw [(wD (mV 1)),(wD (mV 3)),(wD (mV 4))])),(wD (mV 7))])))))))))
 (sZ (tI (tL 5 (br (wD (k8 (aJ (dF 4) [(wD (mV 6)),(wD (mV 7))]) (aJ (dF 4) [(wD (aJ jw [(wD (mV 1)),(wD (mV 3)),(wD (mV 4))])),(wD (mV 7))])))))))))))))))
def xg:Fn:=dc 1 9 AB
end Mr
namespace Hp2
open Mi
def ER(κ κ':Kp)(aF:List D)(e e':Mi.Env):Prop:=e[1]? = aa (aa (.fn κ aF))/\e'=e.set 1 (aa (.fn κ' aF))
section
variable{κ κ':Kp}{aF:List D}{e e':Mi.Env}
theorem ER.get(h:ER κ κ' aF e e'){i:Nat}(hi:1≠i):e'[i]? = e[i]?:=by rw[h.2,dC hi]
theorem ER.one(h:ER κ κ' aF e e'):e'[1]? = aa (aa (.fn κ' aF)):=by rw[h.2,lq (cv.mp h.1).1]
theorem ER.set(h:ER κ κ' aF e e'){i:Nat}(hi:1≠i)(w:Option W):ER κ κ' aF (e.set i w) (e'.set i w):=⟨by rw[dC (dN hi)];exact h.1,by rw[h.2,List.set_comm _ _ hi]⟩
end
variable(κ κ':Kp)(aF:List D)
inductive OR:Rs Out->Rs Out->Prop
 |nx {e e':Mi.Env}:ER κ κ' aF e e'->OR (.ok (.nx e)) (.ok (.nx e'))
 |ct {e e':Mi.Env}:ER κ κ' aF e e'->OR (.ok (.ct e)) (.ok (.ct e'))
 |bk {e e':Mi.Env}:ER κ κ' aF e e'->OR (.ok (.bk e)) (.ok (.bk e'))
 |rt (w:W):OR (.ok (.rt w)) (.ok (.rt w))
 |ex (x:k5):OR (.ex x) (.ex x)
 |no:OR .no .no
def Sr(s s':S):Prop:=∀e e',ER κ κ' aF e e'->OR κ κ' aF (s e) (s' e')
def Ar{α:Type}(a a':Mi.Env->Rs α):Prop:=∀e e',ER κ κ' aF e e'->a' e'=a e
variable{κ κ' aF}
theorem gA{α:Type}{r:Rs α}{f g:α->Rs Out}(h:∀x,r=.ok x->OR κ κ' aF (f x) (g x)):OR κ κ' aF (r.bind f) (r.bind g):=by
 cases r with
 |ok x=>exact h x rfl
 |ex x=>exact .ex x
 |no=>exact .no
theorem mS{s s' t t':S}(h:Sr κ κ' aF s s')(k:Sr κ κ' aF t t'):Sr κ κ' aF (aD s t) (aD s' t'):=λe e' r=>by
 unfold aD;have q:=h e e' r;generalize s e=a at q ⊢;generalize s' e'=b at q ⊢;cases q with
 |nx z=>exact k _ _ z
 |ct z=>exact .ct z
 |bk z=>exact .bk z
 |rt w=>exact .rt w
 |ex x=>exact .ex x
 |no=>exact .no
theorem Fq{it it':I}{i:Nat}{s s':S}(hi:1≠i)(ha:Ar κ κ' aF it it')(h:Sr κ κ' aF s s'):Sr κ κ' aF (cr it (.n i) s) (cr it' (.n i) s'):=λe e' r=>by
 unfold cr;rw[ha e e' r];refine gA λxs hxs=>?_;clear hxs
 induction xs generalizing e e' with
 |nil=>exact .nx r
 |cons x t ih=>
  show OR κ κ' aF ((s (e.set i (aa (.d x)))).bind _) ((s' (e'.set i (aa (.d x)))).bind _);have q:=h _ _ (r.set hi (aa (.d x)));generalize s (e.set i (aa (.d x)))=a at q ⊢;generalize s' (e'.set i (aa (.d x)))=b at q ⊢;cases q with
  |nx z=>exact ih _ _ z
  |ct z=>exact ih _ _ z
  |bk z=>exact .nx z
  |rt w=>exact .rt w
  |ex x=>exact .ex x
  |no=>exact .no
theorem MO{c c':C}{n:Nat}{s s':S}(ha:Ar κ κ' aF c c')(h:Sr κ κ' aF s s'):Sr κ κ' aF (kB n c s) (kB n c' s'):=by
 unfold kB
 induction n with
 |zero=>exactλe e' r=>.no
 |succ n ih=>
  intro e e' r;unfold hG;rw[ha e e' r];refine gA λb _=>?_;cases b with
  |false=>exact .nx r
  |true=>
   simp only[jE];have q:=h _ _ r;generalize s e=a at q ⊢;generalize s' e'=b at q ⊢;cases q with
   |nx z=>exact ih _ _ z
   |ct z=>exact ih _ _ z
   |bk z=>exact .nx z
   |rt w=>exact .rt w
   |ex x=>exact .ex x
   |no=>exact .no
theorem Nc{c c':C}{s s' t t':S}(ha:Ar κ κ' aF c c')(h:Sr κ κ' aF s s')(k:Sr κ κ' aF t t'):Sr κ κ' aF (bv c s t) (bv c' s' t'):=λe e' r=>by
 unfold bv;rw[ha e e' r];refine gA λb _=>?_;cases b with
 |true=>exact h _ _ r
 |false=>exact k _ _ r
theorem Np:Sr κ κ' aF bD bD:=λe e' r=>.nx r
theorem Ob{a a':EW}(ha:Ar κ κ' aF a a'):Sr κ κ' aF (br a) (br a'):=λe e' r=>by
 unfold br;rw[ha e e' r];exact gA λw _=>.rt w
theorem Ol{i:Nat}{a a':EW}(hi:1≠i)(ha:Ar κ κ' aF a a'):Sr κ κ' aF (kU i a) (kU i a'):=λe e' r=>by
 unfold kU;rw[ha e e' r];exact gA λw _=>.nx (r.set hi _)
theorem Ko{i:Nat}{a a':E}(hi:1≠i)(ha:Ar κ κ' aF a a'):Sr κ κ' aF (bi i a) (bi i a'):=λe e' r=>by
 unfold bi;rw[ha e e' r];exact gA λw _=>.nx (r.set hi _)
theorem li{i:Nat}(hi:1≠i):Ar κ κ' aF (mV i) (mV i):=λe e' r=>by unfold mV;rw[r.get hi]
theorem wN{i:Nat}(hi:1≠i):Ar κ κ' aF (wV i) (wV i):=λe e' r=>by unfold wV;rw[r.get hi]
theorem C9{i:Nat}(hi:1≠i):Ar κ κ' aF (λe=>getL e i) (λe=>getL e i):=λe e' r=>by show getL e' i=getL e i;unfold getL;rw[r.get hi]
theorem tq{α:Type}{x:Rs α}:Ar κ κ' aF (λ_=>x) (λ_=>x):=λe e' r=>rfl
theorem uT{α β:Type}{a a':Mi.Env->Rs α}{f:α->Rs β}(ha:Ar κ κ' aF a a'):Ar κ κ' aF (λe=>(a e).bind f) (λe=>(a' e).bind f):=λe e' r=>by
 show(a' e').bind f=(a e).bind f;rw[ha e e' r]
theorem BQ{i:Nat}{a a' b b':E}(hi:1≠i)(ha:Ar κ κ' aF a a')(hb:Ar κ κ' aF b b'):Sr κ κ' aF (da i a b) (da i a' b'):=λe e' r=>by
 unfold da;rw[hb e e' r,ha e e' r,wN hi e e' r];exact gA λx _=>gA λy _=>gA λz _=>gA λw _=>.nx (r.set hi _)
theorem Nm{p:Prop}[Decidable p]{x y:Rs Out}(h:OR κ κ' aF x y):OR κ κ' aF (be p x) (be p y):=by
 unfold be;split
 ·exact h
 ·exact .no
theorem CG{i:Nat}{a a':E}(hi:1≠i)(ha:Ar κ κ' aF a a'):Sr κ κ' aF (ce i a) (ce i a'):=λe e' r=>by
 unfold ce;rw[ha e e' r,show getL e' i=getL e i from C9 hi e e' r];exact gA λx _=>gA λy _=>Nm (.nx (r.set hi _))
theorem Oq{i j:Nat}{a a':E}(hi:1≠i)(hj:1≠j)(ha:Ar κ κ' aF a a'):Sr κ κ' aF (lO i j a) (lO i j a'):=λe e' r=>by
 unfold lO;rw[ha e e' r,show getL e' j=getL e j from C9 hj e e' r];exact gA λx _=>gA λy _=>gA λz _=>gA λw _=>.nx ((r.set hj _).set hi _)
theorem Jq{i:Nat}{a a':E}(hi:1≠i)(ha:Ar κ κ' aF a a'):Ar κ κ' aF (fK i a) (fK i a'):=λe e' r=>by
 unfold fK;rw[ha e e' r,wN hi e e' r]
theorem J0{f:Fn}{a a':E}(ha:Ar κ κ' aF a a'):Ar κ κ' aF (nH κ 1 f a) (nH κ' 1 f a'):=λe e' r=>by
 unfold nH;rw[r.1,r.one,ha e e' r];simp
theorem Ny{a b:Rs Out}(h:OR κ κ' aF a b):a.bind iV=b.bind iV:=by cases h<;>rfl
theorem _root_.Mr.ME(κ:Kp)(x:D)(aF:List D):Mr.sR κ [.d x,.fn κ aF]=Mr.qB x aF:=by
 have h:Sr κ ⟨0,0, "",[]⟩ aF (Mr.xF κ) (Mr.xF ⟨0,0, "", []⟩):=by refine mS (Ol (by decide) tq) (mS (Ko (by decide) tq) (mS (Fq (by decide) (uT (li (by decide))) (mS (BQ (by decide) (li (by decide)) tq) (CG (by decide) (li (by decide))))) (mS (MO (uT (li (by decide))) (mS (Oq (by decide) (by decide) tq) (Fq (by decide) (uT (J0 (li (by decide)))) (Nc (uT (Jq (by decide) (li (by decide)))) (mS (BQ (by decide) (li (by decide)) (li (by decide))) (CG (by decide) (li (by decide)))) Np)))) (Ob (wN (by decide))))))
 have r:ER κ ⟨0,0, "",[]⟩ aF [aa (.d x),aa (.fn κ aF),ab,ab,ab,ab] [aa (.d x),aa (.fn ⟨0,0, "", []⟩ aF),ab,ab,ab,ab]:=⟨rfl,rfl⟩;have q:=h _ _ r;exact congrArg (be ((2:Nat)=2)) (Ny q)
end Hp2
namespace A
open PySem L2 PyProof.Rows
section
variable{P:bh}{w:a8}{K:aG}{mg:Str->Option ai}{base:aK}[Tb:bM]
variable{x qual:Str}{st:bn}{f:ah}{fd:bx}{N ps:List Str}{k:Nat}{m:Mi.S}
theorem ft(M:Nat->Bool)(F:bP K x qual st f fd)(S:bU N ps (bq st))
 (hb:∀(cdv:ai) (A:bK) (outer:List Env) (s:ap) (H:Hp) (E:XK),cL k (A.deeper (envOfC qual (bq st) s.heap.objs.size f cdv))->N.Nodup->(A.deeper (envOfC qual (bq st) s.heap.objs.size f cdv)).units+1<cLine->(A.deeper (envOfC qual (bq st) s.heap.objs.size f cdv)).units+64<cLine ->
  ∃t,gc (km aB P w K mg base N qual (bq st) f cdv A outer s H E).kn (ia st) t/\AS M qV t m)
 (hM:∀i,i<ps.length->M i=false:=by decide):bu P w K mg base aB (k+1) f fd ps (aC (Mi.dc ps.length N.length m)):=
 F.ok S (λvs H Q E h=>A7 h) λcdv A outer s H vs Q E hr h=>
  let ⟨t,a,b⟩:=hb cdv A outer s H E hr S.nd (rn hr) hr.units
  ⟨t,a,Cc b hM h⟩
theorem okN(M:Nat->Bool)(F:bP K x qual st f fd)(S:bU N ps (bq st))
 (hb:∀(cdv:ai) (A:bK) (outer:List Env) (s:ap) (H:Hp) (E:XK),cL k (A.deeper (envOfC qual (bq st) s.heap.objs.size f cdv))->N.Nodup->(A.deeper (envOfC qual (bq st) s.heap.objs.size f cdv)).units+1<cLine->(A.deeper (envOfC qual (bq st) s.heap.objs.size f cdv)).units+64<cLine ->
  ∃t,gc (km aB P w K mg base N qual (bq st) f cdv A outer s H E).kn (ia st) t/\AS M qN t m)
 (hM:∀i,i<ps.length->M i=false:=by decide):bu P w K mg base aB (k+1) f fd ps (b8 (Mi.eS ps.length N.length m)):=
 F.ok S (λvs H Q E h=>vV h) λcdv A outer s H vs Q E hr h=>
  let ⟨t,a,b⟩:=hb cdv A outer s H E hr S.nd (rn hr) hr.units
  ⟨t,a,runN b hM h⟩
end
theorem cD{N P:List Str}{sc:d8}(a:sc.kind=.function:=by rfl)(b:sc.isCoroutine=false:=by rfl)(c:sc.isGenerator=false:=by rfl)(d:N.Nodup:=by decide +kernel)(e:N.take P.length=P:=by rfl)
 (f:∀x∈P,sc.names.lookup x=aa .local\/sc.names.lookup x=aa .cell:=by decide +kernel) (g:∀y∈sc.names,y.2≠.free:=by decide +kernel):bU N P sc:=⟨a,b,c,d,e,f,g⟩
section
variable{M:Nat->Bool}[Tb:bM]
theorem ba(i:Nat)(hm:M i=false:=by rfl):AE M qV (eA i) (Mi.mV i):=Ed i hm
theorem aH(i:Nat)(hm:M i=false:=by rfl):AW M qV (eA i) (Mi.wD (Mi.mV i)):=AE.w (Ed i hm)
end
section
variable{X:Cx}{e:aS}{te:TE}{pos pos':Pos}{x:Str}
theorem pS(i:Nat)(he:PE X e te)(hN:X.N.Nodup:=by assumption)(hi:X.N[i]? = aa x:=by rfl)(hx:Loc X.env.scope x:=by exact cC rfl)(hs:swapsWith e (aa (.Name x pos')) pos.line X.env=pure false:=by rfl)
 (hf:X.fn x=true\/X.env.scope.names.lookup x=aa .local:=by first|exact .inl rfl|exact .inr rfl|assumption):PS X (.Assign [.Name x pos'] e pos) (ip te (fJ i)):=kT hN hi hx he hs hf
theorem pG(i:Nat)(hN:X.N.Nodup:=by assumption)(hi:X.N[i]? = aa x:=by rfl)(hx:Loc X.env.scope x:=by exact cC rfl)
 (hf:X.fn x=true\/X.env.scope.names.lookup x=aa .local:=by first|exact .inl rfl|exact .inr rfl|assumption):L2.PG X (.Name x pos) (fJ i):=cZ hN hi hx hf
theorem uU{a:Str}:[a].Nodup:=jZ.mpr ⟨(λh=>nomatch h),List.nodup_nil⟩
theorem j9{a b:Str}(h:a≠b:=by decide):[a,b].Nodup:=jZ.mpr ⟨λz=>h (bX.mp z),uU⟩
theorem pC{k k':Nat}{ps:List Str}{sp:Sp}{es:List aS}{t:TA}(C:bG X.prog X.w X.K X.mg X.base aB k x ps sp)(hr:cL k' X.A)(ha:PA X (e::es) t)(hle:k<=k':=by decide)(hg:Gl X x:=by rfl)
 (hdb:(x==("__debug__" : Str))=false:=by decide) (he:starEach (e::es) X.env=(false,eval e X.env)::starEach es X.env:=by rfl) (hpl:(backTo pos (starEach es X.env)).any (·.1)=false:=by rfl) :
 PE X (.Call (.Name x pos') (e::es) [] pos) (mY sp [] E0 t):=nN C (hr.mono hle) hg mT ha hdb he hpl
theorem aV(i:Nat)(hN:X.N[i]? = aa x:=by rfl)(hv:qL X.env.scope x:=by first|exact cC rfl|exact fZ (cC rfl)|exact fZ (fZ rfl))(hd:(x==("__debug__" : Str))=false:=by decide)
 (hcd:(x==("__classdict__" : Str))=false:=by decide) (hs:starEach [Expr.Name x pos] X.env=(false,eval (.Name x pos) X.env)::starEach [] X.env:=by rfl):PA X [.Name x pos] (fN (eA i) gO):=ao (pv i hN hv hd hcd) a9 hs
theorem pX{a b:aS}{ta tb:TE}(ha:PE X a ta)(hb:PE X b tb)(hs:EE b:=by exactλ_ _=>rfl):PE X (.Subscript a b pos) (mf (qm X.K) ta tb):=Fk Cm ha hb hs
end
end A
namespace n6
open PySem L2 PyProof.Rows A
open Mr
def uA(x:Str):Str:=x ++ ".<locals>." ++ "<lambda>"
def top(i:Nat):bn:=PySem.Challenge.pw_arrowfind_k70_veils_joined.main.body.getD i (.Pass ⟨0,0,0,0⟩)
structure Txt(mg:Str->Option ai):Prop where
 gg:mg "len" = ab
 j5:mg "range" = ab
 qh:mg "max" = ab
 v9:mg "min" = ab
 fS:mg "tuple" = ab
 ed:mg "list" = ab
 kM:mg "isinstance" = ab
 Pt:mg "all" = ab
 xu:mg "any" = ab
 GZ:mg "bool" = ab
 vJ:mg "str" = ab
 G0:mg "int" = ab
 O7:mg "zip" = ab
 zy:mg "enumerate" = ab
 Pu:mg "sorted" = ab
 Pw:mg "reversed" = ab
 Px:mg "set" = ab
 O8:∃t,mg "TAIL" = aa (.str "tail" t)
 O9:∃t,mg "HEAD" = aa (.str "head" t)
section
variable{P:bh}{w:a8}{K:aG}{mg:Str->Option ai}{base:aK}[Tb:bM]
abbrev xE:bn:=top 24
theorem LM:bU ["names","pairs","place","one"] ["names"] (bq xE):=cD
theorem JO{f:ah}{fd:bx}(F:bP K "pairs_of" "pairs_of" xE f fd)(T:Txt mg):bu P w K mg base aB 1 f fd ["names"] (b8 rF):=
 okN (Mo [1]) F LM (λcdv A outer s H E hr nd hu bg=>by
  exact⟨_,(aQ (pS 1 (de a9))
 (aQ (eJ er rfl (Zp.vW rfl T.zy (pv 0)) (iX rfl (dX (pG 2) (dX (cZ (i:=3) nd rfl (fZ rfl)) ie)))
 (a6 (eu (gv fX Gp Gq Du (pv 1) (ao (fu (N':=["one","other"]) (ρ:=[aa 3,ab]) rfl (dG.of rfl (by kernel_rfl)) (dv (oj JH (pv 0) (pz (a7 cO (pv 2) aP)) oZ)) (λ_ _ _ _ _=>(cZ (i:=1) j9 rfl (cC rfl))) (fG rfl) (λ_ _ _ _ _=>iY) (λ_ _ _ _ _=>(ii (ao (pv 0) (aV 1))))) a9)))))
 (a6 (bS (pv 1))))),
  (a5 (iO 1 rfl (dh bf))
 (a5 (eQ (K:=K) (tg:=(.t [2,3])) (Zp.v7 (ba 0)) (by decide)
 (De 1 rfl (AE.nv (eE (K:=K) (tg:=(.n 1)) (gr (AE.p (oA Ks (aq 0) (oS (AE.p (ax cM (aq 2) (AE.p aR)))) oz))) (by decide) jb (jM (a4 (ba 0) (a4 (ba 1) bf)))))))
 (qO 1 rfl)))⟩)
abbrev vY:bn:=top 9
theorem MV:bU ["names","asked","name"] ["names","asked"] (bq vY):=cD
theorem Iq{f:ah}{fd:bx}(F:bP K "refuse_strangers" "refuse_strangers" vY f fd)(T:Txt mg):bu P w K mg base aB 1 f fd ["names","asked"] (aC gt):=
 ft (Mo []) F MV (λcdv A outer s H E hr nd hu bg=>by
  exact⟨_,(a6 (eJ er rfl (dv (pv 1)) (pG 2)
 (a6 (dW (cy (jP bg) (pv 2) (pv 0) rfl)
 (a6 Df)
 d0)))),
  (eQ (K:=K) (tg:=(.n 2)) (io (ba 1)) (by decide)
 (eD (cz (AE.p (ax jy (aq 2) (aq 0))))
 EY
 eG))⟩)
abbrev yH:bn:=top 10
theorem Jt:bU ["asked","stood","name"] ["asked"] (bq yH):=cD
theorem MQ{f:ah}{fd:bx}(F:bP K "refuse_repeats" "refuse_repeats" yH f fd)(T:Txt mg):bu P w K mg base aB 1 f fd ["asked"] (aC sd):=
 ft (Mo [1]) F Jt (λcdv A outer s H E hr nd hu bg=>by
  exact⟨_,(aQ (pS 1 AY)
 (a6 (eJ er rfl (dv (pv 0)) (pG 2)
 (aQ (dW (uN (E5 hu (pv 2) (pv 1)) rfl)
 (a6 Df)
 d0)
 (a6 (qY hu (pv 1) (pv 2) g7 rfl)))))),
  (a5 (uE 1 rfl Cy)
 (eQ (K:=K) (tg:=(.n 2)) (io (ba 0)) (by decide)
 (a5 (eD (h6 (AE.p (D3 1 (ba 2))))
 EY
 eG)
 (rH 1 rfl (ba 2) iS))))⟩)
abbrev xW:bn:=top 11
theorem NM:bU ["names","asked"] ["names","asked"] (bq xW):=cD
theorem Nv{f:ah}{fd:bx}(F:bP K "refuse_wrong_asks" "refuse_wrong_asks" xW f fd)(T:Txt mg)(gY:bG P w K mg base aB 1 "refuse_strangers" ["names","asked"] (aC gt))(zA:bG P w K mg base aB 1 "refuse_repeats" ["asked"] (aC sd)):bu P w K mg base aB 2 f fd ["names","asked"] (aC nu):=
 ft (Mo []) F NM (λcdv A outer s H E hr nd hu bg=>by
  exact⟨_,(aQ (eu (pC gY hr (ao (pv 0) (aV 1))))
 (a6 (eu (pC zA hr (aV 1))))),
  (a5 (lS (AE.p (bZ (az (aH 0) (az (aH 1) bw)))))
 (lS (AE.p (bZ (az (aH 1) bw)))))⟩)
abbrev xc:bn:=top 29
theorem Iy:bU ["net","hidden","held"] ["net","hidden","held"] (bq xc):=cD
theorem OQ{f:ah}{fd:bx}(F:bP K "names_left" "names_left" xc f fd)(T:Txt mg)(qa:bG P w K mg base aB 2 "refuse_wrong_asks" ["names","asked"] (aC nu)):bu P w K mg base aB 3 f fd ["net","hidden","held"] (aC rG):=
 ft (Mo []) F Iy (λcdv A outer s H E hr nd hu bg=>by
  exact⟨_,(aQ (eu (pC qa hr (ao (pX (pv 0) aP) (ao (a7 cO (fM kj rfl T.ed iM (aV 1)) (fM kj rfl T.ed iM (aV 2))) a9))))
 (a6 (bS (fM lI rfl T.fS lz (ao (fu (N':=["hidden","held","name"]) (ρ:=[aa 1,aa 2,ab]) rfl (dG.of rfl (by kernel_rfl)) (dv (pX (pv 0) aP)) (λ_ _ _ _ _=>(cZ (i:=2) (by show(["hidden","held","name"]:List Str).Nodup;decide +kernel) rfl (cC rfl))) (fG rfl) (λ_ _ _ _ _=>(jA (PW.pt (pw_and (cy (jP bg) (pv 2) (pv 0) rfl) (pw_and1 (cy (jP bg) (pv 2) (pv 1) rfl)))))) (λ_ _ _ _ _=>(pv 2))) a9))))),
  (a5 (lS (AE.p (bZ (az (AE.w (ax c8 (aq 0) (AE.p aR))) (az (AE.w (ax cM (AE.np (dg ed (a4 (aq 1) bf))) (AE.np (dg ed (a4 (aq 2) bf))))) bw)))))
 (dQ (AE.w (dg fS (a4 (AE.np (eE (K:=K) (tg:=(.n 2)) (gr (AE.p (ax c8 (aq 0) (AE.p aR)))) (by decide) (lN (cz (AE.p (ax jy (aq 2) (aq 0)))) (cz (AE.p (ax jy (aq 2) (aq 1))))) (ba 2))) bf)))))⟩)
abbrev wf:bn:=top 12
theorem H9:bU ["names","steps","name","found","waiting","here","start","end"] ["names","steps","name"] (bq wf):=cD
theorem MJ{f:ah}{fd:bx}(F:bP K "names_along" "names_along" wf f fd)(T:Txt mg):bu P w K mg base aB 1 f fd ["names","steps","name"] (b8 lc):=
 okN (Mo [3,4]) F H9 (λcdv A outer s H E hr nd hu bg=>by
  exact⟨_,(aQ (kT (i:=3) nd rfl (fZ rfl) (Zp.Mf (pv 2) g7))
 (aQ (pS 4 (de (aV 2)))
 (aQ (AQ er (qj (pv 4) (by intro _;rfl))
 (aQ (pS 5 (tD fX zp zq Ik (pv 4)))
 (a6 (eJ er rfl (dv (pv 1)) (iX rfl (dX (pG 6) (dX (pG 7) ie)))
 (a6 (dW (PW.pt (pw_and (cy (jU bg) (pv 6) (pv 5) (eo _)) (pw_and1 (uN (Dp hu (pv 7) (pv 3)) rfl))))
 (aQ (qY hu (pv 3) (pv 7) g7 rfl)
 (a6 (eu (gv fX kH kI kA (pv 4) (aV 7)))))
 d0))))))
 (a6 (bS (fu (N':=["found","each"]) (ρ:=[aa 3,ab]) rfl (dG.of rfl (by kernel_rfl)) (dv (pv 0)) (λ_ _ _ _ _=>(cZ (i:=1) j9 rfl (cC rfl))) (fG rfl) (λ_ _ _ _ _=>(jA (uN (E5 hu (pv 1) (pv 0)) rfl))) (λ_ _ _ _ _=>(pv 1)))))))),
  (a5 (uE 3 rfl (Zp.Jg (ba 2) iS))
 (a5 (iO 4 rfl (dh (a4 (ba 2) bf)))
 (a5 (Ek 20 (oN (aq 4))
 (a5 (Is 5 4 rfl rfl)
 (eQ (K:=K) (tg:=(.t [6,7])) (io (ba 1)) (by decide)
 (eD (lN (cz (AE.p (ax jO (aq 6) (aq 5)))) (h6 (AE.p (DK 3 (ba 7)))))
 (a5 (rH 3 rfl (ba 7) iS)
 (lp 4 rfl (ba 7)))
 eG))))
 (i0 (AE.w (eE (K:=K) (tg:=(.n 1)) (gr (aq 0)) (by decide) (h6 (AE.p (D3 0 (ba 1)))) (ba 1)))))))⟩)
abbrev yh:bn:=top 8
theorem LG:bU ["net","name"] ["net","name"] (bq yh):=cD
theorem LP{f:ah}{fd:bx}(F:bP K "names_below" "names_below" yh f fd)(T:Txt mg)(gY:bG P w K mg base aB 1 "refuse_strangers" ["names","asked"] (aC gt))(qb:bG P w K mg base aB 1 "names_along" ["names","steps","name"] (b8 lc)):bu P w K mg base aB 2 f fd ["net","name"] (b8 qM):=
 okN (Mo []) F LG (λcdv A outer s H E hr nd hu bg=>by
  exact⟨_,(aQ (eu (pC gY hr (ao (pX (pv 0) aP) (ao (de (aV 1)) a9))))
 (a6 (bS (pC qb hr (ao (pX (pv 0) aP) (ao (pX (pv 0) aP) (aV 1))))))),
  (a5 (lS (AE.p (bZ (az (AE.w (ax c8 (aq 0) (AE.p aR))) (az (AW.nv (AE.w (dh (a4 (ba 1) bf)))) bw)))))
 (i0 (AE.w (fR (az (AE.w (ax c8 (aq 0) (AE.p aR))) (az (AE.w (ax c8 (aq 0) (AE.p aR))) (az (aH 1) bw)))))))⟩)
abbrev vT:bn:=top 14
theorem Nh:bU ["net","name","held"] ["net","name","held"] (bq vT):=cD
theorem OM{f:ah}{fd:bx}(F:bP K "has_held_below" "has_held_below" vT f fd)(T:Txt mg)(zB:bG P w K mg base aB 2 "names_below" ["net","name"] (b8 qM)):bu P w K mg base aB 3 f fd ["net","name","held"] (aC oX):=
 ft (Mo []) F Nh (λcdv A outer s H E hr nd hu bg=>by
  exact⟨_,(a6 (bS (eM (L4 rfl) rfl T.xu boot_any (ao (fu (N':=["held","below"]) (ρ:=[aa 2,ab]) rfl (dG.of rfl (by kernel_rfl)) (dv (pC zB hr (ao (pv 0) (aV 1)))) (λ_ _ _ _ _=>(cZ (i:=1) j9 rfl (cC rfl))) (fG rfl) (λ_ _ _ _ _=>iY) (λ_ _ _ _ _=>(tU (oW bg) (pv 1) (pv 0) rfl))) a9)))),
  (dQ (AE.w (dg xu (a4 (AE.np (eE (K:=K) (tg:=(.n 1)) (gr (AE.np (fR (az (aH 0) (az (aH 1) bw))))) (by decide) jb (ax oE (aq 1) (aq 0)))) bf))))⟩)
abbrev wa:bn:=top 6
theorem Lz:bU ["net","name"] ["net","name"] (bq wa):=cD
theorem LC{f:ah}{fd:bx}(F:bP K "heirs_of" "heirs_of" wa f fd)(T:Txt mg)(gY:bG P w K mg base aB 1 "refuse_strangers" ["names","asked"] (aC gt)):bu P w K mg base aB 2 f fd ["net","name"] (aC qR):=
 ft (Mo []) F Lz (λcdv A outer s H E hr nd hu bg=>by
  exact⟨_,(aQ (eu (pC gY hr (ao (pX (pv 0) aP) (ao (de (aV 1)) a9))))
 (a6 (bS (fM lI rfl T.fS lz (ao (fu (N':=["name","tail","head"]) (ρ:=[aa 1,ab,ab]) rfl (dG.of rfl (by kernel_rfl)) (dv (pX (pv 0) aP)) (λ_ _ _ _ _=>(iX rfl (dX (cZ (i:=1) (by show(["name","tail","head"]:List Str).Nodup;decide +kernel) rfl (cC rfl)) (dX (cZ (i:=2) (by show(["name","tail","head"]:List Str).Nodup;decide +kernel) rfl (cC rfl)) ie)))) (uK (lW rfl (lW rfl uh lH) (tM lH))) (λ_ _ _ _ _=>(jA (cy (jU bg) (pv 1) (pv 0) (eo _)))) (λ_ _ _ _ _=>(pv 2))) a9))))),
  (a5 (lS (AE.p (bZ (az (AE.w (ax c8 (aq 0) (AE.p aR))) (az (AW.nv (AE.w (dh (a4 (ba 1) bf)))) bw)))))
 (dQ (AE.w (dg fS (a4 (AE.np (eE (K:=K) (tg:=(.t [1,2])) (gr (AE.p (ax c8 (aq 0) (AE.p aR)))) (by decide) (cz (AE.p (ax jO (aq 1) (aq 0)))) (ba 2))) bf)))))⟩)
abbrev xS:bn:=top 20
theorem IP:bU ["net","name"] ["net","name"] (bq xS):=cD
theorem Je{f:ah}{fd:bx}(F:bP K "heir_spots" "heir_spots" xS f fd)(T:Txt mg)(zC:bG P w K mg base aB 2 "heirs_of" ["net","name"] (aC qR)):bu P w K mg base aB 3 f fd ["net","name"] (b8 kY):=
 okN (Mo []) F IP (λcdv A outer s H E hr nd hu bg=>by
  exact⟨_,(a6 (bS (fu (N':=["heir"]) (ρ:=[ab]) rfl (dG.of rfl (by kernel_rfl)) (dv (pC zC hr (ao (pv 0) (aV 1)))) (λ_ _ _ _ _=>(cZ (i:=0) uU rfl (cC rfl))) (fG rfl) (λ_ _ _ _ _=>iY) (λ_ _ _ _ _=>(ii (ao (pv 0) (ao g7 a9))))))),
  (i0 (AE.w (eE (K:=K) (tg:=(.n 0)) (gr (AE.p (bZ (az (aH 0) (az (aH 1) bw))))) (by decide) jb (jM (a4 (ba 0) (a4 iS bf))))))⟩)
abbrev yM:bn:=top 5
theorem OC:bU ["net","name"] ["net","name"] (bq yM):=cD
theorem JS{f:ah}{fd:bx}(F:bP K "elders_of" "elders_of" yM f fd)(T:Txt mg)(gY:bG P w K mg base aB 1 "refuse_strangers" ["names","asked"] (aC gt)):bu P w K mg base aB 2 f fd ["net","name"] (aC qZ):=
 ft (Mo []) F OC (λcdv A outer s H E hr nd hu bg=>by
  exact⟨_,(aQ (eu (pC gY hr (ao (pX (pv 0) aP) (ao (de (aV 1)) a9))))
 (a6 (bS (fM lI rfl T.fS lz (ao (fu (N':=["name","tail","head"]) (ρ:=[aa 1,ab,ab]) rfl (dG.of rfl (by kernel_rfl)) (dv (pX (pv 0) aP)) (λ_ _ _ _ _=>(iX rfl (dX (cZ (i:=1) (by show(["name","tail","head"]:List Str).Nodup;decide +kernel) rfl (cC rfl)) (dX (cZ (i:=2) (by show(["name","tail","head"]:List Str).Nodup;decide +kernel) rfl (cC rfl)) ie)))) (uK (lW rfl (lW rfl uh lH) (tM lH))) (λ_ _ _ _ _=>(jA (cy (jU bg) (pv 2) (pv 0) (eo _)))) (λ_ _ _ _ _=>(pv 1))) a9))))),
  (a5 (lS (AE.p (bZ (az (AE.w (ax c8 (aq 0) (AE.p aR))) (az (AW.nv (AE.w (dh (a4 (ba 1) bf)))) bw)))))
 (dQ (AE.w (dg fS (a4 (AE.np (eE (K:=K) (tg:=(.t [1,2])) (gr (AE.p (ax c8 (aq 0) (AE.p aR)))) (by decide) (cz (AE.p (ax jO (aq 2) (aq 0)))) (ba 1))) bf)))))⟩)
abbrev vZ:bn:=top 21
theorem LO:bU ["net","name"] ["net","name"] (bq vZ):=cD
theorem Nd{f:ah}{fd:bx}(F:bP K "elder_spots" "elder_spots" vZ f fd)(T:Txt mg)(zD:bG P w K mg base aB 2 "elders_of" ["net","name"] (aC qZ)):bu P w K mg base aB 3 f fd ["net","name"] (b8 kW):=
 okN (Mo []) F LO (λcdv A outer s H E hr nd hu bg=>by
  exact⟨_,(a6 (bS (fu (N':=["elder"]) (ρ:=[ab]) rfl (dG.of rfl (by kernel_rfl)) (dv (pC zD hr (ao (pv 0) (aV 1)))) (λ_ _ _ _ _=>(cZ (i:=0) uU rfl (cC rfl))) (fG rfl) (λ_ _ _ _ _=>iY) (λ_ _ _ _ _=>(ii (ao (pv 0) (ao g7 a9))))))),
  (i0 (AE.w (eE (K:=K) (tg:=(.n 0)) (gr (AE.p (bZ (az (aH 0) (az (aH 1) bw))))) (by decide) jb (jM (a4 (ba 0) (a4 iS bf))))))⟩)
abbrev yL:bn:=top 19
theorem Jo:bU ["net","spot","held","name","came_down","passes","goes_up","downs","ups"] ["net","spot","held"] (bq yL):=cD
theorem HS{f:ah}{fd:bx}(F:bP K "spots_from" "spots_from" yL f fd)(T:Txt mg)(zE:bG P w K mg base aB 3 "has_held_below" ["net","name","held"] (aC oX))(qc:bG P w K mg base aB 3 "heir_spots" ["net","name"] (b8 kY))(qd:bG P w K mg base aB 3 "elder_spots" ["net","name"] (b8 kW)):bu P w K mg base aB 4 f fd ["net","spot","held"] (aC oV):=
 ft (Mo []) F Jo (λcdv A outer s H E hr nd hu bg=>by
  exact⟨_,(aQ (Bz (pv 1) (iX rfl (dX (pG 3) (dX (pG 4) ie))))
 (aQ (pS 5 (tU (jP bg) (pv 3) (pv 2) rfl))
 (aQ (pS 6 (tQ (qj (pv 4) (by intro _;rfl)) (pC zE hr (ao (pv 0) (ao (pv 3) (aV 2)))) (pv 5)))
 (aQ (pS 7 (tQ (qj (pv 5) (by intro _;rfl)) (pC qc hr (ao (pv 0) (aV 3))) (de a9)))
 (aQ (pS 8 (tQ (qj (pv 6) (by intro _;rfl)) (pC qd hr (ao (pv 0) (aV 3))) (de a9)))
 (a6 (bS (a7 cO (pv 7) (pv 8))))))))),
  (a5 (KZ (K:=K) (.t [3,4]) (by decide) (ba 1))
 (a5 (cU 5 rfl (ax jy (aq 3) (aq 2)))
 (a5 (cU 6 rfl (sL (oN (aq 4)) (bZ (az (aH 0) (az (aH 3) (az (aH 2) bw)))) (ba 5)))
 (a5 (cU 7 rfl (sL (oN (aq 5)) (AE.nv (fR (az (aH 0) (az (aH 3) bw)))) (AE.nv (dh bf))))
 (a5 (cU 8 rfl (sL (oN (aq 6)) (AE.nv (fR (az (aH 0) (az (aH 3) bw)))) (AE.nv (dh bf))))
 (dQ (AE.w (ax cM (aq 7) (aq 8)))))))))⟩)
abbrev wM:bn:=top 18
theorem Bq:bU ["starts","onward","before","waiting","spot","here"] ["starts","onward"] (bq wM):=cD
theorem N5{f:ah}{fd:bx}(F:bP K "spots_walked" "spots_walked" wM f fd)(T:Txt mg):rj P w K mg base 6 f fd ["starts","onward"] 5 (uf ue) (λκ=>b8 (sR κ)):=
 JN F Bq (λκ vs H Q E h=>vV h) (λcdv A outer s H vs Q κ us hr L kp h=>by
  have nd:=Bq.nd;have hu:=rn hr;have bg:=hr.units;exact⟨_,(aQ (pS 2 Ng)
 (aQ (pS 3 (de a9))
 (aQ (eJ er rfl (dv (pv 0)) (pG 4)
 (aQ (qY hu (pv 2) (pv 4) LR rfl)
 (a6 (eu (gv fX kH kI kA (pv 3) (aV 4))))))
 (aQ (AQ er (qj (pv 3) (by intro _;rfl))
 (aQ (pS 5 (gv fX zp zq EG (pv 3) (ao aP a9)))
 (a6 (eJ er rfl (dv (Mq L kp rfl (hr.mono (by decide)) (pv 1) (pv 5))) (pG 4)
 (a6 (dW (uN (Dp hu (pv 4) (pv 2)) rfl)
 (aQ (qY hu (pv 2) (pv 4) (pv 5) rfl)
 (a6 (eu (gv fX kH kI kA (pv 3) (aV 4)))))
 d0))))))
 (a6 (bS (pv 2))))))),
  _root_.A.runN (N:=["starts","onward","before","waiting","spot","here"]) (M:=Mo [2,3]) (a5 (uE 2 rfl No)
 (a5 (iO 3 rfl (dh bf))
 (a5 (eQ (K:=K) (tg:=(.n 4)) (io (ba 0)) (by decide)
 (a5 (rH 2 rfl (ba 4) Lm)
 (lp 3 rfl (ba 4))))
 (a5 (Ek 40 (oN (aq 3))
 (a5 (IM 5 3 rfl rfl (AE.p aR))
 (eQ (K:=K) (tg:=(.n 4)) (io (JK rfl (ba 5))) (by decide)
 (eD (h6 (AE.p (DK 2 (ba 4))))
 (a5 (rH 2 rfl (ba 4) (ba 5))
 (lp 3 rfl (ba 4)))
 eG))))
 (qO 2 rfl))))) (by decide) h⟩)
abbrev wu:bn:=top 17
theorem Fh:bU ["net","one","held","starts"] ["net","one","held"] (bq wu):=cD
theorem Nq{f:ah}{fd:bx}{cc TT:ah}(F:rS K "spots_before" "spots_before" wu cc f fd)(T:Txt mg)(hB:BM mg base)(hC:iG base cc TT)(hTb:(TT,uA "spots_before")∈Tb.l)(zF:xB P w K mg base 6 "spots_walked" ["starts","onward"] 5 (uf ue) (λκ=>b8 (sR κ)))(zG:bG P w K mg base aB 4 "spots_from" ["net","spot","held"] (aC oV))(qc:bG P w K mg base aB 3 "heir_spots" ["net","name"] (b8 kY))(qd:bG P w K mg base aB 3 "elder_spots" ["net","name"] (b8 kW)):bu P w K mg base aB 10 f fd ["net","one","held"] (b8 lE):=
 F.ok Fh (λvs H Q E h=>vV h) (λA outer s H vs Q E hr h=>by
  have nd:=Fh.nd;have hu:=rn hr;have bg:=hr.units;have Pa:=hr.mono (show 6<=_ by decide);have G1:=hr.mono (show 4<=_ by decide);exact⟨_,(aQ (pS 3 (a7 cO (pC qc hr (ao (pv 0) (aV 1))) (pC qd hr (ao (pv 0) (aV 1)))))
 (a6 (bS (L9 (lx := "spot") (ρ:=[0,2]) (ys:=["net","held"]) (kl:=4) (qual:=uA "spots_before") zF Pa rfl (pv 3) rfl hC hB rfl rfl rfl (λ_=>rfl) (py.of rfl rfl rfl rfl (by decide +kernel) (K8 rfl rfl) (by kernel_rfl) rfl (by kernel_rfl)) (λpm c' ctv u=>rfl) (λA f c' s H env outer hrl he=>by subst he;have G1:=hrl.mono (show 4<=_ by decide);exact(nN zG G1 rfl mT (ao (pv 1) (ao (pv 0) (aV 2))))) (LU (bZ (az (aH 1) (az (aH 0) (az (aH 2) bw))))))))),
  _root_.A.runN (N:=["net","one","held","starts"]) (M:=Mo []) (a5 (cU 3 rfl (ax cM (AE.np (fR (az (aH 0) (az (aH 1) bw)))) (AE.np (fR (az (aH 0) (az (aH 1) bw))))))
 (i0 (Kj (by decide) hTb ME (aq 3)))) (by decide) h⟩)
abbrev we:bn:=top 22
theorem OO:bU ["name","before"] ["name","before"] (bq we):=cD
theorem Ka{f:ah}{fd:bx}(F:bP K "spots_of" "spots_of" we f fd)(T:Txt mg):bu P w K mg base aB 1 f fd ["name","before"] (b8 na):=
 okN (Mo []) F OO (λcdv A outer s H E hr nd hu bg=>by
  exact⟨_,(a6 (bS (fu (N':=["name","spot"]) (ρ:=[aa 0,ab]) rfl (dG.of rfl (by kernel_rfl)) (JP (pv 1)) (λ_ _ _ _ _=>(cZ (i:=1) j9 rfl (cC rfl))) (fG rfl) (λ_ _ _ _ _=>(jA (cy (jU bg) (pX (pv 1) aP) (pv 0) (eo _)))) (λ_ _ _ _ _=>(pv 1))))),
  (i0 (AE.w (eE (K:=K) (tg:=(.n 1)) (gU.c (M6 1 rfl)) (by decide) (cz (AE.p (ax jO (AE.p (ax c8 (aq 1) (AE.p aR))) (aq 0)))) (ba 1))))⟩)
abbrev wx:bn:=top 16
theorem MG:bU ["net","one","other","held"] ["net","one","other","held"] (bq wx):=cD
theorem OY{f:ah}{fd:bx}(F:bP K "are_parted" "are_parted" wx f fd)(T:Txt mg)(qa:bG P w K mg base aB 2 "refuse_wrong_asks" ["names","asked"] (aC nu))(zH:bG P w K mg base aB 10 "spots_before" ["net","one","held"] (b8 lE))(zI:bG P w K mg base aB 1 "spots_of" ["name","before"] (b8 na)):bu P w K mg base aB 11 f fd ["net","one","other","held"] (aC nq):=
 ft (Mo []) F MG (λcdv A outer s H E hr nd hu bg=>by
  exact⟨_,(aQ (eu (pC qa hr (ao (pX (pv 0) aP) (ao (a7 cO (de (ao (pv 1) (aV 2))) (fM kj rfl T.ed iM (aV 3))) a9))))
 (a6 (bS (JW (pC zI hr (ao (pv 2) (ao (Mg (pC zH hr (ao (pv 0) (ao (pv 1) (aV 3))))) a9))))))),
  (a5 (lS (AE.p (bZ (az (AE.w (ax c8 (aq 0) (AE.p aR))) (az (AE.w (ax cM (AE.np (dh (a4 (ba 1) (a4 (ba 2) bf)))) (AE.np (dg ed (a4 (aq 3) bf))))) bw)))))
 (dQ (AE.w (LY (AE.np (fR (az (aH 2) (az (NV (Ck (az (aH 0) (az (aH 1) (az (aH 3) bw))))) bw))))))))⟩)
abbrev yC:bn:=top 7
theorem Jl:bU ["net","name"] ["net","name"] (bq yC):=cD
theorem LH{f:ah}{fd:bx}(F:bP K "names_above" "names_above" yC f fd)(T:Txt mg)(gY:bG P w K mg base aB 1 "refuse_strangers" ["names","asked"] (aC gt))(qb:bG P w K mg base aB 1 "names_along" ["names","steps","name"] (b8 lc)):bu P w K mg base aB 2 f fd ["net","name"] (b8 n9):=
 okN (Mo []) F Jl (λcdv A outer s H E hr nd hu bg=>by
  exact⟨_,(aQ (eu (pC gY hr (ao (pX (pv 0) aP) (ao (de (aV 1)) a9))))
 (a6 (bS (pC qb hr (ao (pX (pv 0) aP) (ao (fu (N':=["tail","head"]) (ρ:=[ab,ab]) rfl (dG.of rfl (by kernel_rfl)) (dv (pX (pv 0) aP)) (λ_ _ _ _ _=>(iX rfl (dX (cZ (i:=0) j9 rfl (cC rfl)) (dX (cZ (i:=1) j9 rfl (cC rfl)) ie)))) (uK (lW rfl (lW rfl uh lH) (tM lH))) (λ_ _ _ _ _=>iY) (λ_ _ _ _ _=>(ii (ao (pv 1) (aV 0))))) (aV 1))))))),
  (a5 (lS (AE.p (bZ (az (AE.w (ax c8 (aq 0) (AE.p aR))) (az (AW.nv (AE.w (dh (a4 (ba 1) bf)))) bw)))))
 (i0 (AE.w (fR (az (AE.w (ax c8 (aq 0) (AE.p aR))) (az (AW.nv (AE.w (eE (K:=K) (tg:=(.t [0,1])) (gr (AE.p (ax c8 (aq 0) (AE.p aR)))) (by decide) jb (jM (a4 (ba 1) (a4 (ba 0) bf)))))) (az (aH 1) bw)))))))⟩)
abbrev xb:bn:=top 32
theorem KY:bU ["net","some","uppers","name"] ["net","some"] (bq xb):=cD
theorem NX{f:ah}{fd:bx}(F:bP K "names_over" "names_over" xb f fd)(T:Txt mg)(zJ:bG P w K mg base aB 2 "names_above" ["net","name"] (b8 n9)):bu P w K mg base aB 3 f fd ["net","some"] (b8 lM):=
 okN (Mo [2]) F KY (λcdv A outer s H E hr nd hu bg=>by
  exact⟨_,(aQ (pS 2 (de a9))
 (aQ (eJ er rfl (dv (pv 1)) (pG 3)
 (a6 (eu (gv fX Gp Gq Du (pv 2) (ao (pC zJ hr (ao (pv 0) (aV 3))) a9)))))
 (a6 (bS (pv 2))))),
  (a5 (iO 2 rfl (dh bf))
 (a5 (eQ (K:=K) (tg:=(.n 3)) (io (ba 1)) (by decide)
 (De 2 rfl (AE.nv (fR (az (aH 0) (az (aH 3) bw))))))
 (qO 2 rfl)))⟩)
abbrev wm:bn:=top 31
theorem J4:bU ["net","names","held","one","other","uppers"] ["net","names","held","one","other"] (bq wm):=cD
theorem N4{f:ah}{fd:bx}(F:bP K "list_between" "list_between" wm f fd)(T:Txt mg)(qe:bG P w K mg base aB 3 "names_over" ["net","some"] (b8 lM)):bu P w K mg base aB 4 f fd ["net","names","held","one","other"] (b8 lX):=
 okN (Mo []) F J4 (λcdv A outer s H E hr nd hu bg=>by
  exact⟨_,(aQ (kT (i:=5) nd rfl (fZ rfl) (pC qe hr (ao (pv 0) (ao (a7 cO (de (ao (pv 3) (aV 4))) (fM kj rfl T.ed iM (aV 2))) a9))))
 (a6 (bS (fu (N':=["uppers","one","other","name"]) (ρ:=[aa 5,aa 3,aa 4,ab]) rfl (dG.of rfl (by kernel_rfl)) (dv (pv 1)) (λ_ _ _ _ _=>(cZ (i:=3) (by show(["uppers","one","other","name"]:List Str).Nodup;decide +kernel) rfl (cC rfl))) (fG rfl) (λ_ _ _ _ _=>(jA (PW.pt (pw_and (cy (oW bg) (pv 3) (pv 0) rfl) (pw_and1 (cy (jP bg) (pv 3) (ii (ao (pv 1) (aV 2))) rfl)))))) (λ_ _ _ _ _=>(pv 3)))))),
  (a5 (cU 5 rfl (AE.nv (fR (az (aH 0) (az (AE.w (ax cM (AE.np (dh (a4 (ba 3) (a4 (ba 4) bf)))) (AE.np (dg ed (a4 (aq 2) bf))))) bw)))))
 (i0 (AE.w (eE (K:=K) (tg:=(.n 3)) (gr (aq 1)) (by decide) (lN (cz (AE.p (ax oE (aq 3) (aq 0)))) (cz (AE.p (ax jy (aq 3) (AE.p (jM (a4 (ba 1) (a4 (ba 2) bf)))))))) (ba 3)))))⟩)
abbrev ya:bn:=top 30
theorem Jk:bU ["net","names","held","one","other"] ["net","names","held","one","other"] (bq ya):=cD
theorem Lb{f:ah}{fd:bx}(F:bP K "are_joined" "are_joined" ya f fd)(T:Txt mg)(zK:bG P w K mg base aB 11 "are_parted" ["net","one","other","held"] (aC nq))(zL:bG P w K mg base aB 4 "list_between" ["net","names","held","one","other"] (b8 lX)):bu P w K mg base aB 12 f fd ["net","names","held","one","other"] (aC lh):=
 ft (Mo []) F Jk (λcdv A outer s H E hr nd hu bg=>by
  exact⟨_,(a6 (bS (Kx (pC zK hr (ao (pv 0) (ao (pv 3) (ao (pv 4) (ao (a7 cO (pC zL hr (ao (pv 0) (ao (pv 1) (ao (pv 2) (ao (pv 3) (aV 4)))))) (fM kj rfl T.ed iM (aV 2))) a9)))))))),
  (dQ (AE.w (JD (AE.p (bZ (az (aH 0) (az (aH 3) (az (aH 4) (az (AE.w (ax cM (AE.np (fR (az (aH 0) (az (aH 1) (az (aH 2) (az (aH 3) (az (aH 4) bw))))))) (AE.np (dg ed (a4 (aq 2) bf))))) bw)))))))))⟩)
abbrev yG:bn:=top 33
theorem OD:bU ["net","held","name","beyond"] ["net","held","name","beyond"] (bq yG):=cD
theorem OP{f:ah}{fd:bx}(F:bP K "end_at" "end_at" yG f fd)(T:Txt mg)(qe:bG P w K mg base aB 3 "names_over" ["net","some"] (b8 lM)):bu P w K mg base aB 4 f fd ["net","held","name","beyond"] (aC kq):=
 ft (Mo []) F OD (λcdv A outer s H E hr nd hu bg=>by
  obtain⟨_,Pb⟩:=T.O8;obtain⟨_,Pc⟩:=T.O9;exact⟨_,(a6 (bS (tQ (cy (oW bg) (pv 2) (pC qe hr (ao (pv 0) (ao (a7 cO (de (aV 3)) (fM kj rfl T.ed iM (aV 1))) a9))) rfl) (D8 (v:=(.str "tail")) rfl Pb ⟨_,rfl⟩) (D8 (v:=(.str "head")) rfl Pc ⟨_,rfl⟩)))),
  (dQ (AE.w (sL (cz (AE.p (ax oE (aq 2) (AE.np (fR (az (aH 0) (az (AE.w (ax cM (AE.np (dh (a4 (ba 3) bf))) (AE.np (dg ed (a4 (aq 1) bf))))) bw))))))) mQ mQ)))⟩)
abbrev yF:bn:=top 28
theorem N2:bU ["net","hidden","held","names","joins","one","other"] ["net","hidden","held"] (bq yF):=cD
theorem Ms{f:ah}{fd:bx}(F:bP K "veil_of" "veil_of" yF f fd)(T:Txt mg)(zM:bG P w K mg base aB 1 "pairs_of" ["names"] (b8 rF))(zN:bG P w K mg base aB 3 "names_left" ["net","hidden","held"] (aC rG))(zP:bG P w K mg base aB 12 "are_joined" ["net","names","held","one","other"] (aC lh))(vK:bG P w K mg base aB 4 "end_at" ["net","held","name","beyond"] (aC kq)):bu P w K mg base aB 13 f fd ["net","hidden","held"] (aC jw):=
 ft (Mo [4]) F N2 (λcdv A outer s H E hr nd hu bg=>by
  exact⟨_,(aQ (pS 3 (pC zN hr (ao (pv 0) (ao (pv 1) (aV 2)))))
 (aQ (pS 4 (de a9))
 (aQ (eJ er rfl (dv (pC zM hr (aV 3))) (iX rfl (dX (pG 5) (dX (pG 6) ie)))
 (a6 (dW (la (pC zP hr (ao (pv 0) (ao (pv 3) (ao (pv 2) (ao (pv 5) (aV 6)))))))
 (a6 (eu (gv fX kH kI kA (pv 4) (ao (ii (ao (pv 5) (ao (pv 6) (ao (pC vK hr (ao (pv 0) (ao (pv 2) (ao (pv 5) (aV 6))))) (ao (pC vK hr (ao (pv 0) (ao (pv 2) (ao (pv 6) (aV 5))))) a9))))) a9))))
 d0)))
 (a6 (bS (ii (ao (pv 3) (ao (fM lI rfl T.fS lz (aV 4)) a9)))))))),
  (a5 (cU 3 rfl (bZ (az (aH 0) (az (aH 1) (az (aH 2) bw)))))
 (a5 (iO 4 rfl (dh bf))
 (a5 (eQ (K:=K) (tg:=(.t [5,6])) (io (AE.nv (fR (az (aH 3) bw)))) (by decide)
 (eD (h6 (AE.p (bZ (az (aH 0) (az (aH 3) (az (aH 2) (az (aH 5) (az (aH 6) bw))))))))
 (lp 4 rfl (jM (a4 (ba 5) (a4 (ba 6) (a4 (bZ (az (aH 0) (az (aH 2) (az (aH 5) (az (aH 6) bw))))) (a4 (bZ (az (aH 0) (az (aH 2) (az (aH 6) (az (aH 5) bw))))) bf))))))
 eG))
 (dQ (AE.w (jM (a4 (ba 3) (a4 (dg fS (a4 (aq 4) bf)) bf))))))))⟩)
abbrev x5:bn:=top 35
theorem Kf:bU ["_law_script","_law_k","_law_spare"] ["_law_script","_law_k"] (bq x5):=cD
theorem Oh{f:ah}{fd:bx}(F:bP K "_law_cell" "_law_cell" x5 f fd)(T:Txt mg):bu P w K mg base aB 1 f fd ["_law_script","_law_k"] (aC gH):=
 ft (Mo []) F Kf (λcdv A outer s H E hr nd hu bg=>by
  exact⟨_,(aQ (dW (cy uF (pv 1) (eM lV rfl T.gg mE (aV 0)) (eo _))
 (a6 (bS (pX (pv 0) (pv 1))))
 d0)
 (aQ (pS 2 (a7 cO aP (a7 gz (a7 gz aP (pv 1)) (pv 1))))
 (aQ (dW (cy DG (eM lV rfl T.gg mE (aV 0)) aP (eo _))
 (a6 (pS 2 (a7 cO (pv 2) (a7 gz (a7 fq (pX (pv 0) aP) aP) (a7 cO (a7 cO (a7 gz (pv 1) (pv 1)) (a7 gz aP (pv 1))) aP)))))
 d0)
 (a6 (bS (pv 2)))))),
  (a5 (eD (cz (AE.p (ax uM (aq 1) (AE.p (dg gg (a4 (aq 0) bf))))))
 (dQ (AE.w (ax c8 (aq 0) (aq 1))))
 eG)
 (a5 (cU 2 rfl (ax cM (AE.p aR) (AE.p (ax gq (AE.p (ax gq (AE.p aR) (aq 1))) (aq 1)))))
 (a5 (eD (cz (AE.p (ax CO (AE.p (dg gg (a4 (aq 0) bf))) (AE.p aR))))
 (cU 2 rfl (ax cM (aq 2) (AE.p (ax gq (AE.p (ax fk (AE.p (ax c8 (aq 0) (AE.p aR))) (AE.p aR))) (AE.p (ax cM (AE.p (ax cM (AE.p (ax gq (aq 1) (aq 1))) (AE.p (ax gq (AE.p aR) (aq 1))))) (AE.p aR)))))))
 eG)
 (dQ (aH 2)))))⟩)
abbrev yp:bn:=top 36
theorem Mh:bU ["_law_cell_here","_law_many","_law_letters","_law_long","_law_size","_law_stem","_law_at"] ["_law_cell_here","_law_many"] (bq yp):=cD
theorem LQ{f:ah}{fd:bx}(F:bP K "_law_words" "_law_words" yp f fd)(T:Txt mg):bu P w K mg base aB 1 f fd ["_law_cell_here","_law_many"] (b8 r9):=
 okN (Mo []) F Mh (λcdv A outer s H E hr nd hu bg=>by
  exact⟨_,(aQ (kT (i:=2) nd rfl (fZ rfl) qp)
 (aQ (dW (cy uF (a7 fq (pv 0) aP) aP (eo _))
 (aQ (kT (i:=3) nd rfl (fZ rfl) (gv Gv Gw Gx Ef qp (ao (fu (N':=["_law_letters","_law_cell_here","_law_k"]) (ρ:=[aa 2,aa 0,ab]) rfl (dG.of rfl (by kernel_rfl)) (jD rfl T.j5 (ao aP a9)) (λ_ _ _ _ _=>(cZ (i:=2) (by show(["_law_letters","_law_cell_here","_law_k"]:List Str).Nodup;decide +kernel) rfl (cC rfl))) (fG rfl) (λ_ _ _ _ _=>iY) (λ_ _ _ _ _=>(pX (pv 0) (a7 fq (a7 jx (pv 1) (a7 cO aP (a7 gz aP (pv 2)))) aP)))) a9)))
 (aQ (dW (cy (jU bg) (a7 fq (pv 0) aP) aP (eo _))
 (a6 (bS (fu (N':=["_law_long","_law_k"]) (ρ:=[aa 3,ab]) rfl (dG.of rfl (by kernel_rfl)) (jD rfl T.j5 (aV 1)) (λ_ _ _ _ _=>(cZ (i:=1) j9 rfl (cC rfl))) (fG rfl) (λ_ _ _ _ _=>iY) (λ_ _ _ _ _=>(oj qS (pv 0) oZ (pz (a7 cO (pv 1) aP)))))))
 d0)
 (a6 (bS (fu (N':=["_law_long","_law_k"]) (ρ:=[aa 3,ab]) rfl (dG.of rfl (by kernel_rfl)) (jD rfl T.j5 (aV 1)) (λ_ _ _ _ _=>(cZ (i:=1) j9 rfl (cC rfl))) (fG rfl) (λ_ _ _ _ _=>iY) (λ_ _ _ _ _=>(oj qS (pv 0) (pz (a7 Bx aP (pv 1))) oZ)))))))
 d0)
 (aQ (pS 4 (a7 fq (a7 jx (pv 0) aP) aP))
 (aQ (kT (i:=5) nd rfl (fZ rfl) (gv Gv Gw Gx Ef qp (ao (fu (N':=["_law_letters","_law_cell_here","_law_k"]) (ρ:=[aa 2,aa 0,ab]) rfl (dG.of rfl (by kernel_rfl)) (jD rfl T.j5 (aV 4)) (λ_ _ _ _ _=>(cZ (i:=2) (by show(["_law_letters","_law_cell_here","_law_k"]:List Str).Nodup;decide +kernel) rfl (cC rfl))) (fG rfl) (λ_ _ _ _ _=>iY) (λ_ _ _ _ _=>(pX (pv 0) (a7 fq (a7 cO (a7 cO (a7 jx (pv 1) aP) (a7 gz aP (pv 2))) (a7 gz (pv 2) (pv 2))) aP)))) a9)))
 (aQ (kT (i:=6) nd rfl (fZ rfl) (a7 fq (a7 jx (pv 0) aP) (a7 cO (pv 4) aP)))
 (a6 (bS (fu (N':=["_law_stem","_law_letters","_law_at","_law_cell_here","_law_k"]) (ρ:=[aa 5,aa 2,aa 6,aa 0,ab]) rfl (dG.of rfl (by kernel_rfl)) (jD rfl T.j5 (aV 1)) (λ_ _ _ _ _=>(cZ (i:=4) (by show(["_law_stem","_law_letters","_law_at","_law_cell_here","_law_k"]:List Str).Nodup;decide +kernel) rfl (cC rfl))) (fG rfl) (λ_ _ _ _ _=>iY) (λ_ _ _ _ _=>(a7 cO (a7 cO (oj qS (pv 0) oZ (pz (pv 2))) (pX (pv 1) (a7 fq (a7 cO (a7 jx (pv 3) aP) (a7 gz aP (pv 4))) aP))) (oj qS (pv 0) (pz (pv 2)) oZ))))))))))),
  (a5 (cU 2 rfl mQ)
 (a5 (eD (cz (AE.p (ax uM (AE.p (ax fk (aq 0) (AE.p aR))) (AE.p aR))))
 (a5 (cU 3 rfl (EI (AE.p mQ) (AE.np (eE (K:=K) (tg:=(.n 2)) (gU.c (js (AE.p aR))) (by decide) jb (ax c8 (aq 0) (AE.p (ax fk (AE.p (ax jN (aq 1) (AE.p (ax cM (AE.p aR) (AE.p (ax gq (AE.p aR) (aq 2))))))) (AE.p aR))))))))
 (a5 (eD (cz (AE.p (ax jO (AE.p (ax fk (aq 0) (AE.p aR))) (AE.p aR))))
 (i0 (AE.w (eE (K:=K) (tg:=(.n 1)) (gU.c (js (aq 1))) (by decide) jb (oA ri (aq 0) oz (oS (AE.p (ax cM (aq 1) (AE.p aR))))))))
 eG)
 (i0 (AE.w (eE (K:=K) (tg:=(.n 1)) (gU.c (js (aq 1))) (by decide) jb (oA ri (aq 0) (oS (AE.p (ax ET (AE.p aR) (aq 1)))) oz))))))
 eG)
 (a5 (cU 4 rfl (ax fk (AE.p (ax jN (aq 0) (AE.p aR))) (AE.p aR)))
 (a5 (cU 5 rfl (EI (AE.p mQ) (AE.np (eE (K:=K) (tg:=(.n 2)) (gU.c (js (aq 4))) (by decide) jb (ax c8 (aq 0) (AE.p (ax fk (AE.p (ax cM (AE.p (ax cM (AE.p (ax jN (aq 1) (AE.p aR))) (AE.p (ax gq (AE.p aR) (aq 2))))) (AE.p (ax gq (aq 2) (aq 2))))) (AE.p aR))))))))
 (a5 (cU 6 rfl (ax fk (AE.p (ax jN (aq 0) (AE.p aR))) (AE.p (ax cM (aq 4) (AE.p aR)))))
 (i0 (AE.w (eE (K:=K) (tg:=(.n 4)) (gU.c (js (aq 1))) (by decide) jb (ax cM (AE.p (ax cM (AE.p (oA ri (aq 0) oz (oS (aq 2)))) (AE.p (ax c8 (aq 1) (AE.p (ax fk (AE.p (ax cM (AE.p (ax jN (aq 3) (AE.p aR))) (AE.p (ax gq (AE.p aR) (aq 4))))) (AE.p aR))))))) (AE.p (oA ri (aq 0) (oS (aq 2)) oz)))))))))))⟩)
abbrev yt:bn:=top 37
theorem IS:bU ["_law_cell_here","_law_many","_law_left","_law_ranks_here","_law_draw","_law_k"] ["_law_cell_here","_law_many"] (bq yt):=cD
theorem IQ{f:ah}{fd:bx}(F:bP K "_law_ranks" "_law_ranks" yt f fd)(T:Txt mg):bu P w K mg base aB 1 f fd ["_law_cell_here","_law_many"] (b8 ql):=
 okN (Mo [2,3]) F IS (λcdv A outer s H E hr nd hu bg=>by
  exact⟨_,(aQ (ua (i:=2) (N':=["_law_k"]) (ρ:=[ab]) rfl nd rfl (cC rfl) (dG.of rfl (by kernel_rfl)) (jD rfl T.j5 (aV 1)) (λ_ _ _ _ _=>(cZ (i:=0) uU rfl (cC rfl))) (fG rfl) (λ_ _ _ _ _=>iY) (λ_ _ _ _ _=>(pv 0)))
 (aQ (pS 3 (de a9))
 (aQ (pS 4 (a7 fq (pv 0) aP))
 (aQ (eJ er rfl (jD rfl T.j5 (aV 1)) (pG 5)
 (aQ (pS 4 (a7 fq (a7 cO (a7 cO (a7 gz (pv 4) aP) (a7 gz aP (pv 5))) aP) aP))
 (a6 (eu (gv fX kH kI kA (pv 3) (ao (gv fX zp zq EG (pv 2) (ao (a7 fq (a7 jx (pv 4) aP) (eM lV rfl T.gg mE (aV 2))) a9)) a9))))))
 (a6 (bS (pv 3))))))),
  (a5 (iO 2 rfl (eE (K:=K) (tg:=(.n 0)) (gU.c (js (aq 1))) (by decide) jb (ba 0)))
 (a5 (iO 3 rfl (dh bf))
 (a5 (cU 4 rfl (ax fk (aq 0) (AE.p aR)))
 (a5 (eQ (K:=K) (tg:=(.n 5)) (js (aq 1)) (by decide)
 (a5 (cU 4 rfl (ax fk (AE.p (ax cM (AE.p (ax cM (AE.p (ax gq (aq 4) (AE.p aR))) (AE.p (ax gq (AE.p aR) (aq 5))))) (AE.p aR))) (AE.p aR)))
 (Og 3 2 (by decide) rfl rfl (AE.p (ax fk (AE.p (ax jN (aq 4) (AE.p aR))) (AE.p (dg gg (a4 (aq 2) bf))))))))
 (qO 3 rfl)))))⟩)
abbrev xf:bn:=top 38
theorem M2:bU ["_law_script","_law_most","_law_many","_law_names","_law_ranks_here","_law_thick","_law_arrows","_law_j","_law_k","_law_cell_here"] ["_law_script","_law_most"] (bq xf):=cD
theorem Lc{f:ah}{fd:bx}(F:bP K "_law_net" "_law_net" xf f fd)(T:Txt mg)(kN:bG P w K mg base aB 1 "_law_cell" ["_law_script","_law_k"] (aC gH))(zQ:bG P w K mg base aB 1 "_law_words" ["_law_cell_here","_law_many"] (b8 r9))(zR:bG P w K mg base aB 1 "_law_ranks" ["_law_cell_here","_law_many"] (b8 ql)):bu P w K mg base aB 2 f fd ["_law_script","_law_most"] (aC qX):=
 ft (Mo [6]) F M2 (λcdv A outer s H E hr nd hu bg=>by
  exact⟨_,(aQ (pS 2 (a7 cO aP (a7 fq (pC kN hr (ao (pv 0) (ao aP a9))) (pv 1))))
 (aQ (pS 3 (pC zQ hr (ao (pC kN hr (ao (pv 0) (ao aP a9))) (aV 2))))
 (aQ (pS 4 (pC zR hr (ao (pC kN hr (ao (pv 0) (ao aP a9))) (aV 2))))
 (aQ (pS 5 (Fk Cm (de (ao aP (ao aP (ao aP (ao aP (ao aP (ao aP a9))))))) (a7 fq (pC kN hr (ao (pv 0) (ao aP a9))) aP) (λ_ _=>rfl)))
 (aQ (pS 6 (de a9))
 (aQ (eJ er rfl (jD rfl T.j5 (aV 2)) (pG 7)
 (a6 (eJ er rfl (jD rfl T.j5 (aV 2)) (pG 8)
 (aQ (pS 9 (pC kN hr (ao (pv 0) (ao (a7 cO (a7 cO aP (a7 jx (a7 gz (eM (AX rfl) rfl T.qh boot_max (ao (pv 7) (aV 8))) (a7 Bx (eM (AX rfl) rfl T.qh boot_max (ao (pv 7) (aV 8))) aP)) aP)) (eM (Jb rfl) rfl T.v9 boot_min (ao (pv 7) (aV 8)))) a9))))
 (a6 (dW (PW.pt (pw_and (cy uF (pX (pv 4) (pv 7)) (pX (pv 4) (pv 8)) (eo _)) (pw_and1 (cy uF (a7 fq (a7 jx (a7 fq (a7 gz (pv 9) aP) aP) aP) aP) (pv 5) (eo _)))))
 (a6 (eu (gv fX kH kI kA (pv 6) (ao (ii (ao (pX (pv 3) (pv 7)) (ao (pX (pv 3) (pv 8)) a9))) a9))))
 d0))))))
 (a6 (bS (ii (ao (fM lI rfl T.fS lz (aV 3)) (ao (fM lI rfl T.fS lz (aV 6)) a9))))))))))),
  (a5 (cU 2 rfl (ax cM (AE.p aR) (AE.p (ax fk (AE.p (bZ (az (aH 0) (az (AE.w aR) bw)))) (aq 1)))))
 (a5 (cU 3 rfl (AE.nv (fR (az (AE.w (bZ (az (aH 0) (az (AE.w aR) bw)))) (az (aH 2) bw)))))
 (a5 (cU 4 rfl (AE.nv (fR (az (AE.w (bZ (az (aH 0) (az (AE.w aR) bw)))) (az (aH 2) bw)))))
 (a5 (cU 5 rfl (ax c8 (AE.np (dh (a4 aR (a4 aR (a4 aR (a4 aR (a4 aR (a4 aR bf)))))))) (AE.p (ax fk (AE.p (bZ (az (aH 0) (az (AE.w aR) bw)))) (AE.p aR)))))
 (a5 (iO 6 rfl (dh bf))
 (a5 (eQ (K:=K) (tg:=(.n 7)) (js (aq 2)) (by decide)
 (eQ (K:=K) (tg:=(.n 8)) (js (aq 2)) (by decide)
 (a5 (cU 9 rfl (bZ (az (aH 0) (az (AE.w (ax cM (AE.p (ax cM (AE.p aR) (AE.p (ax jN (AE.p (ax gq (AE.p (dg qh (a4 (aq 7) (a4 (aq 8) bf)))) (AE.p (ax ET (AE.p (dg qh (a4 (aq 7) (a4 (aq 8) bf)))) (AE.p aR))))) (AE.p aR))))) (AE.p (dg v9 (a4 (aq 7) (a4 (aq 8) bf)))))) bw))))
 (eD (lN (cz (AE.p (ax uM (AE.p (ax c8 (aq 4) (aq 7))) (AE.p (ax c8 (aq 4) (aq 8)))))) (cz (AE.p (ax uM (AE.p (ax fk (AE.p (ax jN (AE.p (ax fk (AE.p (ax gq (aq 9) (AE.p aR))) (AE.p aR))) (AE.p aR))) (AE.p aR))) (aq 5)))))
 (lp 6 rfl (jM (a4 (ax c8 (aq 3) (aq 7)) (a4 (ax c8 (aq 3) (aq 8)) bf))))
 eG))))
 (dQ (AE.w (jM (a4 (dg fS (a4 (aq 3) bf)) (a4 (dg fS (a4 (aq 6) bf)) bf)))))))))))⟩)
abbrev xX:bn:=top 39
theorem CD:bU ["_law_found","_law_due","_law_one","_law_other"] ["_law_found","_law_due"] (bq xX):=cD
theorem AM{f:ah}{fd:bx}(F:bP K "_law_alike" "_law_alike" xX f fd)(T:Txt mg)  (self:∀n,bu P w K mg base aB (n+1) f fd ["_law_found","_law_due"] (aC (dF n))->bG P w K mg base aB (n+1) "_law_alike" ["_law_found","_law_due"] (aC (dF n))):∀n,bu P w K mg base aB (n+1) f fd ["_law_found","_law_due"] (aC (dF n))
 |0=>LB
 |n+1=>F.ok CD (λvs H Q E h=>A7 h) (λcdv A outer s H vs Q E hr h=>by
  have kO:∀m:Nat,m=n->bG P w K mg base aB (m+1) "_law_alike" ["_law_found","_law_due"] (aC (dF m)):=λm e=>by subst e;exact self m (AM F T  self m)
  have kO:=λm:Nat=>(kO n rfl:bG P w K mg base aB (n+1) "_law_alike" ["_law_found","_law_due"] (aC (dF n)));have nd:=CD.nd;have hu:=rn hr;have bg:=hr.units;have qf:=hr.mono (show(n+1)<=_ by omega);exact⟨_,(aQ (dW (PW.pt (pw_or (la (eM lL rfl T.kM kJ (ao (pv 1) (ao (iZ rfl T.vJ boot_str) a9)))) (pw_or1 (la (eM lL rfl T.kM kJ (ao (pv 1) (ao (iZ rfl T.G0 boot_int) a9)))))))
 (aQ (dW (PW.pt (pw_or (cy (mP bg) (eM lL rfl T.kM kJ (ao (pv 0) (ao (iZ rfl T.GZ boot_bool) a9))) (eM lL rfl T.kM kJ (ao (pv 1) (ao (iZ rfl T.GZ boot_bool) a9))) (eo _)) (pw_or1 (cy (mP bg) (eM lL rfl T.kM kJ (ao (pv 0) (ao (iZ rfl T.vJ boot_str) a9))) (eM lL rfl T.kM kJ (ao (pv 1) (ao (iZ rfl T.vJ boot_str) a9))) (eo _)))))
 (a6 (bS g7))
 d0)
 (a6 (bS (B9 (eM Zp.At rfl T.kM kJ (ao (pv 0) (ao (ii (ao (iZ rfl T.G0 boot_int) (ao (iZ rfl T.vJ boot_str) a9))) a9))) (Dr (tU (jU bg) (pv 0) (pv 1) (eo _)))))))
 d0)
 (aQ (dW (PW.pt (pw_or (cy (mP bg) (eM lL rfl T.kM kJ (ao (pv 0) (ao (iZ rfl T.ed iM) a9))) (eM lL rfl T.kM kJ (ao (pv 1) (ao (iZ rfl T.ed iM) a9))) (eo _)) (pw_or1 (tP (la (eM Zp.At rfl T.kM kJ (ao (pv 0) (ao (ii (ao (iZ rfl T.ed iM) (ao (iZ rfl T.fS lz) a9))) a9))))))))
 (a6 (bS g7))
 d0)
 (aQ (dW (cy (mP bg) (eM lV rfl T.gg mE (aV 0)) (eM lV rfl T.gg mE (aV 1)) (eo _))
 (a6 (bS g7))
 d0)
 (aQ (eJ er rfl (Zp.LW rfl T.O7 (pv 0) (pv 1)) (iX rfl (dX (pG 2) (dX (pG 3) ie)))
 (a6 (dW (tP (la (nN (kO n) qf rfl mT (ao (pv 2) (aV 3)))))
 (a6 (bS g7))
 d0)))
 (a6 (bS g7)))))),
  _root_.A.Cc (N:=["_law_found","_law_due","_law_one","_law_other"]) (M:=Mo []) (a5 (eD (uH (h6 (AE.p (l9 (ty_str K) (aq 1)))) (h6 (AE.p (l9 (ty_int K) (aq 1)))))
 (a5 (eD (uH (cz (AE.p (ax mU (AE.p (l9 (ty_bool K) (aq 0))) (AE.p (l9 (ty_bool K) (aq 1)))))) (cz (AE.p (ax mU (AE.p (l9 (ty_str K) (aq 0))) (AE.p (l9 (ty_str K) (aq 1)))))))
 (dQ (AE.w iS))
 eG)
 (dQ (AE.w (yj (AE.p (Zp.El (Zp.CW (ty_int K) (ty_str K)) (by decide) (aq 0))) (ax jO (aq 0) (aq 1))))))
 eG)
 (a5 (eD (uH (cz (AE.p (ax mU (AE.p (l9 (ty_list K) (aq 0))) (AE.p (l9 (ty_list K) (aq 1)))))) (uB (h6 (AE.p (Zp.El (Zp.CW (ty_list K) (ty_tuple K)) (by decide) (aq 0))))))
 (dQ (AE.w iS))
 eG)
 (a5 (eD (cz (AE.p (ax mU (AE.p (dg gg (a4 (aq 0) bf))) (AE.p (dg gg (a4 (aq 1) bf))))))
 (dQ (AE.w iS))
 eG)
 (a5 (eQ (K:=K) (tg:=(.t [2,3])) (Zp.NC (ba 0) (ba 1)) (by decide)
 (eD (uB (h6 (AE.p (bZ (az (aH 2) (az (aH 3) bw))))))
 (dQ (AE.w iS))
 eG))
 (dQ (AE.w iS)))))) (by decide) h⟩)
abbrev vO:bn:=top 43
theorem LZ:bU ["_law_net_here","_law_cell_here","_law_hidden","_law_held","_law_k","_law_name","_law_way"] ["_law_net_here","_law_cell_here"] (bq vO):=cD
theorem KL{f:ah}{fd:bx}(F:bP K "_law_split" "_law_split" vO f fd)(T:Txt mg):bu P w K mg base aB 1 f fd ["_law_net_here","_law_cell_here"] (b8 oB):=
 okN (Mo [2,3]) F LZ (λcdv A outer s H E hr nd hu bg=>by
  exact⟨_,(aQ (pS 2 (de a9))
 (aQ (pS 3 (de a9))
 (aQ (eJ er rfl (Zp.vW rfl T.zy (pX (pv 0) aP)) (iX rfl (dX (pG 4) (dX (pG 5) ie)))
 (aQ (pS 6 (a7 fq (a7 jx (a7 fq (a7 gz (pv 1) (a7 cO aP (a7 gz (a7 gz aP (pv 4)) (pv 4)))) aP) aP) (pX (de (ao aP (ao aP (ao aP a9)))) (a7 fq (pv 1) aP))))
 (aQ (dW (cy (jU bg) (pv 6) aP (eo _))
 (a6 (eu (gv fX kH kI kA (pv 2) (aV 5))))
 d0)
 (a6 (dW (cy (jU bg) (pv 6) aP (eo _))
 (a6 (eu (gv fX kH kI kA (pv 3) (aV 5))))
 d0)))))
 (aQ (dW (cy (jU bg) (a7 fq (a7 jx (pv 1) aP) aP) aP (eo _))
 (a6 (eu (tD fX PySem.F.slot_list_reverse PySem.F.type_list_reverse K5 (pv 2))))
 d0)
 (a6 (bS (de (ao (pv 2) (aV 3))))))))),
  (a5 (iO 2 rfl (dh bf))
 (a5 (iO 3 rfl (dh bf))
 (a5 (eQ (K:=K) (tg:=(.t [4,5])) (Zp.v7 (ax c8 (aq 0) (AE.p aR))) (by decide)
 (a5 (cU 6 rfl (ax fk (AE.p (ax jN (AE.p (ax fk (AE.p (ax gq (aq 1) (AE.p (ax cM (AE.p aR) (AE.p (ax gq (AE.p (ax gq (AE.p aR) (aq 4))) (aq 4))))))) (AE.p aR))) (AE.p aR))) (AE.p (ax c8 (AE.np (dh (a4 aR (a4 aR (a4 aR bf))))) (AE.p (ax fk (aq 1) (AE.p aR)))))))
 (a5 (eD (cz (AE.p (ax jO (aq 6) (AE.p aR))))
 (lp 2 rfl (ba 5))
 eG)
 (eD (cz (AE.p (ax jO (aq 6) (AE.p aR))))
 (lp 3 rfl (ba 5))
 eG))))
 (a5 (eD (cz (AE.p (ax jO (AE.p (ax fk (AE.p (ax jN (aq 1) (AE.p aR))) (AE.p aR))) (AE.p aR))))
 (OL 2 rfl)
 eG)
 (Fs 2 rfl (Fs 3 rfl (i0 (AE.w (dh (a4 (ba 2) (a4 (ba 3) bf)))))))))))⟩)
abbrev wt:bn:=top 40
theorem HX:bU ["_law_net_here","_law_some","_law_met","_law_turn","_law_tail","_law_head"] ["_law_net_here","_law_some"] (bq wt):=cD
theorem Nk{f:ah}{fd:bx}(F:bP K "_law_high" "_law_high" wt f fd)(T:Txt mg):bu P w K mg base aB 1 f fd ["_law_net_here","_law_some"] (b8 ml):=
 okN (Mo [2]) F HX (λcdv A outer s H E hr nd hu bg=>by
  exact⟨_,(aQ (pS 2 (fM kj rfl T.ed iM (aV 1)))
 (aQ (eJ er rfl (jD rfl T.j5 (ao (eM lV rfl T.gg mE (ao (pX (pv 0) aP) a9)) a9)) (pG 3)
 (a6 (eJ er rfl (dv (pX (pv 0) aP)) (iX rfl (dX (pG 4) (dX (pG 5) ie)))
 (a6 (dW (PW.pt (pw_and (cy (oW bg) (pv 5) (pv 2) rfl) (pw_and1 (cy (jP bg) (pv 4) (pv 2) rfl))))
 (a6 (eu (gv fX kH kI kA (pv 2) (aV 4))))
 d0)))))
 (a6 (bS (pv 2))))),
  (a5 (iO 2 rfl (dg ed (a4 (aq 1) bf)))
 (a5 (eQ (K:=K) (tg:=(.n 3)) (js (AE.p (dg gg (a4 (AE.p (ax c8 (aq 0) (AE.p aR))) bf)))) (by decide)
 (eQ (K:=K) (tg:=(.t [4,5])) (io (ax c8 (aq 0) (AE.p aR))) (by decide)
 (eD (lN (cz (AE.p (ax oE (aq 5) (aq 2)))) (cz (AE.p (ax jy (aq 4) (aq 2)))))
 (lp 2 rfl (ba 4))
 eG)))
 (qO 2 rfl)))⟩)
abbrev wG:bn:=top 41
theorem JT:bU ["_law_net_here","_law_one","_law_other","_law_held","_law_high_here","_law_family","_law_name","_law_met","_law_turn","_law_some"] ["_law_net_here","_law_one","_law_other","_law_held"] (bq wG):=cD
theorem Ly{f:ah}{fd:bx}(F:bP K "_law_parted" "_law_parted" wG f fd)(T:Txt mg)(qg:bG P w K mg base aB 1 "_law_high" ["_law_net_here","_law_some"] (b8 ml)):bu P w K mg base aB 2 f fd ["_law_net_here","_law_one","_law_other","_law_held"] (aC lJ):=
 ft (Mo [5]) F JT (λcdv A outer s H E hr nd hu bg=>by
  exact⟨_,(aQ (pS 4 (pC qg hr (ao (pv 0) (ao (a7 cO (de (ao (pv 1) (aV 2))) (fM kj rfl T.ed iM (aV 3))) a9))))
 (aQ (pS 5 AY)
 (aQ (eJ er rfl (dv (pv 4)) (cZ (i:=6) nd rfl (fZ rfl))
 (a6 (qY hu (pv 5) (pv 6) (a7 cO (de (aV 6)) (fu (N':=["_law_name","_law_tail","_law_head"]) (ρ:=[aa 6,ab,ab]) rfl (dG.of rfl (by kernel_rfl)) (dv (pX (pv 0) aP)) (λ_ _ _ _ _=>(iX rfl (dX (cZ (i:=1) (by show(["_law_name","_law_tail","_law_head"]:List Str).Nodup;decide +kernel) rfl (cC rfl)) (dX (cZ (i:=2) (by show(["_law_name","_law_tail","_law_head"]:List Str).Nodup;decide +kernel) rfl (cC rfl)) ie)))) (uK (lW rfl (lW rfl uh lH) (tM lH))) (λ_ _ _ _ _=>(jA (cy (jU bg) (pv 2) (pv 0) (eo _)))) (λ_ _ _ _ _=>(pv 1)))) rfl)))
 (aQ (kT (i:=7) nd rfl (fZ rfl) (de (aV 1)))
 (aQ (eJ er rfl (jD rfl T.j5 (ao (eM lV rfl T.gg mE (aV 4)) a9)) (pG 8)
 (a6 (eJ er rfl (dv (pv 4)) (cZ (i:=6) nd rfl (fZ rfl))
 (aQ (ua (i:=9) (N':=["_law_met","_law_here"]) (ρ:=[aa 7,ab]) rfl nd rfl (cC rfl) (dG.of rfl (by kernel_rfl)) (dv (Eh hu (pv 5) (pv 6) (λ_ _=>rfl))) (λ_ _ _ _ _=>(cZ (i:=1) j9 rfl (cC rfl))) (fG rfl) (λ_ _ _ _ _=>(jA (cy (oW bg) (pv 1) (pv 0) rfl))) (λ_ _ _ _ _=>(pv 1)))
 (a6 (dW (cy DG (eM lV rfl T.gg mE (aV 9)) aP (eo _))
 (a6 (kT (i:=7) nd rfl (fZ rfl) (a7 cO (pv 7) (fu (N':=["_law_met","_law_held","_law_here"]) (ρ:=[aa 7,aa 3,ab]) rfl (dG.of rfl (by kernel_rfl)) (dv (Eh hu (pv 5) (pv 6) (λ_ _=>rfl))) (λ_ _ _ _ _=>(cZ (i:=2) (by show(["_law_met","_law_held","_law_here"]:List Str).Nodup;decide +kernel) rfl (cC rfl))) (fG rfl) (λ_ _ _ _ _=>(jA (PW.pt (pw_and (cy (jP bg) (pv 2) (pv 0) rfl) (pw_and1 (cy (jP bg) (pv 2) (pv 1) rfl)))))) (λ_ _ _ _ _=>(pv 2))))))
 d0))))))
 (a6 (bS (tU (jP bg) (pv 2) (pv 7) rfl)))))))),
  (a5 (cU 4 rfl (AE.nv (fR (az (aH 0) (az (AE.w (ax cM (AE.np (dh (a4 (ba 1) (a4 (ba 2) bf)))) (AE.np (dg ed (a4 (aq 3) bf))))) bw)))))
 (a5 (uE 5 rfl Cy)
 (a5 (eQ (K:=K) (tg:=(.n 6)) (io (ba 4)) (by decide)
 (rH 5 rfl (ba 6) (ax cM (AE.np (dh (a4 (ba 6) bf))) (AE.np (eE (K:=K) (tg:=(.t [1,2])) (gr (AE.p (ax c8 (aq 0) (AE.p aR)))) (by decide) (cz (AE.p (ax jO (aq 2) (aq 0)))) (ba 1))))))
 (a5 (cU 7 rfl (AE.nv (dh (a4 (ba 1) bf))))
 (a5 (eQ (K:=K) (tg:=(.n 8)) (js (AE.p (dg gg (a4 (aq 4) bf)))) (by decide)
 (eQ (K:=K) (tg:=(.n 6)) (io (ba 4)) (by decide)
 (a5 (cU 9 rfl (AE.nv (eE (K:=K) (tg:=(.n 1)) (gr (AE.p (Dx 5 (ba 6)))) (by decide) (cz (AE.p (ax oE (aq 1) (aq 0)))) (ba 1))))
 (eD (cz (AE.p (ax CO (AE.p (dg gg (a4 (aq 9) bf))) (AE.p aR))))
 (cU 7 rfl (ax cM (aq 7) (AE.np (eE (K:=K) (tg:=(.n 2)) (gr (AE.p (Dx 5 (ba 6)))) (by decide) (lN (cz (AE.p (ax jy (aq 2) (aq 0)))) (cz (AE.p (ax jy (aq 2) (aq 1))))) (ba 2)))))
 eG))))
 (dQ (AE.w (ax jy (aq 2) (aq 7)))))))))⟩)
abbrev yE:bn:=top 42
theorem L3:bU ["_law_some","_law_found","_law_name"] ["_law_some"] (bq yE):=cD
theorem ID{f:ah}{fd:bx}(F:bP K "_law_lists" "_law_lists" yE f fd)(T:Txt mg):bu P w K mg base aB 1 f fd ["_law_some"] (aC oG):=
 ft (Mo []) F L3 (λcdv A outer s H E hr nd hu bg=>by
  exact⟨_,(aQ (pS 1 (de (ao (de a9) a9)))
 (aQ (eJ er rfl (dv (pv 0)) (cZ (i:=2) nd rfl (fZ rfl))
 (a6 (pS 1 (a7 cO (pv 1) (fu (N':=["_law_name","_law_one"]) (ρ:=[aa 2,ab]) rfl (dG.of rfl (by kernel_rfl)) (dv (pv 1)) (λ_ _ _ _ _=>(cZ (i:=1) j9 rfl (cC rfl))) (fG rfl) (λ_ _ _ _ _=>iY) (λ_ _ _ _ _=>(a7 cO (pv 1) (de (aV 0)))))))))
 (a6 (bS (pv 1))))),
  (a5 (cU 1 rfl (AE.nv (dh (a4 (AE.nv (dh bf)) bf))))
 (a5 (eQ (K:=K) (tg:=(.n 2)) (io (ba 0)) (by decide)
 (cU 1 rfl (ax cM (aq 1) (AE.np (eE (K:=K) (tg:=(.n 1)) (gr (aq 1)) (by decide) jb (ax cM (aq 1) (AE.np (dh (a4 (ba 0) bf)))))))))
 (dQ (aH 1))))⟩)
abbrev xN:bn:=top 44
theorem L1:bU ["_law_net_here","_law_names","_law_one","_law_other","_law_held","_law_rest","_law_some"] ["_law_net_here","_law_names","_law_one","_law_other","_law_held"] (bq xN):=cD
theorem K1{f:ah}{fd:bx}(F:bP K "_law_joined" "_law_joined" xN f fd)(T:Txt mg)(zS:bG P w K mg base aB 2 "_law_parted" ["_law_net_here","_law_one","_law_other","_law_held"] (aC lJ))(zT:bG P w K mg base aB 1 "_law_lists" ["_law_some"] (aC oG)):bu P w K mg base aB 3 f fd ["_law_net_here","_law_names","_law_one","_law_other","_law_held"] (aC kD):=
 ft (Mo []) F L1 (λcdv A outer s H E hr nd hu bg=>by
  exact⟨_,(aQ (ua (i:=5) (N':=["_law_one","_law_other","_law_name"]) (ρ:=[aa 2,aa 3,ab]) rfl nd rfl (cC rfl) (dG.of rfl (by kernel_rfl)) (dv (pv 1)) (λ_ _ _ _ _=>(cZ (i:=2) (by show(["_law_one","_law_other","_law_name"]:List Str).Nodup;decide +kernel) rfl (cC rfl))) (fG rfl) (λ_ _ _ _ _=>(jA (PW.pt (pw_and (cy (mP bg) (pv 2) (pv 0) (eo _)) (pw_and1 (cy (mP bg) (pv 2) (pv 1) (eo _))))))) (λ_ _ _ _ _=>(pv 2)))
 (aQ (eJ er rfl (dv (pC zT hr (aV 5))) (pG 6)
 (a6 (dW (la (pC zS hr (ao (pv 0) (ao (pv 2) (ao (pv 3) (ao (a7 cO (pv 6) (pv 4)) a9))))))
 (a6 (bS g7))
 d0)))
 (a6 (bS g7)))),
  (a5 (cU 5 rfl (AE.nv (eE (K:=K) (tg:=(.n 2)) (gr (aq 1)) (by decide) (lN (cz (AE.p (ax mU (aq 2) (aq 0)))) (cz (AE.p (ax mU (aq 2) (aq 1))))) (ba 2))))
 (a5 (eQ (K:=K) (tg:=(.n 6)) (io (bZ (az (aH 5) bw))) (by decide)
 (eD (h6 (AE.p (bZ (az (aH 0) (az (aH 2) (az (aH 3) (az (AE.w (ax cM (aq 6) (aq 4))) bw)))))))
 (dQ (AE.w iS))
 eG))
 (dQ (AE.w iS))))⟩)
abbrev xQ:bn:=top 45
theorem Kt:bU ["_law_net_here","_law_one","_law_other","_law_held"] ["_law_net_here","_law_one","_law_other","_law_held"] (bq xQ):=cD
theorem MB{f:ah}{fd:bx}(F:bP K "_law_end" "_law_end" xQ f fd)(T:Txt mg)(qg:bG P w K mg base aB 1 "_law_high" ["_law_net_here","_law_some"] (b8 ml)):bu P w K mg base aB 2 f fd ["_law_net_here","_law_one","_law_other","_law_held"] (aC jc):=
 ft (Mo []) F Kt (λcdv A outer s H E hr nd hu bg=>by
  exact⟨_,(aQ (dW (cy (oW bg) (pv 1) (pC qg hr (ao (pv 0) (ao (a7 cO (de (aV 2)) (pv 3)) a9))) rfl)
 (a6 (bS qp))
 d0)
 (a6 (bS qp))),
  (a5 (eD (cz (AE.p (ax oE (aq 1) (AE.np (fR (az (aH 0) (az (AE.w (ax cM (AE.np (dh (a4 (ba 2) bf))) (aq 3))) bw)))))))
 (dQ (AE.w mQ))
 eG)
 (dQ (AE.w mQ)))⟩)
abbrev wJ:bn:=top 46
theorem Jn:bU ["_law_net_here","_law_hidden","_law_held","_law_names","_law_joins","_law_k","_law_one","_law_other","_law_here"] ["_law_net_here","_law_hidden","_law_held"] (bq wJ):=cD
theorem MX{f:ah}{fd:bx}(F:bP K "_law_veil" "_law_veil" wJ f fd)(T:Txt mg)(zU:bG P w K mg base aB 3 "_law_joined" ["_law_net_here","_law_names","_law_one","_law_other","_law_held"] (aC kD))(vL:bG P w K mg base aB 2 "_law_end" ["_law_net_here","_law_one","_law_other","_law_held"] (aC jc)):bu P w K mg base aB 4 f fd ["_law_net_here","_law_hidden","_law_held"] (aC lC):=
 ft (Mo [4]) F Jn (λcdv A outer s H E hr nd hu bg=>by
  exact⟨_,(aQ (ua (i:=3) (N':=["_law_hidden","_law_held","_law_name"]) (ρ:=[aa 1,aa 2,ab]) rfl nd rfl (cC rfl) (dG.of rfl (by kernel_rfl)) (dv (pX (pv 0) aP)) (λ_ _ _ _ _=>(cZ (i:=2) (by show(["_law_hidden","_law_held","_law_name"]:List Str).Nodup;decide +kernel) rfl (cC rfl))) (fG rfl) (λ_ _ _ _ _=>(jA (PW.pt (pw_and (cy (jP bg) (pv 2) (pv 0) rfl) (pw_and1 (cy (jP bg) (pv 2) (pv 1) rfl)))))) (λ_ _ _ _ _=>(pv 2)))
 (aQ (pS 4 (de a9))
 (aQ (eJ er rfl (Zp.vW rfl T.zy (pv 3)) (iX rfl (dX (pG 5) (dX (pG 6) ie)))
 (a6 (eJ er rfl (dv (oj qS (pv 3) (pz (a7 cO (pv 5) aP)) oZ)) (pG 7)
 (a6 (dW (la (pC zU hr (ao (pv 0) (ao (pv 3) (ao (pv 6) (ao (pv 7) (aV 2)))))))
 (aQ (pS 8 (pC vL hr (ao (pv 0) (ao (pv 6) (ao (pv 7) (aV 2))))))
 (a6 (eu (gv fX kH kI kA (pv 4) (ao (ii (ao (pv 6) (ao (pv 7) (ao (pv 8) (ao (pC vL hr (ao (pv 0) (ao (pv 7) (ao (pv 6) (aV 2))))) a9))))) a9)))))
 d0)))))
 (a6 (bS (ii (ao (fM lI rfl T.fS lz (aV 3)) (ao (fM lI rfl T.fS lz (aV 4)) a9)))))))),
  (a5 (cU 3 rfl (AE.nv (eE (K:=K) (tg:=(.n 2)) (gr (AE.p (ax c8 (aq 0) (AE.p aR)))) (by decide) (lN (cz (AE.p (ax jy (aq 2) (aq 0)))) (cz (AE.p (ax jy (aq 2) (aq 1))))) (ba 2))))
 (a5 (iO 4 rfl (dh bf))
 (a5 (eQ (K:=K) (tg:=(.t [5,6])) (Zp.v7 (ba 3)) (by decide)
 (eQ (K:=K) (tg:=(.n 7)) (io (oA ri (aq 3) (oS (AE.p (ax cM (aq 5) (AE.p aR)))) oz)) (by decide)
 (eD (h6 (AE.p (bZ (az (aH 0) (az (aH 3) (az (aH 6) (az (aH 7) (az (aH 2) bw))))))))
 (a5 (cU 8 rfl (bZ (az (aH 0) (az (aH 6) (az (aH 7) (az (aH 2) bw))))))
 (lp 4 rfl (jM (a4 (ba 6) (a4 (ba 7) (a4 (ba 8) (a4 (bZ (az (aH 0) (az (aH 7) (az (aH 6) (az (aH 2) bw))))) bf)))))))
 eG)))
 (dQ (AE.w (jM (a4 (dg fS (a4 (aq 3) bf)) (a4 (dg fS (a4 (aq 4) bf)) bf))))))))⟩)
abbrev yl:bn:=top 47
theorem Oi:bU ["_law_script","_law_net_here","_law_cell_here","_law_hidden","_law_held","_law_handed","_law_found","_law_due","_law_other"] ["_law_script"] (bq yl):=cD
theorem IZ{f:ah}{fd:bx}(F:bP K "law" "law" yl f fd)(T:Txt mg)(sI:bG P w K mg base aB 13 "veil_of" ["net","hidden","held"] (aC jw))(kN:bG P w K mg base aB 1 "_law_cell" ["_law_script","_law_k"] (aC gH))(zV:bG P w K mg base aB 2 "_law_net" ["_law_script","_law_most"] (aC qX))(kO:∀n,bG P w K mg base aB (n+1) "_law_alike" ["_law_found","_law_due"] (aC (dF n)))(zW:bG P w K mg base aB 1 "_law_split" ["_law_net_here","_law_cell_here"] (b8 oB))(vM:bG P w K mg base aB 4 "_law_veil" ["_law_net_here","_law_hidden","_law_held"] (aC lC)):bu P w K mg base aB 14 f fd ["_law_script"] (aC xg):=
 ft (Mo []) F Oi (λcdv A outer s H E hr nd hu bg=>by
  have qf:=hr.mono (show(4+1)<=_ by decide);exact⟨_,(aQ (pS 1 (pC zV hr (ao (pv 0) (ao aP a9))))
 (aQ (pS 2 (pC kN hr (ao (pv 0) (ao aP a9))))
 (aQ (Bz (pC zW hr (ao (pv 1) (ao (a7 jx (pv 2) aP) a9))) (L6 rfl (dX (pG 3) (dX (pG 4) ie))))
 (aQ (pS 5 (de (ao (fM kj rfl T.ed iM (aV 3)) (ao (fM kj rfl T.ed iM (aV 4)) a9))))
 (aQ (pS 6 (pC sI hr (ao (pv 1) (ao (pX (pv 5) aP) (ao (pX (pv 5) aP) a9)))))
 (aQ (pS 7 (pC vM hr (ao (pv 1) (ao (pv 3) (aV 4)))))
 (aQ (dW (PW.pt (pw_or (tP (la (nN (kO 4) qf rfl mT (ao (pv 6) (aV 7))))) (pw_or1 (cy (mP bg) (pv 5) (de (ao (pv 3) (aV 4))) (eo _)))))
 (a6 (bS g7))
 d0)
 (aQ (dW (cy (jU bg) (a7 fq (pv 2) aP) aP (eo _))
 (aQ (pS 8 (pC sI hr (ao (pv 1) (ao (pv 4) (aV 3)))))
 (a6 (dW (tP (la (nN (kO 4) qf rfl mT (ao (pv 8) (ao (pC vM hr (ao (pv 1) (ao (pv 4) (aV 3)))) a9)))))
 (a6 (bS g7))
 d0)))
 d0)
 (aQ (eu (tD fX Gs Gu D7 (pX (pv 5) aP)))
 (aQ (eu (tD fX Gs Gu D7 (pX (pv 5) aP)))
 (a6 (bS (B9 (nN (kO 4) qf rfl mT (ao (pv 6) (aV 7))) (Dr (nN (kO 4) qf rfl mT (ao (pC sI hr (ao (pv 1) (ao (pv 3) (aV 4)))) (aV 7))))))))))))))))),
  (a5 (cU 1 rfl (bZ (az (aH 0) (az (AE.w aR) bw))))
 (a5 (cU 2 rfl (bZ (az (aH 0) (az (AE.w aR) bw))))
 (a5 (IK [3,4] (by decide) (AE.nv (fR (az (aH 1) (az (AE.w (ax jN (aq 2) (AE.p aR))) bw)))))
 (Zp.N7 rfl (dg ed (a4 (aq 3) bf)) (dg ed (a4 (aq 4) bf))
 (Zp.ym rfl rfl (by decide) (bZ (az (aH 1) (az (AE.w (ax c8 (aq 5) (AE.p aR))) (az (AE.w (ax c8 (aq 5) (AE.p aR))) bw))))
 (Zp.ym rfl rfl (by decide) (bZ (az (aH 1) (az (aH 3) (az (aH 4) bw))))
 (Zp.CQ rfl (uH (uB (h6 (AE.p (bZ (az (aH 6) (az (aH 7) bw)))))) (cz (AE.p (ax mU (aq 5) (AE.np (dh (a4 (ba 3) (a4 (ba 4) bf))))))))
 (Zp.J2 rfl (cz (AE.p (ax jO (AE.p (ax fk (aq 2) (AE.p aR))) (AE.p aR))))
 (Zp.Kc (Zp.ym rfl rfl (by decide) (bZ (az (aH 1) (az (aH 4) (az (aH 3) bw))))
 (Zp.CQ rfl (uB (h6 (AE.p (bZ (az (aH 8) (az (AE.w (bZ (az (aH 1) (az (aH 4) (az (aH 3) bw))))) bw))))))
 (Zp.EU (Zp.Bt (Zp.A9 rfl (dQ (AE.w (yj (AE.p (bZ (az (aH 6) (az (aH 7) bw)))) (bZ (az (AE.w (bZ (az (aH 1) (az (aH 3) (az (aH 4) bw))))) (az (aH 7) bw))))))))))))
 (Zp.EU (Zp.Bt (Zp.A9 rfl (dQ (AE.w (yj (AE.p (bZ (az (aH 6) (az (aH 7) bw)))) (bZ (az (AE.w (bZ (az (aH 1) (az (aH 3) (az (aH 4) bw))))) (az (aH 7) bw)))))))))))))))))⟩)
end
end n6
namespace L2
open PySem PySem.Spec PyProof.Rows
theorem bW.Ji{P:bh}{w:a8}{K:aG}{mg:Str->Option ai}{CX:gi}{k:Nat}{x p:Str}{st:bn}{sp:Sp}{fa c T:ah}(F:bW K mg x st [p])(hm:mg x=aa (.ref fa))(h:∀base,K.In base->base.Ns mainGlobals mg->BM mg base->iG base c T->∀f fd,bP K x x st f fd->bu P w K mg base CX k f fd [p] sp) :
 ∃fd:bx,(∀(s:ap) (u:ai),lw s fd ⟨[u],[]⟩ [(p,u)])/\∀base:aK,K.In base->base.Ns mainGlobals mg->BM mg base->iG base c T->bu P w K mg base CX k fa fd [p] sp:=by
 obtain⟨f,fd,h1,h2,h3,h5,h4⟩:=F.ex;rw[h1]at hm;cases hm;exact⟨fd,λs u=>h5 s [u] rfl,λbase kb nb b1 b2=>h base kb nb b1 b2 _ fd h4⟩
theorem L7{P:bh}{w:a8}{K:aG}{mg:Str->Option ai}{base:aK}{CX:gi}{lv:Nat->Nat}{x:Str}{st:bn}{ps:List Str}{sp:Nat->Sp}(F:bW K mg x st ps)
 (h:∀f fd,bP K x x st f fd->(∀n,bu P w K mg base CX (lv n) f fd ps (sp n)->bG P w K mg base CX (lv n) x ps (sp n))->∀n,bu P w K mg base CX (lv n) f fd ps (sp n)) (n:Nat):bG P w K mg base CX (lv n) x ps (sp n):=by
 obtain⟨f,fd,h1,h2,h3,_,h4⟩:=F.ex;have self:∀n,bu P w K mg base CX (lv n) f fd ps (sp n)->bG P w K mg base CX (lv n) x ps (sp n):=λn k=>⟨f,fd,h1,h2,h3,k⟩;exact self n (h f fd h4 self n)
def Cw(K:aG):Bool:=K.all λp=>match p.2.cls with|.type "list" => false|_=>true
theorem La{K:aG}(h:Cw K=true){a:ah}{o:Obj}(e:K.lookup a=aa o)(c:o.cls=.type "list"):False:=by
 have hm:(a,o)∈K:=by
  clear h
  induction K with
  |nil=>cases e
  |cons p r ih=>
   obtain⟨b,x⟩:=p;simp only[y4]at e;split at e
   ·rename_i q;cases e;rw[beq_iff_eq.mp q];exact List.Mem.head _
   ·exact List.Mem.tail _ (ih e)
 have h2:=nP.mp h _ hm;simp only[c]at h2;cases h2
end L2
namespace Mi
open PySem
@[simp] theorem lD {α:Type} (a:α):dA (aa a)=.ok a:=rfl
@[simp] theorem Pn {α:Type} {c:Prop} [Decidable c] (h:c) (r:Rs α):be c r=r:=bb h
@[simp] theorem ut (a b:Str):bF (.str a) (.str b)=decide (a=b):=by rw[bF];by_cases h:a=b<;>simp[h]
@[simp] theorem B1 (a b:Int):bF (.int a) (.int b)=decide (a=b):=by rw[bF];by_cases h:a=b<;>simp[h]
@[simp] theorem NY (x:Str):(D.str x).dep=0:=by simp[D.dep]
@[simp] theorem Pj (x:Int):(D.int x).dep=0:=by simp[D.dep]
@[simp] theorem Pm (x:Bool):(D.bl x).dep=0:=by simp[D.dep]
@[simp] theorem Pl:D.non.dep=0:=by simp[D.dep]
@[simp] theorem xT (ds:List D):(D.lst ds).dep=dw ds+1:=by simp[D.dep]
@[simp] theorem Po (ds:List D):(D.tup ds).dep=dw ds+1:=by simp[D.dep]
@[simp] theorem Lg:dw []=0:=rfl
@[simp] theorem xH (d:D) (r:List D):dw (d::r)=max d.dep (dw r):=by rw[dw]
@[simp] theorem o0:∀xs:List Str,dw (xs.map D.str)=0
 |[]=>rfl
 |x::r=>by rw[cS,xH,NY,o0 r];rfl
theorem xY(xs:List Str)(x:Str):((xs.map D.str).any λe=>bF e (.str x))=decide (x∈xs):=by
 induction xs with
 |nil=>rfl
 |cons y r ih=>
  rw[cS,iF,ih,ut];by_cases h:y=x
  ·simp[h]
  ·have h2:¬ x=y:=λz=>h z.symm;simp[h,h2]
theorem oU(xs:List Str)(x:Str):eR (.str x) (.lst (xs.map D.str))=.ok (.bl (decide (x∈xs))):=by show be _ _=_;rw[aN (by rw[o0];omega),xY]
theorem m3(xs:List Str)(x:Str):dH (.str x) (.lst (xs.map D.str))=.ok (.bl (!decide (x∈xs))):=by show be _ _=_;rw[aN (by rw[o0];omega),xY]
theorem CN(xs:List Str)(x:Str):dH (.str x) (.tup (xs.map D.str))=.ok (.bl (!decide (x∈xs))):=by show be _ _=_;rw[aN (by rw[o0];omega),xY]
theorem nh(x y:Str):b9 (.str x) (.str y)=.ok (.bl (decide (x=y))):=by show be _ _=_;rw[aN (by simp),ut]
theorem B0(x y:Str):fQ (.str x) (.str y)=.ok (.bl (!decide (x=y))):=by show be _ _=_;rw[aN (by simp),ut]
theorem oK(x y:Int):b9 (.int x) (.int y)=.ok (.bl (decide (x=y))):=by show be _ _=_;rw[aN (by simp),B1]
theorem MW(x y:Int):fQ (.int x) (.int y)=.ok (.bl (!decide (x=y))):=by show be _ _=_;rw[aN (by simp),B1]
theorem A8{α:Type}(f:α->Bool)(xs:List α):jz (xs.map λx=>D.bl (f x))=aa (xs.map f):=by
 induction xs with
 |nil=>rfl
 |cons a r ih=>rw[cS,jz,ih];rfl
theorem M8(xs:List Str):lj (xs.map D.str)=aa xs:=by
 induction xs with
 |nil=>rfl
 |cons a r ih=>rw[cS,lj,ih];rfl
theorem uI(n:Nat)(b:S)(a0:W):dc 1 n b [a0]=(b ([aa a0]++cH (n-1) ab)).bind iU:=aN rfl
theorem me(n:Nat)(b:S)(a0 a1:W):dc 2 n b [a0,a1]=(b ([aa a0,aa a1]++cH (n-2) ab)).bind iU:=aN rfl
theorem rA(n:Nat)(b:S)(a0 a1 a2:W):dc 3 n b [a0,a1,a2]=(b ([aa a0,aa a1,aa a2]++cH (n-3) ab)).bind iU:=aN rfl
theorem t9(n:Nat)(b:S)(a0 a1 a2 a3:W):dc 4 n b [a0,a1,a2,a3]=(b ([aa a0,aa a1,aa a2,aa a3]++cH (n-4) ab)).bind iU:=aN rfl
theorem M4(n:Nat)(b:S)(a0:W):eS 1 n b [a0]=(b ([aa a0]++cH (n-1) ab)).bind iV:=aN rfl
theorem jW(n:Nat)(b:S)(a0 a1:W):eS 2 n b [a0,a1]=(b ([aa a0,aa a1]++cH (n-2) ab)).bind iV:=aN rfl
theorem xG(n:Nat)(b:S)(a0 a1 a2:W):eS 3 n b [a0,a1,a2]=(b ([aa a0,aa a1,aa a2]++cH (n-3) ab)).bind iV:=aN rfl
theorem EF{α:Type}(r:Rs α):be (1<=16777216) r=r:=aN (by decide)
theorem rQ(i j:Int):aY (.int i) (.int j)=.ok (.int (i+j)):=rfl
theorem Bn(i j:Str):aY (.str i) (.str j)=be (i.length+j.length<=16777216) (.ok (.str (i++j))):=rfl
theorem lm(i j:List D):aY (.lst i) (.lst j)=be (i.length+j.length<=16777216) (.ok (.lst (i++j))):=rfl
theorem Ll(i j:Int):kZ (.int i) (.int j)=.ok (.int (i-j)):=rfl
theorem q8(i j:Int):bY (.int i) (.int j)=be (k7 i j) (.ok (.int (i*j))):=rfl
theorem div_ii(i j:Int):cW (.int i) (.int j)=be (lf j) (.ok (.int (i/j))):=rfl
theorem nG(i j:Int):bI (.int i) (.int j)=be (0<j) (.ok (.int (i%j))):=rfl
theorem vP(i j:Int):fV (.int i) (.int j)=.ok (.bl (decide (i<j))):=rfl
theorem JU(i j:Int):nF (.int i) (.int j)=.ok (.bl (decide (j<i))):=rfl
theorem Fx(ds:List D):d3 [.lst ds]=.ok (.int ds.length):=rfl
theorem Iu(ds:List D):d3 [.tup ds]=.ok (.int ds.length):=rfl
theorem M9(z:Str):d3 [.str z]=be (z.length<=16777216) (.ok (.int z.length)):=rfl
theorem Lv(i j:Int):iu [.int i,.int j]=.ok (.int (max i j)):=rfl
theorem Jw(i j:Int):lK [.int i,.int j]=.ok (.int (min i j)):=rfl
theorem Ni(ds:List D):v6 [.lst ds]=(dA (jz ds)).bind λbs=>.ok (.bl (bs.all id)):=rfl
theorem Om(ds:List D):yI [.lst ds]=(dA (jz ds)).bind λbs=>.ok (.bl (bs.any id)):=rfl
theorem K0(ds:List D):ki [.lst ds]=.ok (.tup ds):=rfl
theorem xo(z:Str)(lo hi:Option Int):g6 (.str z) lo hi=be (z.length<=16777216) (.ok (.str (ma z lo hi))):=rfl
theorem JB(ds:List D):tJ (.lst ds)=.ok ds:=rfl
theorem Le(ds:List D):tJ (.tup ds)=.ok ds:=rfl
theorem rE(b:Bool):ot (.bl b)=.ok b:=rfl
theorem rX(b:Int):pB (.int b)=.ok b:=rfl
theorem rM(x:D):k9 (.d x)=.ok x:=rfl
theorem Ii(i:Nat)(d:D)(e:Mi.Env):(Tg.n i).put d e=.ok (e.set i (aa (.d d))):=rfl
theorem all_cons(i:Nat)(is:List Nat)(d:D)(ds:List D)(e:Mi.Env):lU (i::is) (d::ds) e=lU is ds (e.set i (aa (.d d))):=rfl
theorem Oe(w:W):iU (.rt w)=.ok w:=rfl
theorem IG(e:Mi.Env):iU (.nx e)=.ok (.d .non):=rfl
theorem J1(w:W):iV (.rt w)=.ok w:=rfl
theorem aA{f:D->D->Rs D}{a b:E}{e:Mi.Env}{x y:D}{z:Rs D}(ha:a e=.ok x)(hb:b e=.ok y)(h:f x y=z):m2 f a b e=z:=by unfold m2;rw[ha,aL,hb,aL,h]
theorem aO{s t:S}{e e':Mi.Env}(h:s e=.ok (.nx e')):aD s t e=t e':=by unfold aD;rw[h];rfl
theorem nM{s t:S}{e:Mi.Env}{w:W}(h:s e=.ok (.rt w)):aD s t e=.ok (.rt w):=by unfold aD;rw[h];rfl
theorem bN{i:Nat}{a:E}{e:Mi.Env}{d:D}(h:a e=.ok d):bi i a e=.ok (.nx (e.set i (aa (.d d)))):=by unfold bi;rw[h];rfl
theorem dy{a:EW}{e:Mi.Env}{w:W}(h:a e=.ok w):br a e=.ok (.rt w):=by unfold br;rw[h];rfl
theorem bB{a:E}{e:Mi.Env}{d:D}(h:a e=.ok d):wD a e=.ok (.d d):=by unfold wD;rw[h];rfl
theorem fE{c:C}{s t:S}{e:Mi.Env}(h:c e=.ok true):bv c s t e=s e:=by unfold bv;rw[h];rfl
theorem dU{c:C}{s t:S}{e:Mi.Env}(h:c e=.ok false):bv c s t e=t e:=by unfold bv;rw[h];rfl
theorem bR{a:E}{e:Mi.Env}{b:Bool}(h:a e=.ok (.bl b)):cB a e=.ok b:=by unfold cB;rw[h];rfl
theorem en{ρ:List (Option Nat)}{it:I}{tg:Tg}{c:C}{a:E}{e:Mi.Env}{xs ys:List D}(h:it e=.ok xs)(hl:xs.length<=16777216)(hc:cJ tg c a (iz ρ e) xs=.ok ys):cg ρ it tg c a e=.ok (.lst ys):=by unfold cg;rw[h,aL,aN hl,hc,aL]
theorem iQ{a:E}{e:Mi.Env}{n:Int}(h:a e=.ok (.int n))(hr:okR n):gI a e=.ok (dP 0 n):=by unfold gI;rw[h,aL,rX,aL,aN hr]
theorem eP{it:I}{tg:Tg}{b:S}{e:Mi.Env}{xs:List D}(h:it e=.ok xs):cr it tg b e=eY tg b xs e:=by unfold cr;rw[h];rfl
theorem dB{a:E}{e:Mi.Env}{x:D}{xs:List D}(h:a e=.ok x)(hx:tJ x=.ok xs):bt a e=.ok xs:=by unfold bt;rw[h,aL,hx]
theorem kC{i:Nat}{a:E}{e:Mi.Env}{d:D}{ds:List D}(h:a e=.ok d)(hg:getL e i=.ok ds)(hl:ds.length<16777216):ce i a e=.ok (.nx (putL e i (ds++[d]))):=by unfold ce;rw[h,aL,hg,aL,aN hl]
theorem d5{f:List D->Rs D}{a:E}{e:Mi.Env}{x:D}(h:a e=.ok x):mN f [a] e=f [x]:=by unfold mN;rw[fP,h];rfl
theorem wF{f:List D->Rs D}{a b:E}{e:Mi.Env}{x y:D}(h:a e=.ok x)(h':b e=.ok y):mN f [a,b] e=f [x,y]:=by unfold mN;rw[fP,h,aL,fP,h'];rfl
theorem k4{a:E}{e:Mi.Env}{x:D}(h:a e=.ok x):mN bC [a] e=.ok (.lst [x]):=by rw[d5 h];exact aN (by simp)
theorem kQ{a b:E}{e:Mi.Env}{x y:D}(h:a e=.ok x)(h':b e=.ok y):mN dTup [a,b] e=.ok (.tup [x,y]):=by rw[wF h h'];exact aN (by simp)
theorem yf{f:Fn}{a:EW}{e:Mi.Env}{x:W}{d:D}(h:a e=.ok x)(hf:f [x]=.ok (.d d)):aJ f [a] e=.ok d:=by unfold aJ jQ;rw[eg,h];simp only[aL,eg,hf,rM]
theorem call2{f:Fn}{a b:EW}{e:Mi.Env}{x y:W}{d:D}(h:a e=.ok x)(h':b e=.ok y)(hf:f [x,y]=.ok (.d d)):aJ f [a,b] e=.ok d:=by unfold aJ jQ;rw[eg,h,aL,eg,h'];simp only[aL,eg,hf,rM]
theorem kh{f:Fn}{a b c:EW}{e:Mi.Env}{x y z:W}{d:D}(h:a e=.ok x)(h':b e=.ok y)(h'':c e=.ok z)(hf:f [x,y,z]=.ok (.d d)):aJ f [a,b,c] e=.ok d:=by unfold aJ jQ;rw[eg,h,aL,eg,h',aL,eg,h''];simp only[aL,eg,hf,rM]
theorem fj{α:Type}{tg:Tg}{c:C}{a:E}{e:Mi.Env}(f g:α->D)(p:α->Bool):∀(xs:List α),(∀x∈xs,∃e1,tg.put (f x) e=.ok e1/\c e1=.ok (p x)/\(p x=true->a e1=.ok (g x)))->cJ tg c a e (xs.map f)=.ok ((xs.filter p).map g)
 |[],_=>rfl
 |x::r,h=>by
  obtain⟨e1,h1,h2,h3⟩:=h x dj;have ih:=fj (tg:=tg) (c:=c) (a:=a) (e:=e) f g p r λy hy=>h y (dJ _ hy);rw[cS,cJ,h1,aL,h2,aL];cases hp:p x with
  |true=>rw[bb rfl,h3 hp,aL,ih,aL,FW hp];rfl
  |false=>rw[bc du,ih,FX (by rw[hp];exact du)]
theorem f7{tg:Tg}{body:S}(Inv:Nat->Mi.Env->Prop):∀(xs:List D) (k:Nat),(∀i x e,xs[i]? = aa x->Inv (k+i) e->∃e1 e2,tg.put x e=.ok e1/\body e1=.ok (.nx e2)/\Inv (k+i+1) e2)->∀e,Inv k e->∃e',eY tg body xs e=.ok (.nx e')/\Inv (k+xs.length) e'
 |[],k,_,e,h=>⟨e,rfl,h⟩
 |x::r,k,hs,e,h=>by
  obtain⟨e1,e2,h1,h2,h3⟩:=hs 0 x e rfl h;obtain⟨e',h4,h5⟩:=f7 Inv r (k+1) (λi y e hy hi=>by
   have:=hs (i+1) y e (by simpa using hy) (by rw[show k+(i+1)=k+1+i by omega];exact hi);rw[show k+(i+1)+1=k+1+i+1 by omega]at this;exact this) e2 h3
  refine⟨e',?_,by rw[cR,show k+(r.length+1)=k+1+r.length by omega];exact h5⟩;rw[eY,h1,aL,h2,aL];exact h4
theorem D9{α:Type}{tg:Tg}{body:S}{e:Mi.Env}{w:Out}(f:α->D)(st:Option α->Mi.Env)(p:α->Bool)(out:α->Out):∀(xs:List α) (o:Option α),
 (∀x∈xs,∀o,∃e1,tg.put (f x) (st o)=.ok e1/\body e1=.ok (if p x=true then out x else .nx (st (aa x)))) ->
 (∀x∈xs,p x=true->∃w,out x=.rt w) ->
 eY tg body (xs.map f) (st o)=.ok (match xs.find? p with|some x=>out x|none=>.nx (st (xs.getLast?.or o)))
 |[],o,_,_=>by cases o<;>rfl
 |x::r,o,h,ho=>by
  obtain⟨e1,h1,h2⟩:=h x dj o;rw[cS,eY,h1,aL,h2,aL];cases hp:p x with
  |true=>
   obtain⟨w,hw⟩:=ho x dj hp;rw[List.find?_cons_of_pos hp];simp only[jE,hw]
  |false=>
   rw[List.find?_cons_of_neg (by rw[hp];exact du)];have ih:=D9 (e:=e) (w:=w) f st p out r (aa x) (λy hy=>h y (dJ _ hy)) λy hy=>ho y (dJ _ hy);simp only[nU,ik];rw[ih];have:(r.getLast?.or (aa x))=((x::r).getLast?.or o):=by
    cases r with
    |nil=>rfl
    |cons y t=>simp[List.getLast?_cons]
   rw[this]
end Mi
namespace Mr
open PySem Mi
abbrev Ar:=Str×Str
def pairD(p:Ar):D:=.tup [.str p.1,.str p.2]
def aW(ac:List Str):D:=.tup (ac.map D.str)
def et(aj:List Ar):D:=.tup (aj.map pairD)
def aw(ac:List Str)(aj:List Ar):D:=.tup [aW ac,et aj]
def af(xs:List Str):D:=.lst (xs.map D.str)
theorem at0{α:Type}(a:α)(r:List α):dO (a::r) 0=aa a:=by simp[dO,fI]
theorem at1{α:Type}(a b:α)(r:List α):dO (a::b::r) 1=aa b:=by unfold dO fI;rw[bb (by decide),bb (by simp only[cR];omega)];rfl
theorem iW(ac:List Str)(aj:List Ar):bd (aw ac aj) (.int 0)=.ok (aW ac):=by unfold aw bd;simp[at0]
theorem pE(ac:List Str)(aj:List Ar):bd (aw ac aj) (.int 1)=.ok (et aj):=by unfold aw bd;simp[at1]
theorem rC{ac asked:List Str}(h:∀x∈asked,x∈ac):gt [.d (aW ac),.d (af asked)]=.ok (.d .non):=by
 have key:∀(xs:List Str) (o:Option W),(∀x∈xs,x∈ac)->∃o',eY (.n 2) (bv (cB (m2 dH (mV 2) (mV 0))) rq bD) (xs.map D.str) [aa (.d (aW ac)),aa (.d (af asked)),o]=.ok (.nx [aa (.d (aW ac)),aa (.d (af asked)),o']):=by
  intro xs
  induction xs with
  |nil=>exactλo _=>⟨o,rfl⟩
  |cons x r ih=>
   intro o hx;obtain⟨o',e⟩:=ih (aa (.d (.str x))) λy hy=>hx y (dJ _ hy);refine⟨o',?_⟩;rw[cS,eY];have:x∈ac:=hx x dj;simp only[aW,Ii,F4,F5,bv,cB,m2,mV,bD,aL,jX,jY,CN,this,decide_true,Bool.not_true,rE,nU,ik];exact e
 obtain⟨o',e⟩:=key asked ab h;unfold af at e;unfold gt DW;rw[me];simp only[cr,bt,mV,af,Nat.reduceSub,List.replicate_succ,F3,yY,u3,jX,jY,aL,JB,e,IG]
def f6(aj:List Ar)(x:Str):List Str:=(aj.filter λp=>decide (p.2=x)).map (·.1)
theorem Ku{ac:List Str}{aj:List Ar}{x:Str}(hx:x∈ac)(hl:aj.length<=64):qZ [.d (aw ac aj),.d (.str x)]=.ok (.d (.tup ((f6 aj x).map D.str))):=by
 have hr:=rC (ac:=ac) (asked:=[x]) (by simpa using hx);unfold qZ Di;rw[me];have hc:cJ (.t [1,2]) (cB (m2 b9 (mV 2) (mV 0))) (mV 1) [aa (.d (.str x)),ab,ab] (aj.map pairD)=.ok ((aj.filter λp=>decide (p.2=x)).map λp=>D.str p.1):=fj pairD (λp=>D.str p.1) (λp=>decide (p.2=x)) aj λp _=>⟨[aa (.d (.str x)),aa (.d (.str p.1)),aa (.d (.str p.2))],rfl,by simp only[cB,m2,mV,jX,jY,aL,nh,rE],λ_=>by simp only[mV,jX,jY]⟩
 have hg:be (([D.str x]:List D).length<=16777216) (Rs.ok (D.lst [D.str x]))=.ok (.lst [.str x]):=aN (by simp);unfold af at hr;have hp:iz [aa 1,ab,ab] [aa (W.d (aw ac aj)),aa (W.d (D.str x))]=[aa (.d (.str x)),ab,ab]:=rfl;simp only[cR,iE,cY,EF]at hg;simp only[cS,u4,aD,fB,aJ,jQ,eg,wD,m2,mV,Nat.reduceSub,F3,yY,u3,jY,mC,aL,iW,mN,fP,jX,bC,cR,iE,cY,EF,br]at hr ⊢;rw[hr];simp only[aL,rM,cg,bt,m2,mV,mC,jY,pE,et,Le,hp];rw[aN (by rw[aM];omega),hc];simp only[aL,K0,Oe,f6,dq];rfl
def ready(aj:List Ar)(told:List Str)(x:Str):Bool:=!decide (x∈told)&&(f6 aj x).all λy=>decide (y∈told)
def nxt(ac:List Str)(aj:List Ar)(told:List Str):Option Str:=ac.find? (ready aj told)
theorem tF{aj:List Ar}{x:Str}(hl:aj.length<=64):(f6 aj x).length<=64:=by unfold f6;rw[aM];exact dr (mr _ _) hl
structure gP(ac:List Str)(aj:List Ar):Prop where
 nd:ac.Nodup
 pos:1<=ac.length
 le:ac.length<=8
 al:aj.length<=64
 tl:∀p∈aj,p.1∈ac
 rk:∃r:Str->Int,∀p∈aj,r p.1<r p.2
theorem s0{aj:List Ar}{x y:Str}:y∈f6 aj x↔(y,x)∈aj:=by
 unfold f6;constructor
 ·intro h;obtain⟨p,hp,rfl⟩:=cq.mp h;obtain⟨h1,h2⟩:=dD.mp hp;have:p.2=x:=by simpa using h2
  rw[<- this];exact h1
 ·intro h;exact cq.mpr ⟨(y,x),dD.mpr ⟨h,by simp⟩,rfl⟩
def ord(ac:List Str)(aj:List Ar):Nat->List Str
 |0=>[]
 | k+1=>match nxt ac aj (ord ac aj k)with
  |some x=>ord ac aj k++[x]
  |none=>ord ac aj k
theorem fi{α:Type}[DecidableEq α]:∀{l m:List α},l.Nodup->(∀x∈l,x∈m)->l.length<=m.length
 |[],_,_,_=>gE _
 |a::l,m,nd,h=>by
  have nd:=jZ.mp nd;have:l.length<=(m.erase a).length:=fi nd.2 λx hx=>(List.mem_erase_of_ne (λz:x=a=>nd.1 (z ▸ hx))).mpr (h x (dJ _ hx));have hm:=h a dj;rw[List.length_erase_of_mem hm]at this;have:0<m.length:=uW hm;rw[cR];omega
end Mr
namespace Mr
open PySem Mi
theorem xL:∀xs ys:List Str,gR (xs.map D.str) (ys.map D.str)=decide (xs=ys)
 |[],[]=>rfl
 |[],_::_=>rfl
 |_::_,[]=>rfl
 |x::xs,y::ys=>by
  rw[cS,cS,gR,ut,xL xs ys];by_cases h1:x=y<;>by_cases h2:xs=ys<;>simp[h1,h2]
end Mr
namespace My
def wl:List Nat:=[101,116,97,111,105,110,115,104,114,100,108,117,99,109,102,119,121,112,118,98,103,107,113,106,120,122]
def fF(n:Int):Nat:=wl.getD (n%26).toNat 0
def fA(c:Int):List Nat:=(bQ 8).map λ(k:Nat)=>fF (c/(4+3*(k:Int)))
def fO(c:Int)(n:Nat):List Nat:=(bQ n).map λ(k:Nat)=>fF (c/32+5*(k:Int)+(k:Int)*(k:Int))
def words(c:Int)(many:Nat):List (List Nat):=
 if c%4<2 then
  if c%4=0 then(bQ many).map λ(k:Nat)=>(fA c).take (k+1)
  else(bQ many).map λ(k:Nat)=>(fA c).drop (7-k)
 else
  (bQ many).map λ(k:Nat)=>(fO c (c/4%8).toNat).take (c/256%(c/4%8+1)).toNat++[fF (c/7+5*(k:Int))]++(fO c (c/4%8).toNat).drop (c/256%(c/4%8+1)).toNat
def fv(x:List Nat):Prop:=1<=x.length/\x.length<=8/\∀c∈x,97<=c/\c<=122
theorem xp:∀c∈wl,97<=c/\c<=122:=by decide
theorem Ir:wl.Nodup:=by decide
theorem tV:wl.length=26:=by decide
theorem xK(n:Int):fF n∈wl:=by
 unfold fF;have h1:=iL n (b:=26) (by decide);have h2:=iK n (b:=26) (by decide);have h3:(n%26).toNat<wl.length:=by rw[tV];omega
 rw[gj,ib h3];exact List.getElem_mem h3
theorem N3{n m:Int}(h:fF n=fF m):n%26=m%26:=by
 unfold fF at h;have h1:=iL n (b:=26) (by decide);have h2:=iK n (b:=26) (by decide);have h3:(n%26).toNat<wl.length:=by rw[tV];omega
 have h1':=iL m (b:=26) (by decide);have h2':=iK m (b:=26) (by decide);have h3':(m%26).toNat<wl.length:=by rw[tV];omega
 rw[gj,ib h3,gj,ib h3']at h;have:=(pK Ir).mp h;omega
theorem j7(c:Int):(fA c).length=8:=by simp[fA]
theorem pb(c:Int)(n:Nat):(fO c n).length=n:=by simp[fO]
theorem Eo(c:Int):∀x∈fA c,97<=x/\x<=122:=λx hx=>by
 obtain⟨k,_,rfl⟩:=cq.mp hx;exact xp _ (xK _)
theorem DI(c:Int)(n:Nat):∀x∈fO c n,97<=x/\x<=122:=λx hx=>by
 obtain⟨k,_,rfl⟩:=cq.mp hx;exact xp _ (xK _)
theorem qQ(c:Int)(many:Nat):(words c many).length=many:=by unfold words;split<;>(try split)<;>simp
theorem wS{α:Type}(f:Nat->α)(n:Nat)(h:∀i j,i<n->j<n->f i=f j->i=j):((bQ n).map f).Nodup:=by
 induction n with
 |zero=>simp
 |succ n ih=>
  rw[List.range_succ,eV,List.map_singleton];rw[fH];refine⟨ih λi j hi hj=>h i j (by omega) (by omega),by simp,λa ha b hb=>?_⟩;obtain⟨i,hi,rfl⟩:=cq.mp ha;have hi:=gD.mp hi;have hb:b=f n:=by simpa using hb
  subst hb;intro e;have:=h i n (by omega) (by omega) e;omega
theorem qy(c:Int)(many:Nat)(hm:many<=8):(words c many).Nodup:=by
 unfold words;split
 ·split
  ·refine wS _ _ λi j hi hj e=>?_;have:=congrArg y3 e;rw[gC,gC,j7]at this;omega
  ·refine wS _ _ λi j hi hj e=>?_;have:=congrArg y3 e;rw[jf,jf,j7]at this;omega
 ·refine wS _ _ λi j hi hj e=>?_;rw[pJ,pJ]at e;have e1:=List.append_cancel_left e;have e2:=List.append_cancel_right e1;have e3:fF (c/7+5*(i:Int))=fF (c/7+5*(j:Int)):=by simpa using e2
  have:=N3 e3;omega
theorem fT(c:Int)(many:Nat)(hm:many<=8):∀x∈words c many,fv x:=by
 unfold words;split
 ·split
  ·intro x hx;obtain⟨k,hk,rfl⟩:=cq.mp hx;have hk:=gD.mp hk;refine⟨by rw[gC,j7];omega,by rw[gC,j7];omega,λy hy=>Eo c y (pH hy)⟩
  ·intro x hx;obtain⟨k,hk,rfl⟩:=cq.mp hx;have hk:=gD.mp hk;refine⟨by rw[jf,j7];omega,by rw[jf,j7];omega,λy hy=>Eo c y (yT hy)⟩
 ·intro x hx;obtain⟨k,hk,rfl⟩:=cq.mp hx;have h1:=iL (c/4) (b:=8) (by decide);have h2:=iK (c/4) (b:=8) (by decide);have h3:=iL (c/256) (b:=c/4%8+1) (by omega);have h4:=iK (c/256) (b:=c/4%8+1) (by omega);have hl:((fO c (c/4%8).toNat).take (c/256%(c/4%8+1)).toNat++[fF (c/7+5*(k:Int))]++(fO c (c/4%8).toNat).drop (c/256%(c/4%8+1)).toNat).length=(c/4%8).toNat+1:=by
   rw[cu,cu,gC,jf,pb];simp;omega
  refine⟨by rw[hl];omega,by rw[hl];omega,λy hy=>?_⟩;rcases bJ.mp hy with hy|hy
  ·rcases bJ.mp hy with hy|hy
   ·exact DI c _ y (pH hy)
   ·have:y=fF (c/7+5*(k:Int)):=by simpa using hy
    subst this;exact xp _ (xK _)
  ·exact DI c _ y (yT hy)
end My
namespace Mi
open PySem
def S'(l:List Nat):Str:=⟨l.toArray⟩
theorem t6(l:List Nat):(S' l).cps.toList=l:=rfl
theorem jG(l:List Nat):(S' l).length=l.length:=by simp[S',nY]
theorem MT{x y:Str}(h:x.cps.toList=y.cps.toList):x=y:=by obtain⟨a⟩:=x;obtain⟨b⟩:=y;have h:a.toList=b.toList:=h;rw[Array.toList_inj.mp h]
theorem KP{l m:List Nat}(h:S' l=S' m):l=m:=by have:=congrArg (λx:Str=>x.cps.toList) h;simpa [S']using this
theorem JQ(l m:List Nat):S' l++S' m=S' (l++m):=by show(⟨l.toArray++m.toArray⟩ : Str)=⟨(l++m).toArray⟩;simp
theorem A5:∀l:List Str,(jj "" l).cps.toList=l.flatMap (·.cps.toList)
 |[]=>by simp[jj,nZ]
 |[x]=>by simp[jj]
 |x::y::r=>by
  have ih:=A5 (y::r);have e:jj "" (x::y::r)=x ++ "" ++ jj "" (y::r):=rfl;have e2:("" : Str).cps.toList=[]:=by decide +kernel
  rw[e];show((x.cps++("" : Str).cps)++(jj "" (y::r)).cps).toList=_;rw[vC,vC,e2,ih];simp
theorem join_ones(l:List Nat):jj "" (l.map λx=>S' [x])=S' l:=by
 refine MT ?_;rw[A5,t6]
 induction l with
 |nil=>rfl
 |cons a r ih=>rw[cS,mz,ih];rfl
theorem Il{α:Type}(xs:List α)(k:Nat):jI xs ab (aa (k:Int))=xs.take k:=by
 show(xs.drop 0).take ((if(k:Int)<0 then((k:Int)+(xs.length:Int)).toNat else min (k:Int).toNat xs.length)-0)=_;rw[bc (by omega),sr,Nat.sub_zero,j3];rcases zo k xs.length with h|h
 ·rw[zm h]
 ·rw[zk h,pF (bA _),pF h]
theorem Nf{α:Type}(xs:List α)(k:Nat):jI xs (aa (k:Int)) ab=xs.drop k:=by
 show(xs.drop (if(k:Int)<0 then((k:Int)+(xs.length:Int)).toNat else min (k:Int).toNat xs.length)).take (xs.length-(if(k:Int)<0 then((k:Int)+(xs.length:Int)).toNat else min (k:Int).toNat xs.length))=_;rw[bc (by omega),j3];rcases zo k xs.length with h|h
 ·rw[zm h];exact pF (by rw[jf];exact bA _)
 ·rw[zk h,uV (bA _),uV h];simp
theorem E7(l:List Nat)(k:Nat):ma (S' l) ab (aa (k:Int))=S' (l.take k):=by unfold ma;rw[t6,Il];rfl
theorem Cf(l:List Nat)(k:Nat):ma (S' l) (aa (k:Int)) ab=S' (l.drop k):=by unfold ma;rw[t6,Nf];rfl
def cK:Str := "etaoinshrdlucmfwypvbgkqjxz"
theorem K4:cK.cps.toList=My.wl:=by decide +kernel
theorem Ow:cK.length<=16777216:=by decide +kernel
theorem wg{α:Type}{xs:List α}{i:Int}(h0:0<=i)(h1:i<xs.length)(d:α):dO xs i=aa (xs.getD i.toNat d):=by
 unfold dO fI;rw[bb h0,bb h1];have h3:i.toNat<xs.length:=by omega
 show xs[i.toNat]? = _;rw[gj,ib h3];rfl
theorem HY(n:Int):dO cK.cps.toList (n%26)=aa (My.fF n):=by rw[K4];have h1:=iL n (b:=26) (by decide);have h2:=iK n (b:=26) (by decide);exact wg h1 (by rw[My.tV];omega) 0
theorem uO{cs:List Int}{i:Int}(h0:0<=i)(h1:i<cs.length):bd (.lst (cs.map D.int)) (.int i)=.ok (.int (cs.getD i.toNat 0)):=by
 show dA (dO (cs.map D.int) i)=_;rw[wg h0 (by rw[aM];exact h1) (.int 0),lD];have h3:i.toNat<cs.length:=by omega
 rw[gj,c9,gj,ib h3];rfl
theorem Mw{cs:List Str}{i:Int}(h0:0<=i)(h1:i<cs.length):bd (.lst (cs.map D.str)) (.int i)=.ok (.str (cs.getD i.toNat nZ)):=by
 show dA (dO (cs.map D.str) i)=_;rw[wg h0 (by rw[aM];exact h1) (.str nZ),lD];have h3:i.toNat<cs.length:=by omega
 rw[gj,c9,gj,ib h3];rfl
theorem yB(n:Nat):dP 0 (n:Int)=(bQ n).map λ(k:Nat)=>D.int (k:Int):=by unfold dP;rw[show((n:Int)-0).toNat=n by omega];exact sj λk _=>by rw[Int.zero_add]
theorem kE(n:Nat):(dP 0 (n:Int)).length=n:=by rw[yB];simp
theorem wz{n i:Nat}{x:D}(h:(dP 0 (n:Int))[i]? = aa x):i<n/\x=.int (i:Int):=by
 rw[yB,c9]at h;cases hr:(bQ n)[i]? with
 |none=>rw[hr]at h;cases h
 |some k=>
  rw[hr]at h;obtain⟨h1,h2⟩:=cv.mp hr;rw[yV]at h2;subst h2;rw[sk]at h1;exact⟨h1,(fY h).symm⟩
theorem oD{tg:Tg}{a:E}{e:Mi.Env}(g:Nat->D)(n:Nat)(h:∀k<n,∃e1,tg.put (.int (k:Int)) e=.ok e1/\a e1=.ok (g k)):cJ tg c6 a e (dP 0 (n:Int))=.ok ((bQ n).map g):=by
 rw[yB,fj (λ(k:Nat)=>D.int (k:Int)) g (λ_=>true) (bQ n) λk hk=>?_]
 ·rw[mx.mpr λ_ _=>rfl]
 ·obtain⟨e1,h1,h2⟩:=h k (gD.mp hk);exact⟨e1,h1,rfl,λ_=>h2⟩
theorem ud{i:Int}(h0:-1000<=i)(h1:i<=1000):okR i:=by unfold okR;omega
theorem jL{i j:Int}(h0:-(2 ^ 64)<i)(h1:i<2 ^ 64):k7 i j:=.inl ⟨h0,h1⟩
theorem r6{i j:Int}(h0:-(2 ^ 64)<j)(h1:j<2 ^ 64):k7 i j:=.inr ⟨h0,h1⟩
theorem jT{j:Int}(h0:0<j)(h1:j<2 ^ 64):lf j:=by
 refine⟨h0,?_⟩;have h2:j.natAbs<2 ^ 64:=by omega
 have h3:j.natAbs≠0:=by omega
 have:=(Nat.log2_lt h3).mpr h2;omega
end Mi
namespace Mr
open PySem Mi
open My (words fA fO fF j7 pb qQ qy)
theorem xw(n:Int):bd (.str cK) (.int (n%26))=.ok (.str (S' [fF n])):=by show be _ _=_;rw[aN Ow,HY];rfl
theorem EV(l:List Nat)(h:l.length<=8):tT (.str "") (.lst (l.map λx=>D.str (S' [x])))=.ok (.str (S' l)):=by
 show(dA (lj (l.map λx=>D.str (S' [x])))).bind _=_;have e:l.map (λx=>D.str (S' [x]))=(l.map λx=>S' [x]).map D.str:=by rw[dq];rfl
 rw[e,M8,lD,aL,aN ?_,join_ones];have h1:((l.map λx=>S' [x]).map (·.length)).sum=l.length:=by
  clear h e
  induction l with
  |nil=>rfl
  |cons a r ih=>rw[cS,cS,List.sum_cons,ih,jG,cR];simp;omega
 have h2:("" : Str).length=0:=by decide +kernel
 rw[h1,h2];omega
theorem st1(c:Int)(k:Nat)(d32:lf 32)(m5:k7 5 (k:Int))(mk:k7 (k:Int) k):(m2 aY (m2 aY (m2 cW (mV 1) (mC (.int 32))) (m2 bY (mC (.int 5)) (mV 2))) (m2 bY (mV 2) (mV 2))) [aa (.d (.str cK)),aa (.d (.int c)),aa (.d (.int k))]=.ok (.int (c/32+5*(k:Int)+(k:Int)*(k:Int))):=(aA (aA (aA rfl rfl (aN d32)) (aA rfl rfl (aN m5)) rfl) (aA rfl rfl (aN mk)) rfl)
theorem st2(c:Int)(e:Mi.Env)(a:E)(h:a e=.ok (.int c))(h0:e[0]? = aa (aa (.d (.str cK)))):m2 bd (mV 0) (m2 bI a (mC (.int 26))) e=.ok (.str (S' [fF c])):=aA (x:=.str cK) (by unfold mV;rw[h0]) (aA h rfl (aN (by decide))) (xw _)
theorem OJ{k n:Nat}(h:k<n)(h8:n<8):k7 (k:Int) k:=jL (by omega) (by omega)
theorem size_of(c:Int):∃n:Nat,c/4%8=(n:Int)/\n<8:=by have z1:=iL (c/4) (b:=8) (by decide);have z2:=iK (c/4) (b:=8) (by decide);exact⟨(c/4%8).toNat,by omega,by omega⟩
theorem at_of(c:Int)(n:Nat):∃t:Nat,c/256%((n:Int)+1)=(t:Int)/\t<=n:=by have z3:=iL (c/256) (b:=(n:Int)+1) (by omega);have z4:=iK (c/256) (b:=(n:Int)+1) (by omega);exact⟨(c/256%((n:Int)+1)).toNat,by omega,by omega⟩
theorem J9(c:Int)(m:Nat)(hm:m<=8):r9 [.d (.int c),.d (.int (m:Int))]=.ok (.d (af ((words c m).map S'))):=by
 unfold r9 CC;rw[jW];have hr8:okR 8:=ud (by decide) (by decide);have hrm:okR (m:Int):=ud (by omega) (by omega);have hl0:(PySem.Str.ofString "etaoinshrdlucmfwypvbgkqjxz")=cK:=rfl;have g4:∀r:Rs D,be ((0:Int)<4) r=r:=λr=>aN (by decide);have g26:∀r:Rs D,be ((0:Int)<26) r=r:=λr=>aN (by decide);have g8:∀r:Rs D,be ((0:Int)<8) r=r:=λr=>aN (by decide);by_cases c1:c%4<2
 ·have vH:cJ (.n 2) c6 (m2 bd (mV 0) (m2 bI (m2 cW (mV 1) (m2 aY (mC (.int 4)) (m2 bY (mC (.int 3)) (mV 2)))) (mC (.int 26)))) [aa (.d (.str cK)),aa (.d (.int c)),ab] (dP 0 8)=.ok ((fA c).map λx=>D.str (S' [x])):=by
   have:=oD (tg:=.n 2) (a:=m2 bd (mV 0) (m2 bI (m2 cW (mV 1) (m2 aY (mC (.int 4)) (m2 bY (mC (.int 3)) (mV 2)))) (mC (.int 26)))) (e:=[aa (.d (.str cK)),aa (.d (.int c)),ab]) (λk=>D.str (S' [fF (c/(4+3*(k:Int)))])) 8 λk hk=>⟨[aa (.d (.str cK)),aa (.d (.int c)),aa (.d (.int k))],rfl,by
    simp only[m2,mV,jY,jX,mC,aL,q8];rw[aN (jL (by decide) (by decide))];simp only[aL,rQ,div_ii];rw[aN (jT (by omega) (by omega))];simp only[aL,nG,g26,xw]⟩
   rw[show((8:Nat):Int)=8 from rfl]at this;rw[this];unfold fA;rw[dq];rfl
  have hp:iz [aa 2,aa 0,ab] [aa (.d (.int c)),aa (.d (.int (m:Int))),aa (.d (.str cK)),ab,ab,ab,ab]=[aa (.d (.str cK)),aa (.d (.int c)),ab]:=rfl;have hj:=EV (fA c) (by rw[j7];omega);have hw8:(dP 0 8).length<=16777216:=by rw[show(8:Int)=((8:Nat):Int)from rfl,kE];omega
  have hwm:(dP 0 (m:Int)).length<=16777216:=by rw[kE];omega
  by_cases c2:c%4=0
  ·have hc:cJ (.n 1) c6 (eI g6 (mV 0) ab (aa (m2 aY (mV 1) (mC (.int 1))))) [aa (.d (.str (S' (fA c)))),ab] (dP 0 (m:Int))=.ok ((words c m).map λl=>D.str (S' l)):=by
    rw[oD (λk=>D.str (S' ((fA c).take (k+1)))) m λk hk=>⟨[aa (.d (.str (S' (fA c)))),aa (.d (.int k))],rfl,by
     simp only[eI,mV,jY,jt,m2,jX,mC,aL,rQ,rX,xo];rw[aN (by rw[jG,j7];omega),show(k:Int)+1=((k+1:Nat):Int)by omega,E7]⟩]
    unfold words;rw[bb c1,bb c2,dq];rfl
   have hp2:∀z,iz [aa 3,ab] [aa (.d (.int c)),aa (.d (.int (m:Int))),aa (.d (.str cK)),aa z,ab,ab,ab]=[aa z,ab]:=λ_=>rfl;have hmod:cB (m2 fV (m2 bI (mV 0) (mC (.int 4))) (mC (.int 2))) [aa (.d (.int c)),aa (.d (.int (m:Int))),aa (.d (.str cK)),ab,ab,ab,ab]=.ok true:=bR ((aA (aA rfl rfl (g4 _)) rfl rfl).trans (by rw[vP,bV c1]))
   have zX:cB (m2 b9 (m2 bI (mV 0) (mC (.int 4))) (mC (.int 0))) [aa (.d (.int c)),aa (.d (.int (m:Int))),aa (.d (.str cK)),aa (.d (.str (S' (fA c)))),ab,ab,ab]=.ok true:=bR ((aA (aA rfl rfl (g4 _)) rfl rfl).trans (by rw[oK,bV c2]))
   show Rs.bind _ iV=_;rw[aO (e':=[aa (.d (.int c)),aa (.d (.int (m:Int))),aa (.d (.str cK)),ab,ab,ab,ab]) (bN rfl)];refine(congrArg (λr=>Rs.bind r iV) (nM (w:=.d (af ((words c m).map S'))) ?_)).trans rfl;rw[fE hmod,aO (e':=[aa (.d (.int c)),aa (.d (.int (m:Int))),aa (.d (.str cK)),aa (.d (.str (S' (fA c)))),ab,ab,ab]) (bN (aA rfl (en (iQ rfl hr8) hw8 vH) hj))];rw[nM ((fE zX).trans (dy (bB (en (iQ rfl hrm) hwm hc))))];rw[af,dq];rfl
  ·have hc:cJ (.n 1) c6 (eI g6 (mV 0) (aa (m2 kZ (mC (.int 7)) (mV 1))) ab) [aa (.d (.str (S' (fA c)))),ab] (dP 0 (m:Int))=.ok ((words c m).map λl=>D.str (S' l)):=by
    rw[oD (λk=>D.str (S' ((fA c).drop (7-k)))) m λk hk=>⟨[aa (.d (.str (S' (fA c)))),aa (.d (.int k))],rfl,by
     simp only[eI,mV,jY,jt,m2,mC,jX,aL,Ll,rX,xo];rw[aN (by rw[jG,j7];omega),show(7:Int)-(k:Int)=((7-k:Nat):Int)by omega,Cf]⟩]
    unfold words;rw[bb c1,bc c2,dq];rfl
   have hp2:∀z,iz [aa 3,ab] [aa (.d (.int c)),aa (.d (.int (m:Int))),aa (.d (.str cK)),aa z,ab,ab,ab]=[aa z,ab]:=λ_=>rfl;have hmod:cB (m2 fV (m2 bI (mV 0) (mC (.int 4))) (mC (.int 2))) [aa (.d (.int c)),aa (.d (.int (m:Int))),aa (.d (.str cK)),ab,ab,ab,ab]=.ok true:=bR ((aA (aA rfl rfl (g4 _)) rfl rfl).trans (by rw[vP,bV c1]))
   have zX:cB (m2 b9 (m2 bI (mV 0) (mC (.int 4))) (mC (.int 0))) [aa (.d (.int c)),aa (.d (.int (m:Int))),aa (.d (.str cK)),aa (.d (.str (S' (fA c)))),ab,ab,ab]=.ok false:=bR ((aA (aA rfl rfl (g4 _)) rfl rfl).trans (by rw[oK,cE c2]))
   show Rs.bind _ iV=_;rw[aO (e':=[aa (.d (.int c)),aa (.d (.int (m:Int))),aa (.d (.str cK)),ab,ab,ab,ab]) (bN rfl)];refine(congrArg (λr=>Rs.bind r iV) (nM (w:=.d (af ((words c m).map S'))) ?_)).trans rfl;rw[fE hmod,aO (e':=[aa (.d (.int c)),aa (.d (.int (m:Int))),aa (.d (.str cK)),aa (.d (.str (S' (fA c)))),ab,ab,ab]) (bN (aA rfl (en (iQ rfl hr8) hw8 vH) hj))];rw[aO (dU zX),dy (bB (en (iQ rfl hrm) hwm hc))];rw[af,dq];rfl
 ·obtain⟨n,hn,hn8⟩:=size_of c;obtain⟨t,ht,ht8⟩:=at_of c n;have hrn:okR (n:Int):=ud (by omega) (by omega);have d4:lf 4:=jT (by decide) (by decide);have d32:lf 32:=jT (by decide) (by decide);have Pd:lf 256:=jT (by decide) (by decide);have d7:lf 7:=jT (by decide) (by decide);have Pe:cJ (.n 2) c6 (m2 bd (mV 0) (m2 bI (m2 aY (m2 aY (m2 cW (mV 1) (mC (.int 32))) (m2 bY (mC (.int 5)) (mV 2))) (m2 bY (mV 2) (mV 2))) (mC (.int 26)))) [aa (.d (.str cK)),aa (.d (.int c)),ab] (dP 0 (n:Int))=.ok ((fO c n).map λx=>D.str (S' [x])):=by
   rw[oD (λk=>D.str (S' [fF (c/32+5*(k:Int)+(k:Int)*(k:Int))])) n λk hk=>⟨[aa (.d (.str cK)),aa (.d (.int c)),aa (.d (.int k))],rfl,by
    exact st2 _ _ _ (st1 c k d32 (jL (by decide) (by decide)) (OJ hk hn8)) rfl⟩]
   unfold fO;rw[dq];rfl
  have hp:iz [aa 2,aa 0,ab] [aa (.d (.int c)),aa (.d (.int (m:Int))),aa (.d (.str cK)),ab,aa (.d (.int (n:Int))),ab,ab]=[aa (.d (.str cK)),aa (.d (.int c)),ab]:=rfl;have hj:=EV (fO c n) (by rw[pb];omega);have hwn:(dP 0 (n:Int)).length<=16777216:=by rw[kE];omega
  have hwm:(dP 0 (m:Int)).length<=16777216:=by rw[kE];omega
  have hc:cJ (.n 4) c6 (m2 aY (m2 aY (eI g6 (mV 0) ab (aa (mV 2))) (m2 bd (mV 1) (m2 bI (m2 aY (m2 cW (mV 3) (mC (.int 7))) (m2 bY (mC (.int 5)) (mV 4))) (mC (.int 26))))) (eI g6 (mV 0) (aa (mV 2)) ab))
   [aa (.d (.str (S' (fO c n)))),aa (.d (.str cK)),aa (.d (.int (t:Int))),aa (.d (.int c)),ab] (dP 0 (m:Int))=.ok ((words c m).map λl=>D.str (S' l)):=by
   rw[oD (λk=>D.str (S' ((fO c n).take t++[fF (c/7+5*(k:Int))]++(fO c n).drop t))) m λk hk=>⟨[aa (.d (.str (S' (fO c n)))),aa (.d (.str cK)),aa (.d (.int (t:Int))),aa (.d (.int c)),aa (.d (.int k))],rfl,by
    have gS:∀r:Rs D,be ((S' (fO c n)).length<=16777216) r=r:=λr=>aN (by rw[jG,pb];omega);have gM:∀r:Rs D,be (k7 5 (k:Int)) r=r:=λr=>aN (jL (by decide) (by decide));simp only[m2,eI,mV,jY,jt,jX,aL,rX,xo,E7,gS,mC,div_ii,aN d7,q8,gM,rQ,nG,g26,xw,Bn,Cf];rw[aN (by rw[jG,jG,gC,pb];simp;omega)];simp only[JQ,aL,Bn];rw[aN (by rw[jG,jG,cu,gC,jf,pb];simp;omega)]⟩]
   unfold words;rw[bc c1,dq,hn,ht];rfl
  have hmod:cB (m2 fV (m2 bI (mV 0) (mC (.int 4))) (mC (.int 2))) [aa (.d (.int c)),aa (.d (.int (m:Int))),aa (.d (.str cK)),ab,ab,ab,ab]=.ok false:=bR ((aA (aA rfl rfl (g4 _)) rfl rfl).trans (by rw[vP,cE c1]))
  show Rs.bind _ iV=_;rw[aO (e':=[aa (.d (.int c)),aa (.d (.int (m:Int))),aa (.d (.str cK)),ab,ab,ab,ab]) (bN rfl)];rw[aO (dU hmod)];rw[aO (e':=[aa (.d (.int c)),aa (.d (.int (m:Int))),aa (.d (.str cK)),ab,aa (.d (.int (n:Int))),ab,ab]) (bN (d:=.int (n:Int)) ((aA (aA rfl rfl (aN d4)) rfl (g8 _)).trans (by rw[hn])))];rw[aO (e':=[aa (.d (.int c)),aa (.d (.int (m:Int))),aa (.d (.str cK)),ab,aa (.d (.int (n:Int))),aa (.d (.str (S' (fO c n)))),ab]) (bN (aA rfl (en (iQ rfl hrn) hwn Pe) hj))];rw[aO (e':=[aa (.d (.int c)),aa (.d (.int (m:Int))),aa (.d (.str cK)),ab,aa (.d (.int (n:Int))),aa (.d (.str (S' (fO c n)))),aa (.d (.int (t:Int)))]) (bN (d:=.int (t:Int)) ((aA (aA rfl rfl (aN Pd)) (aA rfl rfl rfl) (aN (by omega))).trans (by rw[ht])))];rw[dy (bB (en (iQ rfl hrm) hwm hc))];simp only[aL,J1,af,dq];rfl
end Mr
namespace Mr
open PySem Mi
open My (words qQ qy fv)
theorem pq(n:Nat)(h:n<=8):okR (n:Int):=ud (by omega) (by omega)
theorem JF{ls:List Int}{z:Int}(h0:0<=z)(h1:z<ls.length)(hl:ls.length<=100):ng (ls.map D.int) z=.ok (.int (ls.getD z.toNat 0),(ls.eraseIdx z.toNat).map D.int):=by
 have h3:z.toNat<ls.length:=by omega
 unfold ng;rw[aN (by omega),show fI (ls.map D.int).length z=aa z.toNat by
  unfold fI;rw[bb h0,bb (by rw[aM];exact h1)],lD,aL,c9,ib h3,gj,ib h3]
 show Rs.ok (D.int ls[z.toNat],(ls.map D.int).eraseIdx z.toNat)=_;have:∀(l:List Int) (k:Nat),(l.map D.int).eraseIdx k=(l.eraseIdx k).map D.int:=by
  intro l
  induction l with
  |nil=>intro k;rfl
  |cons a r ih=>
   intro k;cases k with
   |zero=>rfl
   |succ k=>rw[cS,FV,ih k];rfl
 rw[this];rfl
theorem jJ(e:Mi.Env):mN bC [] e=.ok (.lst []):=by show be (([]:List D).length<=16777216) (Rs.ok (D.lst []))=_;exact aN (by simp)
end Mr
namespace Mr
open PySem Mi
end Mr
namespace Mr
open PySem Mi
abbrev Ix:=Nat×Nat
def wb(p q:Ix):Prop:=p.1<q.1\/(p.1=q.1/\p.2<q.2)
def nth(ac:List Str)(i:Nat):Str:=ac.getD i nZ
def arrOf(ac:List Str)(p:Ix):Ar:=(nth ac p.1,nth ac p.2)
structure qr(ac:List Str)(A:List Ix)(r:Nat->Int):Prop where
 nd:ac.Nodup
 pos:1<=ac.length
 le:ac.length<=8
 gN:A.Pairwise wb
 all:∀p∈A,p.1<ac.length/\p.2<ac.length/\r p.1<r p.2
 al:A.length<=64
theorem oO{ac:List Str}{i:Nat}(h:i<ac.length):nth ac i∈ac:=by unfold nth;rw[gj,ib h];exact List.getElem_mem h
theorem oq{ac:List Str}(nd:ac.Nodup){i j:Nat}(hi:i<ac.length)(hj:j<ac.length)(h:nth ac i=nth ac j):i=j:=by unfold nth at h;rw[gj,ib hi,gj,ib hj]at h;exact(pK nd).mp h
theorem qr.aZ{ac:List Str}{A:List Ix}{r:Nat->Int}(N:qr ac A r):gP ac (A.map (arrOf ac)):=by
 refine⟨N.nd,N.pos,N.le,by rw[aM];exact N.al,λp hp=>?_,λx=>r (ac.idxOf x),λp hp=>?_⟩
 ·obtain⟨q,hq,rfl⟩:=cq.mp hp;exact oO (N.all q hq).1
 ·obtain⟨q,hq,rfl⟩:=cq.mp hp;obtain⟨h1,h2,h3⟩:=N.all q hq;have key:∀i,i<ac.length->ac.idxOf (nth ac i)=i:=λi hi=>by
   have hm:=oO hi;have hl:ac.idxOf (nth ac i)<ac.length:=List.idxOf_lt_length_of_mem hm;refine oq N.nd hl hi ?_;have h4:ac[ac.idxOf (nth ac i)]=nth ac i:=List.getElem_idxOf hl;show ac.getD (ac.idxOf (nth ac i)) nZ=_;rw[gj,ib hl];exact h4
  show r (ac.idxOf (nth ac q.1))<r (ac.idxOf (nth ac q.2));rw[key _ h1,key _ h2];exact h3
def good(m:Nat)(r:Nat->Int)(A:List Ix)(j k:Nat):Prop:=A.Pairwise wb/\(∀p∈A,p.1<m/\p.2<m/\r p.1<r p.2/\(p.1<j\/(p.1=j/\p.2<k)))/\A.length<=8*j+k
theorem good.skip{m:Nat}{r:Nat->Int}{A:List Ix}{j k:Nat}(h:good m r A j k):good m r A j (k+1):=⟨h.1,λp hp=>⟨(h.2.1 p hp).1,(h.2.1 p hp).2.1,(h.2.1 p hp).2.2.1,by have:=(h.2.1 p hp).2.2.2;omega⟩,by have:=h.2.2;omega⟩
theorem good.add{m:Nat}{r:Nat->Int}{A:List Ix}{j k:Nat}(h:good m r A j k)(hj:j<m)(hk:k<m)(hr:r j<r k):good m r (A++[(j,k)]) j (k+1):=by
 refine⟨List.pairwise_append.mpr ⟨h.1,List.pairwise_singleton _ _,λp hp q hq=>?_⟩,λp hp=>?_,by rw[cu];have:=h.2.2;simp;omega⟩
 ·have:q=(j,k):=by simpa using hq
  subst this;have:=(h.2.1 p hp).2.2.2;exact this
 ·rcases bJ.mp hp with hp|hp
  ·exact(h.skip.2.1 p hp)
  ·have:p=(j,k):=by simpa using hp
   subst this;exact⟨hj,hk,hr,.inr ⟨rfl,by omega⟩⟩
theorem good.next{m:Nat}{r:Nat->Int}{A:List Ix}{j k:Nat}(h:good m r A j k)(hk:k<=8):good m r A (j+1) 0:=⟨h.1,λp hp=>⟨(h.2.1 p hp).1,(h.2.1 p hp).2.1,(h.2.1 p hp).2.2.1,by have:=(h.2.1 p hp).2.2.2;omega⟩,by have:=h.2.2;omega⟩
def gT(ac:List Str)(A:List Ix):D:=.lst ((A.map (arrOf ac)).map pairD)
theorem Iv{a:Int}(h0:0<=a)(h1:a<8):-(2 ^ 64)<a/\a<2 ^ 64/\0<=a*(a-1)/2/\a*(a-1)/2<=21:=by
 have:a=0\/a=1\/a=2\/a=3\/a=4\/a=5\/a=6\/a=7:=by omega
 rcases this with h|h|h|h|h|h|h|h<;>subst h<;>decide
end Mr
namespace Mr
open PySem Mi
open My (words qQ qy)
theorem oF(ns:List Int)(k:Nat)(hk:k<=100):∃c:Int,gH [.d (.lst (ns.map D.int)),.d (.int (k:Int))]=.ok (.d (.int c)):=by
 unfold gH DZ;rw[me];have hl:mN d3 [mV 0] [aa (.d (.lst (ns.map D.int))),aa (.d (.int (k:Int))),ab]=.ok (.int (ns.length:Int)):=by show Rs.ok (D.int ((ns.map D.int).length:Int))=_;rw[aM]
 have c1:cB (m2 fV (mV 1) (mN d3 [(mV 0)])) [aa (.d (.lst (ns.map D.int))),aa (.d (.int (k:Int))),ab]=.ok (decide ((k:Int)<(ns.length:Int))):=bR (aA rfl hl rfl);by_cases h:(k:Int)<(ns.length:Int)
 ·rw[bV h]at c1;exact⟨_,by
   rw[show([aa (W.d (.lst (ns.map D.int))),aa (.d (.int (k:Int)))]++cH (3-2) ab)=[aa (.d (.lst (ns.map D.int))),aa (.d (.int (k:Int))),ab]from rfl];rw[nM ((fE c1).trans (dy (bB (aA rfl rfl (uO (by omega) h)))))];rfl⟩
 ·rw[cE h]at c1;have s1:bi 2 (m2 aY (mC (.int 30011)) (m2 bY (m2 bY (mC (.int 709)) (mV 1)) (mV 1))) [aa (.d (.lst (ns.map D.int))),aa (.d (.int (k:Int))),ab]=.ok (.nx [aa (.d (.lst (ns.map D.int))),aa (.d (.int (k:Int))),aa (.d (.int (30011+709*(k:Int)*(k:Int))))]):=
   bN (aA rfl (aA (aA rfl rfl (aN (jL (by decide) (by decide)))) rfl (aN (r6 (by omega) (by omega)))) rfl)
  have hl2:mN d3 [mV 0] [aa (.d (.lst (ns.map D.int))),aa (.d (.int (k:Int))),aa (.d (.int (30011+709*(k:Int)*(k:Int))))]=.ok (.int (ns.length:Int)):=by show Rs.ok (D.int ((ns.map D.int).length:Int))=_;rw[aM]
  have c2:cB (m2 nF (mN d3 [(mV 0)]) (mC (.int 0))) [aa (.d (.lst (ns.map D.int))),aa (.d (.int (k:Int))),aa (.d (.int (30011+709*(k:Int)*(k:Int))))]=.ok (decide ((0:Int)<(ns.length:Int))):=bR (aA hl2 rfl rfl);by_cases h0:(0:Int)<(ns.length:Int)
  ·rw[bV h0]at c2;refine⟨_,by
    rw[show([aa (W.d (.lst (ns.map D.int))),aa (.d (.int (k:Int)))]++cH (3-2) ab)=[aa (.d (.lst (ns.map D.int))),aa (.d (.int (k:Int))),ab]from rfl];rw[aO ((dU c1).trans rfl),aO s1,aO ((fE c2).trans (bN (aA rfl (aA (aA (aA rfl rfl (uO (by decide) h0)) rfl (aN (by decide))) (aA (aA (aA rfl rfl (aN (jL (by omega) (by omega)))) (aA rfl rfl (aN (jL (by decide) (by decide)))) rfl) rfl rfl) (aN (jL ?_ ?_))) rfl)))];rfl⟩
   ·have:=iL (ns.getD (0:Int).toNat 0) (b:=99991) (by decide);omega
   ·have:=iK (ns.getD (0:Int).toNat 0) (b:=99991) (by decide);omega
  ·rw[cE h0]at c2;exact⟨_,by
    rw[show([aa (W.d (.lst (ns.map D.int))),aa (.d (.int (k:Int)))]++cH (3-2) ab)=[aa (.d (.lst (ns.map D.int))),aa (.d (.int (k:Int))),ab]from rfl];rw[aO ((dU c1).trans rfl),aO s1,aO ((dU c2).trans rfl)];rfl⟩
theorem OU(d:Int)(m:Nat)(hm:m<=8):∃rs:List Int,ql [.d (.int d),.d (.int (m:Int))]=.ok (.d (.lst (rs.map D.int)))/\rs.length=m:=by
 unfold ql Ay;rw[jW];have hw:(dP 0 (m:Int)).length<=16777216:=by rw[kE];omega
 have hc:cJ (.n 0) c6 (mV 0) [ab] (dP 0 (m:Int))=.ok ((bQ m).map λ(k:Nat)=>D.int (k:Int)):=oD (λk=>D.int (k:Int)) m λk _=>⟨[aa (.d (.int k))],rfl,rfl⟩
 have hr:((bQ m).map λ(k:Nat)=>D.int (k:Int))=((bQ m).map λ(k:Nat)=>(k:Int)).map D.int:=by rw[dq];rfl
 rw[hr]at hc;obtain⟨e',h1,h2⟩:=f7 (tg:=.n 5) (body:=aD (bi 4 (m2 bI (m2 aY (m2 aY (m2 bY (mV 4) (mC (.int 48271))) (m2 bY (mC (.int 7)) (mV 5))) (mC (.int 1))) (mC (.int 2147483647)))) (sU 3 2 (m2 bI (m2 cW (mV 4) (mC (.int 32))) (mN d3 [(mV 2)]))))
  (λi e=>∃(x:Int) (ls rs:List Int) (o:Option W),e=[aa (.d (.int d)),aa (.d (.int (m:Int))),aa (.d (.lst (ls.map D.int))),aa (.d (.lst (rs.map D.int))),aa (.d (.int x)),o]/\ls.length+i=m/\rs.length=i) (dP 0 (m:Int)) 0 (λi x e hx ⟨x0,ls,rs,o,he,hl,hrs⟩=>by
   obtain⟨hi,rfl⟩:=wz hx;subst he;rw[cY]at hl hrs;have hpos:(0:Int)<(ls.length:Int):=by omega
   obtain⟨y,hy⟩ : ∃y,y=(x0*48271+7*(i:Int)+1)%2147483647:=⟨_,rfl⟩;have z1:=iL (y/32) (b:=(ls.length:Int)) (by omega);have z2:=iK (y/32) hpos;refine⟨[aa (.d (.int d)),aa (.d (.int (m:Int))),aa (.d (.lst (ls.map D.int))),aa (.d (.lst (rs.map D.int))),aa (.d (.int x0)),aa (.d (.int (i:Int)))],[aa (.d (.int d)),aa (.d (.int (m:Int))),aa (.d (.lst ((ls.eraseIdx (y/32%(ls.length:Int)).toNat).map D.int))),aa (.d (.lst ((rs++[ls.getD (y/32%(ls.length:Int)).toNat 0]).map D.int))),aa (.d (.int y)),aa (.d (.int (i:Int)))],rfl,?_,y,ls.eraseIdx (y/32%(ls.length:Int)).toNat,rs++[ls.getD (y/32%(ls.length:Int)).toNat 0],aa (.d (.int (i:Int))),rfl,?_,?_⟩
   ·have h0:m2 bI (m2 cW (mV 4) (mC (.int 32))) (mN d3 [(mV 2)]) [aa (.d (.int d)),aa (.d (.int (m:Int))),aa (.d (.lst (ls.map D.int))),aa (.d (.lst (rs.map D.int))),aa (.d (.int y)),aa (.d (.int (i:Int)))]=.ok (.int (y/32%(ls.length:Int))):=
     aA (x:=.int (y/32)) (y:=.int (ls.length:Int)) (aA rfl rfl (aN (jT (by decide) (by decide)))) (by show Rs.ok (D.int ((ls.map D.int).length:Int))=_;rw[aM]) (aN hpos)
    rw[aO (e':=[aa (.d (.int d)),aa (.d (.int (m:Int))),aa (.d (.lst (ls.map D.int))),aa (.d (.lst (rs.map D.int))),aa (.d (.int y)),aa (.d (.int (i:Int)))])]
    ·unfold sU;rw[h0];simp only[aL,rX,getL,jX,jY,JF z1 z2 (by omega),putL,F4,F5];rw[aN (by rw[aM];omega),eV];rfl
    ·rw[hy];exact bN (aA (aA (aA (aA rfl rfl (aN (r6 (by decide) (by decide)))) (aA rfl rfl (aN (jL (by decide) (by decide)))) rfl) rfl rfl) rfl (aN (by decide)))
   ·rw[List.length_eraseIdx_of_lt (by omega)];omega
   ·rw[cu,hrs];simp) [aa (.d (.int d)),aa (.d (.int (m:Int))),aa (.d (.lst (((bQ m).map λ(k:Nat)=>(k:Int)).map D.int))),aa (.d (.lst [])),aa (.d (.int (d%2147483647))),ab] ⟨_,_,[],ab,rfl,by simp,rfl⟩
 obtain⟨d2,ls,rs,o,he,hl,hrs⟩:=h2;subst he;rw[kE,cY]at hl hrs;refine⟨rs,?_,hrs⟩;rw[aO (e':=[aa (.d (.int d)),aa (.d (.int (m:Int))),aa (.d (.lst (((bQ m).map λ(k:Nat)=>(k:Int)).map D.int))),ab,ab,ab]) (bN (en (iQ rfl (pq m hm)) hw hc))];rw[aO (e':=[aa (.d (.int d)),aa (.d (.int (m:Int))),aa (.d (.lst (((bQ m).map λ(k:Nat)=>(k:Int)).map D.int))),aa (.d (.lst [])),ab,ab]) (bN (jJ _))];rw[aO (e':=[aa (.d (.int d)),aa (.d (.int (m:Int))),aa (.d (.lst (((bQ m).map λ(k:Nat)=>(k:Int)).map D.int))),aa (.d (.lst [])),aa (.d (.int (d%2147483647))),ab]) (bN (aA rfl rfl (aN (by decide))))];rw[aO ((eP (iQ rfl (pq m hm))).trans h1)];rfl
end Mr
namespace Mr
open PySem Mi
open My (words qQ qy)
theorem Jj(ns:List Int){e:Mi.Env}{j k:Nat}(hj:j<8)(hk:k<8)(e0:mV 0 e=.ok (.lst (ns.map D.int)))(e7:mV 7 e=.ok (.int (j:Int)))(e8:mV 8 e=.ok (.int (k:Int))):∃c:Int,(aJ gH [(wD (mV 0)),(wD (m2 aY (m2 aY (mC (.int 4)) (m2 cW (m2 bY (mN iu [(mV 7),(mV 8)]) (m2 kZ (mN iu [(mV 7),(mV 8)]) (mC (.int 1)))) (mC (.int 2)))) (mN lK [(mV 7),(mV 8)])))]) e=.ok (.int c):=by have hx:mN iu [(mV 7),(mV 8)] e=.ok (.int (max (j:Int) (k:Int))):=(wF e7 e8).trans (Lv _ _);have hn:mN lK [(mV 7),(mV 8)] e=.ok (.int (min (j:Int) (k:Int))):=(wF e7 e8).trans (Jw _ _);obtain⟨t1,t2,t3,t4⟩:=Iv (a:=max (j:Int) (k:Int)) (by omega) (by omega);obtain⟨z,hz⟩ : ∃z:Nat,4+max (j:Int) (k:Int)*(max (j:Int) (k:Int)-1)/2+min (j:Int) (k:Int)=(z:Int):=⟨(4+max (j:Int) (k:Int)*(max (j:Int) (k:Int)-1)/2+min (j:Int) (k:Int)).toNat,by omega⟩;obtain⟨c,hc⟩:=oF ns z (by omega);refine⟨c,call2 (bB e0) (bB (aA (aA rfl (aA (aA hx (aA hx rfl rfl) (aN (jL t1 t2))) rfl (aN (jT (by decide) (by decide)))) rfl) hn rfl)) ?_⟩;rw[hz];exact hc
theorem M1(ns:List Int)(hi:Nat)(h0:1<=hi)(h2:hi<=8) :
 ∃ac A r,qX [.d (.lst (ns.map D.int)),.d (.int (hi:Int))]=.ok (.d (aw ac (A.map (arrOf ac))))/\qr ac A r/\∃(c:Int) (m:Nat),m<=8/\ac=(words c m).map S':=by
 obtain⟨c0,hc0⟩:=oF ns 0 (by decide);obtain⟨c1,hc1⟩:=oF ns 1 (by decide);obtain⟨c2,hc2⟩:=oF ns 2 (by decide);obtain⟨c3,hc3⟩:=oF ns 3 (by decide);have hw:(0:Int)<(hi:Int):=by omega
 have q1:=iL c0 (b:=(hi:Int)) (by omega);have q2:=iK c0 hw;obtain⟨m,hm⟩ : ∃m:Nat,1+c0%(hi:Int)=(m:Int):=⟨(1+c0%(hi:Int)).toNat,by omega⟩;have hm1:1<=m:=by omega
 have hm2:m<=hi:=by omega
 have hm8:m<=8:=by omega
 obtain⟨ac,hnm⟩ : ∃ac,ac=(words c1 m).map S':=⟨_,rfl⟩;have hn:=J9 c1 m hm8;rw[<- hnm]at hn;have hnl:ac.length=m:=by rw[hnm,aM];exact qQ c1 m
 have hnd:ac.Nodup:=by rw[hnm];exact List.Pairwise.map _ (λa b h z=>h (KP z)) (qy _ _ hm8)
 obtain⟨rs,hr,hrl⟩:=OU c2 m hm8;have q3:=iL c3 (b:=6) (by decide);have q4:=iK c3 (b:=6) (by decide);obtain⟨th,hth⟩ : ∃th,bd (.lst ([4,1,2,3,2,3].map D.int)) (.int (c3%6))=.ok (.int th):=⟨_,uO q3 (by simp;omega)⟩;have hrx:∀i:Nat,i<m->bd (.lst (rs.map D.int)) (.int (i:Int))=.ok (.int (rs.getD i 0)):=λi hi=>by
  have:=uO (cs:=rs) (i:=(i:Int)) (by omega) (by omega)
  rwa [j3]at this
 have hnx:∀i:Nat,i<m->bd (af ac) (.int (i:Int))=.ok (.str (nth ac i)):=λi hi=>by
  have:=Mw (cs:=ac) (i:=(i:Int)) (by omega) (by omega)
  rwa [j3]at this
 have inner:∀(j:Nat) (A:List Ix) (o8 o9:Option W),j<m->good m (λi=>rs.getD i 0) A j 0->∃(A':List Ix) (p8 p9:Option W),eY (.n 8) (aD (bi 9 (aJ gH [(wD (mV 0)),(wD (m2 aY (m2 aY (mC (.int 4)) (m2 cW (m2 bY (mN iu [(mV 7),(mV 8)]) (m2 kZ (mN iu [(mV 7),(mV 8)]) (mC (.int 1)))) (mC (.int 2)))) (mN lK [(mV 7),(mV 8)])))])) (bv (cF (cB (m2 fV (m2 bd (mV 4) (mV 7)) (m2 bd (mV 4) (mV 8)))) (cB (m2 fV (m2 bI (m2 cW (m2 bI (m2 bY (mV 9) (mC (.int 48271))) (mC (.int 2147483647))) (mC (.int 16))) (mC (.int 4))) (mV 5)))) (ce 6 (mN dTup [(m2 bd (mV 3) (mV 7)),(m2 bd (mV 3) (mV 8))])) bD)) (dP 0 (m:Int)) [aa (.d (.lst (ns.map D.int))),aa (.d (.int (hi:Int))),aa (.d (.int (m:Int))),aa (.d (af ac)),aa (.d (.lst (rs.map D.int))),aa (.d (.int th)),aa (.d (gT ac A)),aa (.d (.int (j:Int))),o8,o9]=.ok (.nx [aa (.d (.lst (ns.map D.int))),aa (.d (.int (hi:Int))),aa (.d (.int (m:Int))),aa (.d (af ac)),aa (.d (.lst (rs.map D.int))),aa (.d (.int th)),aa (.d (gT ac A')),aa (.d (.int (j:Int))),p8,p9])/\good m (λi=>rs.getD i 0) A' (j+1) 0:=by
  intro j A o8 o9 hj hg;obtain⟨e',f1,A',p8,p9,he,hg'⟩:=f7 (tg:=.n 8) (body:=(aD (bi 9 (aJ gH [(wD (mV 0)),(wD (m2 aY (m2 aY (mC (.int 4)) (m2 cW (m2 bY (mN iu [(mV 7),(mV 8)]) (m2 kZ (mN iu [(mV 7),(mV 8)]) (mC (.int 1)))) (mC (.int 2)))) (mN lK [(mV 7),(mV 8)])))])) (bv (cF (cB (m2 fV (m2 bd (mV 4) (mV 7)) (m2 bd (mV 4) (mV 8)))) (cB (m2 fV (m2 bI (m2 cW (m2 bI (m2 bY (mV 9) (mC (.int 48271))) (mC (.int 2147483647))) (mC (.int 16))) (mC (.int 4))) (mV 5)))) (ce 6 (mN dTup [(m2 bd (mV 3) (mV 7)),(m2 bd (mV 3) (mV 8))])) bD))) (λk e=>∃(A:List Ix) (o8 o9:Option W),e=[aa (.d (.lst (ns.map D.int))),aa (.d (.int (hi:Int))),aa (.d (.int (m:Int))),aa (.d (af ac)),aa (.d (.lst (rs.map D.int))),aa (.d (.int th)),aa (.d (gT ac A)),aa (.d (.int (j:Int))),o8,o9]/\good m (λi=>rs.getD i 0) A j k)
   (dP 0 (m:Int)) 0 (λk x e hx ⟨A,o8,o9,he,hg⟩=>by
    obtain⟨hk,rfl⟩:=wz hx;subst he;rw[cY]at hg;obtain⟨c,hc⟩:=Jj ns (e:=[aa (.d (.lst (ns.map D.int))),aa (.d (.int (hi:Int))),aa (.d (.int (m:Int))),aa (.d (af ac)),aa (.d (.lst (rs.map D.int))),aa (.d (.int th)),aa (.d (gT ac A)),aa (.d (.int (j:Int))),aa (.d (.int (k:Int))),o9]) (j:=j) (k:=k) (by omega) (by omega) rfl rfl rfl;have c1:cB (m2 fV (m2 bd (mV 4) (mV 7)) (m2 bd (mV 4) (mV 8))) [aa (.d (.lst (ns.map D.int))),aa (.d (.int (hi:Int))),aa (.d (.int (m:Int))),aa (.d (af ac)),aa (.d (.lst (rs.map D.int))),aa (.d (.int th)),aa (.d (gT ac A)),aa (.d (.int (j:Int))),aa (.d (.int (k:Int))),aa (.d (.int c))]=.ok (decide (rs.getD j 0<rs.getD k 0)):=bR (aA (aA rfl rfl (hrx j hj)) (aA rfl rfl (hrx k hk)) rfl);have c2:cB (m2 fV (m2 bI (m2 cW (m2 bI (m2 bY (mV 9) (mC (.int 48271))) (mC (.int 2147483647))) (mC (.int 16))) (mC (.int 4))) (mV 5)) [aa (.d (.lst (ns.map D.int))),aa (.d (.int (hi:Int))),aa (.d (.int (m:Int))),aa (.d (af ac)),aa (.d (.lst (rs.map D.int))),aa (.d (.int th)),aa (.d (gT ac A)),aa (.d (.int (j:Int))),aa (.d (.int (k:Int))),aa (.d (.int c))]=.ok (decide (c*48271%2147483647/16%4<th)):=bR (aA (aA (aA (aA (aA rfl rfl (aN (r6 (by decide) (by decide)))) rfl (aN (by decide))) rfl (aN (jT (by decide) (by decide)))) rfl (aN (by decide))) rfl rfl);by_cases hb:rs.getD j 0<rs.getD k 0/\c*48271%2147483647/16%4<th
    ·refine⟨[aa (.d (.lst (ns.map D.int))),aa (.d (.int (hi:Int))),aa (.d (.int (m:Int))),aa (.d (af ac)),aa (.d (.lst (rs.map D.int))),aa (.d (.int th)),aa (.d (gT ac A)),aa (.d (.int (j:Int))),aa (.d (.int (k:Int))),o9],[aa (.d (.lst (ns.map D.int))),aa (.d (.int (hi:Int))),aa (.d (.int (m:Int))),aa (.d (af ac)),aa (.d (.lst (rs.map D.int))),aa (.d (.int th)),aa (.d (gT ac (A++[(j,k)]))),aa (.d (.int (j:Int))),aa (.d (.int (k:Int))),aa (.d (.int c))],rfl,?_,A++[(j,k)],aa (.d (.int (k:Int))),aa (.d (.int c)),rfl,by rw[cY];exact hg.add hj hk hb.1⟩;rw[aO (e':=[aa (.d (.lst (ns.map D.int))),aa (.d (.int (hi:Int))),aa (.d (.int (m:Int))),aa (.d (af ac)),aa (.d (.lst (rs.map D.int))),aa (.d (.int th)),aa (.d (gT ac A)),aa (.d (.int (j:Int))),aa (.d (.int (k:Int))),aa (.d (.int c))]) (bN hc)];rw[fE (by unfold cF;rw[c1,aL,bV hb.1,bb rfl,c2,bV hb.2])];rw[kC (d:=pairD (nth ac j,nth ac k)) (ds:=(A.map (arrOf ac)).map pairD) (kQ (aA rfl rfl (hnx j hj)) (aA rfl rfl (hnx k hk))) rfl (by rw[aM,aM];have:=hg.2.2;omega)];show Rs.ok (Out.nx [_,_,_,_,_,_,aa (W.d (D.lst ((A.map (arrOf ac)).map pairD++[pairD (nth ac j,nth ac k)]))),_,_,_])=_;rw[gT,eV,eV];rfl
    ·refine⟨[aa (.d (.lst (ns.map D.int))),aa (.d (.int (hi:Int))),aa (.d (.int (m:Int))),aa (.d (af ac)),aa (.d (.lst (rs.map D.int))),aa (.d (.int th)),aa (.d (gT ac A)),aa (.d (.int (j:Int))),aa (.d (.int (k:Int))),o9],[aa (.d (.lst (ns.map D.int))),aa (.d (.int (hi:Int))),aa (.d (.int (m:Int))),aa (.d (af ac)),aa (.d (.lst (rs.map D.int))),aa (.d (.int th)),aa (.d (gT ac A)),aa (.d (.int (j:Int))),aa (.d (.int (k:Int))),aa (.d (.int c))],rfl,?_,A,aa (.d (.int (k:Int))),aa (.d (.int c)),rfl,by rw[cY];exact hg.skip⟩;rw[aO (e':=[aa (.d (.lst (ns.map D.int))),aa (.d (.int (hi:Int))),aa (.d (.int (m:Int))),aa (.d (af ac)),aa (.d (.lst (rs.map D.int))),aa (.d (.int th)),aa (.d (gT ac A)),aa (.d (.int (j:Int))),aa (.d (.int (k:Int))),aa (.d (.int c))]) (bN hc)];rw[dU (by
      unfold cF;rw[c1,aL];by_cases hb1:rs.getD j 0<rs.getD k 0
      ·rw[bV hb1,bb rfl,c2,cE λz=>hb ⟨hb1,z⟩]
      ·rw[cE hb1,bc du])]
     rfl) _ ⟨A,o8,o9,rfl,hg⟩
  subst he;rw[kE,cY]at hg';exact⟨A',p8,p9,f1,hg'.next hm8⟩
 obtain⟨e',f1,A,p7,p8,p9,he,hg⟩:=f7 (tg:=.n 7) (body:=(cr (gI (mV 2)) (.n 8) (aD (bi 9 (aJ gH [(wD (mV 0)),(wD (m2 aY (m2 aY (mC (.int 4)) (m2 cW (m2 bY (mN iu [(mV 7),(mV 8)]) (m2 kZ (mN iu [(mV 7),(mV 8)]) (mC (.int 1)))) (mC (.int 2)))) (mN lK [(mV 7),(mV 8)])))])) (bv (cF (cB (m2 fV (m2 bd (mV 4) (mV 7)) (m2 bd (mV 4) (mV 8)))) (cB (m2 fV (m2 bI (m2 cW (m2 bI (m2 bY (mV 9) (mC (.int 48271))) (mC (.int 2147483647))) (mC (.int 16))) (mC (.int 4))) (mV 5)))) (ce 6 (mN dTup [(m2 bd (mV 3) (mV 7)),(m2 bd (mV 3) (mV 8))])) bD)))) (λj e=>∃(A:List Ix) (o7 o8 o9:Option W),e=[aa (.d (.lst (ns.map D.int))),aa (.d (.int (hi:Int))),aa (.d (.int (m:Int))),aa (.d (af ac)),aa (.d (.lst (rs.map D.int))),aa (.d (.int th)),aa (.d (gT ac A)),o7,o8,o9]/\good m (λi=>rs.getD i 0) A j 0)
  (dP 0 (m:Int)) 0 (λj x e hx ⟨A,o7,o8,o9,he,hg⟩=>by
   obtain⟨hj,rfl⟩:=wz hx;subst he;rw[cY]at hg;obtain⟨A',p8,p9,f1,hg'⟩:=inner j A o8 o9 hj hg;exact⟨_,_,rfl,(eP (iQ rfl (pq m hm8))).trans f1,A',_,p8,p9,rfl,by rw[cY];exact hg'⟩)
  [aa (.d (.lst (ns.map D.int))),aa (.d (.int (hi:Int))),aa (.d (.int (m:Int))),aa (.d (af ac)),aa (.d (.lst (rs.map D.int))),aa (.d (.int th)),aa (.d (.lst [])),ab,ab,ab] ⟨[],ab,ab,ab,rfl,GO,λp hp=>absurd hp (by simp),gE _⟩
 subst he;rw[kE,cY]at hg;refine⟨ac,A,λi=>rs.getD i 0,?_,⟨hnd,by omega,by omega,hg.1,λp hp=>?_,by have:=hg.2.2;omega⟩,c1,m,hm8,hnm⟩
 ·unfold qX Db;rw[me];rw[show((0:Nat):Int)=0 from rfl]at hc0;rw[show((1:Nat):Int)=1 from rfl]at hc1;rw[show((2:Nat):Int)=2 from rfl]at hc2;rw[show((3:Nat):Int)=3 from rfl]at hc3;rw[aO (e':=[aa (.d (.lst (ns.map D.int))),aa (.d (.int (hi:Int))),aa (.d (.int (m:Int))),ab,ab,ab,ab,ab,ab,ab]) (bN (d:=.int (m:Int)) ((aA rfl (aA (call2 rfl rfl hc0) rfl (aN hw)) rfl).trans (by rw[rQ,hm])))];rw[aO (e':=[aa (.d (.lst (ns.map D.int))),aa (.d (.int (hi:Int))),aa (.d (.int (m:Int))),aa (.d (af ac)),ab,ab,ab,ab,ab,ab]) (bN (call2 (bB (call2 rfl rfl hc1)) rfl hn))];rw[aO (e':=[aa (.d (.lst (ns.map D.int))),aa (.d (.int (hi:Int))),aa (.d (.int (m:Int))),aa (.d (af ac)),aa (.d (.lst (rs.map D.int))),ab,ab,ab,ab,ab]) (bN (call2 (bB (call2 rfl rfl hc2)) rfl hr))];have hl6:mN bC [(mC (.int 4)),(mC (.int 1)),(mC (.int 2)),(mC (.int 3)),(mC (.int 2)),(mC (.int 3))] [aa (.d (.lst (ns.map D.int))),aa (.d (.int (hi:Int))),aa (.d (.int (m:Int))),aa (.d (af ac)),aa (.d (.lst (rs.map D.int))),ab,ab,ab,ab,ab]=.ok (.lst ([4,1,2,3,2,3].map D.int)):=by
   show be (([4,1,2,3,2,3].map D.int).length<=16777216) _=_;exact aN (by simp)
  rw[aO (e':=[aa (.d (.lst (ns.map D.int))),aa (.d (.int (hi:Int))),aa (.d (.int (m:Int))),aa (.d (af ac)),aa (.d (.lst (rs.map D.int))),aa (.d (.int th)),ab,ab,ab,ab]) (bN (aA hl6 (aA (call2 rfl rfl hc3) rfl (aN (by decide))) hth))];rw[aO (e':=[aa (.d (.lst (ns.map D.int))),aa (.d (.int (hi:Int))),aa (.d (.int (m:Int))),aa (.d (af ac)),aa (.d (.lst (rs.map D.int))),aa (.d (.int th)),aa (.d (.lst [])),ab,ab,ab]) (bN (jJ _))];rw[aO ((eP (iQ rfl (pq m hm8))).trans f1)];rw[dy (bB (kQ (x:=aW ac) (y:=et (A.map (arrOf ac))) (d5 (x:=af ac) rfl) (d5 (x:=gT ac A) rfl)))];rfl
 ·obtain⟨a,b,c,_⟩:=hg.2.1 p hp;exact⟨by omega,by omega,c⟩
end Mr
namespace Mr
open PySem Mi
end Mr
namespace Mr
open PySem Mi
inductive eX(aj:List Ar)(x:Str):Str->Prop
 |refl:eX aj x x
 |step {y z:Str}:eX aj x y->(y,z)∈aj->eX aj x z
structure Good(ac:List Str)(aj:List Ar)(x:Str)(met:List Str):Prop where
 nd:met.Nodup
 sub:∀y∈met,y∈ac
 r:∀y∈met,eX aj x y
 x:x∈met
def rp(aj:List Ar)(met:List Str):Prop:=∀p∈aj,p.1∈met->p.2∈met
theorem rp.all{aj:List Ar}{met:List Str}(h:rp aj met){x:Str}(hx:x∈met):∀{y:Str},eX aj x y->y∈met
 |_,.refl=>hx
 |_,.step r a=>h _ a (h.all hx r)
theorem Good.iff{ac:List Str}{aj:List Ar}{x:Str}{met:List Str}(g:Good ac aj x met)(h:rp aj met)(y:Str):y∈met↔eX aj x y:=⟨g.r y,h.all g.x⟩
theorem Oj{ac met:List Str}(nd:met.Nodup)(sub:∀y∈met,y∈ac)(h:ac.length<=met.length):∀y∈ac,y∈met:=λy hy=>by
 apply mL;intro hn;have:=fi (l:=y::met) (m:=ac) (jZ.mpr ⟨hn,nd⟩) (λz hz=>by
  rcases bH.mp hz with rfl|hz
  ·exact hy
  ·exact sub z hz)
 simp at this;omega
end Mr
namespace Mr
open PySem Mi
noncomputable def rch (aj:List Ar) (x y:Str):Bool:=@decide (eX aj x y) (pV _)
theorem m6{aj:List Ar}{x y:Str}:rch aj x y=true↔eX aj x y:=by unfold rch;exact@mj _ (pV _)
noncomputable def jm (ac:List Str) (aj:List Ar) (x:Str):List Str:=ac.filter (rch aj x)
theorem FC{aj:List Ar}{x:Str}{met:List Str}(h:∀y,y∈met↔eX aj x y)(y:Str):decide (y∈met)=rch aj x y:=by rw[mJ,m6,mj];exact h y
def bO(fs:List Str):W:=.dk (fs.map λy=>((dM y:Ky),D.bl true))
theorem Ee(fs:List Str)(y:Str):(gB (fs.map λy=>((dM y:Ky),D.bl true)) (dM y)).isSome=decide (y∈fs):=by
 unfold gB
 induction fs with
 |nil=>rfl
 |cons a r ih=>
  rw[cS,j0];by_cases h:a=y
  ·subst h;simp
  ·rw[cE (λz:(dM a:Ky)=dM y=>h (sF z))];simp only[ih];rw[decide_eq_decide];exact⟨λz=>dJ _ z,λz=>by
    rcases bH.mp z with z|z
    ·exact absurd z.symm h
    ·exact z⟩
theorem v5{i:Nat}{k:E}{e:Mi.Env}{fs:List Str}{y:Str}(hk:k e=.ok (.str y))(hw:wV i e=.ok (bO fs)):lF i k e=.ok (.bl (decide (y∈fs))):=by unfold lF;rw[hk,aL,hw,aL,<- Ee];rfl
theorem Cv{i:Nat}{k:E}{e:Mi.Env}{fs:List Str}{y:Str}(hk:k e=.ok (.str y))(hw:wV i e=.ok (bO fs)):fK i k e=.ok (.bl (!decide (y∈fs))):=by unfold fK;rw[hk,aL,hw,aL,<- Ee];rfl
theorem wQ{i:Nat}{k:E}{e:Mi.Env}{fs:List Str}{y:Str}(hk:k e=.ok (.str y))(hw:wV i e=.ok (bO fs))(hn:y∉fs)(hl:fs.length<=1000):da i k (mC (.bl true)) e=.ok (.nx (e.set i (aa (bO (fs++[y]))))):=by
 unfold da;have h1:oy (bO fs) (.str y) (.bl true)=.ok (bO (fs++[y])):=by
  show be ((fs.map λy=>((dM y:Ky),D.bl true)).length<16777216) ((dA (l5 (.str y))).bind λk=>Rs.ok (W.dk (Mi.putK k (.bl true) (fs.map λy=>((dM y:Ky),D.bl true)))))=_;rw[aN (by rw[aM];omega)];show Rs.ok (W.dk (Mi.putK (dM y:Ky) (.bl true) (fs.map λy=>((dM y:Ky),D.bl true))))=_;unfold Mi.putK;rw[bc (by
   rw[ss,Bool.not_eq_true,yW];intro z hz;simp only[GU,pA];exactλq=>hn (sF q ▸ hz))]
  unfold bO;rw[eV];rfl
 show(k e).bind _=_;rw[hk,aL,hw,aL,h1];rfl
structure i6(ac:List Str)(aj:List Ar)(x:Str)(h:Option Str)(fs ws:List Str):Prop where
 g:Good ac aj x fs
 wnd:ws.Nodup
 jn:∀y∈ws,y∈fs
 ex:∀y∈fs,y∉ws->h=aa y\/∀p∈aj,p.1=y->p.2∈fs
abbrev lP:S:=(aD (qA 5 4)
 (cr (bt (mV 1)) (.t [6,7])
 (bv (cF (cB (m2 b9 (mV 6) (mV 5))) (cB (fK 3 (mV 7))))
 (aD (da 3 (mV 7) (mC (.bl true)))
 (ce 4 (mV 7)))
 bD)))
theorem Mm{ac:List Str}{aj:List Ar}(N:gP ac aj)(hd:∀p∈aj,p.2∈ac){x h:Str}{fs ws:List Str}(w:i6 ac aj x ab fs (ws++[h]))(o5 o6 o7:Option W) :
 ∃fs' ws' p6 p7,lP [aa (.d (aW ac)),aa (.d (et aj)),aa (.d (.str x)),aa (bO fs),aa (.d (af (ws++[h]))),o5,o6,o7]=.ok (.nx [aa (.d (aW ac)),aa (.d (et aj)),aa (.d (.str x)),aa (bO fs'),aa (.d (af ws')),aa (.d (.str h)),p6,p7]) /\
  i6 ac aj x ab fs' ws'/\fs.length<=fs'.length/\ws'.length+fs.length=ws.length+fs'.length:=by
 have hnd:=fH.mp w.wnd;have hh:h∈fs:=w.jn h (by simp);have hnw:h∉ws:=λz=>hnd.2.2 h z h (by simp) rfl;obtain⟨e',f1,fs',ws',p6,p7,he,w',hl,hl2,hx,_⟩:=f7 (tg:=.t [6,7]) (body:=(bv (cF (cB (m2 b9 (mV 6) (mV 5))) (cB (fK 3 (mV 7)))) (aD (da 3 (mV 7) (mC (.bl true))) (ce 4 (mV 7))) bD))
  (λi e=>∃(fs' ws':List Str) (o6 o7:Option W),e=[aa (.d (aW ac)),aa (.d (et aj)),aa (.d (.str x)),aa (bO fs'),aa (.d (af ws')),aa (.d (.str h)),o6,o7]/\i6 ac aj x (aa h) fs' ws'/\fs.length<=fs'.length/\ws'.length+fs.length=ws.length+fs'.length/\(∀j p,j<i->aj[j]? = aa p->p.1=h->p.2∈fs')/\h∈fs') (aj.map pairD) 0 (λi d e hi ⟨f1,w1,o6,o7,he,W1,hl,hl2,hx,hf1⟩=>by
   subst he;rw[cY]at hx ⊢;rw[c9]at hi;obtain⟨p,hp,rfl⟩:=gF.mp hi;have hpm:=je hp;have c1:cB (m2 b9 (mV 6) (mV 5)) [aa (.d (aW ac)),aa (.d (et aj)),aa (.d (.str x)),aa (bO f1),aa (.d (af w1)),aa (.d (.str h)),aa (.d (.str p.1)),aa (.d (.str p.2))]=.ok (decide (p.1=h)):=bR ((aA rfl rfl rfl).trans (nh _ _));have c2:cB (fK 3 (mV 7)) [aa (.d (aW ac)),aa (.d (et aj)),aa (.d (.str x)),aa (bO f1),aa (.d (af w1)),aa (.d (.str h)),aa (.d (.str p.1)),aa (.d (.str p.2))]=.ok (!decide (p.2∈f1)):=bR (Cv rfl rfl);have hl8:f1.length<=8:=dr (fi W1.g.nd W1.g.sub) N.le;have hw8:w1.length<=8:=dr (fi W1.wnd (λy hy=>W1.g.sub y (W1.jn y hy))) N.le;by_cases hb:p.1=h/\p.2∉f1
   ·refine⟨[aa (.d (aW ac)),aa (.d (et aj)),aa (.d (.str x)),aa (bO f1),aa (.d (af w1)),aa (.d (.str h)),aa (.d (.str p.1)),aa (.d (.str p.2))],[aa (.d (aW ac)),aa (.d (et aj)),aa (.d (.str x)),aa (bO (f1++[p.2])),aa (.d (af (w1++[p.2]))),aa (.d (.str h)),aa (.d (.str p.1)),aa (.d (.str p.2))],rfl,?_,f1++[p.2],w1++[p.2],_,_,rfl,⟨⟨?_,λy hy=>?_,λy hy=>?_,dL _ W1.g.x⟩,?_,λy hy=>?_,λy hy hn=>?_⟩,by rw[cu];omega,by rw[cu,cu];simp;omega,λj q hj hq h1=>?_,dL _ hf1⟩
    ·rw[fE (by unfold cF;rw[c1,aL,bV hb.1,bb rfl,c2,cE hb.2];rfl)];rw[aO (wQ (y:=p.2) (fs:=f1) rfl rfl hb.2 (by omega))];rw[kC (d:=.str p.2) (ds:=w1.map D.str) rfl rfl (by rw[aM];omega)];show Rs.ok (Out.nx [_,_,_,_,aa (W.d (D.lst (w1.map D.str++[.str p.2]))),_,_,_])=_;rw[af,eV];rfl
    ·exact fH.mpr ⟨W1.g.nd,by simp,λa ha b hb'=>by
      have:b=p.2:=by simpa using hb'
      subst this;exactλz=>hb.2 (z ▸ ha)⟩
    ·rcases bJ.mp hy with z|z
     ·exact W1.g.sub y z
     ·have:y=p.2:=by simpa using z
      subst this;exact hd p hpm
    ·rcases bJ.mp hy with z|z
     ·exact W1.g.r y z
     ·have:y=p.2:=by simpa using z
      subst this;exact .step (W1.g.r p.1 (hb.1 ▸ hf1)) hpm
    ·exact fH.mpr ⟨W1.wnd,by simp,λa ha b hb'=>by
      have:b=p.2:=by simpa using hb'
      subst this;exactλz=>hb.2 (z ▸ W1.jn a ha)⟩
    ·rcases bJ.mp hy with z|z
     ·exact dL _ (W1.jn y z)
     ·exact dI _ z
    ·rcases bJ.mp hy with z|z
     ·rcases W1.ex y z (λq=>hn (dL _ q))with q|q
      ·exact .inl q
      ·exact .inr λr hr h1=>dL _ (q r hr h1)
     ·exact absurd (dI _ z) hn
    ·by_cases hji:j=i
     ·subst hji;rw[hp]at hq;cases hq;simp
     ·exact dL _ (hx j q (by omega) hq h1)
   ·refine⟨[aa (.d (aW ac)),aa (.d (et aj)),aa (.d (.str x)),aa (bO f1),aa (.d (af w1)),aa (.d (.str h)),aa (.d (.str p.1)),aa (.d (.str p.2))],[aa (.d (aW ac)),aa (.d (et aj)),aa (.d (.str x)),aa (bO f1),aa (.d (af w1)),aa (.d (.str h)),aa (.d (.str p.1)),aa (.d (.str p.2))],rfl,?_,f1,w1,_,_,rfl,W1,hl,hl2,λj q hj hq h1=>?_,hf1⟩
    ·rw[dU (by
      unfold cF;rw[c1,aL];by_cases h1:p.1=h
      ·rw[bV h1,bb rfl,c2,bV (mL λz=>hb ⟨h1,z⟩)];rfl
      ·rw[cE h1,bc du])]
     rfl
    ·by_cases hji:j=i
     ·subst hji;rw[hp]at hq;cases hq;exact mL λz=>hb ⟨h1,z⟩
     ·exact hx j q (by omega) hq h1) [aa (.d (aW ac)),aa (.d (et aj)),aa (.d (.str x)),aa (bO fs),aa (.d (af ws)),aa (.d (.str h)),o6,o7]
  ⟨fs,ws,o6,o7,rfl,⟨w.g,hnd.1,λy hy=>w.jn y (dL _ hy),λy hy hn=>by
   by_cases hyh:y=h
   ·exact .inl (by rw[hyh])
   ·rcases w.ex y hy (λz=>by
     rcases bJ.mp z with z|z
     ·exact hn z
     ·exact hyh (by simpa using z))with q|q
    ·cases q
    ·exact .inr q⟩,bA _,rfl,λj p hj=>absurd hj (ly _),hh⟩
 subst he;refine⟨fs',ws',p6,p7,?_,⟨w'.g,w'.wnd,w'.jn,λy hy hn=>.inr ?_⟩,hl,hl2⟩
 ·rw[show lP=aD (qA 5 4) (cr (bt (mV 1)) (.t [6,7]) (bv (cF (cB (m2 b9 (mV 6) (mV 5))) (cB (fK 3 (mV 7)))) (aD (da 3 (mV 7) (mC (.bl true))) (ce 4 (mV 7))) bD))from rfl];rw[aO (e':=[aa (.d (aW ac)),aa (.d (et aj)),aa (.d (.str x)),aa (bO fs),aa (.d (af ws)),aa (.d (.str h)),o6,o7]) (by
   show(dA (((ws++[h]).map D.str)[((ws++[h]).map D.str).length-1]?)).bind _=_;have e1:((ws++[h]).map D.str)[((ws++[h]).map D.str).length-1]? = aa (.str h):=by simp
   have e2:((ws++[h]).map D.str).dropLast=ws.map D.str:=by simp
   rw[e1,lD,aL,e2];rfl)]
  exact(eP (dB (x:=et aj) rfl rfl)).trans f1
 ·rcases w'.ex y hy hn with q|q
  ·cases q;intro p hp h1;obtain⟨j,hj⟩:=kF hp;exact hx j p (by rw[aM];have:=(cv.mp hj).1;omega) hj h1
  ·exact q
end Mr
namespace Mr
open PySem Mi
theorem Ds{ac:List Str}{aj:List Ar}(N:gP ac aj)(hd:∀p∈aj,p.2∈ac){x:Str}:∀(n:Nat) (fs ws:List Str) (o5 o6 o7:Option W),i6 ac aj x ab fs ws->(ac.length-fs.length)+ws.length<n ->
 ∃fs' p5 p6 p7,hG (e5 (mV 4)) lP n [aa (.d (aW ac)),aa (.d (et aj)),aa (.d (.str x)),aa (bO fs),aa (.d (af ws)),o5,o6,o7]=.ok (.nx [aa (.d (aW ac)),aa (.d (et aj)),aa (.d (.str x)),aa (bO fs'),aa (.d (af [])),p5,p6,p7])/\i6 ac aj x ab fs' []
 |0,_,_,_,_,_,_,h=>absurd h (ly _)
 |n+1,fs,ws,o5,o6,o7,w,h=>by
  have hc:e5 (mV 4) [aa (.d (aW ac)),aa (.d (et aj)),aa (.d (.str x)),aa (bO fs),aa (.d (af ws)),o5,o6,o7]=.ok (!(ws.map D.str).isEmpty):=rfl;rcases FY ws with rfl|⟨ws1,y,rfl⟩
  ·exact⟨fs,o5,o6,o7,by rw[hG,hc];rfl,w⟩
  ·rw[FZ]at w h hc ⊢;obtain⟨fs',ws',p6,p7,f1,w',l1,l2⟩:=Mm N hd w o5 o6 o7;have l3:fs'.length<=ac.length:=fi w'.g.nd w'.g.sub;obtain⟨fs2,q5,q6,q7,f2,w2⟩:=Ds N hd n fs' ws' (aa (.d (.str y))) p6 p7 w' (by rw[cu]at h;simp at h;omega);refine⟨fs2,q5,q6,q7,?_,w2⟩;rw[hG,hc,show(!((ws1++[y]).map D.str).isEmpty)=true by simp,aL,bb rfl,f1,aL];exact f2
theorem NO{ac:List Str}{aj:List Ar}(N:gP ac aj)(hd:∀p∈aj,p.2∈ac){x:Str}(hx:x∈ac):lc [.d (aW ac),.d (et aj),.d (.str x)]=.ok (.d (af (jm ac aj x))):=by
 have w0:i6 ac aj x ab [x] [x]:=⟨⟨by simp,λy hy=>by simp at hy;subst hy;exact hx,λy hy=>by simp at hy;subst hy;exact .refl,by simp⟩,by simp,λy hy=>hy,λy hy hn=>absurd hy hn⟩;obtain⟨fs,p5,p6,p7,f1,w⟩:=Ds N hd 20 [x] [x] ab ab ab w0 (by have:=N.le;simp;omega);have hcl:rp aj fs:=λp hp h1=>by
  rcases w.ex p.1 h1 (by simp)with q|q
  ·cases q
  ·exact q p hp rfl
 unfold lc yo;rw[xG];rw[aO (e':=[aa (.d (aW ac)),aa (.d (et aj)),aa (.d (.str x)),aa (bO [x]),ab,ab,ab,ab]) rfl];rw[aO (e':=[aa (.d (aW ac)),aa (.d (et aj)),aa (.d (.str x)),aa (bO [x]),aa (.d (af [x])),ab,ab,ab]) (bN (k4 rfl))];rw[aO (show kB 20 (e5 (mV 4)) lP _=_ from f1)];have hc:cJ (.n 1) (cB (lF 0 (mV 1))) (mV 1) [aa (bO fs),ab] (ac.map D.str)=.ok ((ac.filter (rch aj x)).map D.str):=
  fj D.str D.str _ ac λy _=>⟨[aa (bO fs),aa (.d (.str y))],rfl,bR ((v5 rfl rfl).trans (by rw[FC (w.g.iff hcl)])),λ_=>rfl⟩
 rw[dy (bB (en (dB (x:=aW ac) rfl rfl) (by rw[aM];have:=N.le;omega) hc))];rfl
theorem Nr{ac:List Str}{aj:List Ar}(N:gP ac aj)(hd:∀p∈aj,p.2∈ac){x:Str}(hx:x∈ac):qM [.d (aw ac aj),.d (.str x)]=.ok (.d (af (jm ac aj x))):=by
 unfold qM E3;rw[jW];have hr:gt [.d (aW ac),.d (af [x])]=.ok (.d .non):=rC λy hy=>by simp at hy;subst hy;exact hx
 rw[aO (e':=[aa (.d (aw ac aj)),aa (.d (.str x))]) (by unfold fB;rw[call2 (bB (aA rfl rfl (iW _ _))) (bB (k4 rfl)) hr];rfl)];rw[dy (bB (kh (bB (aA rfl rfl (iW _ _))) (bB (aA rfl rfl (pE _ _))) rfl (NO N hd hx)))];rfl
noncomputable def hb (ac:List Str) (aj:List Ar) (ag:List Str) (x:Str):Bool:=(jm ac aj x).any λy=>decide (y∈ag)
theorem Lo{ac:List Str}{aj:List Ar}(N:gP ac aj)(hd:∀p∈aj,p.2∈ac){x:Str}(hx:x∈ac)(ag:List Str):oX [.d (aw ac aj),.d (.str x),.d (af ag)]=.ok (.d (.bl (hb ac aj ag x))):=by
 unfold oX Cd;rw[rA];have hc:cJ (.n 1) c6 (m2 eR (mV 1) (mV 0)) [aa (.d (af ag)),ab] ((jm ac aj x).map D.str)=.ok (((jm ac aj x).filter λ_=>true).map λy=>D.bl (decide (y∈ag))):=
  fj D.str (λy=>D.bl (decide (y∈ag))) _ _ λy _=>⟨[aa (.d (af ag)),aa (.d (.str y))],rfl,rfl,λ_=>(aA rfl rfl rfl).trans (oU _ _)⟩
 rw[mx.mpr (λ_ _=>rfl)]at hc;have hl:((jm ac aj x).map D.str).length<=16777216:=by rw[aM];have:=mr (rch aj x) ac;have:=N.le;unfold jm;omega
 rw[dy (bB ((d5 (en (dB (call2 rfl rfl (Nr N hd hx)) rfl) hl hc)).trans (by rw[Om,A8,lD,aL,ss];first|done|rfl)))];rfl
end Mr
namespace Mr
open PySem Mi
abbrev K2:=Str×Str×Str
theorem xa(ms:List Str)(x:Str):D.lst (ms.map D.str++[.str x])=af (ms++[x]):=by unfold af;rw[eV];rfl
end Mr
namespace Mr
open PySem Mi
def Kn(a:Ar)(aj:List Ar):List Ar:=aj.map λp=>if p=a then(p.2,p.1)else p
def hds(aj:List Ar)(l:List Str):List Str:=(aj.filter λp=>decide (p.1∈l)).map (·.2)
def MI(aj:List Ar)(l:List Str):List Str:=l.filter λx=>decide (x∈hds aj l)
def BX(ac:List Str)(aj:List Ar):Nat->List Str
 |0=>ac
 |k+1=>MI aj (BX ac aj k)
def AI(ac:List Str)(aj:List Ar):Bool:=decide (0<(BX ac aj ac.length).length)
def Rk(aj:List Ar):Prop:=∃r:Str->Int,∀p∈aj,r p.1<r p.2
def t7(aj:List Ar)(a m b:Str):Bool:=(decide ((a,m)∈aj)&&decide ((b,m)∈aj)) && !(decide ((a,b)∈aj)||decide ((b,a)∈aj))
theorem wc{α β:Type}{f g:α->List β}:∀{l:List α},(∀x∈l,f x=g x)->l.flatMap f=l.flatMap g
 |[],_=>rfl
 |x::r,h=>by rw[mz,mz,h x dj,wc λy hy=>h y (dJ _ hy)]
theorem xm{ac:List Str}(nd:ac.Nodup){k:Nat}(hk:k<ac.length){b:Str}(hb:b∈ac.drop (k+1)):b∈ac/\nth ac k≠b:=by
 obtain⟨i,hi⟩:=List.mem_iff_getElem?.mp hb;rw[List.getElem?_drop]at hi;have hl:k+1+i<ac.length:=by
  rcases Nat.lt_or_ge (k+1+i) ac.length with z|z
  ·exact z
  ·rw[List.getElem?_eq_none z]at hi;cases hi
 have e:b=nth ac (k+1+i):=by unfold nth;rw[gj,hi];rfl
 rw[e];exact⟨oO hl,λz=>by have:=oq nd hk hl z;omega⟩
end Mr
namespace Mr
open PySem Mi
theorem Nb{l:List Str}(nd:l.Nodup)(hl:l.length<=1000):sd [.d (af l)]=.ok (.d .non):=by
 unfold sd Fc;rw[uI];obtain⟨e',f1,o2,he⟩:=f7 (tg:=.n 2) (body:=(aD (bv (cB (lF 1 (mV 2))) rq bD) (da 1 (mV 2) (mC (.bl true)))))
  (λi e=>∃o2:Option W,e=[aa (.d (af l)),aa (bO (l.take i)),o2]) (l.map D.str) 0 (λi d e hi ⟨o2,he⟩=>by
   subst he;rw[cY];rw[c9]at hi;obtain⟨x,hx,rfl⟩:=gF.mp hi;obtain⟨il,hxe⟩:=cv.mp hx;have hn:x∉l.take i:=λz=>by
    obtain⟨j,hj⟩:=kF z;have hj2:=(cv.mp hj).1;rw[gC]at hj2;rw[yQ (by omega)]at hj;obtain⟨jl,hje⟩:=cv.mp hj;have:=(pK nd).mp (hje.trans hxe.symm);omega
   refine⟨[aa (.d (af l)),aa (bO (l.take i)),aa (.d (.str x))],[aa (.d (af l)),aa (bO (l.take (i+1))),aa (.d (.str x))],rfl,?_,_,rfl⟩;rw[aO (e':=[aa (.d (af l)),aa (bO (l.take i)),aa (.d (.str x))]) ((dU (bR ((v5 (y:=x) (fs:=l.take i) rfl rfl).trans (by rw[cE hn])))).trans rfl)];rw[wQ (y:=x) (fs:=l.take i) rfl rfl hn (by rw[gC];omega)];rw[List.take_succ,hx];rfl) [aa (.d (af l)),aa (bO []),ab] ⟨ab,rfl⟩
 subst he;rw[aO (e':=[aa (.d (af l)),aa (bO []),ab]) rfl];rw[eP (dB (x:=af l) rfl rfl),f1];rfl
end Mr
namespace Mr
open PySem Mi
end Mr
namespace Mr
open PySem Mi
def tie(aj:List Ar)(a b:Str):Bool:=decide ((a,b)∈aj)||decide ((b,a)∈aj)
theorem HN{ac:List Str}{aj:List Ar}{e:Mi.Env}(e0:mV 0 e=.ok (aw ac aj)):mN d3 [(m2 bd (mV 0) (mC (.int 0)))] e=.ok (.int (ac.length:Int)):=(d5 (aA e0 rfl (iW _ _))).trans (by unfold aW;rw[Iu,aM])
end Mr
namespace Mr
open PySem Mi
end Mr
namespace Mr
open PySem Mi
theorem E8(n:Nat)(x:Str):dF (n+1) [.d (.str x),.d (.str x)]=.ok (.d (.bl true)):=by
 show dc 2 4 (qI (dF n)) _=_;unfold qI;rw[me];have c0:jS (cB (m1 (ee ["str"]) (mV 1))) (cB (m1 (ee ["int"]) (mV 1))) [aa (.d (.str x)),aa (.d (.str x)),ab,ab]=.ok true:=rfl;have c1:jS (cB (m2 fQ (m1 (ee ["bool"]) (mV 0)) (m1 (ee ["bool"]) (mV 1)))) (cB (m2 fQ (m1 (ee ["str"]) (mV 0)) (m1 (ee ["str"]) (mV 1)))) [aa (.d (.str x)),aa (.d (.str x)),ab,ab]=.ok false:=rfl;have c2:k8 (m1 (ee ["int","str"]) (mV 0)) (m2 b9 (mV 0) (mV 1)) [aa (.d (.str x)),aa (.d (.str x)),ab,ab]=.ok (.bl true):=by show m2 b9 (mV 0) (mV 1) [aa (.d (.str x)),aa (.d (.str x)),ab,ab]=_;exact(aA rfl rfl rfl).trans ((nh x x).trans (by rw[bV rfl]))
 exact(congrArg (λr=>Rs.bind r iU) (nM ((fE c0).trans ((aO ((dU c1).trans rfl)).trans (dy (bB c2)))))).trans rfl
theorem Ju{a:E}{e:Mi.Env}(h:a e=.ok (.bl true)):i4 (cB a) e=.ok false:=by unfold i4;rw[bR h];rfl
end Mr
namespace Mr
open PySem Mi
theorem rR{a b:C}{e:Mi.Env}{p q:Bool}(ha:a e=.ok p)(hb:p=true->b e=.ok q):cF a b e=.ok (p&&q):=by
 unfold cF;rw[ha,aL];cases p with
 |true=>rw[bb rfl,hb rfl];rfl
 |false=>rfl
theorem LS{a b:C}{e:Mi.Env}{p q:Bool}(ha:a e=.ok p)(hb:p=false->b e=.ok q):jS a b e=.ok (p||q):=by
 unfold jS;rw[ha,aL];cases p with
 |true=>rfl
 |false=>rw[bc du,hb rfl];rfl
theorem Bu{a:C}{e:Mi.Env}{p:Bool}(ha:a e=.ok p):i4 a e=.ok (!p):=by unfold i4;rw[ha];rfl
theorem Ct{a b:E}{e:Mi.Env}{p q:Bool}(ha:a e=.ok (.bl p))(hb:p=true->b e=.ok (.bl q)):k8 a b e=.ok (.bl (p&&q)):=by
 unfold k8;rw[ha,aL,rE,aL];cases p with
 |true=>rw[bb rfl,hb rfl];rfl
 |false=>rfl
theorem CI{f:D->Option Int->Option Int->Rs D}{a b:E}{e:Mi.Env}{x:D}{i:Int}(h:a e=.ok x)(h':b e=.ok (.int i)):eI f a (aa b) ab e=f x (aa i) ab:=by unfold eI;rw[h,aL,show jt (aa b) e=.ok (aa i)from by rw[jt,h'];rfl];rfl
theorem pc{α:Type}{tg:Tg}{body:S}(f:α->D)(g:α->List D)(St:List D->Mi.Env->Prop):∀(xs:List α) (acc:List D) (e:Mi.Env),acc.length+(xs.flatMap g).length<=16777216->St acc e ->
 (∀x∈xs,∀acc e,acc.length+(g x).length<=16777216->St acc e->∃e1 e2,tg.put (f x) e=.ok e1/\body e1=.ok (.nx e2)/\St (acc++g x) e2) ->
 ∃e',eY tg body (xs.map f) e=.ok (.nx e')/\St (acc++xs.flatMap g) e'
 |[],acc,e,_,h,_=>⟨e,rfl,by simpa using h⟩
 |x::r,acc,e,hl,h,hs=>by
  rw[mz,cu]at hl;obtain⟨e1,e2,h1,h2,h3⟩:=hs x dj acc e (by omega) h;obtain⟨e',h4,h5⟩:=pc f g St r (acc++g x) e2 (by rw[cu];omega) h3 λy hy=>hs y (dJ _ hy);refine⟨e',?_,by rw[mz,<- pJ];exact h5⟩;rw[cS,eY,h1,aL,h2,aL];exact h4
theorem tE{α β γ : Type}(f:β->γ)(g:α->List β):∀l:List α,(l.flatMap g).map f=l.flatMap λx=>(g x).map f
 |[]=>rfl
 |x::r=>by rw[mz,eV,tE f g r,mz]
theorem qz{α β:Type}{g:α->List β}{m:Nat}:∀{l:List α},(∀x∈l,(g x).length<=m)->(l.flatMap g).length<=l.length*m
 |[],_=>by simp
 |x::r,h=>by
  have ih:=qz (l:=r) λy hy=>h y (dJ _ hy);have h1:=h x dj;rw[mz,cu,cR,Nat.add_mul];omega
def Bo(aj:List Ar):D:=.lst (aj.map pairD)
theorem yi(ac:List Str):ko 0 (ac.map D.str)=(bQ ac.length).map λk=>D.tup [.int (k:Nat),.str (nth ac k)]:=by
 have key:∀(ns:List Str) (j:Nat),ko j (ns.map D.str)=(bQ ns.length).map λk=>D.tup [.int ((j+k:Nat):Int),.str (nth ns k)]:=λns=>by
  induction ns with
  |nil=>exactλ_=>rfl
  |cons x r ih=>
   intro j;rw[cS,ko,ih,cR,yR,cS,dq]
   congr 1
   refine sj λk _=>?_;show D.tup [.int ((j+1+k:Nat):Int),_]=D.tup [.int ((j+(k+1):Nat):Int),_];rw[show j+1+k=j+(k+1)by omega];rfl
 rw[key ac 0];refine sj λk _=>?_;rw[cY]
end Mr
namespace Mr
open PySem Mi
structure Nt(ac:List Str)(aj:List Ar):Prop where
 nd:ac.Nodup
 le:ac.length<=8
 al:aj.length<=64
 inn:∀p∈aj,p.1∈ac/\p.2∈ac
 rk:Rk aj
def cov(aj:List Ar)(p:Ar):Bool:=Ox (f6 aj p.2) (f6 aj p.1++[p.1])
end Mr
namespace Mr
open PySem Mi
def gN(ac:List Str)(aj:List Ar):List Ar:=ac.flatMap λt=>(ac.filter λh=>decide ((t,h)∈aj)).map λh=>(t,h)
theorem JY{ac:List Str}{aj:List Ar}{p:Ar}:p∈gN ac aj↔p∈aj/\p.1∈ac/\p.2∈ac:=by
 obtain⟨a,b⟩:=p;unfold gN;simp only[pL,cq,dD,pA,Prod.mk.injEq];constructor
 ·rintro⟨t,ht,h,⟨h1,h2⟩,rfl,rfl⟩;exact⟨h2,ht,h1⟩
 ·rintro⟨h1,h2,h3⟩;exact⟨a,h2,b,⟨h3,h1⟩,rfl,rfl⟩
theorem OW{ac:List Str}(hn:ac.length<=8)(aj:List Ar):(gN ac aj).length<=64:=by unfold gN;refine dr (qz (m:=8) λt _=>?_) (by omega);rw[aM];exact dr (mr _ _) hn
end Mr
namespace Mr
open PySem Mi
theorem Dv:∀ds:List D,iA ds ds=ds.map λd=>D.tup [d,d]
 |[]=>rfl
 |d::r=>by rw[iA,Dv r];rfl
def sq(k:Bool)(ds:List D):D:=if k then .lst ds else .tup ds
theorem uk{F:Fn}(k:Bool)(ds:List D)(h:∀d∈ds,F [.d d,.d d]=.ok (.d (.bl true))):dc 2 4 (qI F) [.d (sq k ds),.d (sq k ds)]=.ok (.d (.bl true)):=by
 unfold qI;rw[me];have c0:jS (cB (m1 (ee ["str"]) (mV 1))) (cB (m1 (ee ["int"]) (mV 1))) [aa (.d (sq k ds)),aa (.d (sq k ds)),ab,ab]=.ok false:=by cases k<;>rfl
 have c1:jS (cB (m2 fQ (m1 (ee ["list"]) (mV 0)) (m1 (ee ["list"]) (mV 1)))) (i4 (cB (m1 (ee ["list","tuple"]) (mV 0)))) [aa (.d (sq k ds)),aa (.d (sq k ds)),ab,ab]=.ok false:=by cases k<;>rfl
 have c2:cB (m2 fQ (mN d3 [(mV 0)]) (mN d3 [(mV 1)])) [aa (.d (sq k ds)),aa (.d (sq k ds)),ab,ab]=.ok false:=by cases k<;>exact bR ((aA rfl rfl rfl).trans ((MW _ _).trans (by rw[bV rfl];rfl)))
 obtain⟨e',f1,o2,o3,he⟩:=f7 (tg:=.t [2,3]) (body:=(bv (i4 (cB (aJ F [(wD (mV 2)),(wD (mV 3))]))) (br (wD (mC (.bl false)))) bD))
  (λi e=>∃o2 o3:Option W,e=[aa (.d (sq k ds)),aa (.d (sq k ds)),o2,o3]) (ds.map λd=>D.tup [d,d]) 0 (λi d e hi ⟨o2,o3,he⟩=>by
   subst he;rw[c9]at hi;obtain⟨x,hx,rfl⟩:=gF.mp hi;have ct:i4 (cB (aJ F [(wD (mV 2)),(wD (mV 3))])) [aa (.d (sq k ds)),aa (.d (sq k ds)),aa (.d x),aa (.d x)]=.ok false:=Ju (call2 rfl rfl (h x (je hx)));exact⟨[aa (.d (sq k ds)),aa (.d (sq k ds)),aa (.d x),aa (.d x)],_,rfl,(dU ct).trans rfl,_,_,rfl⟩) [aa (.d (sq k ds)),aa (.d (sq k ds)),ab,ab] ⟨ab,ab,rfl⟩
 subst he;have hit:xi (mV 0) (mV 1) [aa (.d (sq k ds)),aa (.d (sq k ds)),ab,ab]=.ok (ds.map λd=>D.tup [d,d]):=by rw[<- Dv];cases k<;>rfl
 exact(congrArg (λr=>Rs.bind r iU) ((aO ((dU c0).trans rfl)).trans ((aO ((dU c1).trans rfl)).trans ((aO ((dU c2).trans rfl)).trans ((aO ((eP hit).trans f1)).trans (dy (bB rfl))))))).trans rfl
end Mr
namespace Mr
open PySem Mi
def ky(ac row:List Str):List Int:=row.map λx=>((ac.idxOf x:Nat):Int)
end Mr
namespace Mr
open PySem Mi
def prs(ac:List Str):List Ar:=(bQ ac.length).flatMap λk=>(ac.drop (k+1)).map λb=>(nth ac k,b)
theorem D5{ac:List Str}{a b:Str}:(a,b)∈prs ac↔∃k,k<ac.length/\a=nth ac k/\b∈ac.drop (k+1):=by
 unfold prs;simp only[pL,cq,gD,Prod.mk.injEq];constructor
 ·rintro⟨k,hk,b',hb,rfl,rfl⟩;exact⟨k,hk,rfl,hb⟩
 ·rintro⟨k,hk,rfl,hb⟩;exact⟨k,hk,b,hb,rfl,rfl⟩
def tr(t:K2):List Str:=[t.1,t.2.1,t.2.2]
end Mr
namespace Mr
open PySem Mi
theorem Mn{i:Nat}{a:E}{e:Mi.Env}{ds xs:List D}(ha:a e=.ok (.lst xs))(hg:getL e i=.ok ds)(hl:ds.length+xs.length<=16777216):l8 i a e=.ok (.nx (putL e i (ds++xs))):=by unfold l8;rw[ha,aL,hg,aL];exact aN hl
theorem rV{a b:E}{e:Mi.Env}{x y:D}(h:a e=.ok x)(h':b e=.ok y):mN bC [a,b] e=.ok (.lst [x,y]):=by unfold mN;rw[fP,h,aL,fP,h',aL];rfl
theorem M3{a:E}{e:Mi.Env}{x:D}(h:a e=.ok x):fB a e=.ok (.nx e):=by unfold fB;rw[h];rfl
theorem B5{ac:List Str}(hn:ac.length<=8):(prs ac).length<=64:=by unfold prs;refine dr (qz (m:=8) λk _=>?_) (by rw[sk];omega);rw[aM,jf];omega
theorem Oz{ac:List Str}{a b:E}{e:Mi.Env}{k:Nat}(hk:k<ac.length)(hn:ac.length<=8)(ha:a e=.ok (aW ac))(hb:b e=.ok (.int (k:Nat))):bt (eI rO a (aa (m2 aY b (mC (.int 1)))) ab) e=.ok ((ac.drop (k+1)).map D.str):=by
 have sl:eI rO a (aa (m2 aY b (mC (.int 1)))) ab e=.ok (.tup ((ac.map D.str).drop (k+1))):=by rw[CI ha (aA (a:=b) (b:=mC (.int 1)) (x:=.int (k:Nat)) (y:=.int 1) hb rfl rfl)];show be _ _=_;rw[aN (by rw[aM];omega),show((k:Nat):Int)+1=((k+1:Nat):Int)by omega,j3]
 rw[dB sl rfl,List.map_drop]
theorem LK{ac:List Str}(hn:ac.length<=8):rF [.d (aW ac)]=.ok (.d (Bo (prs ac))):=by
 unfold rF As;rw[M4];have epr:(prs ac).map pairD=(bQ ac.length).flatMap λk=>(ac.drop (k+1)).map λb=>pairD (nth ac k,b):=by unfold prs;rw[tE];refine wc λk _=>?_;rw[dq];rfl
 have Pf:((prs ac).map pairD).length<=64:=by rw[aM];exact B5 hn
 rw[epr]at Pf;obtain⟨e',f1,o2,o3,he⟩:=pc (tg:=.t [2,3]) (body:=(l8 1 (cg [aa 3,ab] (bt (eI rO (mV 0) (aa (m2 aY (mV 2) (mC (.int 1)))) ab)) (.n 1) c6 (mN dTup [(mV 0),(mV 1)]))))
  (λk:Nat=>D.tup [.int (k:Nat),.str (nth ac k)]) (λk=>(ac.drop (k+1)).map λb=>pairD (nth ac k,b))
  (λacc e=>∃o2 o3:Option W,e=[aa (.d (aW ac)),aa (.d (.lst acc)),o2,o3]) (bQ ac.length) [] [aa (.d (aW ac)),aa (.d (.lst [])),ab,ab] (by simp only[iE];omega) ⟨ab,ab,rfl⟩
  (λk hk acc e hl ⟨o2,o3,he⟩=>by
   subst he;have hk:=gD.mp hk;refine⟨[aa (.d (aW ac)),aa (.d (.lst acc)),aa (.d (.int (k:Nat))),aa (.d (.str (nth ac k)))],putL [aa (.d (aW ac)),aa (.d (.lst acc)),aa (.d (.int (k:Nat))),aa (.d (.str (nth ac k)))] 1 (acc++(ac.drop (k+1)).map λb=>pairD (nth ac k,b)),rfl,?_,_,_,rfl⟩;have hc:cJ (.n 1) c6 (mN dTup [(mV 0),(mV 1)]) [aa (.d (.str (nth ac k))),ab] ((ac.drop (k+1)).map D.str)=.ok (((ac.drop (k+1)).filter λ_=>true).map λb=>pairD (nth ac k,b)):=
    fj D.str (λb=>pairD (nth ac k,b)) (λ_=>true) _ λb _=>⟨[aa (.d (.str (nth ac k))),aa (.d (.str b))],rfl,rfl,λ_=>kQ rfl rfl⟩
   rw[mx.mpr (λ_ _=>rfl)]at hc;exact Mn (en (ρ:=[aa 3,ab]) (Oz hk hn rfl rfl) (by rw[aM,jf];omega) hc) rfl hl)
 subst he;rw[show([aa (W.d (aW ac))]++cH (4-1) ab)=[aa (W.d (aW ac)),ab,ab,ab]from rfl];rw[aO (e':=[aa (.d (aW ac)),aa (.d (.lst [])),ab,ab]) (bN (jJ _))];have hit:md (mV 0) [aa (.d (aW ac)),aa (.d (.lst [])),ab,ab]=.ok ((bQ ac.length).map λk=>D.tup [.int (k:Nat),.str (nth ac k)]):=by rw[<- yi];rfl
 rw[aO ((eP hit).trans f1)];unfold Bo;rw[epr];rfl
theorem Ie{ac:List Str}{p:Ar}(h:p∈prs ac):p.1∈ac/\p.2∈ac:=by obtain⟨k,hk,e,hb⟩:=D5.mp (show(p.1,p.2)∈prs ac from h);exact⟨by rw[e];exact oO hk,yT hb⟩
end Mr
namespace Mr
open PySem Mi
open My (words fv fT)
theorem Ov:("abcdefghijklmnopqrstuvwxyz" : Str).cps.toList=(bQ 26).map (· + 97):=by decide +kernel
theorem Mc{a b c:E}{e:Mi.Env}{i j k:Int}(ha:a e=.ok (.int i))(hb:b e=.ok (.int j))(hc:c e=.ok (.int k))(h1:i<=j)(h2:j<=k):sT oY oY a b c e=.ok (.bl true):=by unfold sT;rw[ha,aL,hb,aL];show(Rs.ok (D.bl (decide (i<=j)))).bind _=_;rw[bV h1,aL,rE,aL,bb rfl,hc,aL];show Rs.ok (D.bl (decide (j<=k)))=_;rw[bV h2]
theorem OS{l:List Nat}(hw:fv l):qo [.d (.str (S' l))]=.ok (.d (.bl true)):=by
 unfold qo Ff;rw[uI];rw[show([aa (W.d (.str (S' l)))]++cH (1-1) ab)=[aa (W.d (.str (S' l)))]from rfl];obtain⟨h1,h8,hl⟩:=hw;have hc:cJ (.n 0) c6 (m2 eR (mV 0) (mC (.str "abcdefghijklmnopqrstuvwxyz"))) [ab] (l.map λc=>D.str (S' [c]))=.ok ((l.filter λ_=>true).map λc=>D.bl ((λ_=>true) c)):=
  fj (λc=>D.str (S' [c])) (λc=>D.bl ((λ_=>true) c)) (λ_=>true) l λc hcl=>⟨[aa (.d (.str (S' [c])))],rfl,rfl,λ_=>aA (x:=.str (S' [c])) rfl rfl (by
   show be ((S' [c]).length=1) (Rs.ok (D.bl (decide ((S' [c]).cps.getD 0 0∈("abcdefghijklmnopqrstuvwxyz" : Str).cps.toList))))=_;have hm:(S' [c]).cps.getD 0 0∈("abcdefghijklmnopqrstuvwxyz" : Str).cps.toList:=by rw[Ov];have:=hl c hcl;exact cq.mpr ⟨c-97,gD.mpr (by omega),by show c-97+97=c;omega⟩
   rw[aN (by rw[jG];rfl),bV hm])⟩
 rw[mx.mpr (λ_ _=>rfl)]at hc;have h2:mN v6 [(cg [ab] (bt (mV 0)) (.n 0) c6 (m2 eR (mV 0) (mC (.str "abcdefghijklmnopqrstuvwxyz"))))] [aa (W.d (.str (S' l)))]=.ok (.bl true):=by refine(d5 (en (ρ:=[ab]) (dB (a:=mV 0) (x:=.str (S' l)) rfl rfl) (by rw[aM,t6];omega) hc)).trans ?_;rw[Ni,A8,lD,aL,List.all_map];show Rs.ok (D.bl (l.all λ_=>true))=_;rw[nP.mpr (λ_ _=>rfl)]
 have h3:sT oY oY (mC (.int 1)) (mN d3 [(mV 0)]) (mC (.int 8)) [aa (W.d (.str (S' l)))]=.ok (.bl true):=Mc (j:=((l.length:Nat):Int)) rfl ((d5 (x:=.str (S' l)) rfl).trans (by rw[M9,aN (by rw[jG];omega),jG])) rfl (by omega) (by omega);rw[dy (bB (Ct h3 λ_=>h2))];rfl
theorem wU{α:Type}{l:List α}(nd:l.Nodup){i:Nat}{x:α}(hx:l[i]? = aa x):x∉l.take i:=λz=>by
 obtain⟨il,hxe⟩:=cv.mp hx;obtain⟨j,hj⟩:=kF z;have hj2:=(cv.mp hj).1;rw[gC]at hj2;rw[yQ (by omega)]at hj;obtain⟨jl,hje⟩:=cv.mp hj;have:=(pK nd).mp (hje.trans hxe.symm);omega
def both(xs:List Ar):List Ar:=xs.flatMap λp=>[p,(p.2,p.1)]
end Mr
namespace Mr
open PySem Mi
open My (words fv fT)
theorem OT{α:Type}(xs:List α)(k:Nat):jI xs (aa (k:Int)) ab=xs.drop k:=by
 have e:cV xs.length 0 (aa (k:Int))=min k xs.length:=by show(if(k:Int)<0 then((k:Int)+(xs.length:Int)).toNat else min (k:Int).toNat xs.length)=_;rw[bc (by omega),j3]
 unfold jI;rw[e,show cV xs.length xs.length ab=xs.length from rfl];rcases zo k xs.length with h|h
 ·rw[zm h];exact pF (by rw[jf];exact bA _)
 ·rw[zk h,Nat.sub_self,List.take_zero,List.drop_eq_nil_of_le h]
theorem E1:∀xs:List Str,fL (xs.map D.str)=true
 |[]=>rfl
 |x::r=>by rw[cS,fL,E1 r];rfl
end Mr
namespace Mr
open PySem Mi
abbrev nn:D:=.lst [.str "NoName"]
end Mr
namespace Mr
open PySem Mi
open My (words fv fT)
theorem oR{f:Fn}{a b c g:EW}{e:Mi.Env}{x y z u:W}{d:D}(h:a e=.ok x)(h':b e=.ok y)(h'':c e=.ok z)(h3:g e=.ok u)(hf:f [x,y,z,u]=.ok (.d d)):aJ f [a,b,c,g] e=.ok d:=by unfold aJ jQ;rw[eg,h,aL,eg,h',aL,eg,h'',aL,eg,h3];simp only[aL,eg,hf,rM]
theorem DM{α:Type}(f:α->Nat):∀(l m:List α),l.Pairwise (λa b=>f a<f b)->m.Pairwise (λa b=>f a<f b)->(∀x,x∈l↔x∈m)->l=m
 |[],[],_,_,_=>rfl
 |[],b::t,_,_,h=>nomatch (h b).mpr (dj ..)
 |a::r,[],_,_,h=>nomatch (h a).mp (dj ..)
 |a::r,b::t,hl,hm,h=>by
  have l1:=F6.mp hl;have m1:=F6.mp hm;have e:a=b:=by
   rcases bH.mp ((h a).mp (dj ..))with z|z
   ·exact z
   ·rcases bH.mp ((h b).mpr (dj ..))with y|y
    ·exact y.symm
    ·have k1:=m1.1 a z;have k2:=l1.1 b y;omega
  subst e;rw[DM f r t l1.2 m1.2 λx=>⟨λhx=>by
   rcases bH.mp ((h x).mp (dJ _ hx))with z|z
   ·have:=l1.1 x hx;rw[z]at this;omega
   ·exact z,λhx=>by
   rcases bH.mp ((h x).mpr (dJ _ hx))with z|z
   ·have:=m1.1 x hx;rw[z]at this;omega
   ·exact z⟩]
def jv(aj:List Ar)(x:Str):List Str:=(aj.filter λp=>decide (p.1=x)).map (·.2)
theorem Bv{aj:List Ar}{x y:Str}:y∈jv aj x↔(x,y)∈aj:=by
 unfold jv;constructor
 ·intro h;obtain⟨p,hp,rfl⟩:=cq.mp h;obtain⟨h1,h2⟩:=dD.mp hp;rw[<- ke h2];exact h1
 ·exactλh=>cq.mpr ⟨(x,y),dD.mpr ⟨h,bV rfl⟩,rfl⟩
theorem Nj{ac:List Str}{aj:List Ar}{x:Str}(hx:x∈ac)(hl:aj.length<=64):qR [.d (aw ac aj),.d (.str x)]=.ok (.d (.tup ((jv aj x).map D.str))):=by
 unfold qR Cz;rw[me];rw[show([aa (W.d (aw ac aj)),aa (W.d (.str x))]++cH (2-2) ab)=[aa (W.d (aw ac aj)),aa (W.d (.str x))]from rfl];have hr:gt [.d (aW ac),.d (af [x])]=.ok (.d .non):=rC λy hy=>by rw[bX.mp hy];exact hx
 rw[aO (M3 (call2 (bB (aA rfl rfl (iW _ _))) (bB (k4 rfl)) hr))];have hc:cJ (.t [1,2]) (cB (m2 b9 (mV 1) (mV 0))) (mV 2) [aa (.d (.str x)),ab,ab] (aj.map pairD)=.ok ((aj.filter λp=>decide (p.1=x)).map λp=>D.str p.2):=
  fj pairD (λp=>D.str p.2) (λp=>decide (p.1=x)) aj λp _=>⟨[aa (.d (.str x)),aa (.d (.str p.1)),aa (.d (.str p.2))],rfl,bR (aA rfl rfl (nh p.1 x)),λ_=>rfl⟩
 rw[dy (bB ((d5 (en (ρ:=[aa 1,ab,ab]) (dB (aA rfl rfl (pE ac aj)) rfl) (by rw[aM];omega) hc)).trans rfl))];show Rs.ok (W.d (.tup _))=_;unfold jv;rw[dq];rfl
theorem NB(n:Nat)(xs:List Str):dF (n+2) [.d (aW xs),.d (aW xs)]=.ok (.d (.bl true)):=
 uk (F:=dF (n+1)) false (xs.map D.str) λd hd=>by
  obtain⟨x,_,rfl⟩:=cq.mp hd;exact E8 n x
end Mr
namespace Mr
open PySem Mi
open My (words fv fT)
end Mr
namespace Mr
open PySem Mi
open My (words fv fT)
def ixs(ac:List Str)(B:List Ar):List Ix:=(bQ ac.length).flatMap λi=>((bQ ac.length).filter λj=>decide ((nth ac i,nth ac j)∈B)).map λj=>(i,j)
theorem AF(ac:List Str):(bQ ac.length).map (nth ac)=ac:=by refine List.ext_getElem (by rw[aM,sk]) λi h1 h2=>?_;rw[List.getElem_map,yV];unfold nth;rw[gj,ib h2];rfl
theorem An(ac:List Str)(B:List Ar):(ixs ac B).map (arrOf ac)=gN ac B:=by
 unfold ixs gN;rw[tE];have e:ac.flatMap (λt=>(ac.filter λh=>decide ((t,h)∈B)).map λh=>(t,h))=((bQ ac.length).map (nth ac)).flatMap (λt=>(ac.filter λh=>decide ((t,h)∈B)).map λh=>(t,h)):=by rw[AF]
 rw[e,List.flatMap_map];refine wc λi _=>?_;have e2:ac.filter (λh=>decide ((nth ac i,h)∈B))=((bQ ac.length).map (nth ac)).filter (λh=>decide ((nth ac i,h)∈B)):=by rw[AF]
 rw[e2,List.filter_map,dq,dq];rfl
theorem wj{ac:List Str}{B:List Ar}{p:Ix}:p∈ixs ac B↔p.1<ac.length/\p.2<ac.length/\(nth ac p.1,nth ac p.2)∈B:=by
 unfold ixs;rw[pL];constructor
 ·rintro⟨i,hi,h⟩;obtain⟨j,hj,rfl⟩:=cq.mp h;obtain⟨h1,h2⟩:=dD.mp hj;exact⟨gD.mp hi,gD.mp h1,ke h2⟩
 ·rintro⟨h1,h2,h3⟩;exact⟨p.1,gD.mpr h1,cq.mpr ⟨p.2,dD.mpr ⟨gD.mpr h2,bV h3⟩,rfl⟩⟩
theorem IV{ac:List Str}(nd:ac.Nodup)(h8:ac.length<=8)(B:List Ar):(gN ac B).Nodup:=by
 rw[<- An];refine nO.mpr (List.Pairwise.imp_of_mem (R:=wb) (λ{p q} hp hq h z=>?_) ?_)
 ·obtain⟨a,b,_⟩:=wj.mp hp;obtain⟨c,d,_⟩:=wj.mp hq;have e1:=oq nd a c (congrArg vF z);have e2:=oq nd b d (congrArg Prod.snd z);rcases h with h|⟨_,h⟩<;>omega
 ·unfold ixs;rw[F1];refine⟨λi _=>?_,?_⟩
  ·rw[nO];exact(GN _ uX).imp λ{a b} h=>.inr ⟨rfl,h⟩
  ·refine uX.imp λ{a b} h=>?_;intro x hx y hy;obtain⟨j,_,rfl⟩:=cq.mp hx;obtain⟨j',_,rfl⟩:=cq.mp hy;exact .inl h
structure Gd(ac:List Str)(aj:List Ar):Prop where
 nd:ac.Nodup
 pos:1<=ac.length
 le:ac.length<=8
 rk:Rk aj
 gN:gN ac aj=aj
 wd:∀x∈ac,qo [.d (.str x)]=.ok (.d (.bl true))
theorem Gd.inn{ac:List Str}{aj:List Ar}(G:Gd ac aj):∀p∈aj,p.1∈ac/\p.2∈ac:=λp hp=>by
 rw[<- G.gN]at hp;exact(JY.mp hp).2
theorem Gd.al{ac:List Str}{aj:List Ar}(G:Gd ac aj):aj.length<=64:=by rw[<- G.gN];exact OW G.le _
theorem Gd.nodup{ac:List Str}{aj:List Ar}(G:Gd ac aj):aj.Nodup:=by rw[<- G.gN];exact IV G.nd G.le _
end Mr
namespace Mr
open PySem Mi
open My (words fv fT)
structure Lk(ac:List Str)(aj:List Ar):Prop where
 nd:ac.Nodup
 le:ac.length<=8
 al:aj.length<=64
 inn:∀p∈aj,p.1∈ac/\p.2∈ac
 rk:Rk aj
 nda:aj.Nodup
theorem Gd.lk{ac:List Str}{aj:List Ar}(G:Gd ac aj):Lk ac aj:=⟨G.nd,G.le,G.al,G.inn,G.rk,G.nodup⟩
theorem Lk.nt{ac:List Str}{aj:List Ar}(G:Lk ac aj):Nt ac aj:=⟨G.nd,G.le,G.al,G.inn,G.rk⟩
theorem Lk.FR{ac:List Str}{aj:List Ar}(G:Lk ac aj)(x:Str):(f6 aj x).Nodup:=by unfold f6;refine nO.mpr ((G.nda.filter _).imp_of_mem λ{p q} hp hq h z=>h ?_);have h1:=ke (dD.mp hp).2;have h2:=ke (dD.mp hq).2;exact pY z (h1.trans h2.symm)
end Mr
namespace Mr
open PySem Mi
open My (words fv fT)
end Mr
namespace Mr
open PySem Mi
open My (words fv fT)
def Wk(ac:List Str)(B:List Ar):List Ar->List Ar->Prop
 |[],L=>gN ac L=B
 |p::r,L=>p∈L/\cov L p=true/\Wk ac B r (Kn p L)
end Mr
namespace Mr
open PySem Mi
open My (words fv fT)
theorem qr.gd{ac:List Str}{A:List Ix}{r:Nat->Int}(N:qr ac A r)(hw:∀x∈ac,qo [.d (.str x)]=.ok (.d (.bl true))):Gd ac (A.map (arrOf ac)):=by
 refine⟨N.nd,N.pos,N.le,N.aZ.rk,?_,hw⟩;rw[<- An]
 congr 1
 refine(DM (λp:Ix=>p.1*8+p.2) _ _ ?_ ?_ λp=>?_)
 ·unfold ixs;have h8:=N.le;rw[F1];refine⟨λi _=>?_,?_⟩
  ·rw[nO];refine(GN _ uX).imp λ{a b} h=>?_;show i*8+a<i*8+b;omega
  ·refine uX.imp λ{a b} h=>?_;intro x hx y hy;obtain⟨j,hj,rfl⟩:=cq.mp hx;obtain⟨j',_,rfl⟩:=cq.mp hy;have:=gD.mp (dD.mp hj).1;show a*8+j<b*8+j';omega
 ·refine N.gN.imp_of_mem λ{p q} hp hq h=>?_;have h1:=(N.all p hp).2.1;have h8:=N.le;rcases h with h|⟨e,h⟩
  ·show p.1*8+p.2<q.1*8+q.2;omega
  ·show p.1*8+p.2<q.1*8+q.2;omega
 ·rw[wj];constructor
  ·rintro⟨h1,h2,h3⟩;obtain⟨q,hq,e⟩:=cq.mp h3;have e1:=oq N.nd (N.all q hq).1 h1 (congrArg vF e);have e2:=oq N.nd (N.all q hq).2.1 h2 (congrArg Prod.snd e);have:q=p:=pY e1 e2;rw[<- this];exact hq
  ·exactλh=>⟨(N.all p h).1,(N.all p h).2.1,cq.mpr ⟨p,h,rfl⟩⟩
end Mr
namespace Mr
open PySem Mi
open My (words fv fT)
end Mr
namespace Mr
open PySem Mi
def rk(r:List Str):List Ky:=r.map dM
abbrev FL:=List (Ar×D)
def xy(told:FL):List Ar:=told.map (·.1)
end Mr
namespace Mr
open PySem Mi
structure Dc(ac:List Str)(A:List Ar)(KT KC:List (List Str)):Prop where
 kt:∀a∈ac,∀b∈ac,a≠b->([a,b]∈KT↔tie A a b=true)
 ktm:∀k∈KT,∃a b,k=[a,b]/\a∈ac/\b∈ac/\a≠b/\tie A a b=true
 kc:∀a∈ac,∀m∈ac,∀b∈ac,[a,m,b]∈KC↔a≠b/\t7 A a m b=true
def Jr(t h s:Str)(x:List Str):D:=.tup [.str t,.str h,.str s,.tup (x.map D.str)]
inductive Rl(ac:List Str)(A P:List Ar)(t h:Str):Str->List Str->Prop
 |Pg {z:Str} (zn:z∈ac) (ne:t≠z) (c:t7 A t h z=true):Rl ac A P t h "corner" [z]
 |on {z:Str} (zn:z∈ac) (ne:z≠h) (nt:tie A z h=false) (nc:t7 A z t h=false) (p:(z,t)∈P):Rl ac A P t h "on" [z]
 |over {z:Str} (zn:z∈ac) (p:(t,z)∈P) (q:(z,h)∈P):Rl ac A P t h "over" [z]
 |both {z w:Str} (zn:z∈ac) (wn:w∈ac) (ne:z≠w) (nt:tie A z w=false) (nc:t7 A z t w=false) (t1:tie A z t=true) (t2:tie A w t=true) (p:(z,h)∈P) (q:(w,h)∈P):Rl ac A P t h "both" [z,w]
theorem ES{f:List D->Rs D}{a b c d:E}{e:Mi.Env}{x y z w:D}(h:a e=.ok x)(h':b e=.ok y)(h'':c e=.ok z)(h3:d e=.ok w):mN f [a,b,c,d] e=f [x,y,z,w]:=by unfold mN;rw[fP,h,aL,fP,h',aL,fP,h'',aL,fP,h3];rfl
end Mr
namespace Mr
open PySem Mi
end Mr
namespace Mr
open PySem Mi
structure Gt(ac:List Str)(A:List Ar)(told:FL):Prop where
 nd:(xy told).Nodup
 sub:∀p∈xy told,p∈A
 ord:∀i q,told[i]? = aa q->∃s x,q.2=Jr q.1.1 q.1.2 s x/\Rl ac A (xy (told.take i)) q.1.1 q.1.2 s x
end Mr
namespace Mr
open PySem Mi
theorem Kb{ac:List Str}(nd:ac.Nodup){a b:Str}(h:(a,b)∈prs ac):a∈ac/\b∈ac/\a≠b:=by obtain⟨k,hk,rfl,hb⟩:=D5.mp h;exact⟨oO hk,(xm nd hk hb).1,(xm nd hk hb).2⟩
end Mr
namespace Mr
open PySem Mi
end Mr
namespace Mr
open PySem Mi
end Mr
namespace Mr
open PySem Mi
end Mr
namespace Mr
open PySem Mi
end Mr
namespace Mr
open PySem Mi
def Fz(p:Ar)(L:List Ar):List Ar:=(L.filter λq=>!decide (q=p))++[(p.2,p.1)]
end Mr
namespace Mr
open PySem Mi
open My (words fv fT)
end Mr
namespace Mr
open PySem Mi
open My (words fv fT)
end Mr
namespace Mr
open PySem Mi
end Mr
namespace Mr
open PySem Mi
open My (words fv fT)
end Mr
namespace Mr
open PySem Mi
open PySem.Builtin PySem.Builtin.Str
def cl(x:Str):List Nat:=x.cps.toList
end Mr
namespace Mr
open PySem Mi
open My (words fv fT)
def Ci(c:Str)(p:Ar):Str:=OE [p.1,c,p.2]
def CZ(ac:List Str)(xs:List Ar):List Str:=ac++[(":" : Str)]++xs.map (Ci ">")
def tx(ac:List Str)(xs:List Ar):Str:=jj " " (CZ ac xs)
def nt(ac:List Str):List Nat:=ac.flatMap λn=>cl n++[32]
theorem tW{α:Type}{l:List α}{i:Nat}{x:α}(h:l[i]? = aa x):l.take (i+1)=l.take i++[x]:=by rw[List.take_succ,h];rfl
end Mr
namespace Mr
open PySem Mi
open My (words fv fT)
def tp(ac:List Str)(R S:List Ar):Str:=jj " " (CZ ac R++S.map (Ci "-"))
end Mr
namespace Vp
section
variable{α:Type}
inductive Up(A:α->α->Prop):α->α->Prop
 |refl (x:α):Up A x x
 |step {x y z:α}:A x y->Up A y z->Up A x z
def Hi(A:α->α->Prop)(T:α->Prop)(x:α):Prop:=∃y,T y/\Up A x y
theorem Hi.of{A:α->α->Prop}{T:α->Prop}{x:α}(h:T x):Hi A T x:=⟨x,h,.refl x⟩
theorem Hi.up{A:α->α->Prop}{T:α->Prop}{x y:α}(a:A x y)(h:Hi A T y):Hi A T x:=let ⟨z,t,u⟩:=h;⟨z,t,.step a u⟩
theorem Up.trans{A:α->α->Prop}{x y z:α}(h:Up A x y)(k:Up A y z):Up A x z:=by
 induction h with
 |refl=>exact k
 |step a _ ih=>exact .step a (ih k)
theorem Hi.ind{A:α->α->Prop}{T P:α->Prop}(h0:∀x,T x->P x)(h1:∀x y,A x y->Hi A T y->P y->P x){x:α}(h:Hi A T x):P x:=by
 obtain⟨z,t,u⟩:=h
 induction u with
 |refl x=>exact h0 x t
 |step a u ih=>exact h1 _ _ a ⟨_,t,u⟩ (ih t)
def fam(A:α->α->Prop)(n u:α):Prop:=u=n\/A u n
def i9(A:α->α->Prop)(U:α->Prop)(u v:α):Prop:=∃n,U n/\fam A n u/\fam A n v
inductive Met(adj:α->α->Prop)(S:α->Prop)(i:α):α->Prop
 |base:Met adj S i i
 |step {u v:α}:Met adj S i u->adj u v->¬ S v->Met adj S i v
def Tg(i j:α)(S:α->Prop)(x:α):Prop:=x=i\/x=j\/S x
def kr(A:α->α->Prop)(i j:α)(S:α->Prop):Prop:=Met (i9 A (Hi A (Tg i j S))) S i j
end
end Vp
namespace Mr
open PySem Mi
open Vp
def ar(A:List Ar)(u v:Str):Prop:=(u,v)∈A
def fc:List Str->List (List Str)
 |[]=>[[]]
 |x::r=>fc r++(fc r).map (· ++ [x])
theorem qF:∀{r l:List Str},l∈fc r->∀z∈l,z∈r
 |[],l,h,z,hz=>by rw[bX.mp h]at hz;cases hz
 |x::r,l,h,z,hz=>by
  rcases bJ.mp h with h|h
  ·exact dJ _ (qF h z hz)
  ·obtain⟨l',hl,rfl⟩:=cq.mp h;rcases bJ.mp hz with hz|hz
   ·exact dJ _ (qF hl z hz)
   ·rw[bX.mp hz];exact dj
theorem xA:∀{r l:List Str},r.Nodup->l∈fc r->l.Nodup
 |[],l,_,h=>by rw[bX.mp h];exact .nil
 |x::r,l,nd,h=>by
  have nd:=jZ.mp nd;rcases bJ.mp h with h|h
  ·exact xA nd.2 h
  ·obtain⟨l',hl,rfl⟩:=cq.mp h;refine fH.mpr ⟨xA nd.2 hl,by simp,λa ha b hb e=>?_⟩;rw[bX.mp hb]at e;exact nd.1 (e ▸ qF hl a ha)
theorem BD(p:Str->Bool):∀r:List Str,r.reverse.filter p∈fc r
 |[]=>bX.mpr rfl
 |x::r=>by
  rw[pI,List.filter_append];have ih:=BD p r;cases h:p x with
  |false=>
   rw[FX (by rw[h];exact du),List.filter_nil,nQ];exact dL _ ih
  |true=>
   rw[FW h,List.filter_nil];exact dI _ (mv ih)
theorem Ey:∀r:List Str,(fc r).length=2 ^ r.length
 |[]=>rfl
 |x::r=>by rw[fc,cu,aM,Ey r,cR,Nat.pow_succ];omega
theorem tZ:∀{r l:List Str},l∈fc r->l.length<=r.length
 |[],l,h=>by rw[bX.mp h];exact bA _
 |x::r,l,h=>by
  rw[cR];rcases bJ.mp h with h|h
  ·have:=tZ h;omega
  ·obtain⟨l',hl,rfl⟩:=cq.mp h;have:=tZ hl;rw[cu,jd];omega
def rst(ac:List Str)(i j:Str):List Str:=ac.filter λn=>!decide (n=i) && !decide (n=j)
end Mr
namespace Mr
open PySem Mi
end Mr
namespace Mr
open PySem Mi
def fh(aj:List Ar):D:=.lst (aj.map pairD)
theorem Mz{ac:List Str}{aj:List Ar}(N:gP ac aj)(hd:∀p∈aj,p.2∈ac){x h:Str}{fs ws:List Str}(w:i6 ac aj x ab fs (ws++[h]))(o5 o6 o7:Option W) :
 ∃fs' ws' p6 p7,lP [aa (.d (aW ac)),aa (.d (fh aj)),aa (.d (.str x)),aa (bO fs),aa (.d (af (ws++[h]))),o5,o6,o7]=.ok (.nx [aa (.d (aW ac)),aa (.d (fh aj)),aa (.d (.str x)),aa (bO fs'),aa (.d (af ws')),aa (.d (.str h)),p6,p7]) /\
  i6 ac aj x ab fs' ws'/\fs.length<=fs'.length/\ws'.length+fs.length=ws.length+fs'.length:=by
 have hnd:=fH.mp w.wnd;have hh:h∈fs:=w.jn h (by simp);have hnw:h∉ws:=λz=>hnd.2.2 h z h (by simp) rfl;obtain⟨e',f1,fs',ws',p6,p7,he,w',hl,hl2,hx,_⟩:=f7 (tg:=.t [6,7]) (body:=(bv (cF (cB (m2 b9 (mV 6) (mV 5))) (cB (fK 3 (mV 7)))) (aD (da 3 (mV 7) (mC (.bl true))) (ce 4 (mV 7))) bD))
  (λi e=>∃(fs' ws':List Str) (o6 o7:Option W),e=[aa (.d (aW ac)),aa (.d (fh aj)),aa (.d (.str x)),aa (bO fs'),aa (.d (af ws')),aa (.d (.str h)),o6,o7]/\i6 ac aj x (aa h) fs' ws'/\fs.length<=fs'.length/\ws'.length+fs.length=ws.length+fs'.length/\(∀j p,j<i->aj[j]? = aa p->p.1=h->p.2∈fs')/\h∈fs') (aj.map pairD) 0 (λi d e hi ⟨f1,w1,o6,o7,he,W1,hl,hl2,hx,hf1⟩=>by
   subst he;rw[cY]at hx ⊢;rw[c9]at hi;obtain⟨p,hp,rfl⟩:=gF.mp hi;have hpm:=je hp;have c1:cB (m2 b9 (mV 6) (mV 5)) [aa (.d (aW ac)),aa (.d (fh aj)),aa (.d (.str x)),aa (bO f1),aa (.d (af w1)),aa (.d (.str h)),aa (.d (.str p.1)),aa (.d (.str p.2))]=.ok (decide (p.1=h)):=bR ((aA rfl rfl rfl).trans (nh _ _));have c2:cB (fK 3 (mV 7)) [aa (.d (aW ac)),aa (.d (fh aj)),aa (.d (.str x)),aa (bO f1),aa (.d (af w1)),aa (.d (.str h)),aa (.d (.str p.1)),aa (.d (.str p.2))]=.ok (!decide (p.2∈f1)):=bR (Cv rfl rfl);have hl8:f1.length<=8:=dr (fi W1.g.nd W1.g.sub) N.le;have hw8:w1.length<=8:=dr (fi W1.wnd (λy hy=>W1.g.sub y (W1.jn y hy))) N.le;by_cases hb:p.1=h/\p.2∉f1
   ·refine⟨[aa (.d (aW ac)),aa (.d (fh aj)),aa (.d (.str x)),aa (bO f1),aa (.d (af w1)),aa (.d (.str h)),aa (.d (.str p.1)),aa (.d (.str p.2))],[aa (.d (aW ac)),aa (.d (fh aj)),aa (.d (.str x)),aa (bO (f1++[p.2])),aa (.d (af (w1++[p.2]))),aa (.d (.str h)),aa (.d (.str p.1)),aa (.d (.str p.2))],rfl,?_,f1++[p.2],w1++[p.2],_,_,rfl,⟨⟨?_,λy hy=>?_,λy hy=>?_,dL _ W1.g.x⟩,?_,λy hy=>?_,λy hy hn=>?_⟩,by rw[cu];omega,by rw[cu,cu];simp;omega,λj q hj hq h1=>?_,dL _ hf1⟩
    ·rw[fE (by unfold cF;rw[c1,aL,bV hb.1,bb rfl,c2,cE hb.2];rfl)];rw[aO (wQ (y:=p.2) (fs:=f1) rfl rfl hb.2 (by omega))];rw[kC (d:=.str p.2) (ds:=w1.map D.str) rfl rfl (by rw[aM];omega)];show Rs.ok (Out.nx [_,_,_,_,aa (W.d (D.lst (w1.map D.str++[.str p.2]))),_,_,_])=_;rw[af,eV];rfl
    ·exact fH.mpr ⟨W1.g.nd,by simp,λa ha b hb'=>by
      have:b=p.2:=by simpa using hb'
      subst this;exactλz=>hb.2 (z ▸ ha)⟩
    ·rcases bJ.mp hy with z|z
     ·exact W1.g.sub y z
     ·have:y=p.2:=by simpa using z
      subst this;exact hd p hpm
    ·rcases bJ.mp hy with z|z
     ·exact W1.g.r y z
     ·have:y=p.2:=by simpa using z
      subst this;exact .step (W1.g.r p.1 (hb.1 ▸ hf1)) hpm
    ·exact fH.mpr ⟨W1.wnd,by simp,λa ha b hb'=>by
      have:b=p.2:=by simpa using hb'
      subst this;exactλz=>hb.2 (z ▸ W1.jn a ha)⟩
    ·rcases bJ.mp hy with z|z
     ·exact dL _ (W1.jn y z)
     ·exact dI _ z
    ·rcases bJ.mp hy with z|z
     ·rcases W1.ex y z (λq=>hn (dL _ q))with q|q
      ·exact .inl q
      ·exact .inr λr hr h1=>dL _ (q r hr h1)
     ·exact absurd (dI _ z) hn
    ·by_cases hji:j=i
     ·subst hji;rw[hp]at hq;cases hq;simp
     ·exact dL _ (hx j q (by omega) hq h1)
   ·refine⟨[aa (.d (aW ac)),aa (.d (fh aj)),aa (.d (.str x)),aa (bO f1),aa (.d (af w1)),aa (.d (.str h)),aa (.d (.str p.1)),aa (.d (.str p.2))],[aa (.d (aW ac)),aa (.d (fh aj)),aa (.d (.str x)),aa (bO f1),aa (.d (af w1)),aa (.d (.str h)),aa (.d (.str p.1)),aa (.d (.str p.2))],rfl,?_,f1,w1,_,_,rfl,W1,hl,hl2,λj q hj hq h1=>?_,hf1⟩
    ·rw[dU (by
      unfold cF;rw[c1,aL];by_cases h1:p.1=h
      ·rw[bV h1,bb rfl,c2,bV (mL λz=>hb ⟨h1,z⟩)];rfl
      ·rw[cE h1,bc du])]
     rfl
    ·by_cases hji:j=i
     ·subst hji;rw[hp]at hq;cases hq;exact mL λz=>hb ⟨h1,z⟩
     ·exact hx j q (by omega) hq h1) [aa (.d (aW ac)),aa (.d (fh aj)),aa (.d (.str x)),aa (bO fs),aa (.d (af ws)),aa (.d (.str h)),o6,o7]
  ⟨fs,ws,o6,o7,rfl,⟨w.g,hnd.1,λy hy=>w.jn y (dL _ hy),λy hy hn=>by
   by_cases hyh:y=h
   ·exact .inl (by rw[hyh])
   ·rcases w.ex y hy (λz=>by
     rcases bJ.mp z with z|z
     ·exact hn z
     ·exact hyh (by simpa using z))with q|q
    ·cases q
    ·exact .inr q⟩,bA _,rfl,λj p hj=>absurd hj (ly _),hh⟩
 subst he;refine⟨fs',ws',p6,p7,?_,⟨w'.g,w'.wnd,w'.jn,λy hy hn=>.inr ?_⟩,hl,hl2⟩
 ·rw[show lP=aD (qA 5 4) (cr (bt (mV 1)) (.t [6,7]) (bv (cF (cB (m2 b9 (mV 6) (mV 5))) (cB (fK 3 (mV 7)))) (aD (da 3 (mV 7) (mC (.bl true))) (ce 4 (mV 7))) bD))from rfl];rw[aO (e':=[aa (.d (aW ac)),aa (.d (fh aj)),aa (.d (.str x)),aa (bO fs),aa (.d (af ws)),aa (.d (.str h)),o6,o7]) (by
   show(dA (((ws++[h]).map D.str)[((ws++[h]).map D.str).length-1]?)).bind _=_;have e1:((ws++[h]).map D.str)[((ws++[h]).map D.str).length-1]? = aa (.str h):=by simp
   have e2:((ws++[h]).map D.str).dropLast=ws.map D.str:=by simp
   rw[e1,lD,aL,e2];rfl)]
  exact(eP (dB (x:=fh aj) rfl rfl)).trans f1
 ·rcases w'.ex y hy hn with q|q
  ·cases q;intro p hp h1;obtain⟨j,hj⟩:=kF hp;exact hx j p (by rw[aM];have:=(cv.mp hj).1;omega) hj h1
  ·exact q
theorem BH{ac:List Str}{aj:List Ar}(N:gP ac aj)(hd:∀p∈aj,p.2∈ac){x:Str}:∀(n:Nat) (fs ws:List Str) (o5 o6 o7:Option W),i6 ac aj x ab fs ws->(ac.length-fs.length)+ws.length<n ->
 ∃fs' p5 p6 p7,hG (e5 (mV 4)) lP n [aa (.d (aW ac)),aa (.d (fh aj)),aa (.d (.str x)),aa (bO fs),aa (.d (af ws)),o5,o6,o7]=.ok (.nx [aa (.d (aW ac)),aa (.d (fh aj)),aa (.d (.str x)),aa (bO fs'),aa (.d (af [])),p5,p6,p7])/\i6 ac aj x ab fs' []
 |0,_,_,_,_,_,_,h=>absurd h (ly _)
 |n+1,fs,ws,o5,o6,o7,w,h=>by
  have hc:e5 (mV 4) [aa (.d (aW ac)),aa (.d (fh aj)),aa (.d (.str x)),aa (bO fs),aa (.d (af ws)),o5,o6,o7]=.ok (!(ws.map D.str).isEmpty):=rfl;rcases FY ws with rfl|⟨ws1,y,rfl⟩
  ·exact⟨fs,o5,o6,o7,by rw[hG,hc];rfl,w⟩
  ·rw[FZ]at w h hc ⊢;obtain⟨fs',ws',p6,p7,f1,w',l1,l2⟩:=Mz N hd w o5 o6 o7;have l3:fs'.length<=ac.length:=fi w'.g.nd w'.g.sub;obtain⟨fs2,q5,q6,q7,f2,w2⟩:=BH N hd n fs' ws' (aa (.d (.str y))) p6 p7 w' (by rw[cu]at h;simp at h;omega);refine⟨fs2,q5,q6,q7,?_,w2⟩;rw[hG,hc,show(!((ws1++[y]).map D.str).isEmpty)=true by simp,aL,bb rfl,f1,aL];exact f2
theorem Ke{ac:List Str}{aj:List Ar}(N:gP ac aj)(hd:∀p∈aj,p.2∈ac){x:Str}(hx:x∈ac):lc [.d (aW ac),.d (fh aj),.d (.str x)]=.ok (.d (af (jm ac aj x))):=by
 have w0:i6 ac aj x ab [x] [x]:=⟨⟨by simp,λy hy=>by simp at hy;subst hy;exact hx,λy hy=>by simp at hy;subst hy;exact .refl,by simp⟩,by simp,λy hy=>hy,λy hy hn=>absurd hy hn⟩;obtain⟨fs,p5,p6,p7,f1,w⟩:=BH N hd 20 [x] [x] ab ab ab w0 (by have:=N.le;simp;omega);have hcl:rp aj fs:=λp hp h1=>by
  rcases w.ex p.1 h1 (by simp)with q|q
  ·cases q
  ·exact q p hp rfl
 unfold lc yo;rw[xG];rw[aO (e':=[aa (.d (aW ac)),aa (.d (fh aj)),aa (.d (.str x)),aa (bO [x]),ab,ab,ab,ab]) rfl];rw[aO (e':=[aa (.d (aW ac)),aa (.d (fh aj)),aa (.d (.str x)),aa (bO [x]),aa (.d (af [x])),ab,ab,ab]) (bN (k4 rfl))];rw[aO (show kB 20 (e5 (mV 4)) lP _=_ from f1)];have hc:cJ (.n 1) (cB (lF 0 (mV 1))) (mV 1) [aa (bO fs),ab] (ac.map D.str)=.ok ((ac.filter (rch aj x)).map D.str):=
  fj D.str D.str _ ac λy _=>⟨[aa (bO fs),aa (.d (.str y))],rfl,bR ((v5 rfl rfl).trans (by rw[FC (w.g.iff hcl)])),λ_=>rfl⟩
 rw[dy (bB (en (dB (x:=aW ac) rfl rfl) (by rw[aM];have:=N.le;omega) hc))];rfl
def ir(aj:List Ar):List Ar:=aj.map λp=>(p.2,p.1)
theorem sX{aj:List Ar}{x y:Str}:(x,y)∈ir aj↔(y,x)∈aj:=by unfold ir;rw[cq];exact⟨λ⟨p,hp,e⟩=>by cases e;exact hp,λh=>⟨(y,x),h,rfl⟩⟩
theorem eX.trans{aj:List Ar}{x y z:Str}(h:eX aj x y)(g:eX aj y z):eX aj x z:=by
 induction g with
 |refl=>exact h
 |step _ m ih=>exact .step ih m
theorem eX.swap{aj:List Ar}{x y:Str}(h:eX aj x y):eX (ir aj) y x:=by
 induction h with
 |refl=>exact .refl
 |step _ m ih=>exact eX.trans (.step .refl (sX.mpr m)) ih
theorem NH(aj:List Ar):ir (ir aj)=aj:=by unfold ir;rw[dq];exact(sj λp _=>rfl).trans (y6 _)
theorem JV{aj:List Ar}{x y:Str}:rch (ir aj) x y=rch aj y x:=by rw[mJ,m6,m6];exact⟨λh=>by have:=h.swap;rw[NH]at this;exact this,λh=>h.swap⟩
theorem Mu{ac:List Str}{aj:List Ar}(N:gP ac aj)(hd:∀p∈aj,p.2∈ac):gP ac (ir aj):=by
 obtain⟨r,hr⟩:=N.rk;refine⟨N.nd,N.pos,N.le,?_,λp hp=>?_,λx=>- r x,λp hp=>?_⟩
 ·unfold ir;rw[aM];exact N.al
 ·exact hd (p.2,p.1) (sX.mp (show(p.1,p.2)∈_ from hp))
 ·have:=hr (p.2,p.1) (sX.mp (show(p.1,p.2)∈_ from hp));show-r p.1 < - r p.2;simp only at this;omega
theorem NU{ac:List Str}{aj:List Ar}(N:gP ac aj):∀p∈ir aj,p.2∈ac:=λp hp=>N.tl (p.2,p.1) (sX.mp (show(p.1,p.2)∈_ from hp))
theorem Ig{aj:List Ar}{ρ:List (Option Nat)}{e:Mi.Env}(hp:iz ρ e=[ab,ab]){a:E}(ha:a e=.ok (et aj))(hl:aj.length<=64):cg ρ (bt a) (.t [0,1]) c6 (mN dTup [(mV 1),(mV 0)]) e=.ok (fh (ir aj)):=by
 have hc:cJ (.t [0,1]) c6 (mN dTup [(mV 1),(mV 0)]) [ab,ab] (aj.map pairD)=.ok ((aj.filter λ_=>true).map λp=>pairD (p.2,p.1)):=fj pairD (λp=>pairD (p.2,p.1)) _ aj λp _=>⟨[aa (.d (.str p.1)),aa (.d (.str p.2))],rfl,rfl,λ_=>kQ rfl rfl⟩
 rw[mx.mpr (λ_ _=>rfl)]at hc;rw[en (dB ha rfl) (by rw[aM];omega) (by rw[hp];exact hc)];unfold fh ir;rw[dq];rfl
noncomputable def j6 (ac:List Str) (aj:List Ar) (x:Str):List Str:=jm ac (ir aj) x
theorem Au{ac:List Str}{aj:List Ar}{x y:Str}(hy:y∈ac):y∈j6 ac aj x↔rch aj y x=true:=by unfold j6 jm;rw[dD,JV];exact⟨λh=>h.2,λh=>⟨hy,h⟩⟩
theorem NL{ac:List Str}{aj:List Ar}(N:gP ac aj)(hd:∀p∈aj,p.2∈ac){x:Str}(hx:x∈ac):n9 [.d (aw ac aj),.d (.str x)]=.ok (.d (af (j6 ac aj x))):=by
 unfold n9 Aw;rw[jW];have hr:gt [.d (aW ac),.d (af [x])]=.ok (.d .non):=rC λy hy=>by simp at hy;subst hy;exact hx
 rw[aO (e':=[aa (.d (aw ac aj)),aa (.d (.str x))]) (by unfold fB;rw[call2 (bB (aA rfl rfl (iW _ _))) (bB (k4 rfl)) hr];rfl)];rw[dy (bB (kh (bB (aA rfl rfl (iW _ _))) (bB (Ig rfl (aA rfl rfl (pE _ _)) N.al)) rfl (Ke (Mu N hd) (NU N) hx)))];rfl
end Mr
namespace Mr
open PySem Mi
open My (fT)
def m7(fs:List Str)(g:Str->D):W:=.dk (fs.map λy=>((dM y:Ky),g y))
theorem FQ(g:Str->D)(y:Str):∀{fs:List Str},y∈fs->gB (fs.map λy=>((dM y:Ky),g y)) (dM y)=aa (g y)
 |[],h=>nomatch h
 |a::r,h=>by
  unfold gB;rw[cS,j0];by_cases q:a=y
  ·subst q;rw[bV rfl];rfl
  ·rw[cE (λz:(dM a:Ky)=dM y=>q (sF z))];have ih:=FQ g y (fs:=r) ((bH.mp h).resolve_left (dN q));unfold gB at ih;exact ih
theorem Oy{i:Nat}{k:E}{e:Mi.Env}{fs:List Str}{g:Str->D}{y:Str}(hk:k e=.ok (.str y))(hw:wV i e=.ok (m7 fs g))(hy:y∈fs):ku i k e=.ok (g y):=by unfold ku;rw[hk,aL,hw,aL];show(Rs.ok (gB (fs.map λy=>((dM y:Ky),g y)) (dM y))).bind dA=_;rw[FQ g y hy];rfl
end Mr
namespace Mr
open PySem Mi
open Vp
structure GoodR(ac:List Str)(R:Str->Prop)(met:List Str):Prop where
 nd:met.Nodup
 sub:∀y∈met,y∈ac
 r:∀y∈met,R y
theorem GoodR.add{ac:List Str}{R:Str->Prop}{met more:List Str}(g:GoodR ac R met)(nd:more.Nodup)(h:∀y∈more,y∉met/\y∈ac/\R y):GoodR ac R (met++more):=by
 refine⟨fH.mpr ⟨g.nd,nd,λa ha b hb e=>(h b hb).1 (e ▸ ha)⟩,λy hy=>?_,λy hy=>?_⟩
 ·rcases bJ.mp hy with z|z
  ·exact g.sub y z
  ·exact(h y z).2.1
 ·rcases bJ.mp hy with z|z
  ·exact g.r y z
  ·exact(h y z).2.2
theorem GoodR.len{ac:List Str}{R:Str->Prop}{met:List Str}(g:GoodR ac R met):met.length<=ac.length:=fi g.nd g.sub
def m4(A:List Ar)(met:List Str):Prop:=∀p∈A,p.2∈met->p.1∈met
theorem DN{ac:List Str}{A:List Ar}(N:Nt ac A){some_:List Str}(nd:some_.Nodup)(sub:∀x∈some_,x∈ac) :
 ∃met,ml [.d (aw ac A),.d (af some_)]=.ok (.d (af met))/\GoodR ac (Hi (ar A) (·∈some_)) met/\∀y,y∈met↔Hi (ar A) (·∈some_) y:=by
 obtain⟨R,hR⟩ : ∃R,R=Hi (ar A) (·∈some_):=⟨_,rfl⟩;have n8:=N.le;have all:∀met,m4 A met->(∀y∈some_,y∈met)->∀y,R y->y∈met:=λmet hc hs y h=>by
  rw[hR]at h;exact h.ind (λx t=>hs x t) λx y a _ ih=>hc (x,y) a ih
 have inner:∀(met:List Str) (o3 o4 o5:Option W),GoodR ac R met->(∀y∈some_,y∈met)->∃(cx:List Str) (p4 p5:Option W),eY (.t [4,5]) (bv (cF (cB (m2 eR (mV 5) (mV 2))) (cB (m2 dH (mV 4) (mV 2)))) (ce 2 (mV 4)) bD) (A.map pairD)
  [aa (.d (aw ac A)),aa (.d (af some_)),aa (.d (af met)),o3,o4,o5]=.ok (.nx [aa (.d (aw ac A)),aa (.d (af some_)),aa (.d (af cx)),o3,p4,p5])/\GoodR ac R cx/\(∀y∈some_,y∈cx)/\(met.length<cx.length\/(cx=met/\m4 A met)):=by
  intro met o3 o4 o5 g hs;obtain⟨e',f1,cx,p4,p5,he,g',hs',hc⟩:=f7 (tg:=.t [4,5]) (body:=(bv (cF (cB (m2 eR (mV 5) (mV 2))) (cB (m2 dH (mV 4) (mV 2)))) (ce 2 (mV 4)) bD))
   (λi e=>∃(cx:List Str) (o4 o5:Option W),e=[aa (.d (aw ac A)),aa (.d (af some_)),aa (.d (af cx)),o3,o4,o5]/\GoodR ac R cx/\(∀y∈some_,y∈cx)/\(met.length<cx.length\/(cx=met/\∀j p,j<i->A[j]? = aa p->p.2∈met->p.1∈met))) (A.map pairD) 0 (λi d e hi ⟨m1,o4,o5,he,g1,hs1,hc⟩=>by
    subst he;rw[cY]at hc ⊢;rw[c9]at hi;obtain⟨p,hp,rfl⟩:=gF.mp hi;have hpm:=je hp;have hl8:=g1.len;have c1:cF (cB (m2 eR (mV 5) (mV 2))) (cB (m2 dH (mV 4) (mV 2))) [aa (.d (aw ac A)),aa (.d (af some_)),aa (.d (af m1)),o3,aa (.d (.str p.1)),aa (.d (.str p.2))]=.ok (decide (p.2∈m1) && !decide (p.1∈m1)):=rR (bR (aA rfl rfl (oU _ _))) λ_=>bR (aA rfl rfl (m3 _ _));by_cases hb:p.2∈m1/\p.1∉m1
    ·rw[bV hb.1,cE hb.2]at c1;refine⟨[aa (.d (aw ac A)),aa (.d (af some_)),aa (.d (af m1)),o3,aa (.d (.str p.1)),aa (.d (.str p.2))],[aa (.d (aw ac A)),aa (.d (af some_)),aa (.d (af (m1++[p.1]))),o3,aa (.d (.str p.1)),aa (.d (.str p.2))],rfl,?_,m1++[p.1],_,_,rfl,g1.add (by simp) (λy hy=>?_),λy hy=>dL _ (hs1 y hy),.inl ?_⟩
     ·rw[fE c1,kC (d:=.str p.1) (ds:=m1.map D.str) rfl rfl (by rw[aM];omega)];show Rs.ok (Out.nx [_,_,aa (W.d (D.lst (m1.map D.str++[.str p.1]))),_,_,_])=_;rw[xa]
     ·rw[bX.mp hy];refine⟨hb.2,(N.inn p hpm).1,?_⟩;have:=g1.r _ hb.1;rw[hR]at this ⊢;exact .up (show ar A p.1 p.2 from hpm) this
     ·rw[cu];rcases hc with h|⟨rfl,_⟩
      ·simp;omega
      ·simp
    ·have cf:(decide (p.2∈m1) && !decide (p.1∈m1))=false:=by
      by_cases h1:p.2∈m1
      ·rw[bV (mL λz=>hb ⟨h1,z⟩ : p.1∈m1)];simp
      ·rw[cE h1];rfl
     rw[cf]at c1;refine⟨[aa (.d (aw ac A)),aa (.d (af some_)),aa (.d (af m1)),o3,aa (.d (.str p.1)),aa (.d (.str p.2))],[aa (.d (aw ac A)),aa (.d (af some_)),aa (.d (af m1)),o3,aa (.d (.str p.1)),aa (.d (.str p.2))],rfl,(dU c1).trans rfl,m1,_,_,rfl,g1,hs1,?_⟩;rcases hc with h|⟨rfl,h⟩
     ·exact .inl h
     ·refine .inr ⟨rfl,λj q hj hq h1=>?_⟩;by_cases hji:j=i
      ·subst hji;rw[hp]at hq;cases hq;exact mL λz=>hb ⟨h1,z⟩
      ·exact h j q (by omega) hq h1) _ ⟨met,o4,o5,rfl,g,hs,.inr ⟨rfl,λj p h=>absurd h (ly _)⟩⟩
  subst he;refine⟨cx,p4,p5,f1,g',hs',?_⟩;rcases hc with h|⟨h1,h2⟩
  ·exact .inl h
  ·refine .inr ⟨h1,λp hp h=>?_⟩;obtain⟨j,hj⟩:=kF hp;exact h2 j p (by rw[cY,aM];have:=(cv.mp hj).1;omega) hj h
 obtain⟨e',f1,met,o3,o4,o5,he,g,hs,hc⟩:=f7 (tg:=.n 3) (body:=(cr (bt (m2 bd (mV 0) (mC (.int 1)))) (.t [4,5]) (bv (cF (cB (m2 eR (mV 5) (mV 2))) (cB (m2 dH (mV 4) (mV 2)))) (ce 2 (mV 4)) bD)))
  (λi e=>∃(met:List Str) (o3 o4 o5:Option W),e=[aa (.d (aw ac A)),aa (.d (af some_)),aa (.d (af met)),o3,o4,o5]/\GoodR ac R met/\(∀y∈some_,y∈met)/\(i<=met.length\/m4 A met)) (dP 0 ((ac.length:Nat):Int)) 0 (λi d e hi ⟨met,o3,o4,o5,he,g,hs,hc⟩=>by
   subst he;rw[cY]at hc ⊢;obtain⟨cx,p4,p5,f1,g',hs',hc'⟩:=inner met (aa (.d d)) o4 o5 g hs;refine⟨_,_,rfl,(eP (dB (aA rfl rfl (pE ac A)) rfl)).trans f1,cx,aa (.d d),p4,p5,rfl,g',hs',?_⟩;rcases hc' with h|⟨rfl,h⟩
   ·rcases hc with h1|h1
    ·exact .inl (by omega)
    ·exfalso;have hxm:∀y,y∈cx->y∈met:=λy hy=>all met h1 hs y (g'.r y hy);have:=fi g'.nd hxm;omega
   ·exact .inr h) [aa (.d (aw ac A)),aa (.d (af some_)),aa (.d (af some_)),ab,ab,ab] ⟨some_,ab,ab,ab,rfl,⟨nd,sub,λy hy=>by rw[hR];exact .of hy⟩,λy hy=>hy,.inl (gE _)⟩
 subst he;rw[kE,cY]at hc;have hcl:m4 A met:=by
  rcases hc with h|h
  ·exactλp hp _=>Oj g.nd g.sub h _ (N.inn p hp).1
  ·exact h
 refine⟨met,?_,hR ▸ g,λy=>⟨λh=>hR ▸ g.r y h,λh=>all met hcl hs y (hR ▸ h)⟩⟩;unfold ml AC;rw[jW];rw[show([aa (W.d (aw ac A)),aa (W.d (af some_))]++cH (6-2) ab)=[aa (W.d (aw ac A)),aa (W.d (af some_)),ab,ab,ab,ab]from rfl];rw[aO (e':=[aa (W.d (aw ac A)),aa (W.d (af some_)),aa (W.d (af some_)),ab,ab,ab]) (bN ((d5 (x:=af some_) rfl).trans rfl))];rw[aO ((eP (iQ (HN rfl) (pq ac.length n8))).trans f1)];rfl
noncomputable def iN (A:List Ar) (i j:Str) (ag:List Str):Bool:=@decide (kr (ar A) i j (·∈ag)) (pV _)
theorem yK{A:List Ar}{i j:Str}{ag:List Str}:iN A i j ag=true↔kr (ar A) i j (·∈ag):=by unfold iN;exact@mj _ (pV _)
def eh(A:List Ar)(n:Str):List Str:=n::f6 A n
theorem uw{A:List Ar}{n u:Str}:u∈eh A n↔fam (ar A) n u:=by unfold eh fam ar;rw[bH,s0]
def tR(A:List Ar)(aU ag met:List Str):Prop:=∀n∈aU,(∃u∈eh A n,u∈met)->∀v∈eh A n,v∉ag->v∈met
theorem IA{ac:List Str}{A:List Ar}(L:Lk ac A)(n:Str):(eh A n).Nodup:=by refine jZ.mpr ⟨λz=>?_,L.FR n⟩;obtain⟨r,hr⟩:=L.rk;have:=hr _ (s0.mp z);simp only at this;omega
theorem Kl{i:Nat}{k v:E}{e:Mi.Env}{fs:List Str}{g:Str->D}{y:Str}(hv:v e=.ok (g y))(hk:k e=.ok (.str y))(hw:wV i e=.ok (m7 fs g))(hn:y∉fs)(hl:fs.length<=1000):da i k v e=.ok (.nx (e.set i (aa (m7 (fs++[y]) g)))):=by
 unfold da;have h1:oy (m7 fs g) (.str y) (g y)=.ok (m7 (fs++[y]) g):=by
  show be ((fs.map λy=>((dM y:Ky),g y)).length<16777216) ((dA (l5 (.str y))).bind λk=>Rs.ok (W.dk (Mi.putK k (g y) (fs.map λy=>((dM y:Ky),g y)))))=_;rw[aN (by rw[aM];omega)];show Rs.ok (W.dk (Mi.putK (dM y:Ky) (g y) (fs.map λy=>((dM y:Ky),g y))))=_;unfold Mi.putK;rw[bc (by
   rw[ss,Bool.not_eq_true,yW];intro z hz;simp only[GU,pA];exactλq=>hn (sF q ▸ hz))]
  unfold m7;rw[eV];rfl
 rw[hv,aL,hk,aL,hw,aL,h1];rfl
end Mr
namespace Mr
open PySem Mi
open Vp
section
variable{ac:List Str}{A:List Ar}{i j:Str}{ag aU:List Str}
abbrev dR(ac:List Str)(A:List Ar)(i j:Str)(ag aU fs:List Str)(o6 o7 o8 o9:Option W):Mi.Env:=[aa (W.d (aw ac A)),aa (W.d (.str i)),aa (W.d (.str j)),aa (W.d (af ag)),aa (W.d (af aU)),aa (m7 fs λy=>af (eh A y)),o6,o7,o8,o9]
abbrev ug:S:=(aD (bi 9 (cg [aa 7,ab] (bt (ku 5 (mV 6))) (.n 1) (cB (m2 eR (mV 1) (mV 0))) (mV 1)))
 (bv (cB (m2 nF (mN d3 [(mV 9)]) (mC (.int 0))))
 (bi 7 (m2 aY (mV 7) (cg [aa 7,aa 3,ab] (bt (ku 5 (mV 6))) (.n 2) (cF (cB (m2 dH (mV 2) (mV 0))) (cB (m2 dH (mV 2) (mV 1)))) (mV 2))))
 bD))
theorem NA(L:Lk ac A)(nd:aU.Nodup)(hl:aU.length<=8):∃o6,eY (.n 6) (da 5 (mV 6) (m2 aY (mN bC [(mV 6)]) (cg [aa 6,ab,ab] (bt (m2 bd (mV 0) (mC (.int 1)))) (.t [1,2]) (cB (m2 b9 (mV 2) (mV 0))) (mV 1)))) (aU.map D.str) (dR ac A i j ag aU [] ab ab ab ab)=.ok (.nx (dR ac A i j ag aU aU o6 ab ab ab)):=by
 have al:=L.al;obtain⟨e',f,o6,he⟩:=f7 (tg:=.n 6) (body:=(da 5 (mV 6) (m2 aY (mN bC [(mV 6)]) (cg [aa 6,ab,ab] (bt (m2 bd (mV 0) (mC (.int 1)))) (.t [1,2]) (cB (m2 b9 (mV 2) (mV 0))) (mV 1)))))
  (λn e=>∃o6:Option W,e=dR ac A i j ag aU (aU.take n) o6 ab ab ab) (aU.map D.str) 0 (λn d e hi ⟨o6,he⟩=>by
   subst he;rw[cY];rw[c9]at hi;obtain⟨x,hx,rfl⟩:=gF.mp hi;have cm:cJ (.t [1,2]) (cB (m2 b9 (mV 2) (mV 0))) (mV 1) [aa (.d (.str x)),ab,ab] (A.map pairD)=.ok ((A.filter λp=>decide (p.2=x)).map λp=>D.str p.1):=
    fj pairD (λp=>D.str p.1) (λp=>decide (p.2=x)) A λp _=>⟨[aa (.d (.str x)),aa (.d (.str p.1)),aa (.d (.str p.2))],rfl,bR (aA rfl rfl (nh _ _)),λ_=>rfl⟩
   have ev:m2 aY (mN bC [(mV 6)]) (cg [aa 6,ab,ab] (bt (m2 bd (mV 0) (mC (.int 1)))) (.t [1,2]) (cB (m2 b9 (mV 2) (mV 0))) (mV 1)) (dR ac A i j ag aU (aU.take n) (aa (.d (.str x))) ab ab ab)=.ok (af (eh A x)):=by
    refine(aA (x:=af [x]) (y:=af (f6 A x)) ((d5 (x:=.str x) rfl).trans (aN (by show(1:Nat)<=_;decide))) ?_ (lm _ _)).trans ?_
    ·have:=en (ρ:=[aa 6,ab,ab]) (e:=dR ac A i j ag aU (aU.take n) (aa (.d (.str x))) ab ab ab) (dB (a:=m2 bd (mV 0) (mC (.int 1))) (aA rfl rfl (pE ac A)) rfl) (by rw[aM];omega) cm;rw[this];unfold af f6;rw[dq];rfl
    ·have el:=tF (x:=x) al;rw[aN (by rw[aM,aM];simp only[jd];omega)];unfold af eh;rfl
   have pt:=Kl (i:=5) (k:=mV 6) (e:=dR ac A i j ag aU (aU.take n) (aa (.d (.str x))) ab ab ab) (fs:=aU.take n) (g:=λy=>af (eh A y)) (y:=x) ev rfl rfl (wU nd hx) (by rw[gC];omega);refine⟨dR ac A i j ag aU (aU.take n) (aa (.d (.str x))) ab ab ab,dR ac A i j ag aU (aU.take (n+1)) (aa (.d (.str x))) ab ab ab,rfl,pt.trans ?_,_,rfl⟩;rw[tW hx];rfl) (dR ac A i j ag aU [] ab ab ab ab) ⟨ab,rfl⟩
 subst he;rw[cY,aM,yZ]at f;exact⟨o6,f⟩
theorem Ot(L:Lk ac A){R:Str->Prop}(hR:R=Met (i9 (ar A) (·∈aU)) (·∈ag) i)(hc:m4 A aU)(h8:aU.length<=8){n:Str}(hn:n∈aU){met:List Str}(g:GoodR aU R met)(o8 o9:Option W) :
 ∃cx o9',ug (dR ac A i j ag aU aU (aa (.d (.str n))) (aa (.d (af met))) o8 o9)=.ok (.nx (dR ac A i j ag aU aU (aa (.d (.str n))) (aa (.d (af cx))) o8 o9'))/\GoodR aU R cx/\(∀y∈met,y∈cx)/\(met.length<cx.length\/(cx=met/\((∃u∈eh A n,u∈met)->∀v∈eh A n,v∉ag->v∈met))):=by
 have al:=L.al;have fl:(eh A n).length<=100:=by unfold eh;rw[cR];have:=tF (x:=n) al;omega
 have gl:=g.len;have it:∀o9,bt (ku 5 (mV 6)) (dR ac A i j ag aU aU (aa (.d (.str n))) (aa (.d (af met))) o8 o9)=.ok ((eh A n).map D.str):=λo9=>dB (x:=af (eh A n)) (Oy (fs:=aU) (g:=λy=>af (eh A y)) (y:=n) rfl rfl hn) rfl;have c1:cJ (.n 1) (cB (m2 eR (mV 1) (mV 0))) (mV 1) [aa (.d (af met)),ab] ((eh A n).map D.str)=.ok (((eh A n).filter λu=>decide (u∈met)).map D.str):=fj D.str D.str _ _ λu _=>⟨[aa (.d (af met)),aa (.d (.str u))],rfl,bR (aA rfl rfl (oU _ _)),λ_=>rfl⟩
 have c2:cJ (.n 2) (cF (cB (m2 dH (mV 2) (mV 0))) (cB (m2 dH (mV 2) (mV 1)))) (mV 2) [aa (.d (af met)),aa (.d (af ag)),ab] ((eh A n).map D.str)=.ok (((eh A n).filter λu=>!decide (u∈met) && !decide (u∈ag)).map D.str):=fj D.str D.str _ _ λu _=>⟨[aa (.d (af met)),aa (.d (af ag)),aa (.d (.str u))],rfl,rR (bR (aA rfl rfl (m3 _ _))) λ_=>bR (aA rfl rfl (m3 _ _)),λ_=>rfl⟩
 obtain⟨so,hso⟩ : ∃so,so=(eh A n).filter λu=>decide (u∈met):=⟨_,rfl⟩;obtain⟨mo,hmo⟩ : ∃mo,mo=(eh A n).filter λu=>!decide (u∈met) && !decide (u∈ag):=⟨_,rfl⟩;rw[<- hso]at c1;rw[<- hmo]at c2;have s9:bi 9 (cg [aa 7,ab] (bt (ku 5 (mV 6))) (.n 1) (cB (m2 eR (mV 1) (mV 0))) (mV 1)) (dR ac A i j ag aU aU (aa (.d (.str n))) (aa (.d (af met))) o8 o9)=.ok (.nx (dR ac A i j ag aU aU (aa (.d (.str n))) (aa (.d (af met))) o8 (aa (.d (af so))))):=bN (en (ρ:=[aa 7,ab]) (it o9) (by rw[aM];omega) c1);have ct:cB (m2 nF (mN d3 [(mV 9)]) (mC (.int 0))) (dR ac A i j ag aU aU (aa (.d (.str n))) (aa (.d (af met))) o8 (aa (.d (af so))))=.ok (decide ((0:Int)<(so.length:Int))):=bR (aA ((d5 (x:=af so) rfl).trans (by unfold af;rw[Fx,aM])) rfl (JU _ 0));have mml:mo.length<=100:=by rw[hmo];exact dr (mr _ _) fl
 have s7:bi 7 (m2 aY (mV 7) (cg [aa 7,aa 3,ab] (bt (ku 5 (mV 6))) (.n 2) (cF (cB (m2 dH (mV 2) (mV 0))) (cB (m2 dH (mV 2) (mV 1)))) (mV 2))) (dR ac A i j ag aU aU (aa (.d (.str n))) (aa (.d (af met))) o8 (aa (.d (af so))))=.ok (.nx (dR ac A i j ag aU aU (aa (.d (.str n))) (aa (.d (af (met++mo)))) o8 (aa (.d (af so))))):=by refine bN ((aA (x:=af met) (y:=af mo) rfl (en (ρ:=[aa 7,aa 3,ab]) (it _) (by rw[aM];omega) c2) (lm _ _)).trans ?_);rw[aN (by rw[aM,aM];omega)];unfold af;rw[eV]
 by_cases h0:(0:Int)<(so.length:Int)
 ·rw[bV h0]at ct;obtain⟨u,hu⟩ : ∃u,u∈so:=by
   cases so with
   |nil=>simp at h0
   |cons u r=>exact⟨u,dj⟩
  rw[hso]at hu;obtain⟨hu1,hu2⟩:=dD.mp hu;have hu2:u∈met:=ke hu2;refine⟨met++mo,aa (.d (af so)),(aO s9).trans ((fE ct).trans s7),g.add (by rw[hmo];exact(IA L n).filter _) (λy hy=>?_),λy hy=>dL _ hy,?_⟩
  ·rw[hmo]at hy;obtain⟨y1,y2⟩:=dD.mp hy;simp only[ji,nV,mR]at y2;have fy:=uw.mp y1;refine⟨y2.1,?_,?_⟩
   ·rcases fy with z|z
    ·rw[z];exact hn
    ·exact hc (y,n) z hn
   ·have:=g.r u hu2;rw[hR]at this ⊢;exact .step this ⟨n,hn,uw.mp hu1,fy⟩ y2.2
  ·cases hmo':mo with
   |nil=>
    refine .inr ⟨by simp,λ_ v hv hvh=>mL λz=>?_⟩;have:v∈mo:=by rw[hmo];exact dD.mpr ⟨hv,by simp[z,hvh]⟩
    rw[hmo']at this;cases this
   |cons a r=>exact .inl (by simp)
 ·rw[cE h0]at ct;refine⟨met,aa (.d (af so)),(aO s9).trans ((dU ct).trans rfl),g,λy hy=>hy,.inr ⟨rfl,λ⟨u,hu1,hu2⟩=>?_⟩⟩;have:u∈so:=by rw[hso];exact dD.mpr ⟨hu1,bV hu2⟩
  cases so with
  |nil=>cases this
  |cons a r=>simp at h0
theorem Iw(L:Lk ac A){R:Str->Prop}(hR:R=Met (i9 (ar A) (·∈aU)) (·∈ag) i)(hc:m4 A aU)(h8:aU.length<=8){met:List Str}(g:GoodR aU R met)(o6 o8 o9:Option W) :
 ∃cx o6' o9',eY (.n 6) ug (aU.map D.str) (dR ac A i j ag aU aU o6 (aa (.d (af met))) o8 o9)=.ok (.nx (dR ac A i j ag aU aU o6' (aa (.d (af cx))) o8 o9'))/\GoodR aU R cx/\(∀y∈met,y∈cx)/\(met.length<cx.length\/(cx=met/\tR A aU ag met)):=by
 obtain⟨e',f,cx,o6',o9',he,g',s',c'⟩:=f7 (tg:=.n 6) (body:=ug)
  (λk e=>∃(cx:List Str) (o6 o9:Option W),e=dR ac A i j ag aU aU o6 (aa (.d (af cx))) o8 o9/\GoodR aU R cx/\(∀y∈met,y∈cx)/\(met.length<cx.length\/(cx=met/\∀a n,a<k->aU[a]? = aa n->(∃u∈eh A n,u∈met)->∀v∈eh A n,v∉ag->v∈met))) (aU.map D.str) 0 (λk d e hi ⟨m1,o6,o9,he,g1,s1,c1⟩=>by
   subst he;rw[cY]at c1 ⊢;rw[c9]at hi;obtain⟨n,hn,rfl⟩:=gF.mp hi;obtain⟨m2,o9',st,g2,s2,c2⟩:=Ot (j:=j) L hR hc h8 (je hn) g1 o8 o9;refine⟨dR ac A i j ag aU aU (aa (.d (.str n))) (aa (.d (af m1))) o8 o9,_,rfl,st,m2,_,_,rfl,g2,λy hy=>s2 y (s1 y hy),?_⟩;rcases c2 with q|⟨rfl,q⟩
   ·refine .inl ?_;rcases c1 with z|⟨z,_⟩
    ·omega
    ·rw[<- z];exact q
   ·rcases c1 with z|⟨rfl,z⟩
    ·exact .inl z
    ·refine .inr ⟨rfl,λa n' ha hn'=>?_⟩;by_cases e:a=k
     ·subst e;rw[hn]at hn';cases hn';exact q
     ·exact z a n' (by omega) hn') (dR ac A i j ag aU aU o6 (aa (.d (af met))) o8 o9) ⟨met,o6,o9,rfl,g,λy hy=>hy,.inr ⟨rfl,λa n h=>absurd h (ly _)⟩⟩
 subst he;refine⟨cx,o6',o9',f,g',s',?_⟩;rcases c' with z|⟨z,w⟩
 ·exact .inl z
 ·refine .inr ⟨z,λn hn=>?_⟩;obtain⟨a,ha⟩:=kF hn;exact w a n (by rw[cY,aM];exact(cv.mp ha).1) ha
theorem J6(L:Lk ac A)(hi:i∈ac)(hj:j∈ac)(ij:i≠j)(hs:∀x∈ag,x∈ac)(nd:ag.Nodup)(ni:i∉ag)(nj:j∉ag):lJ [.d (aw ac A),.d (.str i),.d (.str j),.d (af ag)]=.ok (.d (.bl (!iN A i j ag))):=by
 have ndS:([i,j]++ag).Nodup:=by
  refine fH.mpr ⟨by simp[ij],nd,λa ha b hb e=>?_⟩;subst e;rcases bH.mp ha with rfl|z
  ·exact ni hb
  ·rw[bX.mp z]at hb;exact nj hb
 have n8:=L.le;have hl8:ag.length<=8:=dr (fi nd hs) n8;obtain⟨aU,hh,gh,mh⟩:=DN L.nt (some_:=[i,j]++ag) ndS (λx hx=>by
  rcases bJ.mp hx with z|z
  ·rcases bH.mp z with rfl|z
   ·exact hi
   ·rw[bX.mp z];exact hj
  ·exact hs x z)
 have eT:(λx=>x∈[i,j]++ag)=Vp.Tg i j (·∈ag):=by funext x;refine propext ?_;rw[bJ];unfold Vp.Tg;simp only[bH,sn,or_false,or_assoc]
 rw[eT]at mh gh;have h8:aU.length<=8:=dr gh.len n8;have up:m4 A aU:=λp hp h=>(mh p.1).mpr (.up (show ar A p.1 p.2 from hp) ((mh p.2).mp h));have eU:(λx=>x∈aU)=Hi (ar A) (Vp.Tg i j (·∈ag)):=by funext x;exact propext (mh x)
 obtain⟨R,hR⟩ : ∃R,R=Met (i9 (ar A) (·∈aU)) (·∈ag) i:=⟨_,rfl⟩;have iR:R i:=by rw[hR];exact .base
 have ih:i∈aU:=(mh i).mpr (.of (.inl rfl));have all:∀met,tR A aU ag met->i∈met->∀y,R y->y∈met:=λmet hc hm y h=>by
  rw[hR]at h
  induction h with
  |base=>exact hm
  |step _ a s ih2=>
   obtain⟨n,hn,f1,f2⟩:=a;exact hc n hn ⟨_,uw.mpr f1,ih2⟩ _ (uw.mpr f2) s
 obtain⟨o6,ff⟩:=NA (i:=i) (j:=j) (ag:=ag) L gh.nd h8;obtain⟨e',f2,met,p6,p8,p9,he,g,hm,hc⟩:=f7 (tg:=.n 8) (body:=(cr (bt (mV 4)) (.n 6) ug))
  (λk e=>∃(met:List Str) (o6 o8 o9:Option W),e=dR ac A i j ag aU aU o6 (aa (.d (af met))) o8 o9/\GoodR aU R met/\i∈met/\(k+1<=met.length\/tR A aU ag met)) (dP 0 ((aU.length:Nat):Int)) 0 (λk d e hx ⟨met,o6,o8,o9,he,g,hm,hc⟩=>by
   subst he;rw[cY]at hc ⊢;obtain⟨cx,o6',o9',fr,g',s',c'⟩:=Iw (j:=j) L hR up h8 g o6 (aa (.d d)) o9;refine⟨dR ac A i j ag aU aU o6 (aa (.d (af met))) (aa (.d d)) o9,_,rfl,(eP (dB (a:=mV 4) (x:=af aU) rfl rfl)).trans fr,cx,_,_,_,rfl,g',s' i hm,?_⟩;rcases c' with z|⟨rfl,z⟩
   ·rcases hc with w|w
    ·exact .inl (by omega)
    ·exfalso;have:=fi g'.nd (λy hy=>all met w hm y (g'.r y hy));omega
   ·exact .inr z) (dR ac A i j ag aU aU o6 (aa (.d (af [i]))) ab ab) ⟨[i],_,_,_,rfl,⟨by simp,λy hy=>by rw[bX.mp hy];exact ih,λy hy=>by rw[bX.mp hy];exact iR⟩,by simp,.inl (by simp)⟩
 subst he;rw[kE,cY]at hc;have cl:tR A aU ag met:=by
  rcases hc with z|z
  ·have:=g.len;omega
  ·exact z
 have fin:decide (j∈met)=iN A i j ag:=by rw[mJ,mj,yK];unfold kr;rw[<- eU,<- hR];exact⟨g.r j,all met cl hm j⟩
 unfold lJ DU;rw[t9];rw[show([aa (W.d (aw ac A)),aa (W.d (.str i)),aa (W.d (.str j)),aa (W.d (af ag))]++cH (10-4) ab)=[aa (W.d (aw ac A)),aa (W.d (.str i)),aa (W.d (.str j)),aa (W.d (af ag)),ab,ab,ab,ab,ab,ab]from rfl];have l2:m2 aY (mN bC [(mV 1),(mV 2)]) (mN d9 [(mV 3)]) [aa (W.d (aw ac A)),aa (W.d (.str i)),aa (W.d (.str j)),aa (W.d (af ag)),ab,ab,ab,ab,ab,ab]=.ok (af ([i,j]++ag)):=by refine(aA (x:=af [i,j]) (y:=af ag) (rV rfl rfl) ((d5 (x:=af ag) rfl).trans rfl) (lm _ _)).trans ?_;rw[aN (by rw[aM,aM];simp only[cR,iE];omega)];rfl
 rw[aO (e':=[aa (W.d (aw ac A)),aa (W.d (.str i)),aa (W.d (.str j)),aa (W.d (af ag)),aa (W.d (af aU)),ab,ab,ab,ab,ab]) (bN (call2 rfl (bB l2) hh))];rw[aO (e':=dR ac A i j ag aU [] ab ab ab ab) rfl];rw[aO ((eP (dB (a:=mV 4) (x:=af aU) rfl rfl)).trans ff)];rw[aO (e':=dR ac A i j ag aU aU o6 (aa (.d (af [i]))) ab ab) (bN (k4 rfl))];rw[aO ((eP (iQ ((d5 (x:=af aU) rfl).trans (by unfold af;rw[Fx,aM])) (pq aU.length h8))).trans f2)];rw[dy (bB (aA rfl rfl (m3 met j)))];rw[fin];rfl
end
end Mr
namespace Mr
open PySem Mi
open Vp
theorem MA{rest:List Str}(hl:rest.length<=8):oG [.d (af rest)]=.ok (.d (.lst ((fc rest.reverse).map af))):=by
 obtain⟨e',f,o2,he⟩:=f7 (tg:=.n 2) (body:=(bi 1 (m2 aY (mV 1) (cg [aa 2,ab] (bt (mV 1)) (.n 1) c6 (m2 aY (mV 1) (mN bC [(mV 0)]))))))
  (λn e=>∃o2:Option W,e=[aa (W.d (af rest)),aa (W.d (.lst ((fc (rest.take n).reverse).map af))),o2]) (rest.map D.str) 0 (λn d e hi ⟨o2,he⟩=>by
   subst he;rw[cY];rw[c9]at hi;obtain⟨x,hx,rfl⟩:=gF.mp hi;have nl:=(cv.mp hx).1;obtain⟨F,hF⟩ : ∃F,F=fc (rest.take n).reverse:=⟨_,rfl⟩;have fl:F.length<=256:=by rw[hF,Ey,uY,gC];have:(2:Nat) ^ min n rest.length<=2 ^ 8:=Nat.pow_le_pow_right (by decide) (by omega);exact this
   have sh:∀l∈F,l.length<=8:=λl h=>by
    rw[hF]at h;have:=tZ h;rw[uY,gC]at this;omega
   have cm:=fj (tg:=.n 1) (c:=c6) (a:=m2 aY (mV 1) (mN bC [(mV 0)])) (e:=[aa (.d (.str x)),ab]) af (λl=>af (l++[x])) (λ_=>true) F λl hl=>⟨[aa (.d (.str x)),aa (.d (af l))],rfl,rfl,λ_=>by
    refine(aA (x:=af l) (y:=af [x]) rfl (k4 rfl) (lm _ _)).trans ?_;have:=sh l hl;rw[aN (by rw[aM,aM,jd];omega)];unfold af;rw[eV]⟩
   rw[mx.mpr (λ_ _=>rfl)]at cm;rw[<- hF];refine⟨[aa (W.d (af rest)),aa (W.d (.lst (F.map af))),aa (W.d (.str x))],[aa (W.d (af rest)),aa (W.d (.lst ((fc (rest.take (n+1)).reverse).map af))),aa (W.d (.str x))],rfl,bN ?_,_,rfl⟩;refine(aA (x:=.lst (F.map af)) (y:=.lst (F.map λl=>af (l++[x]))) rfl (en (ρ:=[aa 2,ab]) (dB (a:=mV 1) (x:=.lst (F.map af)) rfl rfl) (by rw[aM];omega) cm) (lm _ _)).trans ?_;rw[aN (by rw[aM,aM];omega)];rw[tW hx,List.reverse_append];show _=Rs.ok (D.lst ((fc (x::(rest.take n).reverse)).map af));rw[fc,<- hF,eV,dq];rfl) [aa (W.d (af rest)),aa (W.d (.lst [.lst []])),ab] ⟨ab,rfl⟩
 subst he;unfold oG Fg;rw[uI];rw[show([aa (W.d (af rest))]++cH (3-1) ab)=[aa (W.d (af rest)),ab,ab]from rfl];rw[aO (e':=[aa (W.d (af rest)),aa (W.d (.lst [.lst []])),ab]) rfl];rw[aO ((eP (dB (a:=mV 0) (x:=af rest) rfl rfl)).trans f)];rw[cY,aM,yZ];rfl
abbrev Qn:=Str×Str×List Str
def NG(ac:List Str)(a b:Str):List Qn:=(fc (rst ac a b).reverse).map λl=>(a,b,l)
def NK(ac:List Str)(k:Nat):List Qn:=(ac.drop (k+1)).flatMap λb=>NG ac (nth ac k) b
def qs(ac:List Str):List Qn:=(bQ ac.length).flatMap (NK ac)
theorem Jz(ac:List Str)(a b:Str):(rst ac a b).length<=ac.length:=mr _ _
end Mr
namespace Vp
section
variable{α:Type}
def Fi(A:α->α->Prop)(S:α->Prop)(s t:α×Bool):Prop:=¬ S s.1/\A s.1 t.1/\t.2=true
def fg(A:α->α->Prop)(S:α->Prop)(x:α):Prop:=∃z,S z/\Up A x z
def Goes(A:α->α->Prop)(S:α->Prop)(s:α×Bool):Prop:=(s.2=true/\fg A S s.1)\/(s.2=false/\¬ S s.1)
def B3(A:α->α->Prop)(S:α->Prop)(s t:α×Bool):Prop:=Goes A S s/\A t.1 s.1/\t.2=false
def ul(A:α->α->Prop)(S:α->Prop)(s t:α×Bool):Prop:=Fi A S s t\/B3 A S s t
def uC(A:α->α->Prop)(i:α)(t:α×Bool):Prop:=(A i t.1/\t.2=true)\/(A t.1 i/\t.2=false)
inductive Rc(st:α×Bool->Prop)(nx:α×Bool->α×Bool->Prop):α×Bool->Prop
 |base {t:α×Bool}:st t->Rc st nx t
 |step {s t:α×Bool}:Rc st nx s->nx s t->Rc st nx t
variable{A:α->α->Prop}{S:α->Prop}{i j:α}
abbrev Wk(A:α->α->Prop)(S:α->Prop)(i:α):α×Bool->Prop:=Rc (uC A i) (ul A S)
theorem fg.hi{T:α->Prop}(h:∀z,S z->T z){x:α}(b:fg A S x):Hi A T x:=let ⟨z,s,u⟩:=b;⟨z,h z s,u⟩
theorem Na(ni:¬ S i)(nj:¬ S j){b:Bool}(w:Wk A S i (j,b)):kr A i j S:=by
 obtain⟨T,hT⟩ : ∃T,T=Tg i j S:=⟨_,rfl⟩;have tS:∀z,S z->T z:=λz h=>by rw[hT];exact .inr (.inr h)
 have ti:Hi A T i:=.of (by rw[hT];exact .inl rfl);have tj:Hi A T j:=.of (by rw[hT];exact .inr (.inl rfl));have down:∀x t,Hi A T x->Met (i9 A (Hi A T)) S i x->A x t->(¬ Hi A T t)\/(Hi A T t/\(¬ S t->Met (i9 A (Hi A T)) S i t)/\∃y,A y t/\Met (i9 A (Hi A T)) S i y):=λx t hx m a=>
  (Gz (Hi A T t)).elim (λh=>.inr ⟨h,λns=>.step m ⟨t,h,.inr a,.inl rfl⟩ ns,x,a,m⟩) .inl
 have key:∀s,Wk A S i s->(s.2=true/\¬ Hi A T s.1)\/(Hi A T s.1/\(¬ S s.1->Met (i9 A (Hi A T)) S i s.1)/\(s.2=true->∃y,A y s.1/\Met (i9 A (Hi A T)) S i y)):=λs w=>by
  induction w with
  |base h=>
   rcases h with ⟨a,e⟩|⟨a,e⟩
   ·rcases down i _ ti .base a with h|⟨h1,h2,h3⟩
    ·exact .inl ⟨e,h⟩
    ·exact .inr ⟨h1,h2,λ_=>h3⟩
   ·exact .inr ⟨.up a ti,λns=>.step .base ⟨i,ti,.inl rfl,.inr a⟩ ns,λq=>by rw[e]at q;cases q⟩
  | @step s t w h ih=>
   rcases h with ⟨ns,a,e⟩|⟨g,a,e⟩
   ·rcases ih with ⟨_,ih⟩|⟨ih,im,_⟩
    ·exact .inl ⟨e,λh=>ih (.up a h)⟩
    ·rcases down s.1 _ ih (im ns) a with h|⟨h1,h2,h3⟩
     ·exact .inl ⟨e,h⟩
     ·exact .inr ⟨h1,h2,λ_=>h3⟩
   ·have hs:Hi A T s.1:=by
     rcases ih with ⟨d,ih⟩|⟨ih,_⟩
     ·rcases g with ⟨_,g⟩|⟨g,_⟩
      ·exact g.hi tS
      ·rw[d]at g;cases g
     ·exact ih
    refine .inr ⟨.up a hs,λns=>?_,λq=>by rw[e]at q;cases q⟩;rcases ih with ⟨_,ih⟩|⟨_,im,iy⟩
    ·exact absurd hs ih
    ·rcases g with ⟨g,_⟩|⟨_,g⟩
     ·obtain⟨y,ay,my⟩:=iy g;exact .step my ⟨s.1,hs,.inr ay,.inr a⟩ ns
     ·exact .step (im g) ⟨s.1,hs,.inl rfl,.inr a⟩ ns
 rcases key _ w with ⟨_,h⟩|⟨_,h,_⟩
 ·exact absurd tj h
 ·unfold kr;rw[<- hT];exact h nj
def Rd(A:α->α->Prop)(S:α->Prop)(i x:α):Prop:=x=i\/∃b,Wk A S i (x,b)
def Rb(A:α->α->Prop)(S:α->Prop)(i x:α):Prop:=x=i\/∃b,Wk A S i (x,b)/\Goes A S (x,b)
theorem Rd.down{x t:α}(r:Rd A S i x)(ns:¬ S x)(a:A x t):Wk A S i (t,true):=by
 rcases r with rfl|⟨b,w⟩
 ·exact .base (.inl ⟨a,rfl⟩)
 ·exact .step w (.inl ⟨ns,a,rfl⟩)
theorem Rb.up{x t:α}(r:Rb A S i x)(a:A t x):Wk A S i (t,false):=by
 rcases r with rfl|⟨b,w,g⟩
 ·exact .base (.inr ⟨a,rfl⟩)
 ·exact .step w (.inr ⟨g,a,rfl⟩)
theorem fg.no{x:α}(n:¬ fg A S x):¬ S x:=λh=>n ⟨x,h,.refl x⟩
theorem fg.xq{x y:α}(n:¬ fg A S x)(a:A x y):¬ fg A S y:=λ⟨z,s,u⟩=>n ⟨z,s,.step a u⟩
theorem JL{x y:α}(u:Up A x y):Rd A S i x->¬ fg A S x->Rd A S i y:=by
 induction u with
 |refl=>exactλr _=>r
 |step a _ ih=>exactλr n=>ih (.inr ⟨true,r.down (fg.no n) a⟩) (fg.xq n a)
theorem Kq{x:α}(u:Up A x i)(n:¬ fg A S x):x=i\/Wk A S i (x,false):=by
 obtain⟨k,hk⟩ : ∃k,k=i:=⟨_,rfl⟩;rw[<- hk]at u
 induction u with
 |refl=>exact .inl hk
 |step a _ ih=>
  have n':=fg.xq n a;rcases ih n' hk with e|w
  ·rw[e]at a;exact .inr (.base (.inr ⟨a,rfl⟩))
  ·exact .inr (.step w (.inr ⟨.inr ⟨rfl,fg.no n'⟩,a,rfl⟩))
theorem Ma(ij:i≠j)(ni:¬ S i)(h:kr A i j S):∃b,Wk A S i (j,b):=by
 have both:∀x,Hi A (Tg i j S) x->¬ fg A S x->Rd A S i x->Rb A S i x\/∃b,Wk A S i (j,b):=λx hx n r=>by
  obtain⟨z,t,u⟩:=hx;rcases t with rfl|rfl|t
  ·rcases Kq u n with e|w
   ·exact .inl (.inl e)
   ·exact .inl (.inr ⟨false,w,.inr ⟨rfl,fg.no n⟩⟩)
  ·rcases JL u r n with e|w
   ·exact absurd e.symm ij
   ·exact .inr w
  ·exact absurd ⟨z,t,u⟩ n
 have fin:∀x,Hi A (Tg i j S) x->¬ S x->Wk A S i (x,true)->Rb A S i x\/∃b,Wk A S i (j,b):=λx hx ns w=>
  (Gz (fg A S x)).elim (λb=>.inl (.inr ⟨true,w,.inl ⟨rfl,b⟩⟩)) λn=>both x hx n (.inr ⟨_,w⟩)
 have key:∀v,Met (i9 A (Hi A (Tg i j S))) S i v->¬ S v/\(Rb A S i v\/∃b,Wk A S i (j,b)):=λv m=>by
  induction m with
  |base=>exact⟨ni,.inl (.inl rfl)⟩
  | @step u v _ a sv ih=>
   refine⟨sv,?_⟩;obtain⟨su,ih⟩:=ih;rcases ih with r|r
   ·obtain⟨n,hn,f1,f2⟩:=a;have rd:Rd A S i u:=by
     rcases r with e|⟨b,w,_⟩
     ·exact .inl e
     ·exact .inr ⟨b,w⟩
    rcases f1 with e|a1
    ·subst e;rcases f2 with e|a2
     ·subst e;exact .inl r
     ·exact .inl (.inr ⟨false,r.up a2,.inr ⟨rfl,sv⟩⟩)
    ·have w:=rd.down su a1;rcases f2 with e|a2
     ·subst e;exact fin _ hn sv w
     ·by_cases hb:fg A S n
      ·exact .inl (.inr ⟨false,.step w (.inr ⟨.inl ⟨rfl,hb⟩,a2,rfl⟩),.inr ⟨rfl,sv⟩⟩)
      ·rcases both n hn hb (.inr ⟨_,w⟩)with rb|q
       ·exact .inl (.inr ⟨false,rb.up a2,.inr ⟨rfl,sv⟩⟩)
       ·exact .inr q
   ·exact .inr r
 rcases(key j h).2 with r|r
 ·rcases r with e|⟨b,w,_⟩
  ·exact absurd e.symm ij
  ·exact⟨b,w⟩
 ·exact r
theorem Kr(ij:i≠j)(ni:¬ S i)(nj:¬ S j):(∃b,Wk A S i (j,b))↔kr A i j S:=⟨λ⟨_,w⟩=>Na ni nj w,Ma ij ni⟩
theorem Hi.mono{T T':α->Prop}(h:∀z,T z->Hi A T' z){x:α}(hx:Hi A T x):Hi A T' x:=hx.ind h λ_ _ a _ k=>.up a k
theorem between{O H Z L:α->Prop}(hL:∀z,L z↔O z/\Hi A (Tg i j H) z/\z≠i/\z≠j)(hZ:∀z,Z z->O z/\z≠i/\z≠j)(c:kr A i j λz=>L z\/H z):kr A i j λz=>Z z\/H z:=by
 have u1:∀z,Hi A (Tg i j λz=>L z\/H z) z->Hi A (Tg i j H) z:=λz h=>h.mono λz t=>by
  rcases t with t|t|t|t
  ·exact .of (.inl t)
  ·exact .of (.inr (.inl t))
  ·exact((hL z).mp t).2.1
  ·exact .of (.inr (.inr t))
 have u2:∀z,Hi A (Tg i j H) z->Hi A (Tg i j λz=>Z z\/H z) z:=λz h=>h.mono λz t=>by
  rcases t with t|t|t
  ·exact .of (.inl t)
  ·exact .of (.inr (.inl t))
  ·exact .of (.inr (.inr (.inr t)))
 unfold kr at c ⊢;generalize hv:j=v at c;have:∀v,Met (i9 A (Hi A (Tg i j λz=>L z\/H z))) (λz=>L z\/H z) i v->Met (i9 A (Hi A (Tg i j λz=>Z z\/H z))) (λz=>Z z\/H z) i v:=λv m=>by
  induction m with
  |base=>exact .base
  | @step u v _ a s ih=>
   obtain⟨n,hn,f1,f2⟩:=a;have hv:Hi A (Tg i j H) v:=by
    rcases f2 with e|a2
    ·rw[e];exact u1 n hn
    ·exact .up a2 (u1 n hn)
   refine .step ih ⟨n,u2 n (u1 n hn),f1,f2⟩ λq=>?_;rcases q with q|q
   ·exact s (.inl ((hL v).mpr ⟨(hZ v q).1,hv,(hZ v q).2⟩))
   ·exact s (.inr q)
 subst hv;exact this _ c
end
end Vp
namespace Mr
open PySem Mi
open Vp
abbrev Spot:=Str×Bool
def aC(s:Spot):D:=.tup [.str s.1,.bl s.2]
def nK(s:Spot):List Ky:=[.inr s.1,.inl s.2]
theorem KQ{s t:Spot}(h:nK s=nK t):s=t:=by unfold nK at h;simp only[List.cons.injEq,Sum.inr.injEq,Sum.inl.injEq,and_true]at h;exact pY h.1 h.2
abbrev Bf:=Spot×Option Spot
def rW:Option Spot->D
 |none=>.non
 |some s=>aC s
def gV(b:Bf):List Ky×D:=(nK b.1,rW b.2)
abbrev iC(bs:List Bf):W:=.dt (bs.map gV)
def cn(bs:List Bf):List Spot:=bs.map (·.1)
theorem N6{bs:List Bf}{s:Spot}:s∈cn bs↔∃o,(s,o)∈bs:=by unfold cn;rw[cq];exact⟨λ⟨⟨a,o⟩,h,e⟩=>⟨o,by cases e;exact h⟩,λ⟨o,h⟩=>⟨(s,o),h,rfl⟩⟩
theorem BK(bs:List Bf)(s:Spot):((bs.map gV).any λkv=>decide (kv.1=nK s))=decide (s∈cn bs):=by
 rw[mJ,mj,ss,List.any_eq_true,N6];constructor
 ·rintro⟨⟨t,o⟩,h,e⟩;have:=KQ (ke e);exact⟨o,by rw[<- this];exact h⟩
 ·rintro⟨o,h⟩;exact⟨(s,o),h,bV rfl⟩
theorem Az{α:Type}(p:α->Bool):∀l:List α,(l.find? p).isSome=l.any p
 |[]=>rfl
 |x::r=>by
  rw[j0,iF];cases h:p x with
  |true=>rfl
  |false=>simp only[vt];exact Az p r
theorem M7(bs:List Bf)(s:Spot):∃o,pf (iC bs) (aC s)=.ok o/\o.isSome=decide (s∈cn bs):=by refine⟨gB (bs.map gV) (nK s),rfl,?_⟩;unfold gB;rw[vz,Az,BK]
theorem CB{bs:List Bf}{s:Spot}{o:Option Spot}(hn:s∉cn bs)(hl:bs.length<=1000):oy (iC bs) (aC s) (rW o)=.ok (iC (bs++[(s,o)])):=by show be ((bs.map gV).length<16777216) (Rs.ok (W.dt (Mi.putK (nK s) (rW o) (bs.map gV))))=_;rw[aN (by rw[aM];omega)];unfold Mi.putK;rw[BK,cE hn,bc du];unfold iC;rw[eV];rfl
inductive jF(st:List Spot)(nx:Spot->List Spot):List Bf->Prop
 |nil:jF st nx []
 |from{bs:List Bf} {s:Spot}:jF st nx bs->s∈st->jF st nx (bs++[(s,ab)])
 |on {bs:List Bf} {s h:Spot}:jF st nx bs->h∈cn bs->s∈nx h->jF st nx (bs++[(s,aa h)])
theorem wP(bs:List Bf)(b:Bf):cn (bs++[b])=cn bs++[b.1]:=by unfold cn;rw[eV];rfl
theorem kys_len(bs:List Bf):(cn bs).length=bs.length:=by unfold cn;exact aM _
theorem jF.rc{st:List Spot}{nx:Spot->List Spot}{bs:List Bf}(h:jF st nx bs):∀s∈cn bs,Rc (·∈st) (λs t=>t∈nx s) s:=by
 induction h with
 |nil=>exactλs h=>nomatch h
 | «from» _ hs ih=>
  intro s h;rw[wP]at h;rcases bJ.mp h with h|h
  ·exact ih s h
  ·rw[bX.mp h];exact .base hs
 |on _ hh hs ih=>
  intro s h;rw[wP]at h;rcases bJ.mp h with h|h
  ·exact ih s h
  ·rw[bX.mp h];exact .step (ih _ hh) hs
abbrev xk(κ:Kp)(f:Fn):S:=(cr (bt (nH κ 1 f (mV 5))) (.n 4)
 (bv (cB (fK 2 (mV 4)))
 (aD (da 2 (mV 4) (mV 5))
 (ce 3 (mV 4)))
 bD))
abbrev yA(κ:Kp)(f:Fn):S:=(aD (lO 5 3 (mC (.int 0))) (xk κ f))
abbrev Ec(κ:Kp)(f:Fn):S:=
 (aD (kU 2 (λ_=>.ok (.dt [])))
 (aD (bi 3 (mN bC []))
 (aD (cr (bt (mV 0)) (.n 4)
 (aD (da 2 (mV 4) (mC .non))
 (ce 3 (mV 4))))
 (aD (kB 40 (e5 (mV 3)) (yA κ f))
 (br (wV 2))))))
abbrev bT(l:List Spot):D:=.lst (l.map aC)
section
variable{κ:Kp}{f:Fn}{aF:List D}{X:D}{st U:List Spot}{nx:Spot->List Spot}
abbrev eB(X:D)(κ:Kp)(aF:List D)(bs:List Bf)(ws:List Spot)(o4 o5:Option W):Mi.Env:=[aa (.d X),aa (.fn κ aF),aa (iC bs),aa (.d (bT ws)),o4,o5]
theorem Ki(nd:st.Nodup)(hl:st.length<=100):∃o4,eY (.n 4) (aD (da 2 (mV 4) (mC .non)) (ce 3 (mV 4))) (st.map aC) (eB X κ aF [] [] ab ab)=.ok (.nx (eB X κ aF (st.map λs=>(s,ab)) st o4 ab)):=by
 obtain⟨e',g,o4,he⟩:=f7 (tg:=.n 4) (body:=(aD (da 2 (mV 4) (mC .non)) (ce 3 (mV 4))))
  (λn e=>∃o4:Option W,e=eB X κ aF ((st.take n).map λs=>(s,ab)) (st.take n) o4 ab) (st.map aC) 0 (λn d e hi ⟨o4,he⟩=>by
   subst he;rw[cY];rw[c9]at hi;obtain⟨s,hs,rfl⟩:=gF.mp hi;have nl:=(cv.mp hs).1;have tl:(st.take n).length<=100:=by rw[gC];omega
   have hk:cn ((st.take n).map λs=>((s,ab):Bf))=st.take n:=by unfold cn;rw[dq];exact y6 _
   have p:=CB (bs:=(st.take n).map λs=>(s,ab)) (s:=s) (o:=ab) (by rw[hk];exact wU nd hs) (by rw[aM];omega);have s1:da 2 (mV 4) (mC .non) (eB X κ aF ((st.take n).map λs=>(s,ab)) (st.take n) (aa (.d (aC s))) ab)=.ok (.nx (eB X κ aF ((st.take n).map (λs=>((s,ab):Bf))++[(s,ab)]) (st.take n) (aa (.d (aC s))) ab)):=by show Rs.bind (oy (iC ((st.take n).map λs=>((s,ab):Bf))) (aC s) .non) _=_;rw[show(D.non)=rW ab from rfl,p];rfl
   refine⟨_,eB X κ aF ((st.take (n+1)).map λs=>(s,ab)) (st.take (n+1)) (aa (.d (aC s))) ab,rfl,(aO s1).trans ?_,_,rfl⟩;rw[kC (d:=aC s) (ds:=(st.take n).map aC) rfl rfl (by rw[aM];omega)];rw[tW hs,eV];show Rs.ok (Out.nx [_,_,_,aa (W.d (D.lst ((st.take n).map aC++[aC s]))),_,_])=_;unfold eB bT;rw[eV];rfl) (eB X κ aF [] [] ab ab) ⟨ab,rfl⟩
 subst he;rw[cY,aM,yZ]at g;exact⟨o4,g⟩
structure ju(st U:List Spot)(nx:Spot->List Spot)(bs:List Bf)(ws:List Spot):Prop where
 tr:jF st nx bs
 nd:(cn bs).Nodup
 u:∀s∈cn bs,s∈U
 st:∀s∈st,s∈cn bs
 w:∀s∈ws,s∈cn bs
 ex:∀s∈cn bs,s∉ws->∀t∈nx s,t∈cn bs
theorem ju.len{bs:List Bf}{ws:List Spot}(w:ju st U nx bs ws):bs.length<=U.length:=by rw[<- kys_len];exact fi w.nd w.u
theorem Iz(hU:U.length<=100)(hnU:∀s∈U,∀t∈nx s,t∈U)(hnl:∀s∈U,(nx s).length<=1000)(hf:∀s∈U,f (.d (aC s)::aF.map W.d)=.ok (.d (bT (nx s)))){bs:List Bf}{h:Spot}{r:List Spot}(rl:r.length<=1000)(w:ju st U nx bs (h::r))(o4:Option W) :
 ∃bs' ws' o4',xk κ f (eB X κ aF bs r o4 (aa (.d (aC h))))=.ok (.nx (eB X κ aF bs' ws' o4' (aa (.d (aC h)))))/\ju st U nx bs' ws'/\ws'.length+bs.length=r.length+bs'.length:=by
 have hk:=w.w h dj;have hu:=w.u h hk;obtain⟨e',g,bs',ws',o4',he,tr,nd,u,sub,wr,ww,kw,ln,al⟩:=f7 (tg:=.n 4) (body:=(bv (cB (fK 2 (mV 4))) (aD (da 2 (mV 4) (mV 5)) (ce 3 (mV 4))) bD))
  (λn e=>∃(bs':List Bf) (ws':List Spot) (o4:Option W),e=eB X κ aF bs' ws' o4 (aa (.d (aC h)))/\jF st nx bs'/\(cn bs').Nodup/\(∀s∈cn bs',s∈U)/\(∀s∈cn bs,s∈cn bs')/\(∀s∈r,s∈ws')/\(∀s∈ws',s∈cn bs')/\(∀s∈cn bs',s∈cn bs\/s∈ws')/\ws'.length+bs.length=r.length+bs'.length/\∀a t,a<n->(nx h)[a]? = aa t->t∈cn bs') ((nx h).map aC) 0 (λn d e hi ⟨bs',ws',o4,he,tr,nd,u,sub,wr,ww,kw,ln,al⟩=>by
   subst he;rw[cY]at al ⊢;rw[c9]at hi;obtain⟨t,ht,rfl⟩:=gF.mp hi;have tm:=je ht;obtain⟨o,hg,ho⟩:=M7 bs' t;have bl:bs'.length<=100:=by have:=fi nd u;rw[kys_len]at this;omega
   have ct:cB (fK 2 (mV 4)) (eB X κ aF bs' ws' (aa (.d (aC t))) (aa (.d (aC h))))=.ok (!decide (t∈cn bs')):=bR (by
    show Rs.bind (pf (iC bs') (aC t)) (λo=>Rs.ok (D.bl (!o.isSome)))=_;rw[hg,aL,ho])
   by_cases hm:t∈cn bs'
   ·rw[bV hm]at ct;refine⟨_,_,rfl,(dU ct).trans rfl,bs',ws',_,rfl,tr,nd,u,sub,wr,ww,kw,ln,λa t' ha h'=>?_⟩;by_cases e:a=n
    ·subst e;rw[ht]at h';cases h';exact hm
    ·exact al a t' (by omega) h'
   ·rw[cE hm]at ct;have p:=CB (bs:=bs') (s:=t) (o:=aa h) hm (by omega);have s1:da 2 (mV 4) (mV 5) (eB X κ aF bs' ws' (aa (.d (aC t))) (aa (.d (aC h))))=.ok (.nx (eB X κ aF (bs'++[(t,aa h)]) ws' (aa (.d (aC t))) (aa (.d (aC h))))):=by
     show Rs.bind (oy (iC bs') (aC t) (aC h)) _=_;rw[show aC h=rW (aa h)from rfl,p];rfl
    have ka:=wP bs' (t,aa h);refine⟨_,eB X κ aF (bs'++[(t,aa h)]) (ws'++[t]) (aa (.d (aC t))) (aa (.d (aC h))),rfl,(fE ct).trans ((aO s1).trans ?_),_,_,_,rfl,.on tr (sub h hk) tm,?_,?_,?_,?_,?_,?_,?_,?_⟩
    ·rw[kC (d:=aC t) (ds:=ws'.map aC) rfl rfl (by rw[aM];omega)];show Rs.ok (Out.nx [_,_,_,aa (W.d (D.lst (ws'.map aC++[aC t]))),_,_])=_;unfold eB bT;rw[eV];rfl
    ·rw[ka];exact fH.mpr ⟨nd,by simp,λa ha b hb e=>by rw[bX.mp hb]at e;exact hm (by rw[e]at ha;exact ha)⟩
    ·rw[ka];intro s hs;rcases bJ.mp hs with z|z
     ·exact u s z
     ·rw[bX.mp z];exact hnU h hu t tm
    ·rw[ka];exactλs hs=>dL _ (sub s hs)
    ·exactλs hs=>dL _ (wr s hs)
    ·rw[ka];intro s hs;rcases bJ.mp hs with z|z
     ·exact dL _ (ww s z)
     ·exact dI _ z
    ·rw[ka];intro s hs;rcases bJ.mp hs with z|z
     ·exact(kw s z).imp id λq=>dL _ q
     ·exact .inr (dI _ z)
    ·rw[cu,cu,jd,jd];omega
    ·rw[ka];intro a t' ha h';by_cases e:a=n
     ·subst e;rw[ht]at h';cases h';exact dI _ (bX.mpr rfl)
     ·exact dL _ (al a t' (by omega) h')) (eB X κ aF bs r o4 (aa (.d (aC h)))) ⟨bs,r,o4,rfl,w.tr,w.nd,w.u,λs hs=>hs,λs hs=>hs,λs hs=>w.w s (dJ _ hs),λs hs=>.inl hs,rfl,λa t ha=>absurd ha (ly _)⟩
 subst he;have hcl:∀t∈nx h,t∈cn bs':=λt ht=>by
  obtain⟨a,ha⟩:=kF ht;exact al a t (by rw[cY,aM];exact(cv.mp ha).1) ha
 refine⟨bs',ws',o4',?_,⟨tr,nd,u,λs hs=>sub s (w.st s hs),ww,λs hs hn t ht=>?_⟩,ln⟩
 ·refine(eP (dB (x:=bT (nx h)) ?_ rfl)).trans g;show(if κ = κ then Rs.bind (.ok (aC h)) λx=>(f (.d x::aF.map W.d)).bind k9 else .no)=_;rw[bb rfl,aL,hf h hu];rfl
 ·rcases kw s hs with z|z
  ·by_cases e:s=h
   ·subst e;exact hcl t ht
   ·exact sub t (w.ex s z (λq=>by
     rcases bH.mp q with q|q
     ·exact e q
     ·exact hn (wr s q)) t ht)
  ·exact absurd z hn
theorem DX(hU:U.length<=100)(hnU:∀s∈U,∀t∈nx s,t∈U)(hnl:∀s∈U,(nx s).length<=1000)(hf:∀s∈U,f (.d (aC s)::aF.map W.d)=.ok (.d (bT (nx s)))):∀(n:Nat) (bs:List Bf) (ws:List Spot) (o4 o5:Option W),n<=100->ju st U nx bs ws->(U.length-bs.length)+ws.length<n ->
 ∃bs' p4 p5,hG (e5 (mV 3)) (yA κ f) n (eB X κ aF bs ws o4 o5)=.ok (.nx (eB X κ aF bs' [] p4 p5))/\ju st U nx bs' []
 |0,_,_,_,_,_,_,h=>absurd h (ly _)
 |n+1,bs,[],o4,o5,_,w,h=>⟨bs,o4,o5,rfl,w⟩
 |n+1,bs,x::r,o4,o5,hn,w,h=>by
  have hc:e5 (mV 3) (eB X κ aF bs (x::r) o4 o5)=.ok true:=rfl;rw[cR]at h;obtain⟨bs',ws',p4,g,w',ln⟩:=Iz (X:=X) (κ:=κ) hU hnU hnl hf (by omega) w o4;have l3:=w'.len;have l4:=w.len;obtain⟨b2,q4,q5,g2,w2⟩:=DX hU hnU hnl hf n bs' ws' p4 (aa (.d (aC x))) (by omega) w' (by omega);refine⟨b2,q4,q5,?_,w2⟩;have pop:lO 5 3 (mC (.int 0)) (eB X κ aF bs (x::r) o4 o5)=.ok (.nx (eB X κ aF bs r o4 (aa (.d (aC x))))):=by
   show Rs.bind (ng (aC x::r.map aC) 0) _=_;unfold ng;rw[aN (by decide)];have:fI (aC x::r.map aC).length 0=aa 0:=by unfold fI;rw[bb (by decide),bb (by rw[cR];omega)];rfl
   rw[this];rfl
  rw[hG,hc,aL,bb rfl];show Rs.bind (aD (lO 5 3 (mC (.int 0))) (xk κ f) _) _=_;rw[aO pop,g,aL];exact g2
theorem Lf(nd:st.Nodup)(hst:∀s∈st,s∈U)(hU:U.length<=30)(hnU:∀s∈U,∀t∈nx s,t∈U)(hnl:∀s∈U,(nx s).length<=1000)(hf:∀s∈U,f (.d (aC s)::aF.map W.d)=.ok (.d (bT (nx s)))) :
 ∃bs,eS 2 6 (Ec κ f) [.d (bT st),.fn κ aF]=.ok (iC bs)/\ju st U nx bs []:=by
 have hk:cn (st.map λs=>((s,ab):Bf))=st:=by unfold cn;rw[dq];exact y6 _
 have tr:∀l:List Spot,(∀s∈l,s∈st)->jF st nx (l.map λs=>(s,ab)):=λl=>by
  have:∀l:List Spot,(∀s∈l.reverse,s∈st)->jF st nx (l.reverse.map λs=>(s,ab)):=λl=>by
   induction l with
   |nil=>exactλ_=>.nil
   |cons x r ih=>
    intro h;rw[pI]at h ⊢;rw[eV];exact .from (ih λs hs=>h s (dL _ hs)) (h x (dI _ (bX.mpr rfl)))
  have:=this l.reverse;rw[F2]at this;exact this
 have sl:st.length<=U.length:=fi nd hst;obtain⟨o4,g1⟩:=Ki (X:=bT st) (κ:=κ) (aF:=aF) nd (by omega);obtain⟨bs,p4,p5,g2,w⟩:=DX (X:=bT st) (κ:=κ) (f:=f) (aF:=aF) (st:=st) (by omega) hnU hnl hf 40 (st.map λs=>(s,ab)) st o4 ab (by decide) ⟨tr st λs h=>h,by rw[hk];exact nd,by rw[hk];exact hst,by rw[hk];exactλs h=>h,by rw[hk];exactλs h=>h,by rw[hk];exactλs h h'=>absurd h h'⟩ (by rw[aM];omega);refine⟨bs,?_,w⟩;rw[jW];rw[show([aa (W.d (bT st)),aa (W.fn κ aF)]++cH (6-2) ab)=[aa (W.d (bT st)),aa (W.fn κ aF),ab,ab,ab,ab]from rfl];unfold Ec;rw[aO (e':=[aa (W.d (bT st)),aa (W.fn κ aF),aa (iC []),ab,ab,ab]) rfl];rw[aO (e':=eB (bT st) κ aF [] [] ab ab) (bN (jJ _))];rw[aO ((eP (dB (x:=bT st) rfl rfl)).trans g1)];rw[aO (show kB 40 (e5 (mV 3)) (yA κ f) _=_ from g2)];rfl
end
theorem ju.iff{st U:List Spot}{nx:Spot->List Spot}{bs:List Bf}(w:ju st U nx bs [])(s:Spot):s∈cn bs↔Rc (·∈st) (λs t=>t∈nx s) s:=
 ⟨w.tr.rc s,λr=>by
  induction r with
  |base h=>exact w.st _ h
  |step _ h ih=>exact w.ex _ ih (λq=>nomatch q) _ h⟩
end Mr
namespace Mr
open PySem Mi
open Vp
theorem Ax{A:List Ar}{x y:Str}(h:eX A x y):Up (ar A) x y:=by
 induction h with
 |refl=>exact .refl _
 |step _ a ih=>exact ih.trans (.step a (.refl _))
theorem FH{A:List Ar}{x y:Str}(h:Up (ar A) x y):eX A x y:=by
 have key:∀{a b:Str},Up (ar A) a b->∀{z:Str},eX A z a->eX A z b:=λ{a b} h=>by
  induction h with
  |refl=>exactλk=>k
  |step a _ ih=>exactλk=>ih (.step k a)
 exact key h .refl
theorem Lk.aZ{ac:List Str}{A:List Ar}(G:Lk ac A)(pos:1<=ac.length):gP ac A:=by obtain⟨r,h⟩:=G.rk;exact⟨G.nd,pos,G.le,G.al,λp hp=>(G.inn p hp).1,r,h⟩
theorem BP{ac:List Str}{A:List Ar}(L:Lk ac A){ag:List Str}{x:Str}(hx:x∈ac):hb ac A ag x=true↔fg (ar A) (·∈ag) x:=by
 unfold hb fg jm;rw[List.any_eq_true];constructor
 ·rintro⟨y,h1,h2⟩;exact⟨y,ke h2,Ax (m6.mp (dD.mp h1).2)⟩
 ·rintro⟨y,h1,h2⟩;refine⟨y,dD.mpr ⟨?_,m6.mpr (FH h2)⟩,bV h1⟩;have:∀{a b:Str},Up (ar A) a b->a∈ac->b∈ac:=λ{a b} h=>by
   induction h with
   |refl=>exact id
   |step a _ ih=>exactλ_=>ih (L.inn _ a).2
  exact this h2 hx
def iP(A:List Ar)(x:Str):List Spot:=(jv A x).map λy=>(y,true)
def iB(A:List Ar)(x:Str):List Spot:=(f6 A x).map λy=>(y,false)
noncomputable def nxS (ac:List Str) (A:List Ar) (ag:List Str) (s:Spot):List Spot:=
 (if s.1∈ag then[]else iP A s.1)++(if(if s.2=true then hb ac A ag s.1 else !decide (s.1∈ag))=true then iB A s.1 else[])
def iw(A:List Ar)(x:Str):List Spot:=iP A x++iB A x
theorem A2{A:List Ar}{x:Str}(hl:A.length<=64):(jv A x).length<=64:=by unfold jv;rw[aM];exact dr (mr _ _) hl
theorem Lk.L0{ac:List Str}{aj:List Ar}(G:Lk ac aj)(x:Str):(jv aj x).Nodup:=by unfold jv;refine nO.mpr ((G.nda.filter _).imp_of_mem λ{p q} hp hq h z=>h ?_);have h1:=ke (dD.mp hp).2;have h2:=ke (dD.mp hq).2;exact pY (h1.trans h2.symm) z
theorem FP{ac:List Str}{A:List Ar}{x:Str}(hx:x∈ac)(hl:A.length<=64):kY [.d (aw ac A),.d (.str x)]=.ok (.d (bT (iP A x))):=by
 unfold kY CM;rw[jW];have hc:cJ (.n 0) c6 (mN dTup [(mV 0),(mC (.bl true))]) [ab] ((jv A x).map D.str)=.ok (((jv A x).filter λ_=>true).map λy=>aC (y,true)):=
  fj D.str (λy=>aC (y,true)) _ _ λy _=>⟨[aa (.d (.str y))],rfl,rfl,λ_=>kQ rfl rfl⟩
 rw[mx.mpr (λ_ _=>rfl)]at hc;rw[dy (bB (en (dB (call2 rfl rfl (Nj hx hl)) rfl) (by rw[aM];have:=A2 (x:=x) hl;omega) hc))];unfold bT iP;rw[dq];rfl
theorem CS{ac:List Str}{A:List Ar}{x:Str}(hx:x∈ac)(hl:A.length<=64):kW [.d (aw ac A),.d (.str x)]=.ok (.d (bT (iB A x))):=by
 unfold kW Dq;rw[jW];have hc:cJ (.n 0) c6 (mN dTup [(mV 0),(mC (.bl false))]) [ab] ((f6 A x).map D.str)=.ok (((f6 A x).filter λ_=>true).map λy=>aC (y,false)):=
  fj D.str (λy=>aC (y,false)) _ _ λy _=>⟨[aa (.d (.str y))],rfl,rfl,λ_=>kQ rfl rfl⟩
 rw[mx.mpr (λ_ _=>rfl)]at hc;rw[dy (bB (en (dB (call2 rfl rfl (Ku hx hl)) rfl) (by rw[aM];have:=tF (x:=x) hl;omega) hc))];unfold bT iB;rw[dq];rfl
theorem xC{A:List Ar}{x:Str}(hl:A.length<=64):(iP A x).length<=64:=by unfold iP;rw[aM];exact A2 hl
theorem yg{A:List Ar}{x:Str}(hl:A.length<=64):(iB A x).length<=64:=by unfold iB;rw[aM];exact tF hl
theorem tH{c:C}{a b:E}{e:Mi.Env}{k:Bool}{x y:D}(hc:c e=.ok k)(ha:k=true->a e=.ok x)(hb:k=false->b e=.ok y):kg c a b e=.ok (if k=true then x else y):=by
 unfold kg;rw[hc,aL];cases k with
 |true=>exact ha rfl
 |false=>exact hb rfl
theorem IR{ac:List Str}{A:List Ar}(N:gP ac A)(hd:∀p∈A,p.2∈ac)(ag:List Str){s:Spot}(hs:s.1∈ac):oV [.d (aw ac A),.d (aC s),.d (af ag)]=.ok (.d (bT (nxS ac A ag s))):=by
 obtain⟨x,b⟩:=s;have hs:x∈ac:=hs;have hl:=N.al;unfold oV EO;rw[rA];obtain⟨g,hg⟩ : ∃g,g=(if b=true then hb ac A ag x else !decide (x∈ag)):=⟨_,rfl⟩;rw[show([aa (W.d (aw ac A)),aa (W.d (aC (x,b))),aa (W.d (af ag))]++cH (9-3) ab)=[aa (W.d (aw ac A)),aa (W.d (aC (x,b))),aa (W.d (af ag)),ab,ab,ab,ab,ab,ab]from rfl];rw[aO (e':=[aa (W.d (aw ac A)),aa (W.d (aC (x,b))),aa (W.d (af ag)),aa (W.d (.str x)),aa (W.d (.bl b)),ab,ab,ab,ab]) rfl];rw[aO (e':=[aa (W.d (aw ac A)),aa (W.d (aC (x,b))),aa (W.d (af ag)),aa (W.d (.str x)),aa (W.d (.bl b)),aa (W.d (.bl (!decide (x∈ag)))),ab,ab,ab]) (bN (aA rfl rfl (m3 _ _)))];have e6:kg (e5 (mV 4)) (aJ oX [(wD (mV 0)),(wD (mV 3)),(wD (mV 2))]) (mV 5) [aa (W.d (aw ac A)),aa (W.d (aC (x,b))),aa (W.d (af ag)),aa (W.d (.str x)),aa (W.d (.bl b)),aa (W.d (.bl (!decide (x∈ag)))),ab,ab,ab]=.ok (.bl g):=by rw[tH (k:=b) (x:=.bl (hb ac A ag x)) (y:=.bl (!decide (x∈ag))) rfl (λ_=>kh rfl rfl rfl (Lo N hd hs ag)) (λ_=>rfl),hg];cases b<;>rfl
 rw[aO (e':=[aa (W.d (aw ac A)),aa (W.d (aC (x,b))),aa (W.d (af ag)),aa (W.d (.str x)),aa (W.d (.bl b)),aa (W.d (.bl (!decide (x∈ag)))),aa (W.d (.bl g)),ab,ab]) (bN e6)];obtain⟨dn,hdn⟩ : ∃dn,dn=(if x∈ag then[]else iP A x):=⟨_,rfl⟩;obtain⟨up,hup⟩ : ∃up,up=(if g=true then iB A x else[]):=⟨_,rfl⟩;have ld:dn.length<=64:=by
  rw[hdn];split
  ·exact gE _
  ·exact xC hl
 have lu:up.length<=64:=by
  rw[hup];split
  ·exact yg hl
  ·exact gE _
 have e7:kg (e5 (mV 5)) (aJ kY [(wD (mV 0)),(wD (mV 3))]) (mN bC []) [aa (W.d (aw ac A)),aa (W.d (aC (x,b))),aa (W.d (af ag)),aa (W.d (.str x)),aa (W.d (.bl b)),aa (W.d (.bl (!decide (x∈ag)))),aa (W.d (.bl g)),ab,ab]=.ok (bT dn):=by
  rw[tH (k:=!decide (x∈ag)) (x:=bT (iP A x)) (y:=.lst []) rfl (λ_=>call2 rfl rfl (FP hs hl)) (λ_=>jJ _),hdn];by_cases h:x∈ag
  ·rw[bV h,bb h];rfl
  ·rw[cE h,bc h];rfl
 rw[aO (e':=[aa (W.d (aw ac A)),aa (W.d (aC (x,b))),aa (W.d (af ag)),aa (W.d (.str x)),aa (W.d (.bl b)),aa (W.d (.bl (!decide (x∈ag)))),aa (W.d (.bl g)),aa (W.d (bT dn)),ab]) (bN e7)];have e8:kg (e5 (mV 6)) (aJ kW [(wD (mV 0)),(wD (mV 3))]) (mN bC []) [aa (W.d (aw ac A)),aa (W.d (aC (x,b))),aa (W.d (af ag)),aa (W.d (.str x)),aa (W.d (.bl b)),aa (W.d (.bl (!decide (x∈ag)))),aa (W.d (.bl g)),aa (W.d (bT dn)),ab]=.ok (bT up):=by rw[tH (k:=g) (x:=bT (iB A x)) (y:=.lst []) rfl (λ_=>call2 rfl rfl (CS hs hl)) (λ_=>jJ _),hup];cases g<;>rfl
 rw[aO (e':=[aa (W.d (aw ac A)),aa (W.d (aC (x,b))),aa (W.d (af ag)),aa (W.d (.str x)),aa (W.d (.bl b)),aa (W.d (.bl (!decide (x∈ag)))),aa (W.d (.bl g)),aa (W.d (bT dn)),aa (W.d (bT up))]) (bN e8)];have e9:m2 aY (mV 7) (mV 8) [aa (W.d (aw ac A)),aa (W.d (aC (x,b))),aa (W.d (af ag)),aa (W.d (.str x)),aa (W.d (.bl b)),aa (W.d (.bl (!decide (x∈ag)))),aa (W.d (.bl g)),aa (W.d (bT dn)),aa (W.d (bT up))]=.ok (bT (dn++up)):=by refine(aA (x:=bT dn) (y:=bT up) rfl rfl (lm _ _)).trans ?_;rw[aN (by rw[aM,aM];omega)];unfold bT;rw[eV]
 rw[dy (bB e9)];rw[hdn,hup,hg];rfl
def nB(ac:List Str):List Spot:=ac.map (λx=>(x,true))++ac.map λx=>(x,false)
theorem wH{ac:List Str}{s:Spot}:s∈nB ac↔s.1∈ac:=by
 unfold nB;rw[bJ,cq,cq];obtain⟨x,b⟩:=s;constructor
 ·rintro(⟨y,h,e⟩|⟨y,h,e⟩)<;>cases e<;>exact h
 ·intro h;cases b
  ·exact .inr ⟨x,h,rfl⟩
  ·exact .inl ⟨x,h,rfl⟩
theorem vR{A:List Ar}{x:Str}{t:Spot}:t∈iP A x↔(x,t.1)∈A/\t.2=true:=by
 unfold iP;rw[cq];constructor
 ·rintro⟨y,h,rfl⟩;exact⟨Bv.mp h,rfl⟩
 ·rintro⟨h,e⟩;exact⟨t.1,Bv.mpr h,pY rfl e.symm⟩
theorem sP{A:List Ar}{x:Str}{t:Spot}:t∈iB A x↔(t.1,x)∈A/\t.2=false:=by
 unfold iB;rw[cq];constructor
 ·rintro⟨y,h,rfl⟩;exact⟨s0.mp h,rfl⟩
 ·rintro⟨h,e⟩;exact⟨t.1,s0.mpr h,pY rfl e.symm⟩
theorem uQ{ac:List Str}{A:List Ar}(L:Lk ac A){ag:List Str}{s t:Spot}(hs:s.1∈ac):t∈nxS ac A ag s↔ul (ar A) (·∈ag) s t:=by
 unfold nxS ul Fi B3 Goes;rw[bJ];refine or_congr ?_ ?_
 ·by_cases h:s.1∈ag
  ·rw[bb h];exact⟨λz=>(by cases z),λz=>absurd h z.1⟩
  ·rw[bc h,vR];exact⟨λz=>⟨h,z.1,z.2⟩,λz=>z.2⟩
 ·cases hb2:s.2 with
  |true=>
   rw[bb rfl];by_cases h:hb ac A ag s.1=true
   ·rw[bb h,sP];exact⟨λz=>⟨.inl ⟨rfl,(BP L hs).mp h⟩,z.1,z.2⟩,λz=>z.2⟩
   ·rw[bc h];refine⟨λz=>(by cases z),λz=>?_⟩;rcases z.1 with q|q
    ·exact absurd ((BP L hs).mpr q.2) h
    ·cases q.1
  |false=>
   rw[bc du];by_cases h:s.1∈ag
   ·rw[bV h,bc (by decide)];refine⟨λz=>(by cases z),λz=>?_⟩;rcases z.1 with q|q
    ·cases q.1
    ·exact absurd h q.2
   ·rw[cE h,bb (by decide),sP];exact⟨λz=>⟨.inr ⟨rfl,h⟩,z.1,z.2⟩,λz=>z.2⟩
theorem uL{A:List Ar}{x:Str}{t:Spot}:t∈iw A x↔uC (ar A) x t:=by unfold iw uC;rw[bJ,vR,sP];rfl
theorem M5{ac:List Str}{A:List Ar}(L:Lk ac A)(x:Str):(iw A x).Nodup:=by
 unfold iw;refine fH.mpr ⟨?_,?_,λa ha b hb e=>?_⟩
 ·exact nO.mpr ((L.L0 x).imp λh e=>h (congrArg vF e))
 ·exact nO.mpr ((L.FR x).imp λh e=>h (congrArg vF e))
 ·have h1:=(vR.mp ha).2;have h2:=(sP.mp hb).2;rw[e,h2]at h1;cases h1
theorem Ep:∀bs:List Bf,fL ((bs.map gV).map (·.2))=true
 |[]=>rfl
 |(s,o)::r=>by
  rw[cS,cS,fL,Ep r];cases o<;>rfl
theorem NE{ac:List Str}{A:List Ar}(L:Lk ac A){i:Str}(hi:i∈ac)(ag:List Str) :
 ∃bs,lE [.d (aw ac A),.d (.str i),.d (af ag)]=.ok (iC bs)/\ju (iw A i) (nB ac) (nxS ac A ag) bs []:=by
 have N:=L.aZ (uW hi);have hd:∀p∈A,p.2∈ac:=λp hp=>(L.inn p hp).2;have hl:=L.al;have n8:=L.le;obtain⟨bs,hw,w⟩:=Lf (κ:=⟨0,0, "", []⟩) (f:=ue) (aF:=[aw ac A,af ag]) (st:=iw A i) (U:=nB ac) (nx:=nxS ac A ag) (M5 L i) (λs hs=>by
  rw[wH];rcases uL.mp hs with h|h
  ·exact(L.inn _ h.1).2
  ·exact(L.inn _ h.1).1) (by unfold nB;rw[cu,aM,aM];omega) (λs hs t ht=>by
  rw[wH]at hs ⊢;rcases(uQ L hs).mp ht with h|h
  ·exact(L.inn _ h.2.1).2
  ·exact(L.inn _ h.2.1).1) (λs hs=>by
  unfold nxS;rw[cu];have h1:(if s.1∈ag then[]else iP A s.1).length<=64:=by
   split
   ·exact gE _
   ·exact xC hl
  have h2:(if(if s.2=true then hb ac A ag s.1 else !decide (s.1∈ag))=true then iB A s.1 else[]).length<=64:=by
   generalize (if s.2=true then hb ac A ag s.1 else !decide (s.1∈ag))=g;cases g
   ·exact gE _
   ·exact yg hl
  omega) (λs hs=>by
  rw[wH]at hs;show Rs.bind (aJ oV [(wD (mV 1)),(wD (mV 0)),(wD (mV 2))] [aa (.d (aC s)),aa (.d (aw ac A)),aa (.d (af ag))]) _=_;rw[kh rfl rfl rfl (IR N hd ag hs)];rfl)
 refine⟨bs,?_,w⟩;unfold lE Dd;rw[xG];rw[show([aa (W.d (aw ac A)),aa (W.d (.str i)),aa (W.d (af ag))]++cH (4-3) ab)=[aa (W.d (aw ac A)),aa (W.d (.str i)),aa (W.d (af ag)),ab]from rfl];have e3:m2 aY (aJ kY [(wD (mV 0)),(wD (mV 1))]) (aJ kW [(wD (mV 0)),(wD (mV 1))]) [aa (W.d (aw ac A)),aa (W.d (.str i)),aa (W.d (af ag)),ab]=.ok (bT (iw A i)):=by refine(aA (x:=bT (iP A i)) (y:=bT (iB A i)) (call2 rfl rfl (FP hi hl)) (call2 rfl rfl (CS hi hl)) (lm _ _)).trans ?_;have:=xC (x:=i) hl;have:=yg (x:=i) hl;rw[aN (by rw[aM,aM];omega)];unfold bT iw;rw[eV]
 rw[aO (e':=[aa (W.d (aw ac A)),aa (W.d (.str i)),aa (W.d (af ag)),aa (W.d (bT (iw A i)))]) (bN e3)];have e4:w6 qB [0,2] (mV 3) [aa (W.d (aw ac A)),aa (W.d (.str i)),aa (W.d (af ag)),aa (W.d (bT (iw A i)))]=.ok (iC bs):=by show Rs.bind (qB (bT (iw A i)) [aw ac A,af ag]) Dz=_;rw[show qB (bT (iw A i)) [aw ac A,af ag]=.ok (iC bs)from hw];show(if fL ((bs.map gV).map (·.2))=true then Rs.ok (W.dt (bs.map gV))else .no)=_;rw[bb (Ep bs)]
 rw[dy e4];rfl
theorem _root_.Vp.Rc.congr{α:Type}{st st':α×Bool->Prop}{nx nx':α×Bool->α×Bool->Prop}{P:α×Bool->Prop}(hs:∀t,st t->st' t)(hp:∀t,st t->P t)(hn:∀s t,P s->nx s t->nx' s t/\P t){s:α×Bool}(r:Rc st nx s):Rc st' nx' s/\P s:=by
 induction r with
 |base h=>exact⟨.base (hs _ h),hp _ h⟩
 |step _ h ih=>exact⟨.step ih.1 (hn _ _ ih.2 h).1,(hn _ _ ih.2 h).2⟩
theorem En{ac:List Str}{A:List Ar}(L:Lk ac A){i:Str}(hi:i∈ac){ag:List Str}{bs:List Bf}(w:ju (iw A i) (nB ac) (nxS ac A ag) bs [])(s:Spot):s∈cn bs↔Vp.Wk (ar A) (·∈ag) i s:=by
 rw[w.iff];have i1:∀t,uC (ar A) i t->t.1∈ac:=λt h=>by
  rcases h with h|h
  ·exact(L.inn _ h.1).2
  ·exact(L.inn _ h.1).1
 have i2:∀s t,ul (ar A) (·∈ag) s t->t.1∈ac:=λs t h=>by
  rcases h with h|h
  ·exact(L.inn _ h.2.1).2
  ·exact(L.inn _ h.2.1).1
 constructor
 ·intro r;exact(r.congr (P:=λt=>t.1∈ac) (λt h=>uL.mp h) (λt h=>i1 t (uL.mp h)) λs t hs h=>⟨(uQ L hs).mp h,i2 s t ((uQ L hs).mp h)⟩).1
 ·intro r;exact(r.congr (P:=λt=>t.1∈ac) (λt h=>uL.mpr h) i1 λs t hs h=>⟨(uQ L hs).mpr h,i2 s t h⟩).1
def kR(bs:List Bf)(j:Str):List Spot:=(cn bs).filter λs=>decide (s.1=j)
theorem L8(bs:List Bf)(hl:bs.length<=1000)(j:Str):na [.d (.str j),.df (bs.map gV)]=.ok (.d (bT (kR bs j))):=by
 unfold na DD;rw[jW];have hc:cJ (.n 1) (cB (m2 b9 (m2 bd (mV 1) (mC (.int 0))) (mV 0))) (mV 1) [aa (.d (.str j)),ab] ((cn bs).map aC)=.ok (((cn bs).filter λs=>decide (s.1=j)).map aC):=
  fj aC aC _ _ λs _=>⟨[aa (.d (.str j)),aa (.d (aC s))],rfl,bR (aA (x:=.str s.1) (aA (x:=aC s) rfl rfl (by show dA (dO [D.str s.1,D.bl s.2] 0)=_;rw[at0];rfl)) rfl (nh _ _)),λ_=>rfl⟩
 have it:om 1 [aa (W.d (.str j)),aa (W.df (bs.map gV))]=.ok ((cn bs).map aC):=by show Rs.ok ((bs.map gV).map λkv=>D.tup (kv.1.map ui))=_;unfold cn;rw[dq,dq];rfl
 rw[show([aa (W.d (.str j)),aa (W.df (bs.map gV))]++cH (2-2) ab)=[aa (W.d (.str j)),aa (W.df (bs.map gV))]from rfl];rw[dy (bB (en (e:=[aa (W.d (.str j)),aa (W.df (bs.map gV))]) it (by rw[aM,kys_len];omega) hc))];rfl
theorem AZ{ac asked:List Str}(h:∀x∈asked,x∈ac)(nd:asked.Nodup)(hl:asked.length<=1000):nu [.d (aW ac),.d (af asked)]=.ok (.d .non):=by unfold nu Ew;rw[me];rw[aO (e':=[aa (.d (aW ac)),aa (.d (af asked))]) (by unfold fB;rw[call2 rfl rfl (rC h)];rfl)];show Rs.bind (fB _ _) _=_;unfold fB;rw[yf rfl (Nb nd hl)];rfl
theorem MM{ac:List Str}{A:List Ar}(L:Lk ac A){i j:Str}(hi:i∈ac)(hj:j∈ac)(ij:i≠j){ag:List Str}(hs:∀x∈ag,x∈ac)(nd:ag.Nodup)(ni:i∉ag)(nj:j∉ag) :
 nq [.d (aw ac A),.d (.str i),.d (.str j),.d (af ag)]=.ok (.d (.bl (!iN A i j ag))):=by
 have ndS:([i,j]++ag).Nodup:=by
  refine fH.mpr ⟨by simp[ij],nd,λa ha b hb e=>?_⟩;subst e;rcases bH.mp ha with rfl|z
  ·exact ni hb
  ·rw[bX.mp z]at hb;exact nj hb
 have n8:=L.le;have hl8:ag.length<=8:=dr (fi nd hs) n8;obtain⟨bs,hbf,w⟩:=NE L hi ag;have bl:bs.length<=16:=by have:=w.len;unfold nB at this;rw[cu,aM,aM]at this;omega
 unfold nq BI;rw[t9];rw[show([aa (W.d (aw ac A)),aa (W.d (.str i)),aa (W.d (.str j)),aa (W.d (af ag))]++cH (4-4) ab)=[aa (W.d (aw ac A)),aa (W.d (.str i)),aa (W.d (.str j)),aa (W.d (af ag))]from rfl];have l2:m2 aY (mN bC [(mV 1),(mV 2)]) (mN d9 [(mV 3)]) [aa (W.d (aw ac A)),aa (W.d (.str i)),aa (W.d (.str j)),aa (W.d (af ag))]=.ok (af ([i,j]++ag)):=by refine(aA (x:=af [i,j]) (y:=af ag) (rV rfl rfl) ((d5 (x:=af ag) rfl).trans rfl) (lm _ _)).trans ?_;rw[aN (by rw[aM,aM];simp only[cR,iE];omega)];rfl
 have asks:=AZ (ac:=ac) (asked:=[i,j]++ag) (λx hx=>by
  rcases bJ.mp hx with z|z
  ·rcases bH.mp z with rfl|z
   ·exact hi
   ·rw[bX.mp z];exact hj
  ·exact hs x z) ndS (by simp only[cu,cR,iE];omega)
 rw[aO (e':=[aa (W.d (aw ac A)),aa (W.d (.str i)),aa (W.d (.str j)),aa (W.d (af ag))]) (by unfold fB;rw[call2 (bB (aA rfl rfl (iW ac A))) (bB l2) asks];rfl)];have fz:uD (jQ lE [(wD (mV 0)),(wD (mV 1)),(wD (mV 3))]) [aa (W.d (aw ac A)),aa (W.d (.str i)),aa (W.d (.str j)),aa (W.d (af ag))]=.ok (.df (bs.map gV)):=by show Rs.bind (lE [.d (aw ac A),.d (.str i),.d (af ag)]) C2=_;rw[hbf];rfl
 have sp:=call2 (f:=na) (a:=wD (mV 2)) (e:=[aa (W.d (aw ac A)),aa (W.d (.str i)),aa (W.d (.str j)),aa (W.d (af ag))]) (x:=.d (.str j)) rfl fz (L8 bs (by omega) j);have fin:(!(kR bs j).isEmpty)=iN A i j ag:=by
  rw[mJ,yK,<- Kr (A:=ar A) (S:=(·∈ag)) ij ni nj];constructor
  ·intro h;cases ho:kR bs j with
   |nil=>rw[ho]at h;cases h
   |cons s r=>
    have hm:s∈kR bs j:=by rw[ho];exact dj
    obtain⟨h1,h2⟩:=dD.mp hm;have h2:s.1=j:=ke h2;refine⟨s.2,?_⟩;rw[<- h2];exact(En L hi w s).mp h1
  ·rintro⟨b,h⟩;have hm:(j,b)∈kR bs j:=dD.mpr ⟨(En L hi w _).mpr h,bV rfl⟩;cases ho:kR bs j with
   |nil=>rw[ho]at hm;cases hm
   |cons s r=>rfl
 have nt:ur (aJ na [(wD (mV 2)),(uD (jQ lE [(wD (mV 0)),(wD (mV 1)),(wD (mV 3))]))]) [aa (W.d (aw ac A)),aa (W.d (.str i)),aa (W.d (.str j)),aa (W.d (af ag))]=.ok (.bl (!iN A i j ag)):=by unfold ur e5;rw[sp,aL,show Dm (bT (kR bs j))=.ok (!((kR bs j).map aC).isEmpty)from rfl,aL];rw[<- fin];cases kR bs j<;>rfl
 rw[dy (bB nt)];rfl
end Mr
namespace Mr
open PySem Mi
open Vp
noncomputable def hiB (A:List Ar) (some_:List Str) (y:Str):Bool:=@decide (Hi (ar A) (·∈some_) y) (pV _)
theorem wI{A:List Ar}{some_:List Str}{y:Str}:hiB A some_ y=true↔Hi (ar A) (·∈some_) y:=by unfold hiB;exact@mj _ (pV _)
noncomputable def ovr (ac:List Str) (A:List Ar) (some_:List Str):List Str:=some_.flatMap (j6 ac A)
theorem Im{ac:List Str}{A:List Ar}{x:Str}(h8:ac.length<=8):(j6 ac A x).length<=8:=by unfold j6 jm;exact dr (mr _ _) h8
theorem C3{ac:List Str}{A:List Ar}{some_:List Str}{y:Str}(hy:y∈ac):decide (y∈ovr ac A some_)=hiB A some_ y:=by
 rw[mJ,mj,wI];unfold ovr Hi;rw[pL];constructor
 ·rintro⟨x,h1,h2⟩;exact⟨x,h1,Ax (m6.mp ((Au hy).mp h2))⟩
 ·rintro⟨x,h1,h2⟩;exact⟨x,h1,(Au hy).mpr (m6.mpr (FH h2))⟩
theorem C4{ac:List Str}{A:List Ar}(L:Lk ac A)(pos:1<=ac.length){some_:List Str}(hs:∀x∈some_,x∈ac)(hl:some_.length<=20):lM [.d (aw ac A),.d (af some_)]=.ok (.d (af (ovr ac A some_))):=by
 have N:=L.aZ pos;have hd:∀p∈A,p.2∈ac:=λp hp=>(L.inn p hp).2;have ol:((some_.flatMap λx=>(j6 ac A x).map D.str)).length<=1000:=by
  have:=qz (g:=λx=>(j6 ac A x).map D.str) (m:=8) (l:=some_) λx _=>by rw[aM];exact Im L.le
  omega
 obtain⟨e',f,o3,he⟩:=pc (tg:=.n 3) (body:=(l8 2 (aJ n9 [(wD (mV 0)),(wD (mV 3))]))) D.str (λx=>(j6 ac A x).map D.str)
  (λacc e=>∃o3:Option W,e=[aa (W.d (aw ac A)),aa (W.d (af some_)),aa (W.d (.lst acc)),o3]) some_ [] [aa (W.d (aw ac A)),aa (W.d (af some_)),aa (W.d (.lst [])),ab] (by simp only[iE];omega) ⟨ab,rfl⟩
  (λx hx acc e hl ⟨o3,he⟩=>by
   subst he;refine⟨[aa (W.d (aw ac A)),aa (W.d (af some_)),aa (W.d (.lst acc)),aa (W.d (.str x))],[aa (W.d (aw ac A)),aa (W.d (af some_)),aa (W.d (.lst (acc++(j6 ac A x).map D.str))),aa (W.d (.str x))],rfl,?_,_,rfl⟩;unfold l8;rw[call2 (x:=.d (aw ac A)) (y:=.d (.str x)) rfl rfl (NL N hd (hs x hx)),aL];show be (acc.length+((j6 ac A x).map D.str).length<=16777216) _=_;rw[aN hl];rfl)
 subst he;unfold lM CK;rw[jW];rw[show([aa (W.d (aw ac A)),aa (W.d (af some_))]++cH (4-2) ab)=[aa (W.d (aw ac A)),aa (W.d (af some_)),ab,ab]from rfl];rw[aO (e':=[aa (W.d (aw ac A)),aa (W.d (af some_)),aa (W.d (.lst [])),ab]) (bN (jJ _))];rw[aO ((eP (dB (a:=mV 1) (x:=af some_) rfl rfl)).trans f)];rw[u3];show Rs.ok (W.d (D.lst _))=_;unfold af ovr;rw[tE]
theorem ou{a b:E}{e:Mi.Env}{x y:List Str}(ha:a e=.ok (af x))(hb:b e=.ok (af y))(hl:x.length+y.length<=1000):m2 aY a b e=.ok (af (x++y)):=by refine(aA ha hb (lm _ _)).trans ?_;rw[aN (by rw[aM,aM];omega)];unfold af;rw[eV]
structure Vl(ac:List Str)(A:List Ar)(ns ag:List Str):Prop where
 L:Lk ac A
 hs:∀x∈ag,x∈ac
 hn:ag.Nodup
 sb:∀x∈ns,x∈ac
 nn:ns.Nodup
 no:∀x∈ns,x∉ag
section
variable{ac:List Str}{A:List Ar}{ns ag:List Str}(V:Vl ac A ns ag){i j:Str}(hi:i∈ns)(hj:j∈ns)(ij:i≠j)
include V
theorem Vl.hl:ag.length<=8:=dr (fi V.hn V.hs) V.L.le
theorem Vl.nl:ns.length<=8:=dr (fi V.nn V.sb) V.L.le
noncomputable def jp (A:List Ar) (ag:List Str) (i j:Str):D:=.str (if hiB A ([j]++ag) i then "tail" else "head")
include hi hj in
theorem CF:kq [.d (aw ac A),.d (af ag),.d (.str i),.d (.str j)]=.ok (.d (jp A ag i j)):=by
 have hl:=V.hl;have in_:=V.sb i hi;unfold kq BF;rw[t9];rw[show([aa (W.d (aw ac A)),aa (W.d (af ag)),aa (W.d (.str i)),aa (W.d (.str j))]++cH (4-4) ab)=[aa (W.d (aw ac A)),aa (W.d (af ag)),aa (W.d (.str i)),aa (W.d (.str j))]from rfl];have l2:m2 aY (mN bC [(mV 3)]) (mN d9 [(mV 1)]) [aa (W.d (aw ac A)),aa (W.d (af ag)),aa (W.d (.str i)),aa (W.d (.str j))]=.ok (af ([j]++ag)):=ou (k4 rfl) ((d5 (x:=af ag) rfl).trans rfl) (by simp only[jd];omega)
 have ov:=C4 V.L (uW in_) (some_:=[j]++ag) (λx hx=>by
  rcases bJ.mp hx with z|z
  ·rw[bX.mp z];exact V.sb j hj
  ·exact V.hs x z) (by rw[cu,jd];omega)
 have ct:cB (m2 eR (mV 2) (aJ lM [(wD (mV 0)),(wD (m2 aY (mN bC [(mV 3)]) (mN d9 [(mV 1)])))])) [aa (W.d (aw ac A)),aa (W.d (af ag)),aa (W.d (.str i)),aa (W.d (.str j))]=.ok (hiB A ([j]++ag) i):=by rw[<- C3 in_];exact bR (aA rfl (call2 rfl (bB l2) ov) (oU _ _))
 rw[dy (bB (tH ct (λ_=>rfl) λ_=>rfl))];unfold jp;cases hiB A ([j]++ag) i<;>rfl
include hi hj ij in
theorem Ao:jc [.d (aw ac A),.d (.str i),.d (.str j),.d (af ag)]=.ok (.d (jp A ag i j)):=by
 have hl:=V.hl;have nd:([j]++ag).Nodup:=fH.mpr ⟨by simp,V.hn,λa ha b hb e=>by rw[bX.mp ha]at e;exact V.no j hj (e ▸ hb)⟩;obtain⟨met,hh,_,mh⟩:=DN V.L.nt (some_:=[j]++ag) nd (λx hx=>by
  rcases bJ.mp hx with z|z
  ·rw[bX.mp z];exact V.sb j hj
  ·exact V.hs x z)
 have dm:decide (i∈met)=hiB A ([j]++ag) i:=by rw[mJ,mj,wI];exact mh i
 unfold jc C5;rw[t9];rw[show([aa (W.d (aw ac A)),aa (W.d (.str i)),aa (W.d (.str j)),aa (W.d (af ag))]++cH (4-4) ab)=[aa (W.d (aw ac A)),aa (W.d (.str i)),aa (W.d (.str j)),aa (W.d (af ag))]from rfl];have l2:m2 aY (mN bC [(mV 2)]) (mV 3) [aa (W.d (aw ac A)),aa (W.d (.str i)),aa (W.d (.str j)),aa (W.d (af ag))]=.ok (af ([j]++ag)):=
  ou (k4 rfl) rfl (by simp only[jd];omega)
 have ct:cB (m2 eR (mV 1) (aJ ml [(wD (mV 0)),(wD (m2 aY (mN bC [(mV 2)]) (mV 3)))])) [aa (W.d (aw ac A)),aa (W.d (.str i)),aa (W.d (.str j)),aa (W.d (af ag))]=.ok (hiB A ([j]++ag) i):=by rw[<- dm];exact bR (aA rfl (call2 rfl (bB l2) hh) (oU _ _))
 unfold jp;cases hk:hiB A ([j]++ag) i with
 |true=>
  rw[hk]at ct;rw[nM ((fE ct).trans rfl)];rfl
 |false=>
  rw[hk]at ct;rw[aO ((dU ct).trans rfl)];rfl
noncomputable def btw (A:List Ar) (ns ag:List Str) (i j:Str):List Str:=ns.filter λz=>hiB A ([i,j]++ag) z && !decide (z∈[i,j])
include hi hj in
theorem Jd:lX [.d (aw ac A),.d (aW ns),.d (af ag),.d (.str i),.d (.str j)]=.ok (.d (af (btw A ns ag i j))):=by
 have hl:=V.hl;have nl:=V.nl;have l2:m2 aY (mN bC [(mV 3),(mV 4)]) (mN d9 [(mV 2)]) [aa (W.d (aw ac A)),aa (W.d (aW ns)),aa (W.d (af ag)),aa (W.d (.str i)),aa (W.d (.str j)),ab]=.ok (af ([i,j]++ag)):=ou (rV rfl rfl) ((d5 (x:=af ag) rfl).trans rfl) (by simp only[cR,iE];omega)
 have ov:=C4 V.L (uW (V.sb i hi)) (some_:=[i,j]++ag) (λx hx=>by
  rcases bJ.mp hx with z|z
  ·rcases bH.mp z with rfl|z
   ·exact V.sb _ hi
   ·rw[bX.mp z];exact V.sb j hj
  ·exact V.hs x z) (by simp only[cu,cR,iE];omega)
 obtain⟨up,hup⟩ : ∃up,up=ovr ac A ([i,j]++ag):=⟨_,rfl⟩;rw[<- hup]at ov;have hc:cJ (.n 3) (cF (cB (m2 eR (mV 3) (mV 0))) (cB (m2 dH (mV 3) (mN dTup [(mV 1),(mV 2)])))) (mV 3) [aa (.d (af up)),aa (.d (.str i)),aa (.d (.str j)),ab] (ns.map D.str)=.ok ((btw A ns ag i j).map D.str):=
  fj D.str D.str _ _ λz hz=>⟨[aa (.d (af up)),aa (.d (.str i)),aa (.d (.str j)),aa (.d (.str z))],rfl,by
   rw[<- C3 (ac:=ac) (V.sb z hz),<- hup];exact rR (bR (aA rfl rfl (oU _ _))) λ_=>bR (aA (y:=.tup ([i,j].map D.str)) rfl (kQ rfl rfl) (CN _ _)),λ_=>rfl⟩
 unfold lX Co;show Rs.bind (aD _ _ [aa (W.d (aw ac A)),aa (W.d (aW ns)),aa (W.d (af ag)),aa (W.d (.str i)),aa (W.d (.str j)),ab]) _=_;rw[aO (e':=[aa (W.d (aw ac A)),aa (W.d (aW ns)),aa (W.d (af ag)),aa (W.d (.str i)),aa (W.d (.str j)),aa (W.d (af up))]) (bN (call2 rfl (bB l2) ov))];rw[dy (bB (en (ρ:=[aa 5,aa 3,aa 4,ab]) (dB (a:=mV 1) (x:=aW ns) rfl rfl) (by rw[aM];omega) hc))];rfl
noncomputable def joi (A:List Ar) (ns ag:List Str) (i j:Str):Bool:=iN A i j (btw A ns ag i j++ag)
theorem Vl.app{Z:List Str}(hz:∀z∈Z,z∈ns)(nd:Z.Nodup):(∀x∈Z++ag,x∈ac)/\(Z++ag).Nodup:=by
 refine⟨λx hx=>?_,fH.mpr ⟨nd,V.hn,λa ha b hb e=>V.no a (hz a ha) (e ▸ hb)⟩⟩;rcases bJ.mp hx with h|h
 ·exact V.sb x (hz x h)
 ·exact V.hs x h
include hi hj ij in
theorem IL:lh [.d (aw ac A),.d (aW ns),.d (af ag),.d (.str i),.d (.str j)]=.ok (.d (.bl (joi A ns ag i j))):=by
 have hl:=V.hl;have nl:=V.nl;have bin:∀z∈btw A ns ag i j,z∈ns/\z≠i/\z≠j:=λz hz=>by
  obtain⟨h1,h2⟩:=dD.mp hz;simp only[ji,nV,mR,bH,sn,or_false,not_or]at h2;exact⟨h1,h2.2.1,h2.2.2⟩
 have bnd:(btw A ns ag i j).Nodup:=V.nn.filter _;have bl:(btw A ns ag i j).length<=8:=dr (mr _ _) nl;obtain⟨a1,a2⟩:=V.app (λz hz=>(bin z hz).1) bnd;have pt:=MM V.L (V.sb i hi) (V.sb j hj) ij a1 a2 (λh=>by
  rcases bJ.mp h with h|h
  ·exact(bin i h).2.1 rfl
  ·exact V.no i hi h) (λh=>by
  rcases bJ.mp h with h|h
  ·exact(bin j h).2.2 rfl
  ·exact V.no j hj h)
 unfold lh CA;show Rs.bind (br _ [aa (W.d (aw ac A)),aa (W.d (aW ns)),aa (W.d (af ag)),aa (W.d (.str i)),aa (W.d (.str j))]) _=_;have cb:aJ lX [(wD (mV 0)),(wD (mV 1)),(wD (mV 2)),(wD (mV 3)),(wD (mV 4))] [aa (W.d (aw ac A)),aa (W.d (aW ns)),aa (W.d (af ag)),aa (W.d (.str i)),aa (W.d (.str j))]=.ok (af (btw A ns ag i j)):=by show Rs.bind (lX [.d (aw ac A),.d (aW ns),.d (af ag),.d (.str i),.d (.str j)]) k9=_;rw[Jd V hi hj];rfl
 have cp:=oR (f:=nq) (a:=wD (mV 0)) (b:=wD (mV 3)) (c:=wD (mV 4)) (e:=[aa (W.d (aw ac A)),aa (W.d (aW ns)),aa (W.d (af ag)),aa (W.d (.str i)),aa (W.d (.str j))]) (x:=.d (aw ac A)) (y:=.d (.str i)) (z:=.d (.str j)) rfl rfl rfl (bB (ou (b:=mN d9 [(mV 2)]) cb ((d5 (a:=mV 2) (x:=af ag) rfl).trans rfl) (by omega))) pt;have nt:sK (aJ nq [(wD (mV 0)),(wD (mV 3)),(wD (mV 4)),(wD (m2 aY (aJ lX [(wD (mV 0)),(wD (mV 1)),(wD (mV 2)),(wD (mV 3)),(wD (mV 4))]) (mN d9 [(mV 2)])))]) [aa (W.d (aw ac A)),aa (W.d (aW ns)),aa (W.d (af ag)),aa (W.d (.str i)),aa (W.d (.str j))]=.ok (.bl (joi A ns ag i j)):=by unfold sK;rw[cp,aL,rE,aL,Bool.not_not];rfl
 rw[dy (bB nt)];rfl
include hi hj ij in
theorem Lp:joi A ns ag i j=(fc (rst ns i j).reverse).all λZ=>iN A i j (Z++ag):=by
 have eqS:∀Z:List Str,(λz=>z∈Z++ag)=λz=>z∈Z\/z∈ag:=λZ=>by funext z;exact propext bJ
 have bL:∀z,z∈btw A ns ag i j↔z∈ns/\Hi (ar A) (Vp.Tg i j (·∈ag)) z/\z≠i/\z≠j:=λz=>by
  have eT:(λx=>x∈[i,j]++ag)=Vp.Tg i j (·∈ag):=by funext x;refine propext ?_;rw[bJ];unfold Vp.Tg;simp only[bH,sn,or_false,or_assoc]
  unfold btw;rw[dD,ji,wI,eT];simp only[nV,mR,bH,sn,or_false,not_or]
 rw[mJ,nP];unfold joi;constructor
 ·intro h Z hZ;rw[yK,eqS]at h ⊢;refine Vp.between (O:=(·∈ns)) bL (λz hz=>?_) h;have:=List.mem_reverse.mp (qF hZ z hz);unfold rst at this;obtain⟨x1,x2⟩:=dD.mp this;simp only[ji,nV,mR]at x2;exact⟨x1,x2⟩
 ·intro h;have hm:btw A ns ag i j∈fc (rst ns i j).reverse:=by
   have:=BD (λz=>hiB A ([i,j]++ag) z) (rst ns i j).reverse;rw[F2]at this;have e:(rst ns i j).filter (λz=>hiB A ([i,j]++ag) z)=btw A ns ag i j:=by
    unfold rst btw;rw[List.filter_filter];refine List.filter_congr λz _=>?_;cases hiB A ([i,j]++ag) z
    ·rfl
    ·by_cases e1:z=i<;>by_cases e2:z=j<;>simp[e1,e2]
   rw[e]at this;exact this
  exact h _ hm
include hi hj ij in
theorem LN:kD [.d (aw ac A),.d (af ns),.d (.str i),.d (.str j),.d (af ag)]=.ok (.d (.bl (joi A ns ag i j))):=by
 have hl:=V.hl;have nl:=V.nl;obtain⟨rs,hrs⟩ : ∃rs,rs=rst ns i j:=⟨_,rfl⟩;have rsl:rs.length<=8:=by rw[hrs];exact dr (Jz ns i j) nl
 have rin:∀x∈rs,x∈ns/\x≠i/\x≠j:=λx hx=>by
  rw[hrs]at hx;unfold rst at hx;obtain⟨x1,x2⟩:=dD.mp hx;simp only[ji,nV,mR]at x2;exact⟨x1,x2.1,x2.2⟩
 have AI:rs.Nodup:=by rw[hrs];exact V.nn.filter _
 have c5:cJ (.n 2) (cF (cB (m2 fQ (mV 2) (mV 0))) (cB (m2 fQ (mV 2) (mV 1)))) (mV 2) [aa (.d (.str i)),aa (.d (.str j)),ab] (ns.map D.str)=.ok (rs.map D.str):=by rw[hrs];exact fj D.str D.str _ ns λx _=>⟨[aa (.d (.str i)),aa (.d (.str j)),aa (.d (.str x))],rfl,rR (bR (aA rfl rfl (B0 _ _))) λ_=>bR (aA rfl rfl (B0 _ _)),λ_=>rfl⟩
 have s5:=bN (i:=5) (en (ρ:=[aa 2,aa 3,ab]) (it:=bt (mV 1)) (e:=[aa (W.d (aw ac A)),aa (W.d (af ns)),aa (W.d (.str i)),aa (W.d (.str j)),aa (W.d (af ag)),ab,ab]) (dB (a:=mV 1) (x:=af ns) rfl rfl) (by rw[aM];omega) c5);obtain⟨st,hst⟩ : ∃st:Option (List Str)->Mi.Env,st=λo=>[aa (W.d (aw ac A)),aa (W.d (af ns)),aa (W.d (.str i)),aa (W.d (.str j)),aa (W.d (af ag)),aa (W.d (af rs)),o.map λl=>W.d (af l)]:=⟨_,rfl⟩;have fs:=D9 (tg:=.n 6) (e:=[]) (w:=.nx []) (body:=(bv (cB (aJ lJ [(wD (mV 0)),(wD (mV 2)),(wD (mV 3)),(wD (m2 aY (mV 6) (mV 4)))])) (br (wD (mC (.bl false)))) bD)) af st (λZ=>!iN A i j (Z++ag)) (λ_=>.rt (.d (.bl false))) (fc rs.reverse) ab (λZ hZ o=>by
  subst hst;have zin:∀x∈Z,x∈rs:=λx hx=>List.mem_reverse.mp (qF hZ x hx);have znd:=xA (List.pairwise_reverse.mpr (AI.imp dN)) hZ;have zl:Z.length<=8:=by have:=tZ hZ;rw[uY]at this;omega
  obtain⟨a1,a2⟩:=V.app (λz hz=>(rin z (zin z hz)).1) znd;have pt:=J6 V.L (V.sb i hi) (V.sb j hj) ij a1 a2 (λh=>by
   rcases bJ.mp h with h|h
   ·exact(rin i (zin i h)).2.1 rfl
   ·exact V.no i hi h) (λh=>by
   rcases bJ.mp h with h|h
   ·exact(rin j (zin j h)).2.2 rfl
   ·exact V.no j hj h)
  refine⟨[aa (W.d (aw ac A)),aa (W.d (af ns)),aa (W.d (.str i)),aa (W.d (.str j)),aa (W.d (af ag)),aa (W.d (af rs)),aa (W.d (af Z))],rfl,?_⟩;have ct:=bR (oR (f:=lJ) (a:=wD (mV 0)) (b:=wD (mV 2)) (c:=wD (mV 3)) (e:=[aa (W.d (aw ac A)),aa (W.d (af ns)),aa (W.d (.str i)),aa (W.d (.str j)),aa (W.d (af ag)),aa (W.d (af rs)),aa (W.d (af Z))]) (x:=.d (aw ac A)) (y:=.d (.str i)) (z:=.d (.str j)) rfl rfl rfl (bB (ou (a:=mV 6) (b:=mV 4) rfl rfl (by omega))) pt);cases hk:iN A i j (Z++ag)with
  |true=>rw[hk]at ct;exact(dU ct).trans rfl
  |false=>rw[hk]at ct;exact(fE ct).trans rfl) (λ_ _ _=>⟨_,rfl⟩)
 unfold kD FA;show Rs.bind (aD _ _ [aa (W.d (aw ac A)),aa (W.d (af ns)),aa (W.d (.str i)),aa (W.d (.str j)),aa (W.d (af ag)),ab,ab]) _=_;rw[aO s5];have it:bt (aJ oG [(wD (mV 5))]) (st ab)=.ok ((fc rs.reverse).map af):=by subst hst;exact dB (yf rfl (MA rsl)) rfl
 have e0:([aa (W.d (aw ac A)),aa (W.d (af ns)),aa (W.d (.str i)),aa (W.d (.str j)),aa (W.d (af ag)),ab,ab].set 5 (aa (W.d (D.lst (rs.map D.str)))))=st ab:=by subst hst;rfl
 rw[e0];have ja:=Lp V hi hj ij;rw[<- hrs]at ja;have fo:=(eP (tg:=.n 6) (b:=(bv (cB (aJ lJ [(wD (mV 0)),(wD (mV 2)),(wD (mV 3)),(wD (m2 aY (mV 6) (mV 4)))])) (br (wD (mC (.bl false)))) bD)) it).trans fs;cases hf:(fc rs.reverse).find? λZ=>!iN A i j (Z++ag)with
 |some Z=>
  rw[hf]at fo;rw[nM fo];have:joi A ns ag i j=false:=by rw[ja,List.all_eq_false];have h1:=List.mem_of_find?_eq_some hf;have h2:=List.find?_some hf;refine⟨Z,h1,?_⟩;intro h;rw[h]at h2;cases h2
  rw[this];rfl
 |none=>
  rw[hf]at fo;rw[aO fo];have:joi A ns ag i j=true:=by
   rw[ja,nP];intro Z hZ;have:=List.find?_eq_none.mp hf Z hZ;cases h:iN A i j (Z++ag)
   ·exact absurd (by rw[h];rfl) this
   ·rfl
  rw[this];rfl
end
end Mr
namespace Mr
open PySem Mi
open Vp
open My (words fv fT)
noncomputable def joD (A:List Ar) (ag:List Str) (p:Ar):D:=.tup [.str p.1,.str p.2,jp A ag p.1 p.2,jp A ag p.2 p.1]
noncomputable def jns (A:List Ar) (ns ag:List Str):List D:=(prs ns).flatMap λp=>if joi A ns ag p.1 p.2=true then[joD A ag p]else[]
noncomputable def vlD (A:List Ar) (ns ag:List Str):D:=.tup [aW ns,.tup (jns A ns ag)]
theorem Fu{A:List Ar}{ns ag:List Str}(h8:ns.length<=8):(jns A ns ag).length<=64:=by
 have:=qz (g:=λp:Ar=>if joi A ns ag p.1 p.2=true then[joD A ag p]else[]) (m:=1) (l:=prs ns) λp _=>by
  split
  ·exact bA _
  ·exact gE _
 have:=B5 h8;unfold jns;omega
section
variable{ac:List Str}{A:List Ar}{ns ag:List Str}(V:Vl ac A ns ag)
def eW(ac hidden ag:List Str):List Str:=ac.filter λx=>!decide (x∈hidden) && !decide (x∈ag)
theorem DH{ac hidden ag:List Str}{ρ:List (Option Nat)}{a:E}{e:Mi.Env}(hn:ac.length<=8)(ha:bt a e=.ok (ac.map D.str))(hp:iz ρ e=[aa (W.d (af hidden)),aa (W.d (af ag)),ab]) :
 cg ρ (bt a) (.n 2) (cF (cB (m2 dH (mV 2) (mV 0))) (cB (m2 dH (mV 2) (mV 1)))) (mV 2) e=.ok (af (eW ac hidden ag)):=
 en ha (by rw[aM];omega) (by
  rw[hp];exact fj D.str D.str _ ac λx _=>⟨[aa (W.d (af hidden)),aa (W.d (af ag)),aa (W.d (.str x))],rfl,rR (bR (aA rfl rfl (m3 _ _))) λ_=>bR (aA rfl rfl (m3 _ _)),λ_=>rfl⟩)
theorem OX{ac hidden ag:List Str}{A:List Ar}(hn:ac.length<=8)(h1:∀x∈hidden++ag,x∈ac)(h2:(hidden++ag).Nodup):rG [.d (aw ac A),.d (af hidden),.d (af ag)]=.ok (.d (aW (eW ac hidden ag))):=by
 have hl:=fi h2 h1;rw[cu]at hl;unfold rG EQ;rw[rA];rw[show([aa (W.d (aw ac A)),aa (W.d (af hidden)),aa (W.d (af ag))]++cH (3-3) ab)=[aa (W.d (aw ac A)),aa (W.d (af hidden)),aa (W.d (af ag))]from rfl];have l2:m2 aY (mN d9 [(mV 1)]) (mN d9 [(mV 2)]) [aa (W.d (aw ac A)),aa (W.d (af hidden)),aa (W.d (af ag))]=.ok (af (hidden++ag)):=ou ((d5 (x:=af hidden) rfl).trans rfl) ((d5 (x:=af ag) rfl).trans rfl) (by omega)
 rw[aO (e':=[aa (W.d (aw ac A)),aa (W.d (af hidden)),aa (W.d (af ag))]) (by unfold fB;rw[call2 (bB (aA rfl rfl (iW ac A))) (bB l2) (AZ h1 h2 (by rw[cu];omega))];rfl)];rw[dy (bB ((d5 (DH (ac:=ac) (hidden:=hidden) (ag:=ag) hn (dB (aA rfl rfl (iW ac A)) rfl) rfl)).trans rfl))];rfl
include V in
theorem Jm:∃o5 o6,eY (.t [5,6]) (bv (cB (aJ lh [(wD (mV 0)),(wD (mV 3)),(wD (mV 2)),(wD (mV 5)),(wD (mV 6))]))
 (ce 4 (mN dTup [(mV 5),(mV 6),(aJ kq [(wD (mV 0)),(wD (mV 2)),(wD (mV 5)),(wD (mV 6))]),(aJ kq [(wD (mV 0)),(wD (mV 2)),(wD (mV 6)),(wD (mV 5))])]))
 bD) ((prs ns).map pairD) [aa (W.d (aw ac A)),aa (W.d H),aa (W.d (af ag)),aa (W.d (aW ns)),aa (W.d (.lst [])),ab,ab]=.ok (.nx [aa (W.d (aw ac A)),aa (W.d H),aa (W.d (af ag)),aa (W.d (aW ns)),aa (W.d (.lst (jns A ns ag))),o5,o6]):=by
 have jl:=Fu (A:=A) (ag:=ag) V.nl;obtain⟨e',f,o5,o6,he⟩:=pc (tg:=.t [5,6]) (body:=(bv (cB (aJ lh [(wD (mV 0)),(wD (mV 3)),(wD (mV 2)),(wD (mV 5)),(wD (mV 6))]))
 (ce 4 (mN dTup [(mV 5),(mV 6),(aJ kq [(wD (mV 0)),(wD (mV 2)),(wD (mV 5)),(wD (mV 6))]),(aJ kq [(wD (mV 0)),(wD (mV 2)),(wD (mV 6)),(wD (mV 5))])]))
 bD)) pairD (λp=>if joi A ns ag p.1 p.2=true then[joD A ag p]else[])
  (λacc e=>∃o5 o6:Option W,e=[aa (W.d (aw ac A)),aa (W.d H),aa (W.d (af ag)),aa (W.d (aW ns)),aa (W.d (.lst acc)),o5,o6]) (prs ns) [] [aa (W.d (aw ac A)),aa (W.d H),aa (W.d (af ag)),aa (W.d (aW ns)),aa (W.d (.lst [])),ab,ab] (by
   show 0+(jns A ns ag).length<=_;omega) ⟨ab,ab,rfl⟩
  (λp hp acc e hl ⟨o5,o6,he⟩=>by
   subst he;obtain⟨x,y⟩:=p;obtain⟨m1,m2⟩:=Ie hp;have ne:=(Kb V.nn hp).2.2;have jo:=IL V m1 m2 ne;have e1:=CF V m1 m2;have e2:=CF V m2 m1;have ct:cB (aJ lh [(wD (mV 0)),(wD (mV 3)),(wD (mV 2)),(wD (mV 5)),(wD (mV 6))]) [aa (W.d (aw ac A)),aa (W.d H),aa (W.d (af ag)),aa (W.d (aW ns)),aa (W.d (.lst acc)),aa (W.d (.str x)),aa (W.d (.str y))]=.ok (joi A ns ag x y):=bR (by
    show Rs.bind (lh [.d (aw ac A),.d (aW ns),.d (af ag),.d (.str x),.d (.str y)]) k9=_;rw[jo];rfl)
   cases hj:joi A ns ag x y with
   |false=>
    rw[hj]at ct;refine⟨[aa (W.d (aw ac A)),aa (W.d H),aa (W.d (af ag)),aa (W.d (aW ns)),aa (W.d (.lst acc)),aa (W.d (.str x)),aa (W.d (.str y))],_,rfl,(dU ct).trans rfl,aa (W.d (.str x)),aa (W.d (.str y)),?_⟩;rw[bc du,nQ]
   |true=>
    rw[hj]at ct;have hl:acc.length+(if joi A ns ag x y=true then[joD A ag (x,y)]else[]).length<=16777216:=hl;rw[hj,bb rfl,jd]at hl;refine⟨[aa (W.d (aw ac A)),aa (W.d H),aa (W.d (af ag)),aa (W.d (aW ns)),aa (W.d (.lst acc)),aa (W.d (.str x)),aa (W.d (.str y))],[aa (W.d (aw ac A)),aa (W.d H),aa (W.d (af ag)),aa (W.d (aW ns)),aa (W.d (.lst (acc++[joD A ag (x,y)]))),aa (W.d (.str x)),aa (W.d (.str y))],rfl,(fE ct).trans ?_,aa (W.d (.str x)),aa (W.d (.str y)),?_⟩
    ·rw[kC (d:=joD A ag (x,y)) (ds:=acc) ((ES rfl rfl (oR rfl rfl rfl rfl e1) (oR rfl rfl rfl rfl e2)).trans (aN (by show(4:Nat)<=_;decide))) rfl (by omega)];rfl
    ·rw[bb rfl])
 subst he;exact⟨o5,o6,f⟩
include V in
theorem HU:∃o5 o6 o7 o8,eY (.t [5,6]) (cr (bt (eI g6 (mV 3) (aa (m2 aY (mV 5) (mC (.int 1)))) ab)) (.n 7)
 (bv (cB (aJ kD [(wD (mV 0)),(wD (mV 3)),(wD (mV 6)),(wD (mV 7)),(wD (mV 2))]))
 (aD (bi 8 (aJ jc [(wD (mV 0)),(wD (mV 6)),(wD (mV 7)),(wD (mV 2))]))
 (ce 4 (mN dTup [(mV 6),(mV 7),(mV 8),(aJ jc [(wD (mV 0)),(wD (mV 7)),(wD (mV 6)),(wD (mV 2))])])))
 bD)) ((bQ ns.length).map λk=>D.tup [.int (k:Nat),.str (nth ns k)]) [aa (W.d (aw ac A)),aa (W.d H),aa (W.d (af ag)),aa (W.d (af ns)),aa (W.d (.lst [])),ab,ab,ab,ab]=.ok (.nx [aa (W.d (aw ac A)),aa (W.d H),aa (W.d (af ag)),aa (W.d (af ns)),aa (W.d (.lst (jns A ns ag))),o5,o6,o7,o8]):=by
 have h8:=V.nl;have jl:=Fu (A:=A) (ag:=ag) V.nl;obtain⟨g,hg⟩ : ∃g:Ar->List D,g=λp=>if joi A ns ag p.1 p.2=true then[joD A ag p]else[]:=⟨_,rfl⟩;have ej:jns A ns ag=(bQ ns.length).flatMap λk=>(ns.drop (k+1)).flatMap λb=>g (nth ns k,b):=by
  unfold jns prs;rw[<- hg,List.flatMap_assoc]
  congr 1
  funext k;rw[List.flatMap_map]
 rw[ej]at jl;obtain⟨e',f,o5,o6,o7,o8,he⟩:=pc (tg:=.t [5,6]) (body:=(cr (bt (eI g6 (mV 3) (aa (m2 aY (mV 5) (mC (.int 1)))) ab)) (.n 7)
 (bv (cB (aJ kD [(wD (mV 0)),(wD (mV 3)),(wD (mV 6)),(wD (mV 7)),(wD (mV 2))]))
 (aD (bi 8 (aJ jc [(wD (mV 0)),(wD (mV 6)),(wD (mV 7)),(wD (mV 2))]))
 (ce 4 (mN dTup [(mV 6),(mV 7),(mV 8),(aJ jc [(wD (mV 0)),(wD (mV 7)),(wD (mV 6)),(wD (mV 2))])])))
 bD))) (λk:Nat=>D.tup [.int (k:Nat),.str (nth ns k)]) (λk=>(ns.drop (k+1)).flatMap λb=>g (nth ns k,b))
  (λacc e=>∃o5 o6 o7 o8:Option W,e=[aa (W.d (aw ac A)),aa (W.d H),aa (W.d (af ag)),aa (W.d (af ns)),aa (W.d (.lst acc)),o5,o6,o7,o8]) (bQ ns.length) [] [aa (W.d (aw ac A)),aa (W.d H),aa (W.d (af ag)),aa (W.d (af ns)),aa (W.d (.lst [])),ab,ab,ab,ab] (by simp only[iE];omega) ⟨ab,ab,ab,ab,rfl⟩
  (λk hk acc e hl ⟨o5,o6,o7,o8,he⟩=>by
   subst he;have hk:=gD.mp hk;obtain⟨x,hx⟩ : ∃x,x=nth ns k:=⟨_,rfl⟩;have xn:x∈ns:=by rw[hx];exact oO hk
   rw[<- hx]at hl ⊢;obtain⟨e2,f2,o7',o8',he2⟩:=pc (tg:=.n 7) (body:=(bv (cB (aJ kD [(wD (mV 0)),(wD (mV 3)),(wD (mV 6)),(wD (mV 7)),(wD (mV 2))]))
 (aD (bi 8 (aJ jc [(wD (mV 0)),(wD (mV 6)),(wD (mV 7)),(wD (mV 2))]))
 (ce 4 (mN dTup [(mV 6),(mV 7),(mV 8),(aJ jc [(wD (mV 0)),(wD (mV 7)),(wD (mV 6)),(wD (mV 2))])])))
 bD)) D.str (fun b => g (x, b))
    (λacc e=>∃o7 o8:Option W,e=[aa (W.d (aw ac A)),aa (W.d H),aa (W.d (af ag)),aa (W.d (af ns)),aa (W.d (.lst acc)),aa (W.d (.int (k:Nat))),aa (W.d (.str x)),o7,o8]) (ns.drop (k+1)) acc [aa (W.d (aw ac A)),aa (W.d H),aa (W.d (af ag)),aa (W.d (af ns)),aa (W.d (.lst acc)),aa (W.d (.int (k:Nat))),aa (W.d (.str x)),o7,o8] hl ⟨o7,o8,rfl⟩
    (λy hy acc e hl ⟨o7,o8,he⟩=>by
     subst he;obtain⟨yn,ne⟩:=xm V.nn hk hy;rw[<- hx]at ne;have jo:=LN V xn yn ne;have e1:=Ao V xn yn ne;have e2:=Ao V yn xn ne.symm;have ct:∀o8,cB (aJ kD [(wD (mV 0)),(wD (mV 3)),(wD (mV 6)),(wD (mV 7)),(wD (mV 2))]) [aa (W.d (aw ac A)),aa (W.d H),aa (W.d (af ag)),aa (W.d (af ns)),aa (W.d (.lst acc)),aa (W.d (.int (k:Nat))),aa (W.d (.str x)),aa (W.d (.str y)),o8]=.ok (joi A ns ag x y):=λo8=>bR (by
      show Rs.bind (kD [.d (aw ac A),.d (af ns),.d (.str x),.d (.str y),.d (af ag)]) k9=_;rw[jo];rfl)
     have ct:=ct o8;cases hj:joi A ns ag x y with
     |false=>
      rw[hj]at ct;refine⟨[aa (W.d (aw ac A)),aa (W.d H),aa (W.d (af ag)),aa (W.d (af ns)),aa (W.d (.lst acc)),aa (W.d (.int (k:Nat))),aa (W.d (.str x)),aa (W.d (.str y)),o8],_,rfl,(dU ct).trans rfl,aa (W.d (.str y)),o8,?_⟩;rw[hg];show _=[_,_,_,_,aa (W.d (D.lst (acc++(if joi A ns ag x y=true then[joD A ag (x,y)]else[])))),_,_,_,_];rw[hj,bc du,nQ]
     |true=>
      rw[hj]at ct;have hl:acc.length+1<=16777216:=by
       have:(g (x,y)).length=1:=by rw[hg];show(if joi A ns ag x y=true then[joD A ag (x,y)]else[]).length=1;rw[hj,bb rfl];rfl
       omega
      refine⟨[aa (W.d (aw ac A)),aa (W.d H),aa (W.d (af ag)),aa (W.d (af ns)),aa (W.d (.lst acc)),aa (W.d (.int (k:Nat))),aa (W.d (.str x)),aa (W.d (.str y)),o8],[aa (W.d (aw ac A)),aa (W.d H),aa (W.d (af ag)),aa (W.d (af ns)),aa (W.d (.lst (acc++[joD A ag (x,y)]))),aa (W.d (.int (k:Nat))),aa (W.d (.str x)),aa (W.d (.str y)),aa (W.d (jp A ag x y))],rfl,(fE ct).trans ?_,aa (W.d (.str y)),aa (W.d (jp A ag x y)),?_⟩
      ·rw[aO (e':=[aa (W.d (aw ac A)),aa (W.d H),aa (W.d (af ag)),aa (W.d (af ns)),aa (W.d (.lst acc)),aa (W.d (.int (k:Nat))),aa (W.d (.str x)),aa (W.d (.str y)),aa (W.d (jp A ag x y))]) (bN (oR rfl rfl rfl rfl e1))];rw[kC (d:=joD A ag (x,y)) (ds:=acc) ((ES rfl rfl rfl (oR rfl rfl rfl rfl e2)).trans (aN (by show(4:Nat)<=_;decide))) rfl (by omega)];rfl
      ·rw[hg];show _=[_,_,_,_,aa (W.d (D.lst (acc++(if joi A ns ag x y=true then[joD A ag (x,y)]else[])))),_,_,_,_];rw[hj,bb rfl])
   subst he2;have sl:eI g6 (mV 3) (aa (m2 aY (mV 5) (mC (.int 1)))) ab [aa (W.d (aw ac A)),aa (W.d H),aa (W.d (af ag)),aa (W.d (af ns)),aa (W.d (.lst acc)),aa (W.d (.int (k:Nat))),aa (W.d (.str x)),o7,o8]=.ok (.lst ((ns.drop (k+1)).map D.str)):=by rw[CI (x:=af ns) rfl (aA (a:=mV 5) (b:=mC (.int 1)) (x:=.int (k:Nat)) (y:=.int 1) rfl rfl rfl)];show Rs.ok (D.lst (jI (ns.map D.str) (aa ((k:Nat)+1:Int)) ab))=_;rw[show((k:Nat)+1:Int)=((k+1:Nat):Int)by omega,OT,List.map_drop]
   refine⟨[aa (W.d (aw ac A)),aa (W.d H),aa (W.d (af ag)),aa (W.d (af ns)),aa (W.d (.lst acc)),aa (W.d (.int (k:Nat))),aa (W.d (.str x)),o7,o8],_,by rw[hx];rfl,(eP (dB sl rfl)).trans f2,_,_,_,_,rfl⟩)
 subst he;rw[ej];exact⟨o5,o6,o7,o8,f⟩
end
structure lG(ac:List Str)(hidden ag:List Str):Prop where
 sub:∀x∈hidden++ag,x∈ac
 nd:(hidden++ag).Nodup
theorem lG.swap{ac hidden ag:List Str}(S:lG ac hidden ag):lG ac ag hidden:=⟨λx hx=>S.sub x (bJ.mpr (bJ.mp hx).symm),List.perm_append_comm.nodup_iff.mp S.nd⟩
theorem lG.vl{ac hidden ag:List Str}{A:List Ar}(S:lG ac hidden ag)(L:Lk ac A):Vl ac A (eW ac hidden ag) ag:=by have nd:=fH.mp S.nd;refine⟨L,λx hx=>S.sub x (dI _ hx),nd.2.1,λx hx=>(dD.mp hx).1,L.nd.filter _,λx hx=>?_⟩;have:=(dD.mp hx).2;simp only[ji,nV,mR]at this;exact this.2
theorem DJ{ac hidden ag:List Str}{A:List Ar}(L:Lk ac A)(S:lG ac hidden ag):jw [.d (aw ac A),.d (af hidden),.d (af ag)]=.ok (.d (vlD A (eW ac hidden ag) ag)):=by have V:=S.vl L;obtain⟨o5,o6,f⟩:=Jm (H:=af hidden) V;unfold jw BL;rw[rA];rw[show([aa (W.d (aw ac A)),aa (W.d (af hidden)),aa (W.d (af ag))]++cH (7-3) ab)=[aa (W.d (aw ac A)),aa (W.d (af hidden)),aa (W.d (af ag)),ab,ab,ab,ab]from rfl];rw[aO (e':=[aa (W.d (aw ac A)),aa (W.d (af hidden)),aa (W.d (af ag)),aa (W.d (aW (eW ac hidden ag))),ab,ab,ab]) (bN (kh rfl rfl rfl (OX L.le S.sub S.nd)))];rw[aO (e':=[aa (W.d (aw ac A)),aa (W.d (af hidden)),aa (W.d (af ag)),aa (W.d (aW (eW ac hidden ag))),aa (W.d (.lst [])),ab,ab]) (bN (jJ _))];rw[aO ((eP (dB (yf rfl (LK V.nl)) rfl)).trans f)];rw[dy (bB (kQ (x:=aW (eW ac hidden ag)) (y:=.tup (jns A (eW ac hidden ag) ag)) rfl ((d5 (x:=.lst (jns A (eW ac hidden ag) ag)) rfl).trans rfl)))];rfl
theorem Cu{ac hidden ag:List Str}{A:List Ar}(L:Lk ac A)(S:lG ac hidden ag):lC [.d (aw ac A),.d (af hidden),.d (af ag)]=.ok (.d (vlD A (eW ac hidden ag) ag)):=by
 have V:=S.vl L;obtain⟨o5,o6,o7,o8,f⟩:=HU (H:=af hidden) V;unfold lC EB;rw[rA];rw[show([aa (W.d (aw ac A)),aa (W.d (af hidden)),aa (W.d (af ag))]++cH (9-3) ab)=[aa (W.d (aw ac A)),aa (W.d (af hidden)),aa (W.d (af ag)),ab,ab,ab,ab,ab,ab]from rfl];rw[aO (e':=[aa (W.d (aw ac A)),aa (W.d (af hidden)),aa (W.d (af ag)),aa (W.d (af (eW ac hidden ag))),ab,ab,ab,ab,ab]) (bN (DH (ac:=ac) (hidden:=hidden) (ag:=ag) L.le (dB (aA rfl rfl (iW ac A)) rfl) rfl))];rw[aO (e':=[aa (W.d (aw ac A)),aa (W.d (af hidden)),aa (W.d (af ag)),aa (W.d (af (eW ac hidden ag))),aa (W.d (.lst [])),ab,ab,ab,ab]) (bN (jJ _))];have hit:md (mV 3) [aa (W.d (aw ac A)),aa (W.d (af hidden)),aa (W.d (af ag)),aa (W.d (af (eW ac hidden ag))),aa (W.d (.lst [])),ab,ab,ab,ab]=.ok ((bQ (eW ac hidden ag).length).map λk=>D.tup [.int (k:Nat),.str (nth (eW ac hidden ag) k)]):=by rw[<- yi];rfl
 rw[aO ((eP hit).trans f)];rw[dy (bB (kQ (x:=aW (eW ac hidden ag)) (y:=.tup (jns A (eW ac hidden ag) ag)) ((d5 (x:=af (eW ac hidden ag)) rfl).trans rfl) ((d5 (x:=.lst (jns A (eW ac hidden ag) ag)) rfl).trans rfl)))];rfl
theorem MK{ac:List Str}{A:List Ar}(nd:ac.Nodup)(h8:ac.length<=8)(c:Int):∃hidden ag,oB [.d (aw ac A),.d (.int c)]=.ok (.d (.lst [af hidden,af ag]))/\lG ac hidden ag:=by
 obtain⟨w,hw0,hwk⟩ : ∃w:Int,0<w/\∀e:Mi.Env,e[1]? = aa (aa (W.d (.int c)))->m2 bd (mN bC [(mC (.int 5)),(mC (.int 4)),(mC (.int 9))]) (m2 bI (mV 1) (mC (.int 3))) e=.ok (.int w):=by
  have r0:=iL c (b:=3) (by decide);have r1:=iK c (b:=3) (by decide);have hm:∀e:Mi.Env,e[1]? = aa (aa (W.d (.int c)))->m2 bI (mV 1) (mC (.int 3)) e=.ok (.int (c%3)):=λe h1=>aA (a:=mV 1) (x:=.int c) (by unfold mV;rw[h1]) rfl ((nG _ _).trans (aN (by decide)));have hl:∀e:Mi.Env,mN bC [(mC (.int 5)),(mC (.int 4)),(mC (.int 9))] e=.ok (.lst ([5,4,9].map D.int)):=λe=>by
   show be (([5,4,9].map D.int).length<=16777216) _=_;exact aN (by simp)
  obtain⟨z,hz⟩ : ∃z,z=c%3:=⟨_,rfl⟩;rw[<- hz]at r0 r1 hm;have:z=0\/z=1\/z=2:=by omega
  rcases this with h|h|h<;>subst h
  ·exact⟨5,by decide,λe h1=>aA (hl e) (hm e h1) rfl⟩
  ·exact⟨4,by decide,λe h1=>aA (hl e) (hm e h1) rfl⟩
  ·exact⟨9,by decide,λe h1=>aA (hl e) (hm e h1) rfl⟩
 have way:∀(k:Nat) (e:Mi.Env),k<8->e[1]? = aa (aa (W.d (.int c)))->e[4]? = aa (aa (W.d (.int (k:Int))))->∃v:Int,m2 bI (m2 cW (m2 bI (m2 bY (mV 1) (m2 aY (mC (.int 48271)) (m2 bY (m2 bY (mC (.int 614)) (mV 4)) (mV 4)))) (mC (.int 2147483647))) (mC (.int 16))) (m2 bd (mN bC [(mC (.int 5)),(mC (.int 4)),(mC (.int 9))]) (m2 bI (mV 1) (mC (.int 3)))) e=.ok (.int v):=λk e hk h1 h4=>by
  have v1:mV 1 e=.ok (.int c):=by unfold mV;rw[h1]
  have v4:mV 4 e=.ok (.int (k:Int)):=by unfold mV;rw[h4]
  have k1:614*(k:Int)*(k:Int)<614*64:=by have:(k:Int)*(k:Int)<=7*7:=Int.mul_le_mul (by omega) (by omega) (by omega) (by omega);rw[Int.mul_assoc];omega
  have k2:0<=614*(k:Int)*(k:Int):=Int.mul_nonneg (by omega) (by omega);refine⟨_,aA (aA (aA (aA v1 (aA rfl (aA (aA rfl v4 ((q8 _ _).trans (aN (jL (by decide) (by decide))))) v4 ((q8 _ _).trans (aN (r6 (by omega) (by omega))))) (rQ _ _)) ((q8 _ _).trans (aN (r6 (by omega) (by omega))))) rfl ((nG _ _).trans (aN (by decide)))) rfl ((div_ii _ _).trans (aN (jT (by decide) (by decide))))) (hwk e h1) ((nG _ _).trans (aN hw0))⟩
 obtain⟨e',f,hid,hel,o4,o5,o6,he,s1,s2,n1⟩:=f7 (tg:=.t [4,5]) (body:=(aD (bi 6 (m2 bI (m2 cW (m2 bI (m2 bY (mV 1) (m2 aY (mC (.int 48271)) (m2 bY (m2 bY (mC (.int 614)) (mV 4)) (mV 4)))) (mC (.int 2147483647))) (mC (.int 16))) (m2 bd (mN bC [(mC (.int 5)),(mC (.int 4)),(mC (.int 9))]) (m2 bI (mV 1) (mC (.int 3))))))
 (aD (bv (cB (m2 b9 (mV 6) (mC (.int 0))))
 (ce 2 (mV 5))
 bD)
 (bv (cB (m2 b9 (mV 6) (mC (.int 1))))
 (ce 3 (mV 5))
 bD))))
  (λn e=>∃(hid hel:List Str) (o4 o5 o6:Option W),e=[aa (W.d (aw ac A)),aa (W.d (.int c)),aa (W.d (af hid)),aa (W.d (af hel)),o4,o5,o6]/\(∀x∈hid,x∈ac.take n)/\(∀x∈hel,x∈ac.take n)/\(hid++hel).Nodup) ((bQ ac.length).map λk=>D.tup [.int (k:Nat),.str (nth ac k)]) 0 (λn d e hi ⟨hid,hel,o4,o5,o6,he,s1,s2,n1⟩=>by
   subst he;rw[cY]at s1 s2 ⊢;rw[c9]at hi;obtain⟨k,hk,rfl⟩:=gF.mp hi;obtain⟨kl,ek⟩:=cv.mp hk;rw[sk]at kl;have ek:n=k:=by rw[yV]at ek;exact ek
   subst ek;obtain⟨x,hx⟩ : ∃x,x=nth ac n:=⟨_,rfl⟩;have gx:ac[n]? = aa x:=by rw[hx];unfold nth;rw[gj,ib kl];rfl
   have new:=wU nd gx;have ts:=tW gx;obtain⟨v,hv⟩:=way n [aa (W.d (aw ac A)),aa (W.d (.int c)),aa (W.d (af hid)),aa (W.d (af hel)),aa (W.d (.int (n:Int))),aa (W.d (.str x)),o6] (by omega) rfl rfl;have ndl:=fH.mp n1;have ll:(hid++hel).length<=8:=dr (fi n1 λy hy=>by
    rcases bJ.mp hy with z|z
    ·exact pH (s1 y z)
    ·exact pH (s2 y z)) h8
   rw[cu]at ll;have mono:∀y,y∈ac.take n->y∈ac.take (n+1):=λy hy=>by rw[ts];exact dL _ hy
   have here:x∈ac.take (n+1):=by rw[ts];exact dI _ (bX.mpr rfl)
   have c0:cB (m2 b9 (mV 6) (mC (.int 0))) [aa (W.d (aw ac A)),aa (W.d (.int c)),aa (W.d (af hid)),aa (W.d (af hel)),aa (W.d (.int (n:Int))),aa (W.d (.str x)),aa (W.d (.int v))]=.ok (decide (v=0)):=bR (aA rfl rfl (oK _ _));have c1:∀hid,cB (m2 b9 (mV 6) (mC (.int 1))) [aa (W.d (aw ac A)),aa (W.d (.int c)),aa (W.d (af hid)),aa (W.d (af hel)),aa (W.d (.int (n:Int))),aa (W.d (.str x)),aa (W.d (.int v))]=.ok (decide (v=1)):=λ_=>bR (aA rfl rfl (oK _ _));have st6:=aO (t:=(aD (bv (cB (m2 b9 (mV 6) (mC (.int 0)))) (ce 2 (mV 5)) bD) (bv (cB (m2 b9 (mV 6) (mC (.int 1)))) (ce 3 (mV 5)) bD))) (e':=[aa (W.d (aw ac A)),aa (W.d (.int c)),aa (W.d (af hid)),aa (W.d (af hel)),aa (W.d (.int (n:Int))),aa (W.d (.str x)),aa (W.d (.int v))]) (bN (i:=6) hv);by_cases v0:v=0
   ·rw[bV v0]at c0;have c1:=c1 (hid++[x]);rw[cE (by omega)]at c1;refine⟨[aa (W.d (aw ac A)),aa (W.d (.int c)),aa (W.d (af hid)),aa (W.d (af hel)),aa (W.d (.int (n:Int))),aa (W.d (.str x)),o6],[aa (W.d (aw ac A)),aa (W.d (.int c)),aa (W.d (af (hid++[x]))),aa (W.d (af hel)),aa (W.d (.int (n:Int))),aa (W.d (.str x)),aa (W.d (.int v))],by rw[hx];rfl,st6.trans ?_,hid++[x],hel,_,_,_,rfl,λy hy=>?_,λy hy=>mono y (s2 y hy),?_⟩
    ·rw[aO (e':=[aa (W.d (aw ac A)),aa (W.d (.int c)),aa (W.d (af (hid++[x]))),aa (W.d (af hel)),aa (W.d (.int (n:Int))),aa (W.d (.str x)),aa (W.d (.int v))]) ((fE c0).trans (by
      rw[kC (d:=.str x) (ds:=hid.map D.str) rfl rfl (by rw[aM];omega),<- xa];rfl))]
     exact(dU c1).trans rfl
    ·rcases bJ.mp hy with z|z
     ·exact mono y (s1 y z)
     ·rw[bX.mp z];exact here
    ·rw[pJ];refine fH.mpr ⟨ndl.1,jZ.mpr ⟨λz=>new (s2 x z),ndl.2.1⟩,λa ha b hb e=>?_⟩;rcases bH.mp hb with z|z
     ·exact new (by rw[<- z,<- e];exact s1 a ha)
     ·exact ndl.2.2 a ha b z e
   ·rw[cE v0]at c0;have c1:=c1 hid;by_cases v1:v=1
    ·rw[bV v1]at c1;refine⟨[aa (W.d (aw ac A)),aa (W.d (.int c)),aa (W.d (af hid)),aa (W.d (af hel)),aa (W.d (.int (n:Int))),aa (W.d (.str x)),o6],[aa (W.d (aw ac A)),aa (W.d (.int c)),aa (W.d (af hid)),aa (W.d (af (hel++[x]))),aa (W.d (.int (n:Int))),aa (W.d (.str x)),aa (W.d (.int v))],by rw[hx];rfl,st6.trans ?_,hid,hel++[x],_,_,_,rfl,λy hy=>mono y (s1 y hy),λy hy=>?_,?_⟩
     ·rw[aO ((dU c0).trans rfl)];refine(fE c1).trans ?_;rw[kC (d:=.str x) (ds:=hel.map D.str) rfl rfl (by rw[aM];omega),<- xa];rfl
     ·rcases bJ.mp hy with z|z
      ·exact mono y (s2 y z)
      ·rw[bX.mp z];exact here
     ·rw[<- pJ];refine fH.mpr ⟨n1,by simp,λa ha b hb e=>?_⟩;rw[bX.mp hb]at e;subst e;rcases bJ.mp ha with z|z
      ·exact new (s1 _ z)
      ·exact new (s2 _ z)
    ·rw[cE v1]at c1;refine⟨[aa (W.d (aw ac A)),aa (W.d (.int c)),aa (W.d (af hid)),aa (W.d (af hel)),aa (W.d (.int (n:Int))),aa (W.d (.str x)),o6],[aa (W.d (aw ac A)),aa (W.d (.int c)),aa (W.d (af hid)),aa (W.d (af hel)),aa (W.d (.int (n:Int))),aa (W.d (.str x)),aa (W.d (.int v))],by rw[hx];rfl,st6.trans ?_,hid,hel,_,_,_,rfl,λy hy=>mono y (s1 y hy),λy hy=>mono y (s2 y hy),n1⟩;rw[aO ((dU c0).trans rfl)];exact(dU c1).trans rfl) [aa (W.d (aw ac A)),aa (W.d (.int c)),aa (W.d (af [])),aa (W.d (af [])),ab,ab,ab] ⟨[],[],ab,ab,ab,rfl,(by intro x h;cases h),(by intro x h;cases h),(by simp)⟩
 subst he;obtain⟨hd,hif,hpe⟩ : ∃hd:List Str,(bv (cB (m2 b9 (m2 bI (m2 cW (mV 1) (mC (.int 3))) (mC (.int 2))) (mC (.int 1)))) (w5 2) bD) [aa (W.d (aw ac A)),aa (W.d (.int c)),aa (W.d (af hid)),aa (W.d (af hel)),o4,o5,o6]=.ok (.nx [aa (W.d (aw ac A)),aa (W.d (.int c)),aa (W.d (af hd)),aa (W.d (af hel)),o4,o5,o6])/\hd.Perm hid:=by
  have ct:cB (m2 b9 (m2 bI (m2 cW (mV 1) (mC (.int 3))) (mC (.int 2))) (mC (.int 1))) [aa (W.d (aw ac A)),aa (W.d (.int c)),aa (W.d (af hid)),aa (W.d (af hel)),o4,o5,o6]=.ok (decide (c/3%2=1)):=bR (aA (aA (aA rfl rfl ((div_ii _ _).trans (aN (jT (by decide) (by decide))))) rfl ((nG _ _).trans (aN (by decide)))) rfl (oK _ _))
  by_cases h:c/3%2=1
  ·rw[bV h]at ct;refine⟨hid.reverse,(fE ct).trans ?_,List.reverse_perm _⟩;show Rs.ok (Out.nx [_,_,aa (W.d (.lst (hid.map D.str).reverse)),_,_,_,_])=_;unfold af;rw[List.map_reverse]
  ·rw[cE h]at ct;exact⟨hid,(dU ct).trans rfl,List.Perm.refl _⟩
 refine⟨hd,hel,?_,λx hx=>?_,(hpe.append_right hel).nodup_iff.mpr n1⟩
 ·unfold oB EA;rw[jW];rw[show([aa (W.d (aw ac A)),aa (W.d (.int c))]++cH (7-2) ab)=[aa (W.d (aw ac A)),aa (W.d (.int c)),ab,ab,ab,ab,ab]from rfl];rw[aO (e':=[aa (W.d (aw ac A)),aa (W.d (.int c)),aa (W.d (af [])),ab,ab,ab,ab]) (bN (jJ _))];rw[aO (e':=[aa (W.d (aw ac A)),aa (W.d (.int c)),aa (W.d (af [])),aa (W.d (af [])),ab,ab,ab]) (bN (jJ _))];have hit:md (m2 bd (mV 0) (mC (.int 0))) [aa (W.d (aw ac A)),aa (W.d (.int c)),aa (W.d (af [])),aa (W.d (af [])),ab,ab,ab]=.ok ((bQ ac.length).map λk=>D.tup [.int (k:Nat),.str (nth ac k)]):=by
   rw[<- yi];unfold md;rw[aA rfl rfl (iW ac A)];rfl
  rw[aO ((eP hit).trans f),aO hif];have rt:br (wD (mN bC [(mV 2),(mV 3)])) [aa (W.d (aw ac A)),aa (W.d (.int c)),aa (W.d (af hd)),aa (W.d (af hel)),o4,o5,o6]=.ok (.rt (.d (.lst [af hd,af hel]))):=dy (bB (rV rfl rfl));unfold q0;rw[rt];rfl
 ·rcases bJ.mp hx with z|z
  ·exact pH (s1 x (hpe.mem_iff.mp z))
  ·exact pH (s2 x z)
theorem Mv(n:Nat)(A:List Ar)(ag:List Str)(p:Ar):dF (n+2) [.d (joD A ag p),.d (joD A ag p)]=.ok (.d (.bl true)):=
 uk (F:=dF (n+1)) false [.str p.1,.str p.2,jp A ag p.1 p.2,jp A ag p.2 p.1] λd hd=>by
  unfold jp at hd;simp only[bH,sn,or_false]at hd;rcases hd with rfl|rfl|rfl|rfl<;>exact E8 n _
theorem DF(A:List Ar)(ns ag:List Str):dF 4 [.d (vlD A ns ag),.d (vlD A ns ag)]=.ok (.d (.bl true)):=
 uk (F:=dF 3) false [aW ns,.tup (jns A ns ag)] λd hd=>by
  rcases bH.mp hd with rfl|hd
  ·exact NB 1 ns
  ·rw[bX.mp hd];exact uk (F:=dF 2) false (jns A ns ag) λd hd=>by
    obtain⟨p,_,h⟩:=pL.mp hd;split at h
    ·rw[bX.mp h];exact Mv 0 A ag p
    ·cases h
theorem OG{ds:List D}(h:∀d∈ds,i5 d=true):fL ds=true:=by
 induction ds with
 |nil=>rfl
 |cons x r ih=>rw[fL,h x dj,ih λd hd=>h d (dJ _ hd)];rfl
theorem Fa(A:List Ar)(ns ag:List Str):i5 (vlD A ns ag)=true:=by
 show(i5 (aW ns)&&(fL (jns A ns ag)&&true))=true;rw[show i5 (aW ns)=fL (ns.map D.str)from rfl,E1,OG λd hd=>?_]
 ·rfl
 ·obtain⟨p,_,h⟩:=pL.mp hd;split at h
  ·rw[bX.mp h];rfl
  ·cases h
theorem Oo(a b:List Str):fQ (.lst [af a,af b]) (.lst [af a,af b])=.ok (.bl false):=by
 unfold fQ;rw[aN (by
  rw[xT];show dw [D.lst (a.map D.str),D.lst (b.map D.str)]+1<=_;rw[xH,xH,xT,xT,Lg,o0,o0];omega),bF,gR,gR,gR]
 show Rs.ok (D.bl (!(bF (.lst (a.map D.str)) (.lst (a.map D.str))&&(bF (.lst (b.map D.str)) (.lst (b.map D.str))&&true))))=_;rw[bF,bF,xL,xL,bV rfl,bV rfl];rfl
theorem FE(ns:List Int)(hl:ns.length<=63):xg [.d (.lst (ns.map D.int))]=.ok (.d (.bl true)):=by
 obtain⟨ac,A0,r,sJ,IN,cw,mw,hm8,hnm⟩:=M1 ns 6 (by decide) (by decide);rw[show((6:Nat):Int)=6 from rfl]at sJ;have hw:∀x∈ac,qo [.d (.str x)]=.ok (.d (.bl true)):=λx hx=>by
  rw[hnm]at hx;obtain⟨l,hl,rfl⟩:=cq.mp hx;exact OS (fT cw mw hm8 l hl)
 have G:=IN.gd hw;generalize A0.map (arrOf ac)=A at sJ G;have L:=G.lk;obtain⟨c,hc⟩:=oF ns 33 (by decide);rw[show((33:Nat):Int)=33 from rfl]at hc;obtain⟨hid,hel,hsp,S⟩:=MK (A:=A) G.nd G.le (c/2);have v1:=DJ L S;have v2:=Cu L S;have v3:=DJ L S.swap;have v4:=Cu L S.swap;generalize hV:vlD A (eW ac hid hel) hel=V at v1 v2;generalize hV2:vlD A (eW ac hel hid) hid=V2 at v3 v4;have av:dF 4 [.d V,.d V]=.ok (.d (.bl true)):=by rw[<- hV];exact DF _ _ _
 have av2:dF 4 [.d V2,.d V2]=.ok (.d (.bl true)):=by rw[<- hV2];exact DF _ _ _
 have iv:i5 V=true:=by rw[<- hV];exact Fa _ _ _
 have iv2:i5 V2=true:=by rw[<- hV2];exact Fa _ _ _
 obtain⟨Ls,hLs⟩ : ∃Ls,Ls=D.lst (ns.map D.int):=⟨_,rfl⟩;rw[<- hLs]at sJ hc ⊢;obtain⟨N,hN⟩ : ∃N,N=aw ac A:=⟨_,rfl⟩;rw[<- hN]at sJ hsp v1 v2 v3 v4;unfold xg AB;rw[uI];rw[show([aa (W.d Ls)]++cH (9-1) ab)=[aa (W.d Ls),ab,ab,ab,ab,ab,ab,ab,ab]from rfl];rw[aO (e':=[aa (W.d Ls),aa (W.d N),ab,ab,ab,ab,ab,ab,ab]) (bN (call2 rfl rfl sJ))];rw[aO (e':=[aa (W.d Ls),aa (W.d N),aa (W.d (.int c)),ab,ab,ab,ab,ab,ab]) (bN (call2 rfl rfl hc))];have s3:uR [3,4] (aJ oB [(wD (mV 1)),(wD (m2 cW (mV 2) (mC (.int 2))))]) [aa (W.d Ls),aa (W.d N),aa (W.d (.int c)),ab,ab,ab,ab,ab,ab]=.ok (.nx [aa (W.d Ls),aa (W.d N),aa (W.d (.int c)),aa (W.d (af hid)),aa (W.d (af hel)),ab,ab,ab,ab]):=by unfold uR;rw[call2 (x:=.d N) (y:=.d (.int (c/2))) rfl (bB (aA rfl rfl ((div_ii _ _).trans (aN (jT (by decide) (by decide)))))) hsp];rfl
 rw[aO s3];have nest:∀(rr:SN),sS 5 (mN d9 [(mV 3)]) (mN d9 [(mV 4)]) rr [aa (W.d Ls),aa (W.d N),aa (W.d (.int c)),aa (W.d (af hid)),aa (W.d (af hel)),ab,ab,ab,ab]=rr (hid.map D.str) (hel.map D.str) [aa (W.d Ls),aa (W.d N),aa (W.d (.int c)),aa (W.d (af hid)),aa (W.d (af hel)),ab,ab,ab,ab]:=λrr=>by
  unfold sS;rw[show mN d9 [(mV 3)] [aa (W.d Ls),aa (W.d N),aa (W.d (.int c)),aa (W.d (af hid)),aa (W.d (af hel)),ab,ab,ab,ab]=.ok (af hid)from(d5 (x:=af hid) rfl).trans rfl,aL];rw[show mN d9 [(mV 4)] [aa (W.d Ls),aa (W.d N),aa (W.d (.int c)),aa (W.d (af hid)),aa (W.d (af hel)),ab,ab,ab,ab]=.ok (af hel)from(d5 (x:=af hel) rfl).trans rfl,aL];exact aN (by show 5<9;decide)
 rw[nest];have zY:∀(j:Nat) (a:E) (rr:SN) (ra rb:List D) (e:Mi.Env) (d:D),a (jC 5 ra rb e)=.ok d->i5 d=true->oJ 5 j a rr ra rb e=rr ra rb (e.set j (aa (.d d))):=λj a rr ra rb e d h hi=>by
  unfold oJ;rw[h,aL];exact aN hi
 have G2:∀(ct:C) (rr:SN) (ra rb:List D) (e:Mi.Env),ct (jC 5 ra rb e)=.ok false->rZ 5 ct false rr ra rb e=rr ra rb e:=λct rr ra rb e h=>by
  unfold rZ;rw[h,aL];rfl
 rw[zY 6 _ _ _ _ _ V (kh (f:=jw) (x:=.d N) (y:=.d (af hid)) (z:=.d (af hel)) rfl (bB (aA (a:=mV 5) (b:=mC (.int 0)) (x:=.lst [af hid,af hel]) rfl rfl rfl)) (bB (aA (a:=mV 5) (b:=mC (.int 1)) (x:=.lst [af hid,af hel]) rfl rfl rfl)) v1) iv];rw[zY 7 _ _ _ _ _ V (kh (f:=lC) (x:=.d N) (y:=.d (af hid)) (z:=.d (af hel)) rfl rfl rfl v2) iv];rw[G2 _ _ _ _ _ (LS (p:=false) (q:=false) (Bu (p:=true) (bR (call2 (f:=dF 4) (x:=.d V) (y:=.d V) rfl rfl av))) λ_=>bR (aA (x:=.lst [af hid,af hel]) (y:=.lst [af hid,af hel]) rfl (rV rfl rfl) (Oo hid hel)))];have last:∀o8:Option W,sZ (tI (tL 5 (br (wD (k8 (aJ (dF 4) [(wD (mV 6)),(wD (mV 7))]) (aJ (dF 4) [(wD (aJ jw [(wD (mV 1)),(wD (mV 3)),(wD (mV 4))])),(wD (mV 7))])))))) (hid.map D.str) (hel.map D.str) [aa (W.d Ls),aa (W.d N),aa (W.d (.int c)),aa (W.d (af hid)),aa (W.d (af hel)),ab,aa (W.d V),aa (W.d V),o8]=.ok (.rt (.d (.bl true))):=λo8=>by
  show br _ [aa (W.d Ls),aa (W.d N),aa (W.d (.int c)),aa (W.d (af hid)),aa (W.d (af hel)),aa (W.d (.lst [.lst [],.lst []])),aa (W.d V),aa (W.d V),o8]=_;exact dy (bB (Ct (p:=true) (q:=true) (call2 rfl rfl av) λ_=>call2 (bB (kh rfl rfl rfl v1)) rfl av))
 have ct:cB (m2 b9 (m2 bI (mV 2) (mC (.int 2))) (mC (.int 1))) (jC 5 (hid.map D.str) (hel.map D.str) [aa (W.d Ls),aa (W.d N),aa (W.d (.int c)),aa (W.d (af hid)),aa (W.d (af hel)),ab,aa (W.d V),aa (W.d V),ab])=.ok (decide (c%2=1)):=bR (aA (aA rfl rfl ((nG _ _).trans (aN (by decide)))) rfl (oK _ _))
 show Rs.bind (sY 5 _ _ _ (hid.map D.str) (hel.map D.str) [aa (W.d Ls),aa (W.d N),aa (W.d (.int c)),aa (W.d (af hid)),aa (W.d (af hel)),ab,aa (W.d V),aa (W.d V),ab]) iU=_;unfold sY;rw[ct,aL];by_cases h2:c%2=1
 ·rw[bV h2,bb rfl];rw[zY 8 _ _ _ _ _ V2 (kh (f:=jw) (x:=.d N) (y:=.d (af hel)) (z:=.d (af hid)) rfl rfl rfl v3) iv2];rw[G2 _ _ _ _ _ (Bu (p:=true) (bR (call2 (f:=dF 4) (x:=.d V2) (y:=.d V2) rfl (bB (kh (f:=lC) (x:=.d N) (y:=.d (af hel)) (z:=.d (af hid)) rfl rfl rfl v4)) av2)))];exact congrArg (λr=>Rs.bind r iU) (last (aa (W.d V2)))
 ·rw[cE h2,bc du];exact congrArg (λr=>Rs.bind r iU) (last ab)
end Mr
namespace n6
open PySem L2 PyProof.Rows
abbrev cN:ah:=117
abbrev tN:ah:=113
instance Pk:A.bM:=⟨[(tN,uA "spots_before")],λc=>0⟩
theorem walk{l:za}{q:bh}{loose:List Str}{XP:(Str->Option ai)->aK->Prop}{YP:a8->aK->Prop}{d:DefRec}{K:Params->aG}(hn:l.most=aa 63)(hdf:d.params.defaults=[])
 (hY:∀(w:a8) (h:aK),YP w h->(K w.params).In h) (hL:∀w:a8,Cw (K w.params)=true) (hK:∀w:a8,(K w.params).lookup tN=ab) (hrec:∃d,(recsOf q).find? (λe=>e.name==("spots_before" : Str))=aa d) (htab:∀w:a8,PySem.W.tabIn (K w.params) "spots_before" = aa (cN,tN))
 (F:∀(w:a8) (mg:Str->Option ai) (fa:ah) (h:aK),(K w.params).In h->h.Ns mainGlobals mg->mg d.name=aa (.ref fa) ->
  ∃fd:bx,(∀(s:ap) (u:ai),lw s fd ⟨[u],[]⟩ [("_law_script",u)])/\∀base:aK,(K w.params).In base->base.Ns mainGlobals mg->BM mg base->iG base cN tN->bu l.prog w (K w.params) mg base aB 14 fa fd ["_law_script"] A.sg) :
 PySem.W.WalkO q loose XP YP l.row.toRowW d [] (λf vs=>zg f vs):=
 L2.Mj (x := "_law_script") (dn := "spots_before") (qn:=uA "spots_before") (k:=14) rfl hn hdf ⟨rfl,by decide,by decide⟩ hY (λw a o e c=>La (hL w) e c) hK hrec htab F
theorem KU{K:aG}{h:aK}{mg:Str->Option ai}(X:K.In h)(G:h.Ns mainGlobals mg)(zZ:fb K mainGlobals "len" = aa ab)(z0:fb K mainGlobals "range" = aa ab)(z5:fb K mainGlobals "max" = aa ab)(z6:fb K mainGlobals "min" = aa ab)(z7:fb K mainGlobals "tuple" = aa ab)(z8:fb K mainGlobals "list" = aa ab)(z9:fb K mainGlobals "isinstance" = aa ab)(Aa:fb K mainGlobals "all" = aa ab)(Ab:fb K mainGlobals "any" = aa ab)(Ac:fb K mainGlobals "bool" = aa ab)(Ad:fb K mainGlobals "str" = aa ab)(Ae:fb K mainGlobals "int" = aa ab)(Af:fb K mainGlobals "zip" = aa ab)(Ag:fb K mainGlobals "enumerate" = aa ab)(Ah:fb K mainGlobals "sorted" = aa ab)(Ai:fb K mainGlobals "reversed" = aa ab)(Aj:fb K mainGlobals "set" = aa ab){G3:Tok}(Ak:fb K mainGlobals "TAIL" = aa (aa (.str "tail" G3))){G4:Tok}(Al:fb K mainGlobals "HEAD" = aa (aa (.str "head" G4))):Txt mg:=⟨gm X G zZ,gm X G z0,gm X G z5,gm X G z6,gm X G z7,gm X G z8,gm X G z9,gm X G Aa,gm X G Ab,gm X G Ac,gm X G Ad,gm X G Ae,gm X G Af,gm X G Ag,gm X G Ah,gm X G Ai,gm X G Aj,⟨G3,u9 X G Ak⟩,⟨G4,u9 X G Al⟩⟩
theorem J7{l:za}{w:a8}{K:aG}{mg:Str->Option ai}{fa:ah}(hfa:mg "law" = aa (.ref fa))(T:Txt mg)(G5:bW K mg "pairs_of" xE ["names"])(G6:bW K mg "refuse_strangers" vY ["names","asked"])(G7:bW K mg "refuse_repeats" yH ["asked"])(G8:bW K mg "refuse_wrong_asks" xW ["names","asked"])(G9:bW K mg "names_left" xc ["net","hidden","held"])(Hb:bW K mg "names_along" wf ["names","steps","name"])(Hc:bW K mg "names_below" yh ["net","name"])(He:bW K mg "has_held_below" vT ["net","name","held"])(Hf:bW K mg "heirs_of" wa ["net","name"])(Hg:bW K mg "heir_spots" xS ["net","name"])(Hj:bW K mg "elders_of" yM ["net","name"])(Hk:bW K mg "elder_spots" vZ ["net","name"])(Hl:bW K mg "spots_from" yL ["net","spot","held"])(Hm:bW K mg "spots_walked" wM ["starts","onward"])(Am:sV K mg "spots_before" wu ["net","one","held"] cN)(Hq:bW K mg "spots_of" we ["name","before"])(Hr:bW K mg "are_parted" wx ["net","one","other","held"])(Ht:bW K mg "names_above" yC ["net","name"])(Hu:bW K mg "names_over" xb ["net","some"])(Hw:bW K mg "list_between" wm ["net","names","held","one","other"])(Hx:bW K mg "are_joined" ya ["net","names","held","one","other"])(Hy:bW K mg "end_at" yG ["net","held","name","beyond"])(Hz:bW K mg "veil_of" yF ["net","hidden","held"])(HA:bW K mg "_law_cell" x5 ["_law_script","_law_k"])(HB:bW K mg "_law_words" yp ["_law_cell_here","_law_many"])(HC:bW K mg "_law_ranks" yt ["_law_cell_here","_law_many"])(HD:bW K mg "_law_net" xf ["_law_script","_law_most"])(HE:bW K mg "_law_alike" xX ["_law_found","_law_due"])(HF:bW K mg "_law_split" vO ["_law_net_here","_law_cell_here"])(HG:bW K mg "_law_high" wt ["_law_net_here","_law_some"])(HH:bW K mg "_law_parted" wG ["_law_net_here","_law_one","_law_other","_law_held"])(HI:bW K mg "_law_lists" yE ["_law_some"])(HJ:bW K mg "_law_joined" xN ["_law_net_here","_law_names","_law_one","_law_other","_law_held"])(HK:bW K mg "_law_end" xQ ["_law_net_here","_law_one","_law_other","_law_held"])(HL:bW K mg "_law_veil" wJ ["_law_net_here","_law_hidden","_law_held"])(HM:bW K mg "law" yl ["_law_script"]) :
 ∃fd:bx,(∀(s:ap) (u:ai),lw s fd ⟨[u],[]⟩ [("_law_script",u)])/\∀base:aK,K.In base->base.Ns mainGlobals mg->BM mg base->iG base cN tN->bu l.prog w K mg base aB 14 fa fd ["_law_script"] A.sg:=
 bW.Ji HM hfa λbase kb nb hB hC f fd F=>by
  have zM:=G5.cal (P:=l.prog) (w:=w) (base:=base) (CX:=aB) λf fd F=>JO F T;have gY:=G6.cal (P:=l.prog) (w:=w) (base:=base) (CX:=aB) λf fd F=>Iq F T;have zA:=G7.cal (P:=l.prog) (w:=w) (base:=base) (CX:=aB) λf fd F=>MQ F T;have qa:=G8.cal (P:=l.prog) (w:=w) (base:=base) (CX:=aB) λf fd F=>Nv F T gY zA;have zN:=G9.cal (P:=l.prog) (w:=w) (base:=base) (CX:=aB) λf fd F=>OQ F T qa;have qb:=Hb.cal (P:=l.prog) (w:=w) (base:=base) (CX:=aB) λf fd F=>MJ F T;have zB:=Hc.cal (P:=l.prog) (w:=w) (base:=base) (CX:=aB) λf fd F=>LP F T gY qb;have zE:=He.cal (P:=l.prog) (w:=w) (base:=base) (CX:=aB) λf fd F=>OM F T zB;have zC:=Hf.cal (P:=l.prog) (w:=w) (base:=base) (CX:=aB) λf fd F=>LC F T gY;have qc:=Hg.cal (P:=l.prog) (w:=w) (base:=base) (CX:=aB) λf fd F=>Je F T zC;have zD:=Hj.cal (P:=l.prog) (w:=w) (base:=base) (CX:=aB) λf fd F=>JS F T gY;have qd:=Hk.cal (P:=l.prog) (w:=w) (base:=base) (CX:=aB) λf fd F=>Nd F T zD;have zG:=Hl.cal (P:=l.prog) (w:=w) (base:=base) (CX:=aB) λf fd F=>HS F T zE qc qd;have zF:=Hm.Od l.prog w base λf fd F=>N5 F T;have zH:=Am.cal (P:=l.prog) (w:=w) (base:=base) (CX:=aB) λf fd F=>Nq F T hB hC (bX.mpr rfl) zF zG qc qd;have zI:=Hq.cal (P:=l.prog) (w:=w) (base:=base) (CX:=aB) λf fd F=>Ka F T;have zK:=Hr.cal (P:=l.prog) (w:=w) (base:=base) (CX:=aB) λf fd F=>OY F T qa zH zI;have zJ:=Ht.cal (P:=l.prog) (w:=w) (base:=base) (CX:=aB) λf fd F=>LH F T gY qb;have qe:=Hu.cal (P:=l.prog) (w:=w) (base:=base) (CX:=aB) λf fd F=>NX F T zJ;have zL:=Hw.cal (P:=l.prog) (w:=w) (base:=base) (CX:=aB) λf fd F=>N4 F T qe;have zP:=Hx.cal (P:=l.prog) (w:=w) (base:=base) (CX:=aB) λf fd F=>Lb F T zK zL;have vK:=Hy.cal (P:=l.prog) (w:=w) (base:=base) (CX:=aB) λf fd F=>OP F T qe;have sI:=Hz.cal (P:=l.prog) (w:=w) (base:=base) (CX:=aB) λf fd F=>Ms F T zM zN zP vK;have kN:=HA.cal (P:=l.prog) (w:=w) (base:=base) (CX:=aB) λf fd F=>Oh F T;have zQ:=HB.cal (P:=l.prog) (w:=w) (base:=base) (CX:=aB) λf fd F=>LQ F T;have zR:=HC.cal (P:=l.prog) (w:=w) (base:=base) (CX:=aB) λf fd F=>IQ F T;have zV:=HD.cal (P:=l.prog) (w:=w) (base:=base) (CX:=aB) λf fd F=>Lc F T kN zQ zR;have kO:=L7 (P:=l.prog) (w:=w) (base:=base) (CX:=aB) HE λf fd F self=>AM F T self;have zW:=HF.cal (P:=l.prog) (w:=w) (base:=base) (CX:=aB) λf fd F=>KL F T;have qg:=HG.cal (P:=l.prog) (w:=w) (base:=base) (CX:=aB) λf fd F=>Nk F T;have zS:=HH.cal (P:=l.prog) (w:=w) (base:=base) (CX:=aB) λf fd F=>Ly F T qg;have zT:=HI.cal (P:=l.prog) (w:=w) (base:=base) (CX:=aB) λf fd F=>ID F T;have zU:=HJ.cal (P:=l.prog) (w:=w) (base:=base) (CX:=aB) λf fd F=>K1 F T zS zT;have vL:=HK.cal (P:=l.prog) (w:=w) (base:=base) (CX:=aB) λf fd F=>MB F T qg;have vM:=HL.cal (P:=l.prog) (w:=w) (base:=base) (CX:=aB) λf fd F=>MX F T zU vL;exact A.KA (IZ F T sI kN zV kO zW vM) λns hl=>by first|exact Mr.FE ns|exact Mr.FE ns hl
end n6
namespace PySem.W.Fast
def tw1441644082862194688:=0
def tw259247210035718176:=0
def tw9923465597196173408:=0
def tw9470549858460879968:=0
def tw5724406236704117888:=0
def tw10676815336042473600:=0
def tw795211344922688672:=0
def tw3921637801113893184:=0
def tw15837310654125238624:=0
def tw11536060806511463808:=0
def tw9507434920742516160:=0
def tw947381682840104576:=0
def tw2396731992754660032:=0
def tw8982868367474625344:=0
def tw4150865001437497184:=0
def tw235247927887281120:=0
def tw949539425629860129:=0
def tw15467875039263948353:=0
def tw12661938459539578561:=0
def tw9320343493100236577:=0
def tw10942353279807556385:=0
def tw18171595897994781601:=0
def tw8401249866574608418:=0
def tw14494196076907475362:=0
def tw17159336602111065698:=0
def tw297658681793100386:=0
def tw1644294848316572290:=0
def tw14998953021758634690:=0
def tw975146074305897218:=0
def tw17054311969287852866:=0
def tw13424641095121732418:=0
def tw804095098986921890:=0
def tw18375561686790689730:=0
def tw14724095920544433090:=0
def tw15372353683808991235:=0
def tw13709176394306953379:=0
def tw12357045679273517571:=0
def tw18334749289704870499:=0
def tw2644488025811840835:=0
def tw12804828430447552355:=0
def tw4354737258155518980:=0
def tw17778576331327505412:=0
def tw5274352100046412036:=0
def tw5209549571442331588:=0
def tw2445284306424893477:=0
def tw2606673632960351269:=0
def tw11887083717333952581:=0
def tw6976825996140760229:=0
def tw13475760549259586053:=0
def tw8309650902330557989:=0
def tw4296108717174928997:=0
def tw7767262945392374469:=0
def tw71325926962987717:=0
def tw16500231239362401189:=0
def tw17660339142378723269:=0
def tw6796823812507850725:=0
def tw6584387332135104485:=0
def tw1097420186097558726:=0
def tw18049413096720769318:=0
def tw391437634404181414:=0
def tw10100586577945992774:=0
def tw4151438012049176198:=0
def tw7491076172025678790:=0
def tw2654659413246316775:=0
def tw5727034862687239559:=0
def tw13118841908127979111:=0
def tw5345948943714217863:=0
def tw9106271086560800743:=0
def tw10486917727605141479:=0
def tw4686227832435485896:=0
def tw132445032707150184:=0
def tw6085169486942722440:=0
def tw10817558167042778504:=0
def tw7373489602958949960:=0
def tw12270550002243874376:=0
def tw18240310375309504200:=0
def tw6360321481220364072:=0
def tw3644806720910354344:=0
def tw9860295633035066441:=0
def tw10475264575081543785:=0
def tw16980564475900686569:=0
def tw7951117045181417769:=0
def tw9978673368599179625:=0
def tw5113732132596922057:=0
def tw10015008851709571881:=0
def tw3598342964625840522:=0
def tw7699916545031905738:=0
def tw12366712185588261546:=0
def tw12697948332755522347:=0
def tw14138198928756445035:=0
def tw3080825815043564652:=0
def tw8835166957897432748:=0
def tw5707247382598151852:=0
def tw18309805314227148524:=0
def tw11413993534581147757:=0
def tw14750199397747460397:=0
def tw10127280244396271053:=0
def tw7195915851990996653:=0
def tw16466338284609776333:=0
def tw13591096965419107117:=0
def tw17775722810332951405:=0
def tw12583234792331115598:=0
def tw9477477460261735534:=0
def tw14678203993451076814:=0
def tw15975988001806187758:=0
def tw1382523338242336206:=0
def tw13434788074700123630:=0
def tw1508284515646250606:=0
def tw1475358568163246766:=0
def tw2744972153880425294:=0
def tw5783272997029052398:=0
def tw16222204705169335599:=0
def tw6627077875347964431:=0
def tw12905806279502725711:=0
def tw14451176263295982191:=0
def tw3655189456987146927:=0
def tw8768311788472737743:=0
def tw10818401964876755951:=0
def tw1814974472062300176:=0
def tw8835435232683660304:=0
def tw14024491045906033968:=0
def tw13327554483089800528:=0
def tw13644376077895384656:=0
def tw1459402108712429488:=0
def tw11831259066892100657:=0
def tw15682379726396250257:=0
def tw1064642561967859953:=0
def tw959265577710316849:=0
def tw17556264258533990801:=0
def tw10937915962754588113:=0
def tw4927995563265001073:=0
def tw17152136149865529041:=0
def tw4566312604477912881:=0
def tw5400271989319089009:=0
def tw3608831676400634034:=0
def tw4338402046282432978:=0
def tw12111234642449868338:=0
def tw18267237646474362514:=0
def tw8901033846644909874:=0
def tw9171754798422044723:=0
def tw1483040928201942163:=0
def tw15540111501271090483:=0
def tw13005791819194751411:=0
def tw5273668582942121491:=0
def tw17288852948573525555:=0
def tw3781575004975257171:=0
def tw9487303053547324275:=0
def tw11082326222743416755:=0
def tw11320356521845766067:=0
def tw3483935655816229875:=0
def tw11047183490020355124:=0
def tw16005145109726234708:=0
def tw18210901626508058900:=0
def tw12701494939167604084:=0
def tw16458287291832090036:=0
def tw16002430205205759412:=0
def tw7397843281696446068:=0
def tw3802263756675654260:=0
def tw12137849795066116884:=0
def tw5154031377898921844:=0
def tw708417478894467060:=0
def tw4756261557827565621:=0
def tw16776561321737555029:=0
def tw13960614224852404533:=0
def tw15482661709767291221:=0
def tw8141417644934404501:=0
def tw14946144442800441781:=0
def tw12188093883980330485:=0
def tw191446946252623477:=0
def tw11969121783763559125:=0
def tw3028479504464009077:=0
def tw14766179558761174005:=0
def tw10464097997013198837:=0
def tw13689105250002731062:=0
def tw2953678904961004886:=0
def tw729885012160517558:=0
def tw14399194773276238294:=0
def tw15311205438055940950:=0
def tw4923228728173320150:=0
def tw17560875179863457750:=0
def tw12927574169224854647:=0
def tw17056550068323335351:=0
def tw11480971697171144887:=0
def tw17853409798783752567:=0
def tw11620267766672682391:=0
def tw5684385563024527831:=0
def tw9024474445807101623:=0
def tw14999682181687814903:=0
def tw620651699094285175:=0
def tw1406678979573446744:=0
def tw661812085233802392:=0
def tw14387315906787039512:=0
def tw17672618307398424952:=0
def tw8478207549098715576:=0
def tw18099770689074552376:=0
def tw18070641973759871736:=0
def tw428568977284483832:=0
def tw4501568368872035353:=0
def tw8787515495313060985:=0
def tw14925065150702186009:=0
def tw1040674385782862585:=0
def tw9961437884155172633:=0
def tw7133100389201455961:=0
def tw10601960024111617050:=0
def tw1585633609313657882:=0
def tw17256555728849567866:=0
def tw7826543787010906266:=0
def tw17354117162947945946:=0
def tw18269008569527468570:=0
def tw17933174014211695290:=0
def tw3250637266911770362:=0
def tw11492338096657409914:=0
def tw2253533734145430779:=0
def tw9880144685228892475:=0
def tw1304828938694396251:=0
def tw14534333366044804571:=0
def tw4090789516160005595:=0
def tw1724374286394540763:=0
def tw10541635047554230043:=0
def tw15578277737733519259:=0
def tw16708962222005717724:=0
def tw15352210263921974653:=0
def tw14921348663759917533:=0
def tw13074263957665326589:=0
def tw8435165585900666461:=0
def tw2377299051221955485:=0
def tw11489582291116441533:=0
def tw11342365701029346301:=0
def tw5801620091372690429:=0
def tw17586566715358874686:=0
def tw10147759889789863998:=0
def tw16554432922524646654:=0
def tw10771319933567384990:=0
def tw9125707188467385854:=0
def tw1532010773332340414:=0
def tw3507076463874028286:=0
def tw15628381878167413566:=0
def tw16452217988551721055:=0
def tw4838587983390946495:=0
def tw7849003314620315999:=0
def tw8241510457126552063:=0
def tw5826150767009346271:=0
def tw13728201929510152959:=0
def tw18344506151778169823:=0
end PySem.W.Fast
open PySem PySem.W PyProof.Rows
set_option maxRecDepth 100000 in
set_option maxHeartbeats 0 in
theorem PySem.Challenge.cw_arrowfind_k70_veils_joined_holds : PySem.Challenge.rw_arrowfind_k70_veils_joined.Holds := by
 w_on;o_law;k_head;(case hw=>w_witness2)
 k_fill
 refine n6.walk (l:=PySem.Challenge.rw_arrowfind_k70_veils_joined) rfl rfl (λw h Y=>PySem.W.km_in_of Y) ?L ?K ⟨_,rfl⟩ ?H ?F
 case L=>
  intro w
  kernel_rfl
 case K=>
  intro w
  kernel_rfl
 case H=>
  intro w
  kernel_rfl
 case F=>
  intro w mg fa h KX G hmg
  refine' n6.J7 hmg ?T ?G5 ?G6 ?G7 ?G8 ?G9 ?Hb ?Hc ?He ?Hf ?Hg ?Hj ?Hk ?Hl ?Hm ?Am ?Hq ?Hr ?Ht ?Hu ?Hw ?Hx ?Hy ?Hz ?HA ?HB ?HC ?HD ?HE ?HF ?HG ?HH ?HI ?HJ ?HK ?HL ?HM
  case T=>
   refine' n6.KU KX G ?zZ ?z0 ?z5 ?z6 ?z7 ?z8 ?z9 ?Aa ?Ab ?Ac ?Ad ?Ae ?Af ?Ag ?Ah ?Ai ?Aj ?Ak ?Al
   (case zZ=>k_is)
   (case z0=>k_is)
   (case z5=>k_is)
   (case z6=>k_is)
   (case z7=>k_is)
   (case z8=>k_is)
   (case z9=>k_is)
   (case Aa=>k_is)
   (case Ab=>k_is)
   (case Ac=>k_is)
   (case Ad=>k_is)
   (case Ae=>k_is)
   (case Af=>k_is)
   (case Ag=>k_is)
   (case Ah=>k_is)
   (case Ai=>k_is)
   (case Aj=>k_is)
   (case Ak=>k_is)
   (case Al=>k_is)
  case Am=>
   refine' L2.HP (c:=n6.cN) KX G (λ_ _ _ _ _ _ us hl=>match us,hl with|[_,_,_],_=>rfl) ?a ?l ?c ?k
   (case a=>k_is);(case l=>k_is);(case c=>k_is);(case k=>k_is)
  all_goals
   first
    |(refine' L2.rN KX G (λ_ _ _ _ _ _ us hl=>match us,hl with|[_],_=>rfl) ?a ?l ?c ?k;(case a=>k_is);(case l=>k_is);(case c=>k_is);(case k=>k_is))
    |(refine' L2.rN KX G (λ_ _ _ _ _ _ us hl=>match us,hl with|[_,_],_=>rfl) ?a ?l ?c ?k;(case a=>k_is);(case l=>k_is);(case c=>k_is);(case k=>k_is))
    |(refine' L2.rN KX G (λ_ _ _ _ _ _ us hl=>match us,hl with|[_,_,_],_=>rfl) ?a ?l ?c ?k;(case a=>k_is);(case l=>k_is);(case c=>k_is);(case k=>k_is))
    |(refine' L2.rN KX G (λ_ _ _ _ _ _ us hl=>match us,hl with|[_,_,_,_],_=>rfl) ?a ?l ?c ?k;(case a=>k_is);(case l=>k_is);(case c=>k_is);(case k=>k_is))
    |(refine' L2.rN KX G (λ_ _ _ _ _ _ us hl=>match us,hl with|[_,_,_,_,_],_=>rfl) ?a ?l ?c ?k;(case a=>k_is);(case l=>k_is);(case c=>k_is);(case k=>k_is))
