import PyProof.Rows.All
import Wide.All
import OpenK.AllK
import Wide.FinOn
import Lean
import PyProof.EqAt
import PyProof.EqKinds
import PyProof.TupleCall
import PySem.Str
import PyProof.NeKinds
import PyProof.Draws
import PyProof.EnumMake
import PyProof.ZipIter
import KE.KSortTup
import KE.KLam
import PyProof.Rows.SortStr
import PyProof.Rows.FactsT3
import PyProof.StrOps2
import KE.KDictList
import KE.KRevIter
import PyProof.CollectIter
import PyProof.TupleOfGen
import PyProof.Rows.StrNews2
import PyProof.Rows.StrFacts2
import PyProof.StrLawsRepr
import PyProof.Rows.StrCase
import PyProof.Rows.StrSplit
import PySem.Challenge.RW_arrowfind_k21_told_apart_walked
open List renaming length_map->aP,mem_cons_self->cW,length_append->dz,getD_eq_getElem?_getD->fB,size_toArray->dg,getElem?_eq_some_iff->fe,mem_cons->bZ,replicate->cu,getElem?_eq_getElem->fE,mem_cons_of_mem->eL,map_cons->cM,range->bP,getElem?_set_ne->fF,mem_filter->dS,length_cons->eG,mem_singleton->fg,mem_map->cX,mem_append_right->gv,getElem?_map->gc,mem_append->fG,mem_range->e5,map_map->eS,length_filter_le->ju,mem_append_left->jv,toArray->fH,length_drop->iy,pairwise_cons->jw,length_nil->iz,getElem?_cons_succ->lK,getElem?_cons_zero->lL,length_take->i7,map_append->iM,append_nil->i8,getElem?_set_self->mT,pairwise_map->ke,nodup_cons->kg,length_set->kh,nil_append->ki,drop_eq_getElem_cons->qO,not_mem_nil->mU,take_of_length_le->qQ,flatMap_cons->n6,find?_cons->mW,getElem_mem->n9,nodup_append->pE,filter_eq_self->qR,pairwise_lt_range->sW,lookup_cons->pF,mem_flatMap->pH,any_cons->mX,pairwise_flatMap->sX,mem_of_getElem?->sY,getElem?_of_mem->sZ,mem_of_mem_drop->tq,map_nil->mY,cons_append->qS,drop_eq_nil_of_le->vZ,lookup->mZ,append_assoc->tD,getElem?_append_left->yX,getElem_inj->tE,map_congr_left->v3,idxOf_lt_length_iff->yY,map_drop->qU,drop_of_length_le->yZ,length_pos_of_mem->y0,length_range->v5,drop_zero->tF,length_singleton->y4,reverse_cons->y6,filter_congr->y7,pairwise_singleton->C2,map_take->v6,all_eq_true->y8,nodup_range->y9,of_mem_zip->za,length_replicate->C3,forIn_cons->zb,mem_of_mem_take->C4,filterMap_cons->C5,getElem_of_mem->C6,getElem_idxOf->C7,getElem?_drop->C8,Pairwise->zc,any_eq_false->C9,eraseIdxIfInBounds_toArray->Lb,getElem?_set->Db,idxOf_lt_length_of_mem->Lc,getElem?_append_right->Ld,pairwise_iff_getElem->Le,getElem?_take_of_lt->Lf,length_erase_of_mem->Lg,getElem?_replicate->Lh,eraseIdx_cons_succ->Li,filter_cons_of_pos->Lj,filter_cons_of_neg->Ll,range_succ_eq_map->Lm,singleton_append->Ln,mem_iff_getElem?->Lo,mem_erase_of_ne->Lp,length->De,replicate_zero->Lq,filter_sublist->Lr,mem_filterMap->Lu,set_cons_succ->Lv,set_cons_zero->Lw,getElem_range->Lx,drop_sublist->Ly
open PySem.W renaming Frag->aO,nsIn->dU,mg_none_of->iA,mg_of->iB,kia_one->kN,CodeHd->kO,fnOf->kj,kitOne->og,keepIn->oh,codeIn->qW,kitAny->tG,kla_obj->v7,findIn->v8,cellsFrom_some->Df,tabObj->zd,callWith_K->Dg,methodObj->Dh,instObj->Di,OpenLaw->Dj,lookIn->Dk,exmOne->Dl,mroIn->Do,excIn->Dp,codeRec_of->Lz,specialIn->LA,kitx_list->LB,kitx_dict->LC,plainGet->LD,takesIn->LF,InstAt->LG,kla_fn->LH
open PySem renaming wpAny_bind->aV,Value->aj,Shared->az,Addr->ai,wpAny_pure->cE,FuncData->bJ,boot_len->fI,Program->bH,sizeLine_eq->er,Around->bT,World->bt,wpAny_mono->h7,Heap->aY,wpAny_truthy_bool->pI,Expr->bj,mem_of_lookup->tH,Stmt->bz,wpAny_Call_Name_kw->tI,wpAny_passesOwn->qX,wpAny_execs_nil->tJ,wpAny_field->pJ,Scope->fh,typeIs_bool->ze,tupleKind_room_in1->zf,wpAny_setField->v9,wpAny_newObj_type->zg,call_meets->qY,Fin->qZ,wpAny_call_entry->zh,codeAny_mono->wa,wpAny_loadPart'->zi,NameKind->pK,BindsTo->oi,Paired->q8,wpAny_standAt->zj,Arguments->tK,TriplesOk->tL,wpAny_call->wb,wpAny_execs_cons->Dq,wpAny_specialOf->Dr,wpAny_newFunctionEnv_cells->LI,wpAny_bindName->Ds,PlainAttrs->zk,call->Dt,wpAny_newList->Du,wpAny_callSpecial?_slot->LJ,Builtin->tM,wpAny_holding->Dv,wpAny_Call_method_late->LK
open PySem.Heap renaming get?_push_of_some->dI,lt_size->cY,get?_push_size->ge,get?_update_other->wc,get?_update_self->we,SameBut->wf,size_push->zl
open Bool renaming false_ne_true->dJ,and_eq_true->km,eq_iff_iff->oj,and_eq_true_iff->tO,false_eq_true->wg,not_eq_true'->wj,and_false->tP,or_eq_true->zo,eq_false_iff->Dw,not_eq_true->Dx,or_eq_false_iff->LL
open Nat renaming le_refl->bU,le_trans->c7,lt_of_lt_of_le->iN,zero_add->fJ,ne_of_lt->iO,zero_le->iC,lt_irrefl->m6,le_add_right->zp,min_eq_right->zq,min_eq_left->zr,not_lt_zero->zu,not_lt->tQ,le_of_lt->zv,ne_of_gt->zw,le_of_eq->zx,le_total->zy,le_succ->zz,sub_zero->Dy
open PySem.F renaming plainAttrs_list->fZ,slot_list_append->kn,type_list_append->ko,slot_tuple_iterator_next->zA,slot_list_extend->zB,type_list_extend->zC,slot_list_reverse->Dz,type_list_reverse->DA,slot_list_lt->DB,slot_bool_hash->zD,args_tuple_iterator_next_1->LM,entry_tuple_iterator_next->LN,slot_tuple_index->LO,slot_list_index->LP,plainAttrs_str->LQ,slot_list_pop->LR,type_list_pop->LS,slot_str_join->LU,type_str_join->LV,excAttr_ValueError->LW
open PySem.PassesOwn renaming never->eV
open Int renaming emod_lt_of_pos->gf,emod_nonneg->gi,toNat_natCast->iP,le_refl->DC
open PySem.Value renaming ref->dP,none->fi,str->pL,builtin->wm,bool->tR,type->wq
open PySem.Str renaming empty->eQ,join->kP,length->q9,ofString->wr
open Option.some renaming inj->jQ
open Classical renaming byContradiction->pM,propDecidable->zE
open Ne renaming symm->dW
open Option renaming map_eq_some_iff->pN,isSome_iff_exists->zF,isSome_map->DD,getD_none->LX,bind_some->LY,getD_some->LZ
open PySem.Builtin.SmallTypes renaming nextOf->tS
open Or renaming inl->dh,inr->fN
open False renaming elim->iD
open PyProof.Rows renaming boot_isinstance->lM,listItems_at->kQ,callWith_type1->zG,boot_list->m7,get?_update_seq->wt,IntsAre->kR,AllBare->m8,boot_tuple->tT,assignInOrder_cons->DE,listUpdate_at->zH,risingS->L3,subscriptTail_builtinR->L4
open ForInStep renaming yield->m9
open Sum renaming inr->e6,inl->rc
open PySem.NameKind renaming free->ng,cell->DF
open Array renaming perm_iff_toList_perm->ww,getElem?_eq_some_iff->zI,length_toList->wx,toList_inj->wy,toList_append->zJ,getElem?_toList->DG
open PySem.Obj renaming mapSeq->jR,data_mapFields->re,mapFields->nh,isFreed_of_fields->wz
open PySem.Heap.SameBut renaming update->tU
open True renaming intro->lN
open Prod.mk renaming injEq->rf
open PySem.Calls renaming callWith_builtin->zK,evalArgs_plain->zL,spliced_cons->DH,spliced_nil->DI,Name_function_global->L5
open List.cons renaming injEq->wA
open List.Pairwise renaming imp_of_mem->DJ,nil->DK,filter->L6
open PySem.Builtin.List renaming listTooLong->DL,listItems->L7
open PySem.Around renaming frames_deeper->DM,under_plainId->L8
open Sum.inr renaming inj->wB
open PySem.Paired renaming length->zM
open PySem.Builtin.Str renaming strSliceIndices->L9
open PySem.MeetsSeq renaming EqGives->Ma
open List.Perm renaming refl->DN
open PySem.MeetsSeq3 renaming plain_eq_loop->zN
open PySem.SeqAt.EqAt renaming bool_bool->Mb,bool_str->Mc,str_bool->Md
open PySem.W.Looks renaming ld->Me
open PySem.EntryCells renaming newEntry->Mf
open PySem.SeqRoads2.EqGives renaming str->Vd
open Array.Perm renaming refl->Mg
open Prod renaming ext->zO
open Function renaming comp->Mh
open Option renaming some->ac,none->af
abbrev cV:=@decide_eq_true
abbrev d6:=@decide_eq_false
abbrev a7:=@if_neg
abbrev a8:=@if_pos
abbrev jm:=@decide_eq_true_eq
abbrev j6:=@decide_eq_true_iff
abbrev j3:=@beq_self_eq_true
abbrev sQ:=@decide_eq_false_iff_not
abbrev jF:=@beq_iff_eq
abbrev jB:=@if_false
abbrev uw:=@of_decide_eq_true
abbrev yV:=@beq_eq_false_iff_ne
abbrev jX:=@if_true
abbrev mS:=@or_false
abbrev AK:=@decide_eq_decide
set_option maxRecDepth 100000
set_option maxHeartbeats 4000000
set_option Elab.async false
set_option linter.all false
namespace L2
open PySem PySem.Spec PyProof.Rows
abbrev Key:=Sum Bool Str
def E1(k:Bool):aj->Bool
 |.bool b=>b==k
 |_=>false
def ug:Key->aj->Bool
 |.inl k,v=>E1 k v
 |.inr x,v=>Value.isStrOf x v
def UP(w:bt):Key->Int
 |.inl k=>hashInt (if k then 1 else 0)
 |.inr x=>hashStr w x
theorem RF{k:Bool}:∀{v:aj},E1 k v=true->v=.bool k
 |.bool b,h=>by rw[show b=k from eq_of_beq h]
theorem nO:∀{k:Key} {v:aj},ug k v=true->(∃i,k=rc i/\v=tR i)\/(∃x t,k=e6 x/\v=pL x t)
 |.inl i,v,h=>.inl ⟨i,rfl,RF h⟩
 |.inr x,v,h=>by
  obtain⟨t,e⟩:=Value.isStrOf_shape (x:=x) (v:=v) h;exact .inr ⟨x,t,rfl,e⟩
theorem OX(i:Bool):ug (.inl i) (.bool i)=true:=j3 i
theorem QO{prog:bH}{w:bt}{A:bT}{E:aj->az->Prop}{s:az}{b:Bool}{Q:Int->az->Prop}(h:Q (hashInt (if b then 1 else 0)) { s with toks:=s.toks+1 }) :
 wpAny (model prog w) A (pyHash (.bool b)) Q E s:=by
 have hr:=rawHash_range (if b then 1 else 0);unfold pyHash;have hv:[tR b].any Value.onHeap=false:=rfl;refine aV ?_;rw[cRoomFor,a7 (by rw[hv];exact dJ)];refine cE ?_;refine aV (Dr (ze s b) zD.lookup ?_);show wpAny _ _ (if(ac (wm "int.__hash__")==ac fi)=true then _ else _) Q E s;rw[a7 (by rw[beq_builtin_none];exact dJ)];refine aV (Dr (ze s b) zD.lookup ?_);show wpAny _ _ (callSpecialIfBoundUnlessNone? (.bool b) "__hash__" _ >>= _) Q E s;refine aV (wpAny_callSpecialIfBoundUnlessNone?_slot (ze s b) zD
  (zh zD (ze s b) F.entry_int_hash
   (show wpAny _ _ (do ret (<- mkInt (rawHash (if b then 1 else 0)))) _ _ s from wpAny_ret_mkInt ?_) (F.args_int_hash_1 _)))
 show wpAny _ _ (if(decide (-(2:Int) ^ 63<=rawHash (if b then 1 else 0))&&decide (rawHash (if b then 1 else 0)<2 ^ 63))=true then _ else _) Q E _;rw[a8 (by rw[cV hr.1,cV hr.2];rfl)];exact cE h
theorem Nu(x:Str)(t:Tok):ug (.inr x) (.str x t)=true:=by simp[ug,Value.isStrOf]
theorem Qr(a b:Bool):decide ((rc a:Key)=rc b)=(a==b):=by
 by_cases e:a=b
 ·subst e;simp
 ·have h:¬ (rc a:Key)=rc b:=λq=>e (Sum.inl.inj q);rw[d6 h];exact(yV.mpr e).symm
theorem T6(a b:Str):decide ((e6 a:Key)=e6 b)=decide (a=b):=by
 by_cases e:a=b
 ·subst e;simp
 ·have h:¬ (e6 a:Key)=e6 b:=λq=>e (wB q);rw[d6 h,d6 e]
theorem Ra(a:Bool)(b:Str):decide ((rc a:Key)=e6 b)=false:=d6 (λq=>nomatch q)
theorem Us(a:Str)(b:Bool):decide ((e6 a:Key)=rc b)=false:=d6 (λq=>nomatch q)
def iS(prog:bH)(w:bt):PySem.KeyKind prog w Key where
 is:=ug
 hash:=UP w
 inj:=λv a b ha hb=>by
  rcases nO ha with ⟨i,rfl,rfl⟩|⟨x,t,rfl,rfl⟩
  ·rcases nO hb with ⟨j,rfl,e⟩|⟨y,u,rfl,e⟩
   ·injection e with e1;rw[e1]
   ·exact nomatch e
  ·rcases nO hb with ⟨j,rfl,e⟩|⟨y,u,rfl,e⟩
   ·exact nomatch e
   ·injection e with e1 _;rw[e1]
 byValue:=λk v h=>by
  rcases nO h with ⟨i,rfl,rfl⟩|⟨x,t,rfl,rfl⟩<;>rfl
 pyHash:=λhv h=>by
  rcases nO hv with ⟨i,rfl,rfl⟩|⟨x,t,rfl,rfl⟩
  ·exact QO h
  ·exact wpAny_pyHash_str h
 eqBool:=λhu hv h=>by
  rcases nO hu with ⟨i,rfl,rfl⟩|⟨x,t,rfl,rfl⟩
  ·rcases nO hv with ⟨j,rfl,rfl⟩|⟨y,u,rfl,rfl⟩
   ·rw[Qr]at h;exact Mb i j _ _ _ _ h
   ·rw[Ra]at h;exact Mc i y u _ _ _ _ h
  ·rcases nO hv with ⟨j,rfl,rfl⟩|⟨y,u,rfl,rfl⟩
   ·rw[Us]at h;exact Md x t j _ _ _ _ h
   ·rw[T6]at h;exact wpAny_eqBool_str h
 «strs»:=λk x t v h=>by
  rcases nO h with ⟨i,rfl,e⟩|⟨y,u,rfl,e⟩
  ·exact nomatch e
  ·injection e with e1 _;subst e1;cases v<;>rfl
theorem Qk(prog:bH)(w:bt)(i:Bool):(iS prog w).is (.inl i) (.bool i)=true:=OX i
theorem S6(prog:bH)(w:bt)(x:Str)(t:Tok):(iS prog w).is (.inr x) (.str x t)=true:=Nu x t
inductive V where
 |non|bl (b:Bool)|int (i:Int)|str (x:Str)|byt (b:Array UInt8)|flt (b:UInt64)|ref (a:ai)|ty (n:String)
 deriving DecidableEq
def RelV:V->aj->Prop
 |.non,u=>u=fi
 |.bl b,u=>u=tR b
 |.int i,u=>∃t,u=Value.int i t
 |.str x,u=>∃t,u=pL x t
 |.byt b,u=>∃t,u=Value.bytes b t
 |.flt b,u=>∃t,u=Value.float b t
 |.ref a,u=>u=dP a
 |.ty n,u=>u=wq n
abbrev Vals:List V->List aj->Prop:=q8 RelV
theorem Vals.length{xs:List V}{us:List aj}(r:Vals xs us):xs.length=us.length:=zM r
theorem Vals.get:∀{xs:List V} {us:List aj} {i:Nat} {x:V},Vals xs us->xs[i]? = ac x->∃u,us[i]? = ac u/\RelV x u
 |_,_,_,_,.nil,e=>by simp at e
 |_,_,0,_,.cons r _,e=>by simp at e;subst e;exact⟨_,rfl,r⟩
 |_,_,i+1,x,.cons _ t,e=>by
  obtain⟨u,h1,h2⟩:=Vals.get (i:=i) (x:=x) t (by simpa using e);exact⟨u,by simpa using h1,h2⟩
theorem Vals.append:∀{xs ys:List V} {us ws:List aj},Vals xs us->Vals ys ws->Vals (xs++ys) (us++ws)
 |_,_,_,_,.nil,s=>s
 |_,_,_,_,.cons r t,s=>.cons r (Vals.append t s)
theorem Vals.take:∀{xs:List V} {us:List aj} (n:Nat),Vals xs us->Vals (xs.take n) (us.take n)
 |_,_,0,_=>.nil
 |_,_,_+1,.nil=>.nil
 |_,_,n+1,.cons r t=>.cons r (Vals.take n t)
theorem Vals.drop:∀{xs:List V} {us:List aj} (n:Nat),Vals xs us->Vals (xs.drop n) (us.drop n)
 |_,_,0,r=>r
 |_,_,_+1,.nil=>.nil
 |_,_,n+1,.cons _ t=>Vals.drop n t
def k7:Option V->Option aj->Prop
 |some v,ac u=>RelV v u
 |none,af=>True
 |_,_=>False
def KV{κ:Type}:List (κ×V)->List (κ×aj)->Prop:=q8 λ(p:κ×V) (q:κ×aj)=>p.1=q.1/\RelV p.2 q.2
def kV:Key->V
 |.inl i=>.bl i
 |.inr x=>.str x
def ro(h:aY)(a:ai)(ax:Array aj):Prop:=∃o,h.get? a=ac o/\o.cls=.type "tuple" /\ o.dict=af/\∃n,o.data=.seq ax n
theorem ro.tup{h:aY}{a:ai}{ax:Array aj}(x:ro h a ax):IsTup h a ax:=let ⟨o,e,c,_,d⟩:=x;⟨o,e,c,d⟩
theorem ro.new(h:aY)(ax:Array aj):ro (h.push { cls:=.type "tuple", data:=.seq ax }) h.objs.size ax:=⟨_,ge _ rfl,rfl,rfl,_,rfl⟩
inductive HO where
 /-- a list -/
 |lst (xs:List V)
 /-- a tuple (never changes) -/
 |tup (xs:List V)
 /-- a dict whose keys are ints and texts;one whose keys are tuples of ints and texts (the empty one is both) -/
 |dK (ay:List (Key×V))|dT (ay:List (List Key×V))
 /-- a set of ints: ax members,ax size -/
 |set (S:Int->Bool) (n:Nat)
 /-- an instance of the class at C,ax dict at dx,ax attributes -/
 |ins (C dx:ai) (fs:List (Str×V))
 /-- the dict of the instance at x -/
 |own (x:ai)
 /-- the dict of an exception -/
 |xd (fs:List (Str×V))
 /-- a bound method,f of x -/
 |met (f x:ai)
 /-- a range object lo,lo+1,.. below hi -/
 |rng (lo hi:Int)
 /-- a thing that is known to the object (the script;a dict while a loop walks it): read,never written while it is so -/
 |frz (o:Obj) (u:HO)
 /-- a code object's table -/
 |tbl (w:Str) (ps:Array aj)
 /-- any other thing,by what is true of ax one object (a def of one's own: Wn a S n:=HO.ext λh=>..) -/
 |ext (φ : aY->Prop)
abbrev Hp:=ai->Option HO
def upd(H:Hp)(a:ai)(o:HO):Hp:=λb=>if b=a then ac o else H b
theorem bS{H:Hp}{a:ai}{o:HO}:upd H a o a=ac o:=by unfold upd;rw[a8 rfl]
theorem aX{H:Hp}{a b:ai}{o:HO}(h:b≠a):upd H a o b=H b:=by unfold upd;rw[a7 h]
theorem Tc{H:Hp}{a b:ai}{o u:HO}(h:H a=ac o)(h':H b=ac u)(d:o≠u):a≠b:=by intro e;subst e;rw[h]at h';exact d (jQ h')
theorem dX{H:Hp}{a b:ai}{o:HO}(h:H a=ac o)(h':H b=af):a≠b:=by intro e;subst e;rw[h]at h';cases h'
section
variable(P:bH)(w:bt)
def d5(H:Hp)(h:aY)(a:ai):HO->Prop
 |.lst xs=>xs.length<=sizeLine/\∃(ax:List aj) (n:Nat),Vals xs ax/\h.get? a=ac { cls:=.type "list", data:=.seq ax.toArray n }
 |.tup xs=>xs.length<=sizeLine/\∃ax:List aj,Vals xs ax/\ro h a ax.toArray
 |.dK ay=>ay.length<=sizeLine/\(a==sysModules)=false/\∃vs,KV ay vs/\h.DictOf (iS P w) a vs
 | .dT ay=>ay.length<=sizeLine/\(a==sysModules)=false/\∃xs:List (List Key×ai×aj),
  q8 (λ(p:List Key×V) (q:List Key×ai×aj)=>p.1=q.1/\H q.2.1=ac (.tup (p.1.map kV))/\RelV p.2 q.2.2) ay xs /\
  ∃o es ep,h.get? a=ac o/\o.ExactDict/\o.data=.dict es ep/\es.toList=xs.map (entryOfKey (tupleKind (iS P w)))/\(xs.map (·.1)).Nodup
 |.set S n=>h.SetOf (intKind P w) a S n
 | .ins C dx fs=>H dx=ac (.own a)/\fs.length<=1000/\dx≠a/\h.get? a=ac (Di C dx) /\
  ∃mA,h.Ns1 dx mA/\(∀f,k7 (fs.lookup f) (mA f))/\PySem.Within mA (fs.map (·.1))
 |.own _=>∃o,h.get? a=ac o
 |.xd fs=>∃mA,h.Ns1 a mA/\∀f,k7 (fs.lookup f) (mA f)
 |.rng lo hi=>∃t u v,h.get? a=ac { cls:=.type "range", data:=.fields #[.int lo t,.int hi u,.int 1 v] }
 |.frz o u=>h.get? a=ac o/\d5 H h a u
 |.tbl _ ps=>h.get? a=ac { cls:=.none,data:=.fields ps }
 |.met f x=>h.get? a=ac (Dh (.ref f) (.ref x))
 |.ext φ=>φ h/\(∃o,h.get? a=ac o)/\∀h1 h2:aY,φ h1->(∀o,h1.get? a=ac o->h2.get? a=ac o)->φ h2
def du(H:Hp)(h:aY):Prop:=∀a o,H a=ac o->d5 P w H h a o
end
section
variable{P:bH}{w:bt}{H H':Hp}{h h':aY}{a:ai}{o:HO}
theorem d5.lt(x:d5 P w H h a o):a<h.objs.size:=by
 cases o with
 |lst xs=>obtain⟨_,_,_,_,e⟩:=x;exact cY e
 |tup xs=>obtain⟨_,_,_,p⟩:=x;exact p.tup.lt
 |dK ay=>obtain⟨_,_,_,_,o,_,_,e,_⟩:=x;exact cY e
 |dT ay=>obtain⟨_,_,_,_,o,_,_,e,_⟩:=x;exact cY e
 |set S n=>obtain⟨o,_,_,_,e,_⟩:=x;exact cY e
 |ins C dx fs=>obtain⟨_,_,_,e,_⟩:=x;exact cY e
 |own y=>obtain⟨_,e⟩:=x;exact cY e
 |xd fs=>obtain⟨_,⟨_,_,_,e,_⟩,_⟩:=x;exact cY e
 |rng lo hi=>obtain⟨_,_,_,e⟩:=x;exact cY e
 |frz ob u=>obtain⟨e,_⟩:=x;exact cY e
 |tbl w ps=>exact cY (show h.get? a=ac _ from x)
 |met f y=>exact cY (show h.get? a=ac _ from x)
 |ext φ=>obtain⟨_,⟨_,e⟩,_⟩:=x;exact cY e
theorem Paired.AZ{α β:Type}{F G:α->β->Prop}:∀{l₁:List α} {l₂:List β},q8 F l₁ l₂->(∀a b,F a b->G a b)->q8 G l₁ l₂
 |_,_,.nil,_=>.nil
 |_,_,.cons r t,f=>.cons (f _ _ r) (Paired.AZ t f)
theorem d5.stay(x:d5 P w H h a o)(k:∀b u,(b=a\/H b=ac (.own a))->h.get? b=ac u->h'.get? b=ac u)
 (ho:∀b,H b=ac (.own a)->H' b=ac (.own a)) (ht:∀b xs,H b=ac (.tup xs)->H' b=ac (.tup xs)):d5 P w H' h' a o:=by
 induction o with
 |lst xs=>obtain⟨z,ax,n,r,e⟩:=x;exact⟨z,ax,n,r,k _ _ (.inl rfl) e⟩
 |tup xs=>obtain⟨z,ax,r,ob,e,c⟩:=x;exact⟨z,ax,r,ob,k _ _ (.inl rfl) e,c⟩
 |dK ay=>obtain⟨z,y,vs,r,ob,es,ep,e,c⟩:=x;exact⟨z,y,vs,r,ob,es,ep,k _ _ (.inl rfl) e,c⟩
 |dT ay=>
  obtain⟨z,y,xs,r,ob,es,ep,e,c⟩:=x;exact⟨z,y,xs,Paired.AZ r λp q z=>⟨z.1,ht _ _ z.2.1,z.2.2⟩,ob,es,ep,k _ _ (.inl rfl) e,c⟩
 |set S n=>obtain⟨ob,es,ep,t,e,c⟩:=x;exact⟨ob,es,ep,t,k _ _ (.inl rfl) e,c⟩
 |ins C dx fs=>
  obtain⟨d,z,ne,e,mA,⟨od,es,ep,e2,c⟩,r⟩:=x;exact⟨ho _ d,z,ne,k _ _ (.inl rfl) e,mA,⟨od,es,ep,k _ _ (.inr d) e2,c⟩,r⟩
 |own y=>obtain⟨ob,e⟩:=x;exact⟨ob,k _ _ (.inl rfl) e⟩
 |xd fs=>obtain⟨mA,⟨od,es,ep,e,c⟩,r⟩:=x;exact⟨mA,⟨od,es,ep,k _ _ (.inl rfl) e,c⟩,r⟩
 |rng lo hi=>obtain⟨t,u,v,e⟩:=x;exact⟨t,u,v,k _ _ (.inl rfl) e⟩
 |frz ob u ih=>obtain⟨e,q⟩:=x;exact⟨k _ _ (.inl rfl) e,ih q⟩
 |tbl w ps=>
  have e:h.get? a=ac { cls:=.none,data:=.fields ps }:=x;show h'.get? a=ac { cls:=.none,data:=.fields ps };exact k a _ (.inl rfl) e
 |met f y=>
  have e:h.get? a=ac (Dh (.ref f) (.ref y)):=x;show h'.get? a=ac (Dh (.ref f) (.ref y));exact k a _ (.inl rfl) e
 |ext φ=>obtain⟨p,⟨o,e⟩,st⟩:=x;exact⟨st _ _ p λo q=>k _ _ (.inl rfl) q,⟨o,k _ _ (.inl rfl) e⟩,st⟩
theorem du.lt(x:du P w H h)(e:H a=ac o):a<h.objs.size:=(x a o e).lt
theorem du.fresh(x:du P w H h)(e:h.objs.size<=a):H a=af:=by
 cases q:H a with
 |none=>rfl
 |some u=>exact absurd (iN (x.lt q) e) (m6 _)
theorem du.kept(x:du P w H h)(k:∀b u,h.get? b=ac u->h'.get? b=ac u):du P w H h':=λa o e=>
 (x a o e).stay (λb u _ q=>k b u q) (λ_ q=>q) λ_ _ q=>q
theorem du.laid(x:du P w H h)(k:∀b u,h.get? b=ac u->h'.get? b=ac u)(hp:h.objs.size<=a)(new:d5 P w (upd H a o) h' a o):du P w (upd H a o) h':=λb u e=>by
 have hn:=x.fresh hp;by_cases hb:b=a
 ·subst hb;rw[bS]at e;cases e;exact new
 ·rw[aX hb]at e;exact(x b u e).stay (λc v _ q=>k c v q) (λc q=>by rw[aX (dX q hn)];exact q) λc xs q=>by rw[aX (dX q hn)];exact q
end
def Rd(H:Hp)(a:ai)(u:HO):Prop:=H a=ac u\/∃o,H a=ac (.frz o u)
theorem Rd.ok{P:bH}{w:bt}{H:Hp}{h:aY}{a:ai}{u:HO}(r:Rd H a u)(x:du P w H h):d5 P w H h a u:=by
 rcases r with r|⟨o,r⟩
 ·exact x a u r
 ·obtain⟨_,q⟩:=x a _ r;exact q
def vL:Option HO->Prop
 |some (.lst _)=>True
 |some (.dK _)=>True
 |some (.dT _)=>True
 |some (.set _ _)=>True
 |some (.ins _ _ _)=>True
 |some (.ext _)=>True
 |_=>False
section
variable{P:bH}{w:bt}{H:Hp}{h h':aY}{x e:ai}{o':HO}
theorem du.write(ok:du P w H h)(mu:vL (H x))(he:e=x\/H e=ac (.own x))(k:∀b u,b≠e->h.get? b=ac u->h'.get? b=ac u)(heo:∃u,h'.get? e=ac u)
 (new:d5 P w (upd H x o') h' x o'):du P w (upd H x o') h':=λb u q=>by
 have Mj:∀c y,H c=ac (.own y)->c≠x:=λc y r z=>by subst z;rw[r]at mu;exact mu
 have Ve:∀c xs,H c=ac (.tup xs)->c≠x:=λc xs r z=>by subst z;rw[r]at mu;exact mu
 by_cases hb:b=x
 ·subst hb;rw[bS]at q;cases q;exact new
 ·rw[aX hb]at q;by_cases hbe:b=e
  ·have q':H b=ac (.own x):=by
    rcases he with z|z
    ·exact absurd (hbe.trans z) hb
    ·rw[hbe];exact z
   rw[q]at q';cases q';obtain⟨v,hv⟩:=heo;exact⟨v,by rw[hbe];exact hv⟩
  ·refine(ok b u q).stay (λc v hc r=>k c v ?_ r) (λc r=>by rw[aX (Mj c b r)];exact r) λc xs r=>by rw[aX (Ve c xs r)];exact r
   rcases hc with rfl|hc
   ·exact hbe
   ·rintro rfl;rcases he with z|z
    ·exact Mj c b hc z
    ·rw[hc]at z;cases z;exact hb rfl
end
structure Un(fs ex:List ai)(H H':Hp)(h h':aY):Prop where
 keep:∀b o,h.get? b=ac o->H b=af->b∉fs->b∉ex->h'.get? b=ac o
 slot:∀b o,h.get? b=ac o->H b=af->b∈fs->b∉ex->∃sl,h'.get? b=ac { o with slots:=sl }
 free:∀b o,h.get? b=ac o->H b=af->b∉ex->H' b=af
 there:∀b o,h.get? b=ac o->b∉ex->∃o',h'.get? b=ac o'
 tups:∀b xs,H b=ac (.tup xs)->H' b=ac (.tup xs)
 ku:∀b o u,H b=ac (.frz o u)->H' b=ac (.frz o u)
 kw:∀b w ps,H b=ac (.tbl w ps)->∃more,H' b=ac (.tbl w (ps++more))
section
variable{fs fs' ex ex':List ai}{H H1 H2:Hp}{h h1 h2 h':aY}{a x e:ai}{o:HO}
theorem Un.any(u:Un fs ex H H1 h h1){b:ai}{ob:Obj}(q:h.get? b=ac ob)(n:H b=af)(hx:b∉ex):∃sl,h1.get? b=ac { ob with slots:=sl }:=by
 by_cases hb:b∈fs
 ·exact u.slot b ob q n hb hx
 ·exact⟨ob.slots,u.keep b ob q n hb hx⟩
theorem Un.kept(k:∀b u,h.get? b=ac u->h'.get? b=ac u):Un fs ex H H h h':=⟨λb ob q _ _ _=>k b ob q,λb ob q _ _ _=>⟨ob.slots,k b ob q⟩,λ_ _ _ n _=>n,λb ob q _=>⟨ob,k b ob q⟩,λ_ _ q=>q,λ_ _ _ q=>q,λ_ w ps q=>⟨#[],by rw[q];simp⟩⟩
theorem Un.refl:Un fs ex H H h h:=Un.kept λ_ _ q=>q
theorem Un.laid(k:∀b u,h.get? b=ac u->h'.get? b=ac u)(hp:h.objs.size<=a)(hn:H a=af):Un fs ex H (upd H a o) h h' where
 keep:=λb u q _ _ _=>k b u q
 slot:=λb u q _ _ _=>⟨u.slots,k b u q⟩
 free:=λb u q n _=>by rw[aX (iO (iN (cY q) hp))];exact n
 there:=λb u q _=>⟨u,k b u q⟩
 tups:=λb xs q=>by rw[aX (dX q hn)];exact q
 ku:=λb u xs q=>by rw[aX (dX q hn)];exact q
 kw:=λb w ps q=>⟨#[],by rw[aX (dX q hn),q];simp⟩
theorem Un.write(mu:vL (H x))(he:e=x\/H e=ac (.own x))(k:∀b u,b≠e->h.get? b=ac u->h'.get? b=ac u)(heo:∃u,h'.get? e=ac u):Un fs ex H (upd H x o) h h':=by
 have hx:∀b,H b=af->b≠x:=λb n z=>by subst z;rw[n]at mu;exact mu
 have hb:∀b,H b=af->b≠e:=λb n z=>by
  subst z;rcases he with r|r
  ·exact hx b n r
  ·rw[n]at r;cases r
 have hm:∀b u,H b=ac u->¬ vL (ac u)->b≠x:=λb u q nm z=>by subst z;rw[q]at mu;exact nm mu
 refine⟨λb u q n _ _=>k b u (hb b n) q,λb u q n _ _=>⟨u.slots,k b u (hb b n) q⟩,λb u q n _=>by rw[aX (hx b n)];exact n,λb u q _=>?_,
  λb xs q=>by rw[aX (hm b _ q λz=>z)];exact q,λb u xs q=>by rw[aX (hm b _ q λz=>z)];exact q,λb w ps q=>⟨#[],by rw[aX (hm b _ q λz=>z),q];simp⟩⟩
 by_cases hbe:b=e
 ·subst hbe;exact heo
 ·exact⟨u,k b u hbe q⟩
end
def xJ(h:aY)(H:Hp):List ai:=(bP h.objs.size).filter λa=>(H a).isSome
def kZ(h:aY)(H:Hp):aY:=PySem.W.hideAll h (xJ h H)
theorem OS(h:aY)(H:Hp):(kZ h H).objs.size=h.objs.size:=PySem.W.hideAll_size _ _
theorem Nw{h:aY}{H:Hp}{b:ai}{o:Obj}(e:h.get? b=ac o)(n:H b=af):(kZ h H).get? b=ac o:=
 PySem.W.hideAll_get _ e λhm=>by
  have q:(H b).isSome=true:=(dS.mp hm).2;rw[n]at q;simp at q
theorem P1{h:aY}{H:Hp}{b:ai}{o:Obj}(e:(kZ h H).get? b=ac o):h.get? b=ac o/\H b=af:=by
 have e':h.get? b=ac o:=PySem.W.of_hideAll (xJ h H) e;refine⟨e',?_⟩;cases q:H b with
 |none=>rfl
 |some x=>
  have hm:b∈xJ h H:=dS.mpr ⟨e5.mpr (cY e'),by simp[q]⟩;have z:(kZ h H).get? b=af:=PySem.W.hideAll_none (xJ h H) hm;rw[z]at e;cases e
structure Mod(K:aO)(mg:Str->Option aj)(base:aY):Prop where
 kin:K.In base
 glob:base.Ns mainGlobals mg
 blt:∃mb,base.Ns builtinsNs mb/\∀x:Str,x ≠ "__name__" -> mb x=bootBuiltins x
 nolimit:base.NoLimit
structure Cx where
 prog:bH
 w:bt
 K:aO
 mg:Str->Option aj
 base:aY
 A:bT
 N:List Str
 s₀:az
 H₀:Hp
 env:Env
 outer:List Env
 stack:List Env
 ex:List ai
 fn:Str->Bool
 calm:Bool
 pn:List (ai×Obj)
 xe:aj->az->Prop
def frs(l:List Env):List ai:=l.filterMap (·.frame)
abbrev Cx.fs(X:Cx):List ai:=frs X.outer
def uh(sc:fh)(x:Str):Prop:=sc.names.lookup x=ac .local\/sc.names.lookup x=ac .cell\/sc.names.lookup x=ac .free
def Loc(sc:fh)(x:Str):Prop:=sc.names.lookup x=ac .local\/sc.names.lookup x=ac .cell
def Look(env:Env)(h:aY)(m:Str->Option aj)(x:Str)(u:aj):Prop:=(env.kindOf x=ac .local/\m x=ac u)\/((env.kindOf x=ac .cell\/env.kindOf x=ac .free)/\∃c,env.cells.lookup x=ac c/\h.IsCell c (ac u))
structure Cx.Ok(X:Cx):Prop where
 mod:Mod X.K X.mg X.base
 kind:X.env.scope.kind=.function
 glob:X.env.globals=mainGlobals
 blt:X.env.builtins=builtinsNs
 above:X.s₀.heap.objs.size<=X.env.locals
 inj:∀x y c,X.env.cells.lookup x=ac c->X.env.cells.lookup y=ac c->x=y
 has:∀x,(X.env.kindOf x=ac .cell\/X.env.kindOf x=ac .free)->∃c,X.env.cells.lookup x=ac c
 cab:∀x c,X.fn x=true->X.env.cells.lookup x=ac c->X.s₀.heap.objs.size<=c
 hd:X.calm=true->X.A.handled=af
 frames:X.A.frames=ac X.stack
 stk:X.stack=X.outer\/(X.stack=X.env::X.outer/\X.env.frame=ac X.env.locals)
 exf:∀b∈X.ex,b≠X.env.locals/\∀x c,X.env.cells.lookup x=ac c->c≠b
 bs:∀b o,X.base.get? b=ac o->X.s₀.heap.get? b=ac o/\X.H₀ b=af
 bsz:X.base.objs.size<=X.s₀.heap.objs.size
 rh:∀b o,X.base.get? b=ac o->b∉X.ex
 tV:∀b∈X.ex,b∉X.fs
 iF:X.s₀.heap.FunFrames X.base X.outer
 frf:∀b∈X.fs,X.H₀ b=af
structure Inv(X:Cx)(ah:List (ai×Obj))(σ:List (Option V))(H:Hp)(s:az):Prop where
 ok:X.Ok
 os:s.os=X.s₀.os
 bare:m8 s.gens
 base:Un X.fs X.ex X.H₀ H X.s₀.heap s.heap
 loc:∃m,s.heap.Ns X.env.locals m/\∀(i:Nat) (x:Str) (v:V),X.N[i]? = ac x->σ[i]? = ac (ac v)->uh X.env.scope x->∃u,RelV v u/\Look X.env s.heap m x u
 cell:∀x c,X.env.cells.lookup x=ac c->∃v,s.heap.IsCell c v
 free:H X.env.locals=af
 i9:∀x c,X.env.cells.lookup x=ac c->H c=af
 pin:∀p∈X.pn++ah,s.heap.get? p.1=ac p.2/\H p.1=af/\p.1≠X.env.locals/\p.1∉X.fs/\∀v,p.2.data≠.cell v
 hok:du X.prog X.w H s.heap
 len:σ.length=X.N.length
section
variable{X:Cx}{ah:List (ai×Obj)}{σ:List (Option V)}{H H':Hp}{s:az}{h':aY}
theorem Cx.Ok.PJ(ok:X.Ok){b:ai}{o:Obj}(e:X.base.get? b=ac o):b∉X.fs:=λhb=>by
 have:=(ok.iF.mem hb).1;rw[e]at this;cases this
theorem Inv.bs(I:Inv X ah σ H s):∀b o,X.base.get? b=ac o->s.heap.get? b=ac o/\H b=af:=λb o e=>
 ⟨I.base.keep b o (I.ok.bs b o e).1 (I.ok.bs b o e).2 (I.ok.PJ e) (I.ok.rh b o e),I.base.free b o (I.ok.bs b o e).1 (I.ok.bs b o e).2 (I.ok.rh b o e)⟩
theorem Inv.bk(I:Inv X ah σ H s):∀b o,X.base.get? b=ac o->s.heap.get? b=ac o:=λb o e=>(I.bs b o e).1
theorem Inv.mod(I:Inv X ah σ H s):Mod X.K X.mg X.base:=I.ok.mod
theorem Inv.fR(I:Inv X ah σ H s):X.K.In s.heap:=I.ok.mod.kin.keeps I.bk
theorem Inv.nolimit(I:Inv X ah σ H s):s.heap.NoLimit:=I.ok.mod.nolimit.keeps I.bk
theorem Inv.lt(I:Inv X ah σ H s):X.env.locals<s.heap.objs.size:=let ⟨_,hn,_⟩:=I.loc;hn.lt
theorem Inv.sz(I:Inv X ah σ H s):X.s₀.heap.objs.size<=s.heap.objs.size:=c7 I.ok.above (zv I.lt)
theorem Inv.Pw(I:Inv X ah σ H s){a:ai}(h:s.heap.objs.size<=a):a∉X.fs:=λhb=>by
 obtain⟨_,o,ho,_⟩:=I.ok.iF.mem hb;exact absurd (iN (cY ho) (c7 I.sz h)) (m6 _)
theorem Inv.nZ(I:Inv X ah σ H s):∀x c,X.env.cells.lookup x=ac c->c≠X.env.locals:=λx c e z=>by
 obtain⟨v,o,ho,hd⟩:=I.cell x c e;obtain⟨m,⟨o',es,ep,ho',hd',_⟩,_⟩:=I.loc;rw[z,ho']at ho;cases ho;rw[hd']at hd;cases hd
theorem Inv.iF(I:Inv X ah σ H s):s.heap.FunFrames X.base X.outer:=by
 have all:∀(l:List Env),(∀b∈frs l,b∈X.fs)->X.s₀.heap.FunFrames X.base l->s.heap.FunFrames X.base l:=by
  intro l
  induction l with
  |nil=>intro _ _;trivial
  |cons env r ih=>
   intro hs hl;obtain⟨hk,⟨L,o,hf,hn,ho,hd⟩,hr⟩:=hl;have hL:L∈X.fs:=hs L (by unfold frs;rw[C5,hf];exact cW);obtain⟨sl,e⟩:=I.base.slot L o ho (I.ok.frf L hL) hL λz=>I.ok.tV L z hL;exact⟨hk,⟨L,_,hf,hn,e,hd⟩,ih (λb hb=>hs b (by unfold frs;rw[C5,hf];exact eL _ hb)) hr⟩
 exact all X.outer (λ_ hb=>hb) I.ok.iF
theorem Inv.stack(I:Inv X ah σ H s):s.heap.FunFrames X.base X.stack:=by
 rcases I.ok.stk with e|⟨e,hf⟩
 ·rw[e];exact I.iF
 ·rw[e];obtain⟨m,hn,_⟩:=I.loc;refine .cons (by rw[I.ok.kind];decide) hf hn ?_ I.iF;exact Heap.get?_none_of_le (c7 I.ok.bsz I.ok.above)
theorem Inv.yG(I:Inv X ah σ H s):∀b∈frs X.stack,b∈X.env.locals::X.fs:=λb hb=>by
 rcases I.ok.stk with e|⟨e,hf⟩
 ·rw[e]at hb;exact eL _ hb
 ·rw[e]at hb;unfold frs at hb;rw[C5,hf]at hb;exact hb
theorem Inv.vq(I:Inv X ah σ H s):∀b∈frs X.stack,H b=af:=λb hb=>by
 rcases bZ.mp (I.yG b hb)with e|hb
 ·rw[e];exact I.free
 ·obtain⟨_,o,ho,_⟩:=I.ok.iF.mem hb;exact I.base.free b o ho (I.ok.frf b hb) λz=>I.ok.tV b z hb
theorem Inv.step{g':Array GenState}{t':Nat}{d':Drawn}{ch:List ai}(I:Inv X ah σ H s)
 (hch:∀b∈ch,(b∈X.ex\/X.s₀.heap.objs.size<=b)/\b≠X.env.locals/\(∀x c,X.env.cells.lookup x=ac c->c≠b)/\∀p∈X.pn++ah,p.1≠b)
 (keep:∀b o,b≠X.env.locals->b∉X.fs->b∉ch->s.heap.get? b=ac o->H b=af->h'.get? b=ac o)
 (slot:∀b o,b≠X.env.locals->b∈X.fs->b∉ch->s.heap.get? b=ac o->H b=af->∃sl,h'.get? b=ac { o with slots:=sl }) (free:∀b o,b∉ch->s.heap.get? b=ac o->H b=af->H' b=af)
 (there:∀b o,b∉ch->s.heap.get? b=ac o->∃o',h'.get? b=ac o')
 (tups:∀b xs,H b=ac (.tup xs)->H' b=ac (.tup xs)) (ku:∀b o u,H b=ac (.frz o u)->H' b=ac (.frz o u)) (kw:∀b w ps,H b=ac (.tbl w ps)->∃more,H' b=ac (.tbl w (ps++more)))
 (ns:∀m,s.heap.Ns X.env.locals m->h'.Ns X.env.locals m) (hok:du X.prog X.w H' h') (hg:m8 g') :
 Inv X ah σ H' { s with heap:=h',gens:=g',drawn:=d',toks:=t' }:=by
 have neL:∀b o,X.s₀.heap.get? b=ac o->b≠X.env.locals:=λb o e=>iO (iN (cY e) I.ok.above);have neC:∀b o,X.s₀.heap.get? b=ac o->b∉X.ex->b∉ch:=λb o e hx hb=>by
  rcases(hch b hb).1 with z|z
  ·exact hx z
  ·exact absurd (iN (cY e) z) (m6 _)
 have cellK:∀x c,X.env.cells.lookup x=ac c->∀v,s.heap.IsCell c v->h'.IsCell c v:=λx c e v ⟨o,ho,hd⟩=>by
  have nch:c∉ch:=λz=>(hch c z).2.2.1 x c e rfl;by_cases hc:c∈X.fs
  ·obtain⟨sl,q⟩:=slot c o (I.nZ x c e) hc nch ho (I.i9 x c e);exact⟨_,q,hd⟩
  ·exact⟨o,keep c o (I.nZ x c e) hc nch ho (I.i9 x c e),hd⟩
 refine⟨I.ok,I.os,hg,⟨λb o e n hb hx=>?_,λb o e n hb hx=>?_,λb o e n hx=>?_,λb o e hx=>?_,λb xs e=>tups b xs (I.base.tups b xs e),λb o xs e=>ku b o xs (I.base.ku b o xs e),λb w ps e=>?_⟩,?_,λx c e=>?_,?_,λx c e=>?_,λp hp=>?_,hok,I.len⟩
 ·exact keep b o (neL b o e) hb (neC b o e hx) (I.base.keep b o e n hb hx) (I.base.free b o e n hx)
 ·obtain⟨sl,e1⟩:=I.base.slot b o e n hb hx;obtain⟨sl',e2⟩:=slot b _ (neL b o e) hb (neC b o e hx) e1 (I.base.free b o e n hx);exact⟨sl',e2⟩
 ·obtain⟨o',e1⟩:=I.base.there b o e hx;exact free b o' (neC b o e hx) e1 (I.base.free b o e n hx)
 ·obtain⟨o',e1⟩:=I.base.there b o e hx;exact there b o' (neC b o e hx) e1
 ·obtain⟨m1,e1⟩:=I.base.kw b w ps e;obtain⟨m2,e2⟩:=kw b w _ e1;exact⟨m1++m2,by rw[e2,Array.append_assoc]⟩
 ·obtain⟨m,hn,hl⟩:=I.loc;refine⟨m,ns m hn,λi x v e1 e2 e3=>?_⟩;obtain⟨u,r,l⟩:=hl i x v e1 e2 e3;refine⟨u,r,?_⟩;rcases l with l|⟨k,c,e,z⟩
  ·exact .inl l
  ·exact .inr ⟨k,c,e,cellK x c e _ z⟩
 ·obtain⟨v,z⟩:=I.cell x c e;exact⟨v,cellK x c e v z⟩
 ·obtain⟨m,⟨o,_,_,ho,_⟩,_⟩:=I.loc;exact free _ o (λz=>(hch _ z).2.1 rfl) ho I.free
 ·obtain⟨v,o,ho,hd⟩:=I.cell x c e;exact free c o (λz=>(hch c z).2.2.1 x c e rfl) ho (I.i9 x c e)
 ·obtain⟨e,n,ne,nf,d⟩:=I.pin p hp;have nch:p.1∉ch:=λz=>(hch p.1 z).2.2.2 p hp rfl;exact⟨keep p.1 p.2 ne nf nch e n,free p.1 p.2 nch e n,ne,nf,d⟩
theorem Inv.un{t':Nat}(I:Inv X ah σ H s)(u:Un X.fs [] H H' s.heap h')(hok:du X.prog X.w H' h'):Inv X ah σ H' { s with heap:=h',toks:=t' }:=by
 obtain⟨m,⟨o,es,ep,ho,r⟩,_⟩:=id I.loc;obtain⟨sl,hL⟩:=u.any ho I.free (by simp);exact I.step (g':=s.gens) (d':=s.drawn) (ch:=[]) (λ_ z=>nomatch z) (λb o _ hb _ e n=>u.keep b o e n hb (by simp)) (λb o _ hb _ e n=>u.slot b o e n hb (by simp)) (λb o _ e n=>u.free b o e n (by simp)) (λb o _ e=>u.there b o e (by simp)) u.tups u.ku u.kw (λm' hm=>by
  obtain⟨o',es',ep',ho',r'⟩:=hm;rw[ho]at ho';cases ho';exact⟨_,es',ep',hL,r'⟩) hok I.bare
theorem Inv.call{g':Array GenState}{t':Nat}{d':Drawn}{ch:List ai}(I:Inv X ah σ H s)(u:Un (frs X.stack) ch H H' s.heap h')(hok:du X.prog X.w H' h')(hg:m8 g')
 (hch:∀b∈ch,(b∈X.ex\/X.s₀.heap.objs.size<=b)/\b≠X.env.locals/\(∀x c,X.env.cells.lookup x=ac c->c≠b)/\∀p∈X.pn++ah,p.1≠b) :
 Inv X ah σ H' { s with heap:=h',gens:=g',drawn:=d',toks:=t' }:=by
 obtain⟨m,⟨o,es,ep,ho,r⟩,_⟩:=id I.loc;obtain⟨sl,hL⟩:=u.any ho I.free λz=>(hch _ z).2.1 rfl;exact I.step (ch:=ch) hch (λb o hL hb hc e n=>u.keep b o e n (λz=>(bZ.mp (I.yG b z)).elim hL hb) hc) (λb o _ _ hc e n=>u.any e n hc) (λb o hc e n=>u.free b o e n hc) (λb o hc e=>u.there b o e hc) u.tups u.ku u.kw (λm' hm=>by
  obtain⟨o',es',ep',ho',r'⟩:=hm;rw[ho]at ho';cases ho';exact⟨_,es',ep',hL,r'⟩) hok hg
theorem Inv.turned{t':Nat}{it:ai}(I:Inv X ah σ H s)(k:∀b o,b≠it->s.heap.get? b=ac o->h'.get? b=ac o)(hn:H it=af)(hL:it≠X.env.locals)
 (h1:it∈X.ex\/X.s₀.heap.objs.size<=it) (h2:∀x c,X.env.cells.lookup x=ac c->c≠it) (h3:∀p∈X.pn++ah,p.1≠it):Inv X ah σ H { s with heap:=h',toks:=t' }:=by
 have nit:∀b u,H b=ac u->b≠it:=λb u e z=>by rw[z,hn]at e;cases e
 refine I.step (g':=s.gens) (d':=s.drawn) (ch:=[it]) (λb hb=>?_) (λb o _ _ hc e _=>k b o (λz=>hc (by simp[z])) e) (λb o _ _ hc e _=>⟨o.slots,k b o (λz=>hc (by simp[z])) e⟩) (λ_ _ _ _ n=>n)
  (λb o hc e=>⟨o,k b o (λz=>hc (by simp[z])) e⟩) (λ_ _ e=>e) (λ_ _ _ e=>e) (λb w ps e=>⟨#[],by rw[e];simp⟩) (λm hm=>?_) (λb u e=>?_) I.bare
 ·have e:b=it:=by simpa using hb
  subst e;exact⟨h1,hL,h2,h3⟩
 ·obtain⟨o,es,ep,ho,r⟩:=hm;exact⟨o,es,ep,k _ o (dW hL) ho,r⟩
 ·refine(I.hok b u e).stay (λc v hc q=>k c v ?_ q) (λ_ q=>q) λ_ _ q=>q;rcases hc with z|z
  ·rw[z];exact nit b u e
  ·exact nit c _ z
theorem Inv.tok(I:Inv X ah σ H s)(t:Nat):Inv X ah σ H { s with toks:=t }:=I.un (h':=s.heap) (t':=t) Un.refl I.hok
theorem Inv.kept{t':Nat}(I:Inv X ah σ H s)(k:∀b u,s.heap.get? b=ac u->h'.get? b=ac u):Inv X ah σ H { s with heap:=h',toks:=t' }:=I.un (Un.kept k) (I.hok.kept k)
theorem Inv.laid{a:ai}{o:HO}{t':Nat}(I:Inv X ah σ H s)(k:∀b u,s.heap.get? b=ac u->h'.get? b=ac u)(hp:s.heap.objs.size<=a)(new:d5 X.prog X.w (upd H a o) h' a o) :
 Inv X ah σ (upd H a o) { s with heap:=h',toks:=t' }:=I.un (Un.laid k hp (I.hok.fresh hp)) (I.hok.laid k hp new)
theorem Inv.write{x e:ai}{o:HO}{t':Nat}(I:Inv X ah σ H s)(mu:vL (H x))(he:e=x\/H e=ac (.own x))(k:∀b u,b≠e->s.heap.get? b=ac u->h'.get? b=ac u)(heo:∃u,h'.get? e=ac u)
 (new:d5 X.prog X.w (upd H x o) h' x o):Inv X ah σ (upd H x o) { s with heap:=h',toks:=t' }:=I.un (Un.write mu he k heo) (I.hok.write mu he k heo new)
theorem Inv.weak{σ':List (Option V)}(I:Inv X ah σ H s)(hl:σ'.length = σ.length)(w:∀(i:Nat) v,σ'[i]? = ac (ac v)->σ[i]? = ac (ac v)):Inv X ah σ' H s:=⟨I.ok,I.os,I.bare,I.base,let ⟨m,hn,hl'⟩:=I.loc;⟨m,hn,λi x v e1 e2 e3=>hl' i x v e1 (w i v e2) e3⟩,I.cell,I.free,I.i9,I.pin,I.hok,hl.trans I.len⟩
theorem Inv.Cc{tW:List (ai×Obj)}(I:Inv X ah σ H s)(h:∀p∈tW,s.heap.get? p.1=ac p.2/\H p.1=af/\p.1≠X.env.locals/\p.1∉X.fs/\∀v,p.2.data≠.cell v):Inv X tW σ H s:=⟨I.ok,I.os,I.bare,I.base,I.loc,I.cell,I.free,I.i9,λp hp=>(fG.mp hp).elim (λz=>I.pin p (jv _ z)) (h p),I.hok,I.len⟩
theorem Af{N:List Str}(hN:N.Nodup){i j:Nat}{x:Str}(a:N[i]? = ac x)(b:N[j]? = ac x):i=j:=by obtain⟨h1,e1⟩:=fe.mp a;obtain⟨h2,e2⟩:=fe.mp b;exact(tE hN).mp (e1.trans e2.symm)
theorem Kv{M:Model}{A:bT}{E:aj->az->Prop}{i:Nat}{x:Str}{v:V}{u:aj}{Q:Unit->az->Prop}(I:Inv X ah σ H s)(hN:X.N.Nodup)(hi:X.N[i]? = ac x)(hx:Loc X.env.scope x)(r:RelV v u)
 (h:∀s',Inv X ah (σ.set i (ac v)) H s'->(∃a,wf a s.heap s'.heap/\(a=X.env.locals\/X.env.cells.lookup x=ac a))->Q () s') (hf:X.fn x=true\/X.env.scope.names.lookup x=ac .local:=by first|exact .inl rfl|exact .inr rfl|assumption):wpAny M A (storeName X.env x u) Q E s:=by
 obtain⟨m,hn,hl⟩:=id I.loc;have hcls:(X.env.scope.kind==.class||(X.env.scope.kind==.module&&X.env.locals != X.env.globals))=false:=by rw[I.ok.kind];rfl
 have hiσ:i < σ.length:=by rw[I.len];exact(fe.mp hi).1
 have nZ:=I.nZ;have tracked:∀{a:ai} {h':aY},(∃o,s.heap.get? a=ac o/\H a=af)->wf a s.heap h'->du X.prog X.w H h':=λ{a h'} ha hs b ob e=>by
  obtain⟨_,_,hfree⟩:=ha;refine(I.hok b ob e).stay (λc w' hc q=>(hs.2 c ?_).trans q) (λ_ q=>q) λ_ _ q=>q;rintro rfl;rcases hc with rfl|hc
  ·rw[hfree]at e;cases e
  ·rw[hfree]at hc;cases hc
 rcases hx with hk|hk
 ·refine wpAny_storeName_local hk hn (λh' hn' hs=>?_) hcls;obtain⟨oL,_,_,hoL,_⟩:=id hn;refine h _ ⟨I.ok,I.os,I.bare,⟨λb o e n hb hx=>?_,λb o e n hb hx=>?_,I.base.free,λb o e hx=>?_,I.base.tups,I.base.ku,I.base.kw⟩,⟨_,hn',λj y v' e1 e2 e3=>?_⟩,λy c e=>?_,I.free,I.i9,λp hp=>?_,tracked ⟨oL,hoL,I.free⟩ hs,by simpa using I.len⟩ ⟨_,hs,.inl rfl⟩
  ·exact(hs.2 b (iO (iN (cY e) I.ok.above))).trans (I.base.keep b o e n hb hx)
  ·obtain⟨sl,e1⟩:=I.base.slot b o e n hb hx;exact⟨sl,(hs.2 b (iO (iN (cY e) I.ok.above))).trans e1⟩
  ·obtain⟨o',e1⟩:=I.base.there b o e hx;exact⟨o',(hs.2 b (iO (iN (cY e) I.ok.above))).trans e1⟩
  ·by_cases hj:j=i
   ·subst hj;rw[hi]at e1;cases e1;rw[mT hiσ]at e2;cases e2;exact⟨u,r,.inl ⟨hk,by simp⟩⟩
   ·rw[fF (dW hj)]at e2;obtain⟨u',r',q⟩:=hl j y v' e1 e2 e3;refine⟨u',r',?_⟩;rcases q with ⟨k,e⟩|⟨k,c,e,z⟩
    ·refine .inl ⟨k,?_⟩;have:y≠x:=λe=>hj (Af hN e1 (e ▸ hi));simp[this,e]
    ·exact .inr ⟨k,c,e,z.sameBut hs (nZ y c e)⟩
  ·obtain⟨w',z⟩:=I.cell y c e;exact⟨w',z.sameBut hs (nZ y c e)⟩
  ·obtain⟨e,n,ne,nf,d⟩:=I.pin p hp;exact⟨(hs.2 p.1 ne).trans e,n,ne,nf,d⟩
 ·have hfn:X.fn x=true:=by
   rcases hf with z|z
   ·exact z
   ·rw[z]at hk;cases hk
  obtain⟨c,hc⟩:=I.ok.has x (.inl hk);obtain⟨w',z⟩:=I.cell x c hc;refine wpAny_storeName_cell I.ok.kind hk hc z (λh' hc' hs=>?_);obtain⟨oc,hoc,Vf⟩:=id z;refine h { s with heap:=h' } ⟨I.ok,I.os,I.bare,⟨λb o e n hb hx=>?_,λb o e n hb hx=>?_,I.base.free,λb o e hx=>?_,I.base.tups,I.base.ku,I.base.kw⟩,⟨m,hn.sameBut hs (dW (nZ x c hc)),λj y v' e1 e2 e3=>?_⟩,λy c' e=>?_,I.free,I.i9,λp hp=>?_,tracked ⟨oc,hoc,I.i9 x c hc⟩ hs,by simpa using I.len⟩ ⟨c,hs,.inr hc⟩
  ·exact(hs.2 b (iO (iN (cY e) (I.ok.cab x c hfn hc)))).trans (I.base.keep b o e n hb hx)
  ·obtain⟨sl,e1⟩:=I.base.slot b o e n hb hx;exact⟨sl,(hs.2 b (iO (iN (cY e) (I.ok.cab x c hfn hc)))).trans e1⟩
  ·obtain⟨o',e1⟩:=I.base.there b o e hx;exact⟨o',(hs.2 b (iO (iN (cY e) (I.ok.cab x c hfn hc)))).trans e1⟩
  ·by_cases hj:j=i
   ·subst hj;rw[hi]at e1;cases e1;rw[mT hiσ]at e2;cases e2;exact⟨u,r,.inr ⟨.inl hk,c,hc,hc'⟩⟩
   ·rw[fF (dW hj)]at e2;obtain⟨u',r',q⟩:=hl j y v' e1 e2 e3;refine⟨u',r',?_⟩;rcases q with q|⟨k,c',e,z'⟩
    ·exact .inl q
    ·refine .inr ⟨k,c',e,z'.sameBut hs ?_⟩;rintro rfl;exact hj (Af hN e1 (I.ok.inj _ _ _ e hc ▸ hi))
  ·by_cases hcc:c'=c
   ·subst hcc;exact⟨_,hc'⟩
   ·obtain⟨w2,z2⟩:=I.cell y c' e;exact⟨w2,z2.sameBut hs hcc⟩
  ·obtain⟨e,n,ne,nf,d⟩:=I.pin p hp;refine⟨(hs.2 p.1 ?_).trans e,n,ne,nf,d⟩;intro q;rw[q,hoc]at e;have q':oc=p.2:=jQ e;exact d w' (by rw[<- q'];exact Vf)
theorem r6{M:Model}{A:bT}{E:aj->az->Prop}{i:Nat}{x:Str}{v:V}{u:aj}{Q:Unit->az->Prop}(I:Inv X ah σ H s)(hN:X.N.Nodup)(hi:X.N[i]? = ac x)(hx:Loc X.env.scope x)(r:RelV v u)
 (h:∀s',Inv X ah (σ.set i (ac v)) H s'->Q () s') (hf:X.fn x=true\/X.env.scope.names.lookup x=ac .local:=by first|exact .inl rfl|exact .inr rfl|assumption):wpAny M A (storeName X.env x u) Q E s:=
 Kv I hN hi hx r (λs' I' _=>h s' I') hf
theorem Inv.call'{s':az}{ch:List ai}(I:Inv X ah σ H s)(ho:s'.os=s.os)(u:Un (frs X.stack) ch H H' s.heap s'.heap)(hok:du X.prog X.w H' s'.heap)(hg:m8 s'.gens)
 (hch:∀b∈ch,(b∈X.ex\/X.s₀.heap.objs.size<=b)/\b≠X.env.locals/\(∀x c,X.env.cells.lookup x=ac c->c≠b)/\∀p∈X.pn++ah,p.1≠b):Inv X ah σ H' s':=by
 obtain⟨h',g',d',t',o'⟩:=s';have e:o'=s.os:=ho;subst e;exact I.call (g':=g') (t':=t') (d':=d') u hok hg hch
end
abbrev XK:=aj->Option ai->Hp->Prop
abbrev St:=List (Option V)
abbrev VK:=V->Hp->Prop
abbrev TE:=St->Hp->VK->Prop
abbrev TT:=St->Hp->(Bool->Hp->Prop)->Prop
abbrev TA:=St->Hp->(List V->Hp->Prop)->Prop
structure Ends where
 nx:St->Hp->Prop
 rt:VK
 bk:St->Hp->Prop:=λ_ _=>False
 ct:St->Hp->Prop:=λ_ _=>False
abbrev TS:=Ends->St->Hp->Prop
def EP(X:Cx)(ah:List (ai×Obj))(σ:St)(Q:VK)(u:aj)(s':az):Prop:=∃v H',Inv X ah σ H' s'/\RelV v u/\Q v H'
def TP(X:Cx)(ah:List (ai×Obj))(σ:St)(Q:Bool->Hp->Prop)(b:Bool)(s':az):Prop:=∃H',Inv X ah σ H' s'/\Q b H'
def AP(X:Cx)(ah:List (ai×Obj))(σ:St)(Q:List V->Hp->Prop)(us:List aj)(s':az):Prop:=∃vs H',Inv X ah σ H' s'/\Vals vs us/\Q vs H'
def SP(X:Cx)(ah:List (ai×Obj))(D:Ends)(f:Flow)(s':az):Prop:=
 match f with
 |.next=>∃σ' H',Inv X ah σ' H' s'/\D.nx σ' H'
 |.brk=>∃σ' H',Inv X ah σ' H' s'/\D.bk σ' H'
 |.cont=>∃σ' H',Inv X ah σ' H' s'/\D.ct σ' H'
 |.ret u=>∃v σ' H',Inv X ah σ' H' s'/\RelV v u/\D.rt v H'
def PE(X:Cx)(e:bj)(t:TE):Prop:=∀(ah:List (ai×Obj)) (s:az) (σ:St) (H:Hp) (Q:VK),Inv X ah σ H s->t σ H Q->wpAny (model X.prog X.w) X.A (eval e X.env) (EP X ah σ Q) X.xe s
def PT(X:Cx)(e:bj)(t:TT):Prop:=∀(ah:List (ai×Obj)) (s:az) (σ:St) (H:Hp) (Q:Bool->Hp->Prop),Inv X ah σ H s->t σ H Q->wpAny (model X.prog X.w) X.A (isTrue e X.env (eval e X.env)) (TP X ah σ Q) X.xe s
def PW(X:Cx)(e:bj)(t:TT):Prop:=∀(whole:Sem aj) (ah:List (ai×Obj)) (s:az) (σ:St) (H:Hp) (Q:Bool->Hp->Prop),Inv X ah σ H s->t σ H Q->wpAny (model X.prog X.w) X.A (isTrue e X.env whole) (TP X ah σ Q) X.xe s
theorem PW.pt{X:Cx}{e:bj}{t:TT}(h:PW X e t):PT X e t:=h _
def PA(X:Cx)(es:List bj)(t:TA):Prop:=∀(pos:Pos) (ah:List (ai×Obj)) (s:az) (σ:St) (H:Hp) (Q:List V->Hp->Prop),Inv X ah σ H s->t σ H Q->wpAny (model X.prog X.w) X.A (spliced (backTo pos (starEach es X.env))) (AP X ah σ Q) X.xe s
def PS(X:Cx)(st:bz)(t:TS):Prop:=∀(ah:List (ai×Obj)) (s:az) (σ:St) (H:Hp) (D:Ends),Inv X ah σ H s->t D σ H->wpAny (model X.prog X.w) X.A (exec st X.env) (SP X ah D) X.xe s
def gN(X:Cx)(st:List bz)(t:TS):Prop:=∀(ah:List (ai×Obj)) (s:az) (σ:St) (H:Hp) (D:Ends),Inv X ah σ H s->t D σ H->wpAny (model X.prog X.w) X.A (execs st X.env) (SP X ah D) X.xe s
theorem bn{α:Type}{t:Sem α}{Q Q':α->az->Prop}{M:Model}{A:bT}{E:aj->az->Prop}{s:az}(h:wpAny M A t Q E s)(hQ:∀a s,Q a s->Q' a s):wpAny M A t Q' E s:=h7 h hQ λ_ _ x=>x
section
variable{X:Cx}
def fQ(i:Nat):TE:=λσ H Q=>∃v,σ[i]? = ac (ac v)/\Q v H
def tC(v:V):TE:=λ_ H Q=>Q v H
theorem Q6{i:Nat}{x:Str}{pos:Pos}(hN:X.N[i]? = ac x)(hv:uh X.env.scope x)(hd:(x==("__debug__" : Str))=false:=by decide)(hcd:(x==("__classdict__" : Str))=false:=by decide):PE X (.Name x pos) (fQ i):=by
 intro ah s σ H Q I h;obtain⟨v,e,h⟩:=h;obtain⟨m,hn,hl⟩:=I.loc;obtain⟨u,r,l⟩:=hl i x v hN e hv;have fin:EP X ah σ Q u s:=⟨v,H,I,r,h⟩;rcases l with ⟨hk,hm⟩|⟨hk,c,hc,hcell⟩
 ·exact wpAny_Name (wpAny_loadName_local I.ok.kind hk hn hm fin) hd
 ·rcases hk with hk|hk
  ·exact wpAny_Name (wpAny_loadName_cell I.ok.kind hk hc hcell fin) hd
  ·exact wpAny_Name (wpAny_loadName_free I.ok.kind hk hc hcell fin hcd) hd
theorem aA{i j pos}:PE X (.Constant (.int i) j pos) (tC (.int i)):=λ_ _ _ H _ I h=>wpAny_Constant_int ⟨.int i,H,I.tok _,⟨_,rfl⟩,h⟩
theorem iH{b j pos}:PE X (.Constant (.bool b) j pos) (tC (.bl b)):=λ_ _ _ H _ I h=>Constant_bool ⟨.bl b,H,I,rfl,h⟩
theorem uN{j pos}:PE X (.Constant .none j pos) (tC .non):=λ_ _ _ H _ I h=>Constant_none ⟨.non,H,I,rfl,h⟩
theorem kI{x j pos}:PE X (.Constant (.str x) j pos) (tC (.str x)):=λ_ _ _ H _ I h=>Calls.Constant_str ⟨.str x,H,I.tok _,⟨_,rfl⟩,h⟩
def Gl(X:Cx)(x:Str):Prop:=X.env.kindOf x=ac .globalImplicit
theorem rm{E:aj->az->Prop}{ah:List (ai×Obj)}{s:az}{σ:St}{H:Hp}{x:Str}{u:aj}{pos:Pos}{Q:aj->az->Prop}(I:Inv X ah σ H s)(hg:Gl X x)(hm:X.mg x=ac u)(h:Q u s)
 (hd:(x==("__debug__" : Str))=false:=by decide):wpAny (model X.prog X.w) X.A (eval (.Name x pos) X.env) Q E s:=
 L5 I.ok.kind hg (Calls.loadGlobal_global (by rw[I.ok.glob];exact I.mod.glob.keeps I.bk) hm h) hd
theorem ql{E:aj->az->Prop}{ah:List (ai×Obj)}{s:az}{σ:St}{H:Hp}{x:Str}{u:aj}{pos:Pos}{Q:aj->az->Prop}(I:Inv X ah σ H s)(hg:Gl X x)(hm:X.mg x=af)(hv:bootBuiltins x=ac u)(h:Q u s)
 (hn:x ≠ "__name__" := by decide) (hd:(x==("__debug__" : Str))=false:=by decide):wpAny (model X.prog X.w) X.A (eval (.Name x pos) X.env) Q E s:=by
 obtain⟨mb,h1,h2⟩:=I.mod.blt;exact L5 I.ok.kind hg (Calls.loadGlobal_builtin (by rw[I.ok.glob];exact I.mod.glob.keeps I.bk) hm (by rw[I.ok.blt];exact h1.keeps I.bk) ((h2 x hn).trans hv) h) hd
theorem jz{x:Str}{v:V}{u:aj}{pos:Pos}(hg:Gl X x)(hm:X.mg x=ac u)(r:RelV v u)(hd:(x==("__debug__" : Str))=false:=by decide):PE X (.Name x pos) (tC v):=λ_ _ _ H _ I h=>rm I hg hm ⟨v,H,I,r,h⟩ hd
theorem Rx{x:Str}{v:V}{u:aj}{pos:Pos}(hg:Gl X x)(hm:X.mg x=af)(hv:bootBuiltins x=ac u)(r:RelV v u)(hn:x ≠ "__name__" := by decide)(hd:(x==("__debug__" : Str))=false:=by decide):PE X (.Name x pos) (tC v):=λ_ _ _ H _ I h=>ql I hg hm hv ⟨v,H,I,r,h⟩ hn hd
variable{a b:bj}{ta tb:TE}{pos:Pos}
def PC(X:Cx)(op:CmpOp)(a b:bj)(t:TE):Prop:=
 ∀(ah:List (ai×Obj)) (s:az) (σ:St) (H:Hp) (Q:VK),Inv X ah σ H s->t σ H Q ->
  wpAny (model X.prog X.w) X.A (eval a X.env) (λv s₁=>wpAny (model X.prog X.w) X.A (eval b X.env) (λu s₂=>wpAny (model X.prog X.w) X.A (compareOp op v u) (EP X ah σ Q) X.xe s₂) X.xe s₁) X.xe s
def tB(t:TE):TT:=λσ H Q=>t σ H λx H1=>∃c,x=.bl c/\Q c H1
theorem Ku{op:CmpOp}{t:TE}(h:PC X op a b t)(h1:behindInMarks op b=false:=by first|exact Wo _ (by decide) (by decide)|rfl):PT X (.Compare a [op] [b] pos) (tB t):=by intro ah s σ H Q I hw;refine wpAny_isTrue_Compare1 (bn (h ah s σ H _ I hw) λv s1 h1=>bn h1 λu s2 h2=>bn h2 λc s3 ⟨x,H1,I1,r1,q1⟩=>?_) h1;obtain⟨d,rfl,q⟩:=q1;cases r1;exact pI ⟨H1,I1,q⟩
theorem gZ{e:bj}{t:TE}(h:PE X e t)(he:∀whole,isTrue e X.env whole=(do let v <- whole;standAt e.pos;holding [v] (truthy v)):=by intro _;rfl):PT X e (tB t):=by intro ah s σ H Q I hw;refine isTrue_plain (bn (h ah s σ H _ I hw) λv s1 ⟨x,H1,I1,r1,q1⟩=>?_) (he _);obtain⟨d,rfl,q⟩:=q1;cases r1;exact pI ⟨H1,I1,q⟩
variable{tA tB':TT}{rest:List bj}
def HC(t u:TT):TT:=λσ H Q=>t σ H λc H1=>if c=true then u σ H1 Q else Q false H1
def Gb(t u:TT):TT:=λσ H Q=>t σ H λc H1=>if c=true then Q true H1 else u σ H1 Q
def HN(t:TT):TT:=λσ H Q=>t σ H λc H1=>Q (!c) H1
theorem pw_and1(ha:PT X a tA):PW X (.BoolOp .And [a] pos) tA:=by
 intro wh ah s σ H Q I h;refine isTrue_and (bn (ha ah s σ H Q I h) λc s1 e=>?_);cases c with
 |true=>exact isTrue_and_nil e
 |false=>exact e
theorem pw_or1(ha:PT X a tA):PW X (.BoolOp .Or [a] pos) tA:=by
 intro wh ah s σ H Q I h;refine isTrue_or (bn (ha ah s σ H Q I h) λc s1 e=>?_);cases c with
 |false=>exact isTrue_or_nil e
 |true=>exact e
theorem pw_and(ha:PT X a tA)(hb:PW X (.BoolOp .And (b::rest) pos) tB'):PW X (.BoolOp .And (a::b::rest) pos) (HC tA tB'):=by
 intro wh ah s σ H Q I h;refine isTrue_and (bn (ha ah s σ H _ I h) λc s1 ⟨H1,I1,q1⟩=>?_);cases c with
 |true=>exact hb wh ah s1 σ H1 Q I1 q1
 |false=>exact⟨H1,I1,q1⟩
theorem pw_or(ha:PT X a tA)(hb:PW X (.BoolOp .Or (b::rest) pos) tB'):PW X (.BoolOp .Or (a::b::rest) pos) (Gb tA tB'):=by
 intro wh ah s σ H Q I h;refine isTrue_or (bn (ha ah s σ H _ I h) λc s1 ⟨H1,I1,q1⟩=>?_);cases c with
 |true=>exact⟨H1,I1,q1⟩
 |false=>exact hb wh ah s1 σ H1 Q I1 q1
theorem iQ(ha:PT X a tA):PT X (.UnaryOp .Not a pos) (HN tA):=by intro ah s σ H Q I h;exact isTrue_not (ha ah s σ H (λc H1=>Q (!c) H1) I h)
def JH(ta tb:TE):TE:=λσ H Q=>ta σ H λx H1=>∃c,x=.bl c/\if c=true then tb σ H1 Q else Q (.bl false) H1
def Fg(ta tb:TE):TE:=λσ H Q=>ta σ H λx H1=>∃c,x=.bl c/\if c=true then Q (.bl true) H1 else tb σ H1 Q
def IB(ta:TE):TE:=λσ H Q=>ta σ H λx H1=>∃c,x=.bl c/\Q (.bl (!c)) H1
theorem nq{op}{t:TE}(h:PE X a t):PE X (.BoolOp op [a] pos) t:=λah s σ H Q I hw=>BoolOp_one (h ah s σ H Q I hw)
theorem qG(ha:PE X a ta)(hb:PE X (.BoolOp .And (b::rest) pos) tb):PE X (.BoolOp .And (a::b::rest) pos) (JH ta tb):=by
 intro ah s σ H Q I h;refine BoolOp_and (bn (ha ah s σ H _ I h) λv s1 ⟨x,H1,I1,r1,q1⟩=>?_);obtain⟨c,rfl,q1⟩:=q1;cases r1;refine pI ?_;cases c with
 |true=>exact hb ah s1 σ H1 Q I1 q1
 |false=>exact⟨.bl false,H1,I1,rfl,q1⟩
theorem EK(ha:PE X a ta)(hb:PE X (.BoolOp .Or (b::rest) pos) tb):PE X (.BoolOp .Or (a::b::rest) pos) (Fg ta tb):=by
 intro ah s σ H Q I h;refine BoolOp_or (bn (ha ah s σ H _ I h) λv s1 ⟨x,H1,I1,r1,q1⟩=>?_);obtain⟨c,rfl,q1⟩:=q1;cases r1;refine pI ?_;cases c with
 |false=>exact hb ah s1 σ H1 Q I1 q1
 |true=>exact⟨.bl true,H1,I1,rfl,q1⟩
theorem S4(ha:PE X a ta):PE X (.UnaryOp .Not a pos) (IB ta):=by intro ah s σ H Q I h;refine UnaryOp_ (bn (ha ah s σ H _ I h) λv s1 ⟨x,H1,I1,r1,q1⟩=>?_);obtain⟨c,rfl,q1⟩:=q1;cases r1;exact not_of (pI ⟨.bl (!c),H1,I1,rfl,q1⟩)
def F0(t:TT)(ta tb:TE):TE:=λσ H Q=>t σ H λc H1=>if c=true then ta σ H1 Q else tb σ H1 Q
theorem At{c:bj}(hc:PT X c tA)(ha:PE X a ta)(hb:PE X b tb):PE X (.IfExp c a b pos) (F0 tA ta tb):=by
 intro ah s σ H Q I h;refine wpAny_IfExp (bn (hc ah s σ H _ I h) λd s1 ⟨H1,I1,q1⟩=>?_);cases d with
 |true=>exact ha ah s1 σ H1 Q I1 q1
 |false=>exact hb ah s1 σ H1 Q I1 q1
end
def fW(K:aO)(H:Hp)(a:ai)(xs:List V):Prop:=
 Rd H a (.lst xs) \/
  ∃(o:Obj) (ax:Array aj) (n:Nat),K.lookup a=ac o/\o.cls=.type "list" /\ o.dict=af/\o.data=.seq ax n/\ax.size<=sizeLine/\Vals xs ax.toList
def gu(K:aO)(H:Hp)(a:ai)(xs:List V):Prop:=
 Rd H a (.tup xs) \/
  ∃(o:Obj) (ax:Array aj) (n:Nat),K.lookup a=ac o/\o.cls=.type "tuple" /\ o.data=.seq ax n/\ax.size<=sizeLine/\Vals xs ax.toList
def Qf:aj->Option V
 |.none=>ac .non
 |.bool b=>ac (.bl b)
 |.int i _=>ac (.int i)
 |.str x _=>ac (.str x)
 |.bytes b _=>ac (.byt b)
 |.float b _=>ac (.flt b)
 |.ref a=>ac (.ref a)
 |.type n=>ac (.ty n)
 |_=>af
theorem RelV.abs{x:V}{u:aj}(r:RelV x u):Qf u=ac x:=by
 cases x with
 |non=>cases r;rfl
 |bl _=>cases r;rfl
 |int _=>obtain⟨t,rfl⟩:=r;rfl
 |str _=>obtain⟨t,rfl⟩:=r;rfl
 |byt _=>obtain⟨t,rfl⟩:=r;rfl
 |flt _=>obtain⟨t,rfl⟩:=r;rfl
 |ref _=>cases r;rfl
 |ty _=>cases r;rfl
theorem RelV.inj{x y:V}{u:aj}(r:RelV x u)(q:RelV y u):x=y:=jQ (r.abs.symm.trans q.abs)
theorem Vals.inj:∀{xs ys:List V} {us:List aj},Vals xs us->Vals ys us->xs=ys
 |_,_,_,.nil,.nil=>rfl
 |_,_,_,.cons r t,.cons r' t'=>by rw[r.inj r',Vals.inj t t']
section
variable{X:Cx}{ah:List (ai×Obj)}{σ:St}{H:Hp}{s:az}{a:ai}{xs ys:List V}
theorem Inv.list(I:Inv X ah σ H s)(h:fW X.K H a xs):∃ax:List aj,Vals xs ax/\PlainL s.heap a ax.toArray/\xs.length<=sizeLine:=by
 rcases h with h|⟨o,ax,n,hk,hc,hd,hs,hz,r⟩
 ·obtain⟨z,ax,n,r,e⟩:=h.ok I.hok;exact⟨ax,r,⟨_,n,e,rfl,rfl,rfl⟩,z⟩
 ·refine⟨ax.toList,r,⟨o,n,I.fR a o hk,hc,hd,by simpa using hs⟩,?_⟩;have e:=r.length;simp only[wx]at e;omega
theorem Inv.tuple(I:Inv X ah σ H s)(h:gu X.K H a xs):∃ax:List aj,Vals xs ax/\IsTup s.heap a ax.toArray/\xs.length<=sizeLine:=by
 rcases h with h|⟨o,ax,n,hk,hc,hs,hz,r⟩
 ·obtain⟨z,ax,r,p⟩:=h.ok I.hok;exact⟨ax,r,p.tup,z⟩
 ·refine⟨ax.toList,r,⟨o,I.fR a o hk,hc,n,by simpa using hs⟩,?_⟩;have e:=r.length;simp only[wx]at e;omega
theorem Inv.Av(I:Inv X ah σ H s)(h:fW X.K H a xs)(h':fW X.K H a ys):xs=ys:=by
 obtain⟨ax,r,⟨o,n,e,_,_,d⟩,_⟩:=I.list h;obtain⟨its',r',⟨o',n',e',_,_,d'⟩,_⟩:=I.list h';rw[e]at e';cases e';rw[d]at d';injection d' with d1 _;have:ax=its':=by simpa using congrArg Array.toList d1
 subst this;exact r.inj r'
theorem Inv.A9(I:Inv X ah σ H s)(h:gu X.K H a xs)(h':gu X.K H a ys):xs=ys:=by
 obtain⟨ax,r,⟨o,e,_,n,d⟩,_⟩:=I.tuple h;obtain⟨its',r',⟨o',e',_,n',d'⟩,_⟩:=I.tuple h';rw[e]at e';cases e';rw[d]at d';injection d' with d1 _;have:ax=its':=by simpa using congrArg Array.toList d1
 subst this;exact r.inj r'
end
abbrev Cx.wish(X:Cx)(E:aj->az->Prop):Cx:={ X with xe:=E }
abbrev Cx.pD(X:Cx):Cx:=X.wish λ_ _=>False
theorem Cx.Ok.wish{X:Cx}(ok:X.Ok)(E:aj->az->Prop):(X.wish E).Ok:=⟨ok.mod,ok.kind,ok.glob,ok.blt,ok.above,ok.inj,ok.has,ok.cab,ok.hd,ok.frames,ok.stk,ok.exf,ok.bs,ok.bsz,ok.rh,ok.tV,ok.iF,ok.frf⟩
theorem Cx.Ok.oG{X:Cx}{E:aj->az->Prop}(ok:(X.wish E).Ok):X.Ok:=⟨ok.mod,ok.kind,ok.glob,ok.blt,ok.above,ok.inj,ok.has,ok.cab,ok.hd,ok.frames,ok.stk,ok.exf,ok.bs,ok.bsz,ok.rh,ok.tV,ok.iF,ok.frf⟩
section
variable{X:Cx}{ah:List (ai×Obj)}{σ:St}{H:Hp}{s:az}{E:aj->az->Prop}
theorem Inv.wish(I:Inv X ah σ H s)(E:aj->az->Prop):Inv (X.wish E) ah σ H s:=⟨I.ok.wish E,I.os,I.bare,I.base,I.loc,I.cell,I.free,I.i9,I.pin,I.hok,I.len⟩
theorem Inv.oG(I:Inv (X.wish E) ah σ H s):Inv X ah σ H s:=⟨I.ok.oG,I.os,I.bare,I.base,I.loc,I.cell,I.free,I.i9,I.pin,I.hok,I.len⟩
theorem SP.oG{D:Ends}{f:Flow}{s':az}(h:SP (X.wish E) ah D f s'):SP X ah D f s':=by
 cases f with
 |next=>obtain⟨σ',H',I,q⟩:=h;exact⟨σ',H',I.oG,q⟩
 |brk=>obtain⟨σ',H',I,q⟩:=h;exact⟨σ',H',I.oG,q⟩
 |cont=>obtain⟨σ',H',I,q⟩:=h;exact⟨σ',H',I.oG,q⟩
 |ret u=>obtain⟨v,σ',H',I,r,q⟩:=h;exact⟨v,σ',H',I.oG,r,q⟩
theorem gN.pD{st:List bz}{t:TS}(h:gN X.pD st t):gN X st t:=λah s σ H D I hw=>
 h7 (h ah s σ H D (I.wish _) hw) (λ_ _ q=>q.oG) λ_ _ z=>iD z
end
section
variable{X:Cx}{st:bz}{rest:List bz}{t u:TS}{e:bj}{te:TE}{pos:Pos}
def vB:TS:=λD σ H=>D.nx σ H
def pz(t u:TS):TS:=λD σ H=>t { D with nx:=u D } σ H
theorem cS:gN X [] vB:=λ_ _ σ H _ I h=>tJ ⟨σ,H,I,h⟩
theorem aL(h1:PS X st t)(h2:gN X rest u):gN X (st::rest) (pz t u):=by
 intro ah s σ H D I h;refine Dq (bn (h1 ah s σ H { D with nx:=u D } I h) λf s1 q=>?_);cases f with
 |next=>
  obtain⟨σ',H',I',q⟩:=q;exact h2 ah s1 σ' H' D I' q
 |ret v=>exact q
 |brk=>exact q
 |cont=>exact q
theorem aW(h1:PS X st t):gN X [st] t:=by
 intro ah s σ H D I h;refine Dq (bn (h1 ah s σ H D I h) λf s1 q=>?_);cases f with
 |next=>exact tJ q
 |ret v=>exact q
 |brk=>exact q
 |cont=>exact q
theorem Inv.quiet{ah:List (ai×Obj)}{σ:St}{H:Hp}{s:az}(I:Inv X ah σ H s):interactive X.env=false:=by simp[interactive,I.ok.kind]
def nW(te:TE):TS:=λD σ H=>te σ H λ_ H1=>D.nx σ H1
theorem eZ(he:PE X e te)(hs:swapsWith e af pos.line X.env=pure false:=by rfl):PS X (.Expr e pos) (nW te):=by intro ah s σ H D I h;exact wpAny_Expr_any (bn (he ah s σ H _ I h) λv s1 ⟨x,H1,I1,r1,q1⟩=>⟨σ,H1,I1,q1⟩) I.quiet hs
def nQ(te:TE):TS:=λD σ H=>te σ H D.rt
theorem bQ(he:PE X e te):PS X (.Return (ac e) pos) (nQ te):=by intro ah s σ H D I h;exact wpAny_Return_some (bn (he ah s σ H _ I h) λv s1 ⟨x,H1,I1,r1,q1⟩=>⟨x,σ,H1,I1,r1,q1⟩)
def sT(c:TT)(t u:TS):TS:=λD σ H=>c σ H λb H1=>if b=true then t D σ H1 else u D σ H1
theorem cL{c:bj}{a b:List bz}{tc:TT}(hc:PT X c tc)(ha:gN X a t)(hb:gN X b u):PS X (.If c a b pos) (sT tc t u):=by
 intro ah s σ H D I h;refine wpAny_If (bn (hc ah s σ H _ I h) λd s1 ⟨H1,I1,q1⟩=>?_);cases d with
 |true=>exact ha ah s1 σ H1 D I1 q1
 |false=>exact hb ah s1 σ H1 D I1 q1
def JI:TS:=λ_ _ _=>False
theorem Gw:PS X st JI:=λ_ _ _ _ _ _ h=>h.elim
end
abbrev TG:=V->St->Hp->(St->Hp->Prop)->Prop
abbrev kK:=List V->St->Hp->(St->Hp->Prop)->Prop
def PG(X:Cx)(target:bj)(t:TG):Prop:=
 ∀(ah:List (ai×Obj)) (s:az) (σ:St) (H:Hp) (v:V) (u:aj) (Q:St->Hp->Prop),Inv X ah σ H s->RelV v u->t v σ H Q ->
  wpAny (model X.prog X.w) X.A (assign target X.env u) (λ_ s'=>∃σ' H',Inv X ah σ' H' s'/\Q σ' H') X.xe s
def yJ(X:Cx)(ts:List bj)(t:kK):Prop:=
 ∀(ah:List (ai×Obj)) (s:az) (σ:St) (H:Hp) (vs:List V) (us:List aj) (Q:St->Hp->Prop),Inv X ah σ H s->Vals vs us->t vs σ H Q ->
  wpAny (model X.prog X.w) X.A (assignInOrder ((assignEach ts X.env).map (·.2)) us) (λ_ s'=>∃σ' H',Inv X ah σ' H' s'/\Q σ' H') X.xe s
section
variable{X:Cx}{pos:Pos}
def i3(i:Nat):TG:=λv σ H Q=>Q (σ.set i (ac v)) H
theorem dj{i:Nat}{x:Str}(hN:X.N.Nodup)(hi:X.N[i]? = ac x)(hx:Loc X.env.scope x)(hf:X.fn x=true\/X.env.scope.names.lookup x=ac .local:=by first|exact .inl rfl|exact .inr rfl|assumption):PG X (.Name x pos) (i3 i):=by intro ah s σ H v u Q I r h;exact wpAny_assign_Name (r6 I hN hi hx r (λs' I'=>⟨_,H,I',h⟩) hf)
def vN:kK:=λvs σ H Q=>vs=[]/\Q σ H
def vK(t:TG)(u:kK):kK:=λvs σ H Q=>∃v r,vs=v::r/\t v σ H λσ' H'=>u r σ' H' Q
theorem iZ:yJ X [] vN:=by intro ah s σ H vs us Q I r h;obtain⟨e,h⟩:=h;subst e;cases r;exact assignInOrder_nil ⟨σ,H,I,h⟩
theorem dZ{e:bj}{es:List bj}{t:TG}{u:kK}(h1:PG X e t)(h2:yJ X es u)
 (hs:(assignEach (e::es) X.env).map (·.2)=assign e X.env::(assignEach es X.env).map (·.2):=by rfl):yJ X (e::es) (vK t u):=by
 intro ah s σ H vs us Q I r h;obtain⟨v,vr,e1,h⟩:=h;subst e1;cases r with
 |cons r rr=>
  rw[hs];refine DE (bn (h1 ah s σ H _ _ _ I r h) λ_ s1 ⟨σ1,H1,I1,q1⟩=>?_);exact h2 ah s1 σ1 H1 _ _ Q I1 rr q1
def CM(K:aO)(n:Nat)(t:kK):TG:=λv σ H Q=>∃a xs,v=.ref a/\gu K H a xs/\xs.length=n/\t xs σ H Q
theorem i5{es:List bj}{k:Nat}{t:kK}{n:Nat}(hc:X.calm=true)(h:yJ X es t)
 (hn:(assignEach es X.env).length=n:=by rfl) (hst:(assignEach es X.env).findIdx? (·.1)=af:=by rfl):PG X (.Tuple es k pos) (CM X.K n t):=by
 intro ah s σ H v u Q I r hw;obtain⟨a,xs,e1,hq,hl,hw⟩:=hw;subst e1;cases r;obtain⟨ax,rv,ht,hz⟩:=I.tuple hq;refine assign_Tuple_tuple (I.ok.hd hc) ht (by simp[hn,<- hl,rv.length]) hst λh' hx=>?_;have I1:Inv X ah σ H { s with heap:=h' }:=I.kept (t':=s.toks) λb o e=>hx b o (iO (cY e)) e;exact h ah _ σ H xs _ Q I1 (by simpa using rv) hw
def l5(te:TE)(g:TG):TS:=λD σ H=>te σ H λx H1=>g x σ H1 D.nx
theorem wX{tg e:bj}{te:TE}{g:TG}(he:PE X e te)(hg:PG X tg g)(hs:swapsWithSole [tg] e pos.line X.env=pure false:=by rfl)(hw:swappedStores [tg] e X.env=pure af:=by rfl)
 (h1:(assignEach [tg] X.env).map (·.2)=[assign tg X.env]:=by rfl):PS X (.Assign [tg] e pos) (l5 te g):=by
 intro ah s σ H D I h;refine wpAny_Assign_stores (bn (he ah s σ H _ I h) λv s1 ⟨x,H1,I1,r1,q1⟩=>?_) hs hw;rw[h1];exact bn (hg ah s1 σ H1 x v _ I1 r1 q1) λ_ s2 q=>q
theorem k4{i:Nat}{x:Str}{e:bj}{te:TE}{pos':Pos}(hN:X.N.Nodup)(hi:X.N[i]? = ac x)(hx:Loc X.env.scope x)(he:PE X e te)(hs:swapsWith e (ac (.Name x pos')) pos.line X.env=pure false:=by rfl)(hf:X.fn x=true\/X.env.scope.names.lookup x=ac .local:=by first|exact .inl rfl|exact .inr rfl|assumption) :
 PS X (.Assign [.Name x pos'] e pos) (l5 te (i3 i)):=by
 intro ah s σ H D I h;refine wpAny_Assign_Name (bn (he ah s σ H _ I h) λv s1 ⟨y,H1,I1,r1,q1⟩=>?_) hs;exact r6 I1 hN hi hx r1 (λs2 I2=>⟨_,H1,I2,q1⟩) hf
def Iv(i j:Nat)(ta:TA):TS:=λD σ H=>ta σ H λvs H1=>∃v w,vs=[v,w]/\D.nx ((σ.set i (ac v)).set j (ac w)) H1
theorem ED{i j:Nat}{x y:Str}{a b:bj}{ta:TA}{px py pt:Pos}{kt k2 pt2}(hc:X.calm=true)(hN:X.N.Nodup)(hi:X.N[i]? = ac x)(hj:X.N[j]? = ac y)(hij:i≠j)
 (hx:X.env.scope.names.lookup x=ac .local) (hy:X.env.scope.names.lookup y=ac .local) (ha:PA X [a,b] ta)
 (hw:swappedStores [.Tuple [.Name x px,.Name y py] kt pt] (.Tuple [a,b] k2 pt2) X.env=pure (ac [x,y]))
 (hs:swapsWithSole [.Tuple [.Name x px,.Name y py] kt pt] (.Tuple [a,b] k2 pt2) pos.line X.env=pure false:=by rfl) :
 PS X (.Assign [.Tuple [.Name x px,.Name y py] kt pt] (.Tuple [a,b] k2 pt2) pos) (Iv i j ta):=by
 intro ah s σ H D I h;rw[exec_Assign_arm];refine aV (zj ?_);rw[hs];refine aV (cE ?_);rw[a7 (by decide)];refine aV (Tuple_ (bn (ha _ ah s σ H _ I h) λus s1 ⟨vs,H1,I1,r1,q1⟩=>?_));obtain⟨v,w,e1,q1⟩:=q1;subst e1;obtain⟨u1,u2,rfl,rv,rw'⟩ : ∃u1 u2,us=[u1,u2]/\RelV v u1/\RelV w u2:=by
  cases r1 with
  |cons p q=>
   cases q with
   |cons p' q'=>
    cases q';exact⟨_,_,rfl,p,p'⟩
 refine zg ?_ (by show 2<=sizeLine;decide);have I2:Inv X ah σ H1 { s1 with heap:=s1.heap.push { cls:=.type "tuple",data:=.seq [u1,u2].toArray } }:=I1.kept (t':=s1.toks) λb o e=>dI _ e;rw[hw];refine aV (cE ?_);show wpAny (model X.prog X.w) X.A (do rule "assign.swapped-stores"; let items <- unpackItems (.ref s1.heap.objs.size) 2 af;assignInOrder [λv=>bindName X.env y v,λv=>bindName X.env x v] items.reverse;pure Flow.next) _ _ _;refine aV (wpAny_rule (aV (unpackItems_tuple (items:=#[u1,u2]) (I.ok.hd hc) (IsTup.new s1.heap _) λh' hx'=>?_)));have I3:=I2.kept (h':=h') (t':=s1.toks) λb o e=>hx' b o (iO (cY e)) e;show wpAny _ _ (assignInOrder [λv=>bindName X.env y v,λv=>bindName X.env x v] [u2,u1] >>= λ_=>pure Flow.next) _ _ _;refine aV (DE (Ds (r6 I3 hN hj (.inl hy) rw' (λs2 I4=>?_) (.inr hy))));refine DE (Ds (r6 I4 hN hi (.inl hx) rv (λs3 I5=>assignInOrder_nil (cE ?_)) (.inr hx)));rw[List.set_comm _ _ (dW hij)]at I5;exact⟨_,H1,I5,q1⟩
end
section
variable{X:Cx}{pos:Pos}
def FV(c:TT)(tb:TS):TS:=λD σ H=>∃W:Nat->St->Hp->Prop,(∃m,W m σ H)/\∀m σ H,W m σ H ->
 c σ H λb H1=>if b=true then∃N:St->Hp->Prop,(∀σ' H',N σ' H'->∃m',m'<m/\W m' σ' H')/\tb { D with nx:=N,ct:=N,bk:=D.nx } σ H1 else D.nx σ H1
theorem Pe{c:bj}{body:List bz}{tc:TT}{tb:TS}(hp:PassesOwn (model X.prog X.w) X.A X.env X.xe)(hc:PT X c tc)(hb:gN X body tb):PS X (.While c body [] pos) (FV tc tb):=by
 intro ah s σ H D I h;obtain⟨W,⟨m0,w0⟩,turn⟩:=h;refine wpAny_While (codeAny_whileLoop (λn s'=>∃σ' H',Inv X ah σ' H' s'/\W n σ' H') ?_ m0 ⟨σ,H,I,w0⟩);rintro n s1 ⟨σ1,H1,I1,w1⟩;refine qX hp (bn (hc ah s1 σ1 H1 _ I1 (turn n σ1 H1 w1)) λb s2 ⟨H2,I2,q2⟩=>?_);cases b with
 |true=>
  obtain⟨N,hN,q2⟩:=q2;rw[a8 rfl];refine qX hp (bn (hb ah s2 σ1 H2 _ I2 q2) λf s3 q3=>?_);cases f with
  |next=>
   obtain⟨σ3,H3,I3,n3⟩:=q3;obtain⟨m',hm,w3⟩:=hN σ3 H3 n3;exact⟨m',hm,σ3,H3,I3,w3⟩
  |cont=>
   obtain⟨σ3,H3,I3,n3⟩:=q3;obtain⟨m',hm,w3⟩:=hN σ3 H3 n3;exact⟨m',hm,σ3,H3,I3,w3⟩
  |brk=>exact q3
  |ret v=>exact q3
 |false=>
  rw[a7 dJ];exact tJ ⟨σ1,H2,I2,q2⟩
end
structure It where
 go:Nat->Hp->Prop
 yld:Nat->Hp->V->Hp->Prop
 stop:Nat->Hp->Prop
def gQ(X:Cx)(ah:List (ai×Obj))(H:Hp)(b:ai):Prop:=H b=af/\b≠X.env.locals/\b∉X.fs/\(b∈X.ex\/X.s₀.heap.objs.size<=b)/\(∀x c,X.env.cells.lookup x=ac c->c≠b)/\∀p∈X.pn++ah,p.1≠b
theorem Inv.jP{X:Cx}{ah:List (ai×Obj)}{σ:St}{H H':Hp}{s:az}{b:ai}(I:Inv X ah σ H s)(hb:s.heap.objs.size<=b)(hn:H' b=af):gQ X ah H' b:=by
 refine⟨hn,zw (iN I.lt hb),I.Pw hb,.inr (c7 I.sz hb),λx c e z=>?_,λp hp z=>?_⟩
 ·obtain⟨v,q⟩:=I.cell x c e;exact absurd (iN q.lt (by rw[z];exact hb)) (m6 _)
 ·exact absurd (iN (cY (I.pin p hp).1) (by rw[z];exact hb)) (m6 _)
structure Turn(P:bH)(w:bt)(K:aO)(tg:bj)(J:It)(fp:List ai)(it:ai)(tn:Nat->aY->Prop):Prop where
 mem:it∈fp
 obj:∀i h,tn i h->∀b∈fp,∃o,h.get? b=ac o/\∀v,o.data≠.cell v
 keep:∀i h h',tn i h->(∀b∈fp,∀o,h.get? b=ac o->h'.get? b=ac o)->tn i h'
 item:∀(X:Cx),X.prog=P->X.w=w->X.K=K->X.calm=true->∀(i:Nat) (ah:List (ai×Obj)) (s:az) (σ:St) (H:Hp) (E:aj->az->Prop),Inv X ah σ H s->(∀b∈fp,gQ X ah H b)->tn i s.heap->J.go i H ->
  wpAny (model P w) X.A (pyNext (.ref it)) (λr s1=>∃u,r=ac u /\
   wpAny (model P w) X.A (letOwnedTupleGo tg (.ref it) u) (λ_ s2=>∃x H',Inv X ah σ H' s2/\RelV x u/\J.yld i H x H'/\tn (i+1) s2.heap/\∀b∈fp,H' b=af) E s1) E s
 done:∀(X:Cx),X.prog=P->X.w=w->X.K=K->X.calm=true->∀(i:Nat) (ah:List (ai×Obj)) (s:az) (σ:St) (H:Hp) (E:aj->az->Prop),Inv X ah σ H s->(∀b∈fp,gQ X ah H b)->tn i s.heap->J.stop i H ->
  wpAny (model P w) X.A (pyNext (.ref it)) (λr s1=>r=af/\Inv X ah σ H s1) E s
 self:∀(A:bT) (i:Nat) (s:az) (Q:aj->az->Prop) (E:aj->az->Prop),tn i s.heap->Q (.ref it) s->wpAny (model P w) A (pyIter (.ref it)) Q E s
abbrev TI:=St->Hp->(It->Hp->Prop)->Prop
def PIE(X:Cx)(ah:List (ai×Obj))(σ:St)(tg:bj)(R:It->Hp->Prop)(itv:aj)(s2:az):Prop:=∃(it:ai) (fp:List ai) (tn:Nat->aY->Prop) (J:It) (H':Hp),itv=.ref it/\Inv X ah σ H' s2/\Turn X.prog X.w X.K tg J fp it tn/\tn 0 s2.heap/\(∀b∈fp,gQ X ah H' b)/\R J H'
def PI(X:Cx)(tg iter:bj)(wi:TI):Prop:=
 ∀(ah:List (ai×Obj)) (s:az) (σ:St) (H:Hp) (R:It->Hp->Prop),Inv X ah σ H s->wi σ H R ->
  wpAny (model X.prog X.w) X.A (eval iter X.env) (λv s1=>wpAny (model X.prog X.w) X.A (pyIter v) (PIE X ah σ tg R) X.xe s1) X.xe s
theorem wI{M:Model}{A:bT}{E:aj->az->Prop}{s:az}{tg:bj}{it:ai}{u:aj}{o:Obj}{n:String}{vs:Array aj}{Q:Unit->az->Prop}(ho:s.heap.get? it=ac o)(hc:o.cls=.type n)(hd:o.data=.fields vs)
 (hn:["enumerate","zip","dict_itemiterator","dict_reverseitemiterator","odict_iterator","itertools.zip_longest","itertools.pairwise"].contains n=false) (hQ:Q () s):wpAny M A (letOwnedTupleGo tg (.ref it) u) Q E s:=by
 unfold letOwnedTupleGo;cases tg<;>first
  |exact cE hQ
  | (cases u<;>first
   |exact cE hQ
   | (refine aV (wpAny_load ho ?_)
      rw[hc,hd];show wpAny M A (if(["enumerate","zip","dict_itemiterator","dict_reverseitemiterator","odict_iterator","itertools.zip_longest","itertools.pairwise"].contains n&&vs[0]? == ac (rawInt _))=true then _ else _) Q E s;rw[a7 (by intro h;rw[hn,Bool.false_and]at h;cases h)];exact cE hQ))
def vI(K:aO)(a:ai):It:=⟨λi H=>∃xs x,fW K H a xs/\xs[i]? = ac x,λi H x H'=>H'=H/\∀xs,fW K H a xs->xs[i]? = ac x,λi H=>∃xs,fW K H a xs/\xs.length<=i⟩
def vR(K:aO)(a:ai):It:=⟨λi H=>∃xs x,gu K H a xs/\xs[i]? = ac x,λi H x H'=>H'=H/\∀xs,gu K H a xs->xs[i]? = ac x,λi H=>∃xs,gu K H a xs/\xs.length<=i⟩
def oA(lo:Int)(n:Nat):It:=⟨λi _=>i<n,λi H x H'=>H'=H/\x=.int (lo+i),λi _=>n<=i⟩
theorem Oz{P:bH}{w:bt}{K:aO}{tg:bj}(a it:ai):Turn P w K tg (vI K a) [it] it (λi h=>h.IsListIter it a i) where
 mem:=by simp
 obj:=λi h st b hb=>by
  have e:b=it:=by simpa using hb
  subst e;obtain⟨o,e,c,d⟩:=st;exact⟨o,e,λv z=>by rw[d]at z;cases z⟩
 keep:=λi h h' st k=>st.at λo e=>k it (by simp) o e
 item:=by intro X hP hw hK hc i ah s σ H E I hf st hg;subst hP hw hK;obtain⟨xs,x,hq,hx⟩:=hg;obtain⟨ax,rv,p,hz⟩:=I.list hq;obtain⟨u,hu,ru⟩:=rv.get hx;obtain⟨f0,f1,f2,f3,f4,f5⟩:=hf it (by simp);refine wpAny_pyNext_list_item st p.isList (x:=u) (by simpa using hu) λh' st' sb=>?_;have I1:Inv X ah σ H { s with heap:=h' }:=I.turned (t':=s.toks) (λb o hb e=>(sb.2 b hb).trans e) f0 f1 f3 f4 f5;obtain⟨o,e,c,d⟩:=id st';exact⟨u,rfl,wI (s:={ s with heap:=h' }) e c d (by decide) ⟨x,H,I1,ru,⟨rfl,λys hy=>by rw[I.Av hy hq];exact hx⟩,st',λb hb=>(hf b hb).1⟩⟩
 done:=by intro X hP hw hK hc i ah s σ H E I hf st hg;subst hP hw hK;obtain⟨xs,hq,hx⟩:=hg;obtain⟨ax,rv,p,hz⟩:=I.list hq;obtain⟨f0,f1,f2,f3,f4,f5⟩:=hf it (by simp);have hl:=rv.length;exact wpAny_pyNext_list_end (I.ok.hd hc) st p.isList (by simp;omega) λh' eb=>⟨rfl,I.turned (t':=s.toks) (λb o hb e=>eb b o hb e) f0 f1 f3 f4 f5⟩
 self:=λ_ _ _ _ _ st h=>wpAny_pyIter_listiter st h
theorem OO{P:bH}{w:bt}{K:aO}{tg:bj}(a it:ai):Turn P w K tg (vR K a) [it] it (λi h=>h.IsTupleIter it a i) where
 mem:=by simp
 obj:=λi h st b hb=>by
  have e:b=it:=by simpa using hb
  subst e;obtain⟨o,e,c,d⟩:=st;exact⟨o,e,λv z=>by rw[d]at z;cases z⟩
 keep:=λi h h' st k=>st.at λo e=>k it (by simp) o e
 item:=by intro X hP hw hK hc i ah s σ H E I hf st hg;subst hP hw hK;obtain⟨xs,x,hq,hx⟩:=hg;obtain⟨ax,rv,p,hz⟩:=I.tuple hq;obtain⟨u,hu,ru⟩:=rv.get hx;obtain⟨f0,f1,f2,f3,f4,f5⟩:=hf it (by simp);refine wpAny_pyNext_tuple_item st (show s.heap.IsTuple a ax.toArray from p) (x:=u) (by simpa using hu) λh' st' sb=>?_;have I1:Inv X ah σ H { s with heap:=h' }:=I.turned (t':=s.toks) (λb o hb e=>(sb.2 b hb).trans e) f0 f1 f3 f4 f5;obtain⟨o,e,c,d⟩:=id st';exact⟨u,rfl,wI (s:={ s with heap:=h' }) e c d (by decide) ⟨x,H,I1,ru,⟨rfl,λys hy=>by rw[I.A9 hy hq];exact hx⟩,st',λb hb=>(hf b hb).1⟩⟩
 done:=by intro X hP hw hK hc i ah s σ H E I hf st hg;subst hP hw hK;obtain⟨xs,hq,hx⟩:=hg;obtain⟨ax,rv,p,hz⟩:=I.tuple hq;obtain⟨f0,f1,f2,f3,f4,f5⟩:=hf it (by simp);have hl:=rv.length;exact wpAny_pyNext_tuple_end (I.ok.hd hc) st (show s.heap.IsTuple a ax.toArray from p) (by simp;omega) λh' eb=>⟨rfl,I.turned (t':=s.toks) (λb o hb e=>eb b o hb e) f0 f1 f3 f4 f5⟩
 self:=λ_ _ _ _ _ st h=>wpAny_pyIter_tupleiter st h
theorem Rg{P:bH}{w:bt}{K:aO}{tg:bj}(it:ai)(lo:Int)(n:Nat):Turn P w K tg (oA lo n) [it] it (λi h=>IsRangeIter h it (lo+(i:Nat)*1) ((n:Int)-(i:Nat)) 1) where
 mem:=by simp
 obj:=λi h st b hb=>by
  have e:b=it:=by simpa using hb
  subst e;exact⟨_,st,λv z=>by
   have z':Data.fields _=Data.cell v:=z;cases z'⟩
 keep:=λi h h' st k=>k it (by simp) _ st
 item:=by intro X hP hw hK hc i ah s σ H E I hf st hg;subst hP hw hK;obtain⟨f0,f1,f2,f3,f4,f5⟩:=hf it (by simp);have W:=Walks.range (prog:=X.prog) (w:=X.w) (I.ok.hd hc) it lo 1 n;refine W.item i s _ _ hg st λv h' tk hv st' kk=>?_;obtain⟨t,rfl⟩:=hv;have I1:Inv X ah σ H { s with heap:=h',toks:=tk }:=I.turned (λb o hb e=>kk b o (by simpa using hb) e) f0 f1 f3 f4 f5;refine⟨_,rfl,wI (s:={ s with heap:=h',toks:=tk }) (n := "range_iterator") st' rfl rfl (by decide) ⟨.int (lo+i),H,I1,⟨t,?_⟩,⟨rfl,rfl⟩,st',λb hb=>(hf b hb).1⟩⟩;rw[Int.mul_one]
 done:=by intro X hP hw hK hc i ah s σ H E I hf st hg;subst hP hw hK;obtain⟨f0,f1,f2,f3,f4,f5⟩:=hf it (by simp);exact wpAny_pyNext_range_end (I.ok.hd hc) st (by have:n<=i:=hg;omega) λh' eb=>⟨rfl,I.turned (t':=s.toks) (λb o hb e=>eb b o hb e) f0 f1 f3 f4 f5⟩
 self:=λ_ _ _ _ _ st h=>wpAny_pyIter_rangeiter st h
section
variable{X:Cx}{tg:bj}
def Fy(K:aO)(tl:TE):TI:=λσ H R=>tl σ H λx H1=>∃a,x=.ref a/\(∃xs,fW K H1 a xs)/\R (vI K a) H1
def F4(K:aO)(tl:TE):TI:=λσ H R=>tl σ H λx H1=>∃a,x=.ref a/\(∃xs,gu K H1 a xs)/\R (vR K a) H1
theorem Qh{l:bj}{tl:TE}(hl:PE X l tl):PI X tg l (Fy X.K tl):=by
 intro ah s σ H R I h;refine bn (hl ah s σ H _ I h) λv s1 ⟨x,H1,I1,r1,q1⟩=>?_;obtain⟨a,e,⟨xs,hq⟩,q⟩:=q1;subst e;cases r1;obtain⟨ax,rv,p,hz⟩:=I1.list hq;refine wpAny_pyIter_list p.isList ?_;refine⟨s1.heap.objs.size,[s1.heap.objs.size],_,_,H1,rfl,I1.kept (t':=s1.toks) λb o e=>dI _ e,Oz a _,⟨_,ge _ rfl,rfl,rfl⟩,λb hb=>?_,q⟩;have e:b=s1.heap.objs.size:=by simpa using hb
 subst e;exact I1.jP (bU _) (I1.hok.fresh (bU _))
theorem NK{l:bj}{tl:TE}(hl:PE X l tl):PI X tg l (F4 X.K tl):=by
 intro ah s σ H R I h;refine bn (hl ah s σ H _ I h) λv s1 ⟨x,H1,I1,r1,q1⟩=>?_;obtain⟨a,e,⟨xs,hq⟩,q⟩:=q1;subst e;cases r1;obtain⟨ax,rv,p,hz⟩:=I1.tuple hq;refine wpAny_pyIter_tuple (show s1.heap.IsTuple a ax.toArray from p) ?_;refine⟨s1.heap.objs.size,[s1.heap.objs.size],_,_,H1,rfl,I1.kept (t':=s1.toks) λb o e=>dI _ e,OO a _,⟨_,ge _ rfl,rfl,rfl⟩,λb hb=>?_,q⟩;have e:b=s1.heap.objs.size:=by simpa using hb
 subst e;exact I1.jP (bU _) (I1.hok.fresh (bU _))
theorem GG{ah:List (ai×Obj)}{σ:St}{H:Hp}{s:az}{R:It->Hp->Prop}{E:aj->az->Prop}{lo hi:Int}{t u v:Tok}{tk:Nat}(I:Inv X ah σ H s)(h1:-(2 ^ 62)<=lo)(h2:lo<2 ^ 62)(h3:-(2 ^ 62)<=hi)(h4:hi<2 ^ 62)
 (q:R (oA lo (hi-lo).toNat) H):wpAny (model X.prog X.w) X.A (pyIter (.ref s.heap.objs.size)) (PIE X ah σ tg R) E { s with heap:=s.heap.push { cls:=.type "range", data:=.fields #[.int lo t,.int hi u,.int 1 v] },toks:=tk }:=by
 refine wpAny_pyIter_range (IsRange.new ..) (small_one h1 h2 h3 h4) ?_;have I1:Inv X ah σ H { s with heap:=s.heap.push { cls:=.type "range",data:=.fields #[.int lo t,.int hi u,.int 1 v] },toks:=tk }:=I.kept λb o e=>dI _ e;refine⟨(s.heap.push { cls:=.type "range",data:=.fields #[.int lo t,.int hi u,.int 1 v] }).objs.size,[(s.heap.push { cls:=.type "range", data:=.fields #[.int lo t,.int hi u,.int 1 v] }).objs.size],_,_,H,rfl,
  I1.kept (t':=tk) λb o e=>dI _ e,Rg _ lo (hi-lo).toNat,?_,λb hb=>?_,q⟩
 ·have e1:lo+((0:Nat):Int)*1=lo:=by simp
  have e2:(((hi-lo).toNat:Nat):Int)-((0:Nat):Int)=Builtin.Range.rangeSize lo hi 1:=by rw[rangeSize_one];split<;>omega
  show IsRangeIter _ _ (lo+((0:Nat):Int)*1) ((((hi-lo).toNat:Nat):Int)-((0:Nat):Int)) 1;rw[e1,e2];exact ge _ rfl
 ·have e:b=(s.heap.push { cls:=.type "range", data:=.fields #[.int lo t,.int hi u,.int 1 v] }).objs.size:=by simpa using hb
  subst e;exact I1.jP (bU _) (I1.hok.fresh (bU _))
def FE(ta:TA):TI:=λσ H R=>ta σ H λvs H1=>∃j:Int,vs=[.int j]/\-(2 ^ 62)<=j/\j<2 ^ 62/\R (oA 0 j.toNat) H1
def IK(ta:TA):TI:=λσ H R=>ta σ H λvs H1=>∃i j:Int,vs=[.int i,.int j]/\(-(2 ^ 62)<=i/\i<2 ^ 62/\-(2 ^ 62)<=j/\j<2 ^ 62)/\R (oA i (j-i).toNat) H1
theorem iG{a:bj}{ta:TA}{p pos:Pos}(hg:Gl X "range")(hm:X.mg "range" = af)(ha:PA X [a] ta)(hs:starEach [a] X.env=[(false,eval a X.env)]:=by rfl):PI X tg (.Call (.Name "range" p) [a] [] pos) (FE ta):=by
 intro ah s σ H R I h;refine Call_ (ql I hg hm boot_range (zG (bn (ha pos ah s σ H _ I h) λus s1 ⟨vs,H1,I1,r1,q1⟩=>?_) hs rfl));obtain⟨j,e,q1,q2,q⟩:=q1;subst e;cases r1 with
 |cons r rr=>
  cases rr;obtain⟨t,rfl⟩:=r;exact call_range_1 (GG I1 (by omega) (by omega) q1 q2 (by simpa using q))
theorem SO{a b:bj}{ta:TA}{p pos:Pos}(hg:Gl X "range")(hm:X.mg "range" = af)(ha:PA X [a,b] ta)(hs:starEach [a,b] X.env=[(false,eval a X.env),(false,eval b X.env)]:=by rfl)(hs2:starEach [b] X.env=[(false,eval b X.env)]:=by rfl) :
 PI X tg (.Call (.Name "range" p) [a,b] [] pos) (IK ta):=by
 intro ah s σ H R I h;refine Call_ (ql I hg hm boot_range (zG (bn (ha pos ah s σ H _ I h) λus s1 ⟨vs,H1,I1,r1,q1⟩=>?_) (by rw[hs,hs2]) (by rw[hs2];rfl)));obtain⟨i,j,e,⟨q1,q2,q3,q4⟩,q⟩:=q1;subst e;cases r1 with
 |cons r rr=>
  cases rr with
  |cons r' rr=>
   cases rr;obtain⟨t,rfl⟩:=r;obtain⟨t',rfl⟩:=r';exact call_range_2 (GG I1 q1 q2 q3 q4 q)
def HL(wi:TI)(g:TG)(tb:TS):TS:=λD σ H=>wi σ H λJ H1=>∃W:Nat->Nat->St->Hp->Prop,(∃m,W 0 m σ H1)/\∀i m σ H,W i m σ H ->
 (J.stop i H/\D.nx σ H)\/(J.go i H/\∃N:St->Hp->Prop,(∀σ' H',N σ' H'->∃m',m'<m/\W (i+1) m' σ' H')/\∀x H',J.yld i H x H'->g x σ H' λσ2 H2=>tb { D with nx:=N,ct:=N,bk:=D.nx } σ2 H2)
def xQ(fp:List ai)(h:aY):List (ai×Obj):=fp.filterMap λb=>(h.get? b).map λo=>(b,o)
theorem rP{fp:List ai}{h:aY}{b:ai}{o:Obj}(hb:b∈fp)(e:h.get? b=ac o):(b,o)∈xQ fp h:=Lu.mpr ⟨b,hb,by rw[e];rfl⟩
theorem OR{fp:List ai}{h:aY}{p:ai×Obj}(hp:p∈xQ fp h):p.1∈fp/\h.get? p.1=ac p.2:=by
 obtain⟨b,hb,e⟩:=Lu.mp hp;cases q:h.get? b with
 |none=>rw[q]at e;cases e
 |some o=>
  rw[q]at e;have e':(b,o)=p:=jQ e;subst e';exact⟨hb,q⟩
theorem Inv.pinned{ah:List (ai×Obj)}{σ:St}{H:Hp}{s:az}{fp:List ai}(I:Inv X ah σ H s)(hf:∀b∈fp,gQ X ah H b)(ho:∀b∈fp,∃o,s.heap.get? b=ac o/\∀v,o.data≠.cell v):Inv X (ah++xQ fp s.heap) σ H s:=
 I.Cc λp hp=>(fG.mp hp).elim (λz=>I.pin p (gv _ z)) λz=>by
  obtain⟨hb,e⟩:=OR z;obtain⟨f0,f1,f2,_⟩:=hf p.1 hb;obtain⟨o,e',d⟩:=ho p.1 hb;rw[e]at e';cases e';exact⟨e,f0,f1,f2,d⟩
theorem Inv.rM{ah pl:List (ai×Obj)}{σ:St}{H:Hp}{s:az}(I:Inv X (ah++pl) σ H s):Inv X ah σ H s:=I.Cc λp hp=>I.pin p (gv _ (jv _ hp))
theorem eY{iter:bj}{body:List bz}{wi:TI}{g:TG}{tb:TS}{pos:Pos}(hp:PassesOwn (model X.prog X.w) X.A X.env X.xe)(hc:X.calm=true)(hi:PI X tg iter wi)(hg:PG X tg g)(hb:gN X body tb)
 (hs:∀x,foldedSetIterable iter X.env x=pure x:=by intro _;rfl):PS X (.For tg iter body [] pos) (HL wi g tb):=by
 intro ah s σ H D I h;refine wpAny_For (bn (hi ah s σ H _ I h) λv s1 h1=>bn h1 λitv s2 h2=>?_) hs;obtain⟨it,fp,tn,J,H2,e,I2,T,st2,f2,W,⟨m0,w0⟩,turn⟩:=h2;subst e;have stat:∀{H':Hp},(∀b∈fp,H' b=af)->∀b∈fp,gQ X ah H' b:=λhn b hb=>⟨hn b hb,(f2 b hb).2⟩;refine codeAny_forLoop_any (λn s'=>∃i σ' H',Inv X ah σ' H' s'/\tn i s'.heap/\(∀b∈fp,H' b=af)/\W i n σ' H') ?_ m0 ⟨0,σ,H2,I2,st2,λb hb=>(f2 b hb).1,w0⟩;rintro n s3 ⟨i,σ3,H3,I3,st3,fr3,w3⟩;rcases turn i n σ3 H3 w3 with ⟨stop,qn⟩|⟨go,N,hN,step⟩
 ·refine qX hp (bn (T.done X rfl rfl rfl hc i ah s3 σ3 H3 X.xe I3 (stat fr3) st3 stop) λr s4 ⟨hr,I4⟩=>?_);subst hr;exact tJ ⟨σ3,H3,I4,qn⟩
 ·refine qX hp (bn (T.item X rfl rfl rfl hc i ah s3 σ3 H3 X.xe I3 (stat fr3) st3 go) λr s4 ⟨u,hr,h4⟩=>?_);subst hr;refine qX hp (bn h4 λ_ s5 ⟨x,H5,I5,r5,y5,st5,fr5⟩=>?_);have I5':=I5.pinned (stat fr5) (T.obj _ _ st5);refine qX hp (bn (hg _ s5 σ3 H5 x u _ I5' r5 (step x H5 y5)) λ_ s6 ⟨σ6,H6,I6,q6⟩=>?_);refine qX hp (bn (hb _ s6 σ6 H6 _ I6 q6) λf s7 q7=>?_);have again:∀{σ7:St} {H7:Hp},Inv X (ah++xQ fp s5.heap) σ7 H7 s7->N σ7 H7->∃m,m<n/\∃i σ' H',Inv X ah σ' H' s7/\tn i s7.heap/\(∀b∈fp,H' b=af)/\W i m σ' H':=λ{σ7 H7} I7 n7=>by
   obtain⟨m',hm,w7⟩:=hN σ7 H7 n7;refine⟨m',hm,i+1,σ7,H7,I7.rM,T.keep _ _ _ st5 λb hb o e=>(I7.pin (b,o) (gv _ (gv _ (rP hb e)))).1,λb hb=>?_,w7⟩;obtain⟨o,e,d⟩:=T.obj _ _ st5 b hb;exact(I7.pin (b,o) (gv _ (gv _ (rP hb e)))).2.1
  cases f with
  |next=>obtain⟨σ7,H7,I7,n7⟩:=q7;exact again I7 n7
  |cont=>obtain⟨σ7,H7,I7,n7⟩:=q7;exact again I7 n7
  |brk=>obtain⟨σ7,H7,I7,q7⟩:=q7;exact⟨σ7,H7,I7.rM,q7⟩
  |ret v=>obtain⟨x7,σ7,H7,I7,r7,q7⟩:=q7;exact⟨x7,σ7,H7,I7.rM,r7,q7⟩
end
abbrev R2:=V->V->Hp->VK->Prop
def dO(X:Cx)(f:aj->aj->Sem aj)(r:R2):Prop:=
 ∀(ah:List (ai×Obj)) (s:az) (σ:St) (H:Hp) (x y:V) (v u:aj) (Q:VK),Inv X ah σ H s->RelV x v->RelV y u->r x y H Q ->
  wpAny (model X.prog X.w) X.A (f v u) (EP X ah σ Q) X.xe s
def AL(X:Cx)(f:aj->Sem aj)(r:V->Hp->VK->Prop):Prop:=
 ∀(ah:List (ai×Obj)) (s:az) (σ:St) (H:Hp) (x:V) (v:aj) (Q:VK),Inv X ah σ H s->RelV x v->r x H Q ->
  wpAny (model X.prog X.w) X.A (f v) (EP X ah σ Q) X.xe s
def gT(X:Cx)(f:aj)(r:List V->Hp->VK->Prop):Prop:=
 ∀(ah:List (ai×Obj)) (s:az) (σ:St) (H:Hp) (xs:List V) (us:List aj) (Q:VK),Inv X ah σ H s->Vals xs us->r xs H Q ->
  wpAny (model X.prog X.w) X.A (call f us) (EP X ah σ Q) X.xe s
def Ol(X:Cx)(r:V->Hp->(Bool->Hp->Prop)->Prop):Prop:=
 ∀(ah:List (ai×Obj)) (s:az) (σ:St) (H:Hp) (x:V) (v:aj) (Q:Bool->Hp->Prop),Inv X ah σ H s->RelV x v->r x H Q ->
  wpAny (model X.prog X.w) X.A (truthy v) (TP X ah σ Q) X.xe s
def oD(r:R2)(ta tb:TE):TE:=λσ H Q=>ta σ H λx H1=>tb σ H1 λy H2=>r x y H2 Q
def Kq(r:V->Hp->VK->Prop)(ta:TE):TE:=λσ H Q=>ta σ H λx H1=>r x H1 Q
def rI(C:Int->Int->Prop)(g:Int->Int->V):R2:=λx y H Q=>∃i j,x=.int i/\y=.int j/\C i j/\Q (g i j) H
def lW(g:Int->Int->V):R2:=λx y H Q=>∃i j,x=.int i/\y=.int j/\Q (g i j) H
def rU(g:Int->V):V->Hp->VK->Prop:=λx H Q=>∃i,x=.int i/\Q (g i) H
section
variable{X:Cx}{a b c:bj}{ta tb tc:TE}{pos:Pos}
theorem AC(ha:PE X a ta)(hb:PE X b tb){ah:List (ai×Obj)}{s:az}{σ:St}{H:Hp}{R:V->V->Hp->Prop}(I:Inv X ah σ H s)
 (h:ta σ H λx H1=>tb σ H1 λy H2=>R x y H2) {Q:aj->az->Prop} {f:aj->aj->Sem aj}
 (hf:∀v u s2 x y H2,Inv X ah σ H2 s2->RelV x v->RelV y u->R x y H2->wpAny (model X.prog X.w) X.A (f v u) Q X.xe s2) :
 wpAny (model X.prog X.w) X.A (eval a X.env) (λv s₁=>wpAny (model X.prog X.w) X.A (eval b X.env) (λu s₂=>wpAny (model X.prog X.w) X.A (f v u) Q X.xe s₂) X.xe s₁) X.xe s:=by
 refine bn (ha ah s σ H _ I h) λv s1 ⟨x,H1,I1,r1,q1⟩=>?_;refine bn (hb ah s1 σ H1 _ I1 q1) λu s2 ⟨y,H2,I2,r2,q2⟩=>?_;exact hf v u s2 x y H2 I2 r1 r2 q2
theorem aS{op:Operator}{r:R2}(ho:dO X (binaryOp op) r)(ha:PE X a ta)(hb:PE X b tb):PE X (.BinOp a op b pos) (oD r ta tb):=by intro ah s σ H Q I h;exact wpAny_BinOp (AC ha hb I h λv u s2 x y H2 I2 rx ry q=>ho ah s2 σ H2 x y v u Q I2 rx ry q)
theorem vh{op:UnaryOp}{r:V->Hp->VK->Prop}(ho:AL X (unaryOp op) r)(ha:PE X a ta):PE X (.UnaryOp op a pos) (Kq r ta):=by intro ah s σ H Q I h;exact UnaryOp_ (bn (ha ah s σ H _ I h) λv s1 ⟨x,H1,I1,r1,q1⟩=>ho ah s1 σ H1 x v Q I1 r1 q1)
theorem B6{f:aj->aj->Sem aj}{C:Int->Int->Prop}{g:Int->Int->Int}
 (rule:∀(i j:Int) (t u:Tok) (s:az) (Q:aj->az->Prop) (E:aj->az->Prop),C i j->Q (.int (g i j) s.toks) { s with toks:=s.toks+1 }->wpAny (model X.prog X.w) X.A (f (.int i t) (.int j u)) Q E s) :
 dO X f (rI C λi j=>.int (g i j)):=by
 intro ah s σ H x y v u Q I rx ry h;obtain⟨i,j,rfl,rfl,hc,q⟩:=h;obtain⟨t,rfl⟩:=rx;obtain⟨t',rfl⟩:=ry;exact rule i j t t' s _ _ hc ⟨.int (g i j),H,I.tok _,⟨_,rfl⟩,q⟩
theorem Ik{f:aj->aj->Sem aj}{g:Int->Int->Int}
 (rule:∀(i j:Int) (t u:Tok) (s:az) (Q:aj->az->Prop) (E:aj->az->Prop),Q (.int (g i j) s.toks) { s with toks:=s.toks+1 }->wpAny (model X.prog X.w) X.A (f (.int i t) (.int j u)) Q E s) :
 dO X f (lW λi j=>.int (g i j)):=by
 intro ah s σ H x y v u Q I rx ry h;obtain⟨i,j,rfl,rfl,q⟩:=h;obtain⟨t,rfl⟩:=rx;obtain⟨t',rfl⟩:=ry;exact rule i j t t' s _ _ ⟨.int (g i j),H,I.tok _,⟨_,rfl⟩,q⟩
theorem Ip{f:aj->aj->Sem aj}{g:Int->Int->Bool}
 (rule:∀(i j:Int) (t u:Tok) (s:az) (Q:aj->az->Prop) (E:aj->az->Prop),Q (.bool (g i j)) s->wpAny (model X.prog X.w) X.A (f (.int i t) (.int j u)) Q E s) :
 dO X f (lW λi j=>.bl (g i j)):=by
 intro ah s σ H x y v u Q I rx ry h;obtain⟨i,j,rfl,rfl,q⟩:=h;obtain⟨t,rfl⟩:=rx;obtain⟨t',rfl⟩:=ry;exact rule i j t t' s _ _ ⟨.bl (g i j),H,I,rfl,q⟩
def wH(i j:Int):Prop:=(-(2 ^ 64)<i/\i<2 ^ 64)\/(-(2 ^ 64)<j/\j<2 ^ 64)
theorem wH.ok{i j:Int}(h:wH i j):IntMulOk i j:=by
 rcases h with ⟨h1,h2⟩|⟨h1,h2⟩
 ·exact .of_left (intBits_le_64 h1 h2)
 ·exact .of_right (intBits_le_64 h1 h2)
theorem Qc:dO X (binaryOp .Add) (lW λi j=>.int (i+j)):=Ik λ_ _ _ _ _ _ _ q=>add_int q
theorem rB:dO X (binaryOp .Sub) (lW λi j=>.int (i-j)):=Ik λ_ _ _ _ _ _ _ q=>sub_int q
theorem jD:dO X (binaryOp .Mult) (rI wH λi j=>.int (i*j)):=B6 λ_ _ _ _ _ _ _ hc q=>mul_int q hc.ok
theorem d9:dO X (binaryOp .Mod) (rI (λ_ j=>0<j) λi j=>.int (i%j)):=B6 λi j _ _ _ _ _ hc q=>by
 have h1:(0:Int)<j:=hc;exact mod_int' (by omega) (by rw[Int.fmod_eq_emod_of_nonneg i (by omega)];exact q)
theorem ND{f:aj->Sem aj}{g:Int->Int}
 (rule:∀(i:Int) (t:Tok) (s:az) (Q:aj->az->Prop) (E:aj->az->Prop),Q (.int (g i) s.toks) { s with toks:=s.toks+1 }->wpAny (model X.prog X.w) X.A (f (.int i t)) Q E s) :
 AL X f (rU λi=>.int (g i)):=by
 intro ah s σ H x v Q I rx h;obtain⟨i,rfl,q⟩:=h;obtain⟨t,rfl⟩:=rx;exact rule i t s _ _ ⟨.int (g i),H,I.tok _,⟨_,rfl⟩,q⟩
theorem uy:AL X (unaryOp .USub) (rU λi=>.int (-i)):=ND λ_ _ _ _ _ q=>neg_int q
end
section
variable{X:Cx}{a b c:bj}{ta tb tc:TE}{pos:Pos}
theorem sC{ah:List (ai×Obj)}{σ:St}{H:Hp}{s:az}{Q:VK}{k k':Bool}(I:Inv X ah σ H s)(q:Q (.bl k) H)(e:k=k'):EP X ah σ Q (.bool k') s:=by subst e;exact⟨.bl k,H,I,rfl,q⟩
theorem O2:dO X (compareOp .Lt) (lW λi j=>.bl (decide (i<j))):=Ip λ_ _ _ _ _ _ _ q=>lt_int q
theorem Uj:dO X (compareOp .Gt) (lW λi j=>.bl (decide (j<i))):=Ip λ_ _ _ _ _ _ _ q=>gt_int q
theorem Nv:dO X (compareOp .Lt) (λx y H Q=>∃i j,x=.str i/\y=.str j/\Q (.bl (decide (i.cps.toList<j.cps.toList))) H):=by intro ah s σ H x y v u Q I rx ry h;obtain⟨i,j,rfl,rfl,q⟩:=h;obtain⟨t,rfl⟩:=rx;obtain⟨t',rfl⟩:=ry;exact lt_str (sC I q rfl)
theorem OE:dO X (compareOp .In) (λx y H Q=>∃i j,x=.str i/\y=.str j/\Q (.bl (!(Builtin.Str.occurrences j i 0 j.length 1).isEmpty)) H):=by intro ah s σ H x y v u Q I rx ry h;obtain⟨i,j,rfl,rfl,q⟩:=h;obtain⟨t,rfl⟩:=rx;obtain⟨t',rfl⟩:=ry;exact in_str (sC I q rfl)
theorem RR:dO X (compareOp .Is) (λx y H Q=>y=.non/\Q (.bl (decide (x=.non))) H):=by
 intro ah s σ H x y v u Q I rx ry h;obtain⟨rfl,q⟩:=h;cases ry;refine is_none_gen (sC I q ?_);cases x<;>first
  |(cases rx;rfl)
  |(obtain⟨t,rfl⟩:=rx;rfl)
theorem Qp:dO X (compareOp .IsNot) (λx y H Q=>y=.non/\Q (.bl (!decide (x=.non))) H):=by
 intro ah s σ H x y v u Q I rx ry h;obtain⟨rfl,q⟩:=h;cases ry;refine isnot_none_gen (sC I q ?_);cases x<;>first
  |(cases rx;rfl)
  |(obtain⟨t,rfl⟩:=rx;rfl)
theorem dO.or{f:aj->aj->Sem aj}{r r':R2}(h:dO X f r)(h':dO X f r'):dO X f (λx y H Q=>r x y H Q\/r' x y H Q):=by
 intro ah s σ H x y v u Q I rx ry q;rcases q with q|q
 ·exact h ah s σ H x y v u Q I rx ry q
 ·exact h' ah s σ H x y v u Q I rx ry q
theorem cn(b:bj){op:CmpOp}(h:op≠.In:=by decide)(h2:op≠.NotIn:=by decide):behindInMarks op b=false:=by
 have e1:(op==CmpOp.In)=false:=by cases op<;>first|rfl|exact absurd rfl h
 have e2:(op==CmpOp.NotIn)=false:=by cases op<;>first|rfl|exact absurd rfl h2
 cases b<;>simp[behindInMarks,e1,e2]
theorem gK{op:CmpOp}{r:R2}(ho:dO X (compareOp op) r)(ha:PE X a ta)(hb:PE X b tb)(hm:behindInMarks op b=false):PE X (.Compare a [op] [b] pos) (oD r ta tb):=by intro ah s σ H Q I h;exact wpAny_Compare1 (AC ha hb I h λv u s2 x y H2 I2 rx ry q=>ho ah s2 σ H2 x y v u Q I2 rx ry q) hm
def Ih(t:TE):TT:=λσ H Q=>t σ H λx H'=>∃k,x=.bl k/\Q k H'
theorem bL{op:CmpOp}{r:R2}(ho:dO X (compareOp op) r)(ha:PE X a ta)(hb:PE X b tb)(hm:behindInMarks op b=false):PT X (.Compare a [op] [b] pos) (Ih (oD r ta tb)):=by
 intro ah s σ H Q I h;refine wpAny_isTrue_Compare1 (bn (ha ah s σ H _ I h) λv s1 ⟨x,H1,I1,r1,q1⟩=>bn (hb ah s1 σ H1 _ I1 q1) λu s2 ⟨y,H2,I2,r2,q2⟩=>
  bn (ho ah s2 σ H2 x y v u _ I2 r1 r2 q2) λc s3 ⟨z,H3,I3,r3,k,e,q3⟩=>?_) hm
 subst e;cases r3;exact pI ⟨H3,I3,q3⟩
def A8(K:aO)(x:V)(H:Hp)(k:Bool):Prop:=
 match x with
 |.non=>k=false
 |.bl b=>k=b
 |.int i=>k=(i != 0)
 |.str y=>y.length<=sizeLine/\k=((y.length:Int) != 0)
 |.byt y=>y.size<=sizeLine/\k=((y.size:Int) != 0)
 |.ref p=>(∃xs,fW K H p xs/\k = !xs.isEmpty)\/(∃xs,gu K H p xs/\k = !xs.isEmpty)\/∃ay,H p=ac (.dK ay)/\k = !ay.isEmpty
 |_=>False
theorem QG{κ:Type}{ay:List (κ×V)}{vs:List (κ×aj)}(r:KV ay vs):(!vs.isEmpty) = !ay.isEmpty:=by cases r<;>rfl
theorem E3{xs:List V}{ax:List aj}(r:Vals xs ax):(!ax.toArray.isEmpty) = !xs.isEmpty:=by cases r<;>simp
theorem vM:(sizeLine:Nat)<2 ^ 63:=by rw[er];decide
theorem NF:Ol X (λx H Q=>∃k,A8 X.K x H k/\Q k H):=by
 intro ah s σ H x v Q I rx h;obtain⟨k,e,q⟩:=h;have hl:=vM;have hs:sizeLine=16777216:=er;cases x with
 |non=>
  cases rx;have e':k=false:=e;subst e';exact truthy_none ⟨H,I,q⟩
 |bl b=>
  cases rx;have e':k=b:=e;subst e';exact pI ⟨H,I,q⟩
 |int i=>
  obtain⟨t,rfl⟩:=rx;have e':k=(i != 0):=e;subst e';exact PySem.P.truthy_int ⟨H,I,q⟩
 |str y=>
  obtain⟨t,rfl⟩:=rx;obtain⟨hy,e'⟩ : y.length<=sizeLine/\k=((y.length:Int) != 0):=e;subst e';exact PySem.P.truthy_str (by omega) ⟨H,I.tok _,q⟩
 |byt y=>
  obtain⟨t,rfl⟩:=rx;obtain⟨hy,e'⟩ : y.size<=sizeLine/\k=((y.size:Int) != 0):=e;subst e';exact PySem.W.truthy_bytes (by omega) ⟨H,I.tok _,q⟩
 |ref p=>
  cases rx;have e':(∃xs,fW X.K H p xs/\k = !xs.isEmpty)\/(∃xs,gu X.K H p xs/\k = !xs.isEmpty)\/∃ay,H p=ac (.dK ay)/\k = !ay.isEmpty:=e;rcases e' with ⟨xs,hx,e'⟩|⟨xs,hx,e'⟩|⟨ay,hx,e'⟩
  ·subst e';obtain⟨ax,r,pl,hz⟩:=I.list hx;have hlen:=r.length;exact wpAny_truthy_list pl.isList (by simp only[dg];omega) ⟨H,I.tok _,by rw[E3 r];exact q⟩
  ·subst e';obtain⟨ax,r,pl,hz⟩:=I.tuple hx;have hlen:=r.length;exact truthy_tuple pl (by simp only[dg];omega) ⟨H,I.tok _,by rw[E3 r];exact q⟩
  ·subst e';obtain⟨hz,hS,vs,r,m⟩ : ay.length<=sizeLine/\(p==sysModules)=false/\∃vs,KV ay vs/\s.heap.DictOf (iS X.prog X.w) p vs:=I.hok p _ hx;have hlen:ay.length=vs.length:=zM r;exact wpAny_truthy_dict hS m (by omega) ⟨H,I.tok _,by rw[QG r];exact q⟩
 |_=>exact(show False from e).elim
theorem sO(ha:PE X a ta)(he:∀whole,isTrue a X.env whole=(do let v <- whole;standAt a.pos;holding [v] (truthy v))) :
 PT X a (λσ H Q=>ta σ H λx H'=>∃k,A8 X.K x H' k/\Q k H'):=by
 intro ah s σ H Q I h;exact isTrue_plain (bn (ha ah s σ H _ I h) λv s1 ⟨x,H1,I1,r1,q1⟩=>NF ah s1 σ H1 x v Q I1 r1 q1) (he _)
theorem UN:dO X (binaryOp .Add) (λx y H Q=>∃i j,x=.str i/\y=.str j/\i.length+j.length<=sizeLine/\Q (.str (i++j)) H):=by intro ah s σ H x y v u Q I rx ry h;obtain⟨i,j,rfl,rfl,hz,q⟩:=h;obtain⟨t,rfl⟩:=rx;obtain⟨t',rfl⟩:=ry;exact add_str (λt' tk=>⟨.str (i++j),H,I.tok _,⟨_,rfl⟩,q⟩) hz
theorem vals1{x:V}{us:List aj}(r:Vals [x] us):∃u,us=[u]/\RelV x u:=by
 cases r with
 |cons r1 r2=>cases r2;exact⟨_,rfl,r1⟩
theorem vals2{x y:V}{us:List aj}(r:Vals [x,y] us):∃u w',us=[u,w']/\RelV x u/\RelV y w':=by
 cases r with
 |cons r1 r2=>
  cases r2 with
  |cons r3 r4=>cases r4;exact⟨_,_,rfl,r1,r3⟩
theorem Ri(hc:X.calm=true):gT X (.builtin "max") (λxs H Q=>∃i j,xs=[.int i,.int j]/\Q (.int (if j>i then j else i)) H):=by
 intro ah s σ H xs us Q I r h;obtain⟨i,j,rfl,q⟩:=h;obtain⟨u,w',rfl,⟨t,rfl⟩,⟨t',rfl⟩⟩:=vals2 r;refine max_two_ints (I.ok.hd hc) λh' tk k=>⟨_,H,I.kept k,?_,q⟩;by_cases hj:j>i
 ·rw[a8 hj,a8 hj];exact⟨_,rfl⟩
 ·rw[a7 hj,a7 hj];exact⟨_,rfl⟩
theorem UQ(hc:X.calm=true):gT X (.builtin "min") (λxs H Q=>∃i j,xs=[.int i,.int j]/\Q (.int (if j<i then j else i)) H):=by
 intro ah s σ H xs us Q I r h;obtain⟨i,j,rfl,q⟩:=h;obtain⟨u,w',rfl,⟨t,rfl⟩,⟨t',rfl⟩⟩:=vals2 r;refine min_two_ints (I.ok.hd hc) λh' tk k=>⟨_,H,I.kept k,?_,q⟩;by_cases hj:j<i
 ·rw[a8 hj,a8 hj];exact⟨_,rfl⟩
 ·rw[a7 hj,a7 hj];exact⟨_,rfl⟩
theorem P8:gT X (.type "int") (λxs H Q=>(∃i,xs=[.int i]/\Q (.int i) H)\/∃k,xs=[.bl k]/\Q (.int (if k then 1 else 0)) H):=by
 intro ah s σ H xs us Q I r h;rcases h with ⟨i,rfl,q⟩|⟨k,rfl,q⟩
 ·obtain⟨u,rfl,t,rfl⟩:=vals1 r;exact call_int_int ⟨.int i,H,I,⟨_,rfl⟩,q⟩
 ·obtain⟨u,rfl,r1⟩:=vals1 r;cases r1;exact call_int_bool ⟨.int (if k then 1 else 0),H,I.tok _,⟨_,rfl⟩,q⟩
def HX(K:aO)(x:V)(H:Hp)(n:Nat):Prop:=
 match x with
 |.str y=>y.length<=sizeLine/\n=y.length
 |.byt y=>y.size<=sizeLine/\n=y.size
 |.ref p=>(∃xs,fW K H p xs/\n=xs.length)\/∃xs,gu K H p xs/\n=xs.length
 |_=>False
theorem UA:gT X (.builtin "len") (λxs H Q=>∃x n,xs=[x]/\HX X.K x H n/\Q (.int n) H):=by
 intro ah s σ H xs us Q I r h;obtain⟨x,n,rfl,e,q⟩:=h;obtain⟨u,rfl,rx⟩:=vals1 r;have hl:=vM;have hs:sizeLine=16777216:=er;cases x with
 |str y=>
  obtain⟨t,rfl⟩:=rx;obtain⟨hy,e'⟩ : y.length<=sizeLine/\n=y.length:=e;subst e';exact len_str (by omega) ⟨.int _,H,I.tok _,⟨_,rfl⟩,q⟩
 |byt y=>
  obtain⟨t,rfl⟩:=rx;obtain⟨hy,e'⟩ : y.size<=sizeLine/\n=y.size:=e;subst e';exact PySem.W.len_bytes (by omega) ⟨.int _,H,I.tok _,⟨_,rfl⟩,q⟩
 |ref p=>
  cases rx;have e':(∃xs,fW X.K H p xs/\n=xs.length)\/∃xs,gu X.K H p xs/\n=xs.length:=e;rcases e' with ⟨xs,hx,e'⟩|⟨xs,hx,e'⟩
  ·subst e';obtain⟨ax,r',pl,hz⟩:=I.list hx;have hlen:=r'.length;exact Calls.call_len_list pl.isList (by simp only[dg];omega) ⟨.int xs.length,H,I.tok _,⟨_,by simp only[dg];rw[hlen]⟩,q⟩
  ·subst e';obtain⟨ax,r',pl,hz⟩:=I.tuple hx;have hlen:=r'.length;exact len_tuple pl (by simp only[dg];omega) ⟨.int xs.length,H,I.tok _,⟨_,by simp only[dg];rw[hlen]⟩,q⟩
 |_=>exact(show False from e).elim
end
structure z7(h:aY)(x dx C:ai)(mA:Str->Option aj):Prop where
 obj:h.get? x=ac (Di C dx)
 ns:h.Ns1 dx mA
 ne:dx≠x
theorem Uy{h:aY}{dx:ai}{mA:Str->Option aj}(n:h.Ns1 dx mA):∃od,h.get? dx=ac od/\∀name,Dk name od=ac (mA name):=by
 obtain⟨o,es,ep,ho,hd,hk,_,hm⟩:=n;refine⟨o,ho,λname=>?_⟩;have e:=hm name;unfold nsFind findBy at e;rw[<- Array.find?_toList]at e;unfold Dk;rw[hd];dsimp only;split
 ·rename_i y q;rw[q]at e;exact congrArg ac e
 ·rename_i q;rw[q]at e;have a:es.toList.any (·.refKey)=false:=by
   rw[C9];intro y hy;obtain⟨z,t,hkey⟩:=hk y (Array.mem_toList_iff.mp hy);simp[DictEntry.refKey,hkey]
  have a':¬ es.toList.any (·.refKey)=true:=by rw[a];exact dJ
  rw[a7 a'];exact congrArg ac e
theorem z7.look{h:aY}{x dx C:ai}{mA:Str->Option aj}(I:z7 h x dx C mA):∃od,LG h x (Di C dx) C (ac od)/\∀name,Dk name od=ac (mA name):=
 let ⟨od,ho,hl⟩:=Uy I.ns
 ⟨od,⟨I.obj,rfl,rfl,ho⟩,hl⟩
theorem k7.some_of{v:V}{o:Option aj}(r:k7 (ac v) o):∃u,o=ac u/\RelV v u:=by
 cases o with
 |none=>exact(show False from r).elim
 |some u=>exact⟨u,rfl,r⟩
section
variable{P:bH}{w:bt}{H H':Hp}{h h':aY}{a C dx:ai}{fs fs':List (Str×V)}
theorem R4(hok:du P w H h)(e:H a=ac (.ins C dx fs)):∃mA,z7 h a dx C mA/\(∀f,k7 (fs.lookup f) (mA f))/\PySem.Within mA (fs.map (·.1))/\fs.length<=1000/\H dx=ac (.own a):=by obtain⟨d,z,ne,ob,mA,n,r,q⟩:=(show d5 P w H h a (.ins C dx fs)from hok a _ e);exact⟨mA,⟨ob,n,ne⟩,r,q,z,d⟩
end
structure Bo(K:aO)(C:ai):Prop where
 pg:LD K C eQ=true
 hd:PySem.W.hasDictIn K C=true
 po:PySem.W.plainOver K C=true
 sa:v8 K (.ref C) "__setattr__" = ac (ac (.builtin "object.__setattr__"))
theorem Bo.get{K:aO}{C:ai}(c:Bo K C)(f:Str):LD K C f=true:=c.pg
section
variable{X:Cx}{ah:List (ai×Obj)}{σ:St}{H:Hp}{s:az}{A:bT}{E:aj->az->Prop}{Q:aj->az->Prop}{c:aj}{b:Bool}
inductive jO(K:aO)(H:Hp):V->aj->Prop where
 |non:jO K H .non (.type "NoneType")
 |bl (x:Bool):jO K H (.bl x) (.type "bool")
 |int (i:Int):jO K H (.int i) (.type "int")
 |str (x:Str):jO K H (.str x) (.type "str")
 |flt (x:UInt64):jO K H (.flt x) (.type "float")
 |lst {a:ai} {xs:List V} (e:H a=ac (.lst xs)):jO K H (.ref a) (.type "list")
 |frz {a:ai} {o:Obj} {xs:List V} (e:H a=ac (.frz o (.lst xs))):jO K H (.ref a) (.type "list")
 |tup {a:ai} {xs:List V} (e:H a=ac (.tup xs)):jO K H (.ref a) (.type "tuple")
 |dK {a:ai} {ay:List (Key×V)} (e:H a=ac (.dK ay)):jO K H (.ref a) (.type "dict")
 |dT {a:ai} {ay:List (List Key×V)} (e:H a=ac (.dT ay)):jO K H (.ref a) (.type "dict")
 | ins {a C dx:ai} {fs:List (Str×V)} (e:H a=ac (.ins C dx fs)) (cl:Bo K C) (ha:v8 K (.ref C) "__class__" = ac (ac (.builtin "object.__class__")))
  (hn:LA K (.builtin "object.__class__") "__get__" = ac (ac (.builtin "getset_descriptor.__get__"))) (htk:LF K (.builtin "object.__class__")=ac true)
  (hm:Do K C (.type "object")=ac true):jO K H (.ref a) (.ref C)
theorem N2{x:V}{u t:aj}(I:Inv X ah σ H s)(rx:RelV x u)(ty:jO X.K H x t)(e:og X.K t c=ac b)(h:∀tk,Q (.bool b) { s with toks:=tk }) :
 wpAny (model X.prog X.w) A (call (.builtin "isinstance") [u,c]) Q E s:=by
 cases ty with
 |non=>cases(show u=fi from rx);exact kN PySem.W.kitx_none I.fR lN e (λz=>nomatch z) h
 |bl y=>cases(show u=tR y from rx);exact kN PySem.W.kitx_bool I.fR lN e (λz=>nomatch z) h
 |int i=>obtain⟨t,q⟩:=(show∃t,u=Value.int i t from rx);cases q;exact kN PySem.W.kitx_int I.fR lN e (λz=>nomatch z) h
 |str y=>obtain⟨t,q⟩:=(show∃t,u=pL y t from rx);cases q;exact kN PySem.W.kitx_str I.fR lN e (λz=>nomatch z) h
 |flt y=>obtain⟨t,q⟩:=(show∃t,u=Value.float y t from rx);cases q;exact kN PySem.W.kitx_float I.fR lN e (λz=>nomatch z) h
 | @lst a xs ea=>
  cases(show u=dP a from rx);obtain⟨_,_,n,_,h1⟩:=(show d5 X.prog X.w H s.heap a (.lst xs)from I.hok a _ ea);exact kN LB I.fR ⟨_,h1,rfl⟩ e (λz=>nomatch z) h
 | @frz a ob xs ea=>
  cases(show u=dP a from rx);obtain⟨_,_,_,n,_,h1⟩:=(show d5 X.prog X.w H s.heap a (.frz ob (.lst xs))from I.hok a _ ea);exact kN LB I.fR ⟨_,h1,rfl⟩ e (λz=>nomatch z) h
 | @tup a xs ea=>
  cases(show u=dP a from rx);obtain⟨_,_,_,p⟩:=(show d5 X.prog X.w H s.heap a (.tup xs)from I.hok a _ ea);obtain⟨o,h1,h2,_⟩:=p;exact kN PySem.W.kitx_tuple I.fR ⟨o,h1,h2⟩ e (λz=>nomatch z) h
 | @dK a ay ea=>
  cases(show u=dP a from rx);obtain⟨_,_,vs,_,p⟩:=(show d5 X.prog X.w H s.heap a (.dK ay)from I.hok a _ ea);obtain⟨o,es,ep,h1,h2,_⟩:=p;exact kN LC I.fR ⟨o,h1,h2.1⟩ e (λz=>nomatch z) h
 | @dT a ay ea=>
  cases(show u=dP a from rx);obtain⟨_,_,xs,_,o,es,ep,h1,h2,_⟩:=(show d5 X.prog X.w H s.heap a (.dT ay)from I.hok a _ ea);exact kN LC I.fR ⟨o,h1,h2.1⟩ e (λz=>nomatch z) h
 | @ins a C dx fs ea cl ha hn htk hm=>
  cases(show u=dP a from rx);obtain⟨mA,O,_⟩:=R4 I.hok ea;obtain⟨od,J,_⟩:=O.look;exact kN (PySem.W.kitx_own (cl.get _) cl.hd ha hn htk hm) I.fR J e (λz=>nomatch z) h
end
structure ee(k:Nat)(A:bT):Prop where
 hd:A.handled=af
 dp:A.depth+3*k+5<recursionLimit
 un:A.units+16*k+200<cLine
theorem ee.mono{j k:Nat}{A:bT}(r:ee k A)(h:j<=k):ee j A:=⟨r.hd,by have:=r.dp;omega,by have:=r.un;omega⟩
theorem ee.deeper{k:Nat}{A:bT}(r:ee (k+1) A)(env:Env):ee k (A.deeper env):=⟨r.hd,by have:=r.dp;show A.depth+1+3*k+5<_;omega,by have:=r.un;show A.units+3+16*k+200<_;omega⟩
theorem ee.in1{k:Nat}{A:bT}(r:ee (k+1) A):ee k A.in1:=⟨r.hd,by have:=r.dp;show A.depth+3*k+5<_;omega,by have:=r.un;show A.units+1+16*k+200<_;omega⟩
theorem ee.depth{k:Nat}{A:bT}(r:ee k A):A.depth<recursionLimit:=by have:=r.dp;omega
theorem ee.units{k:Nat}{A:bT}(r:ee k A):A.units+64<cLine:=by have:=r.un;omega
def ib:TA:=λ_ H Q=>Q [] H
def gm(ta:TE)(tr:TA):TA:=λσ H Q=>ta σ H λx H1=>tr σ H1 λxs H2=>Q (x::xs) H2
section
variable{X:Cx}{e:bj}{es:List bj}{te:TE}{t:TA}{pos:Pos}
theorem aR:PA X [] ib:=λ_ _ _ _ H Q I h=>DI ⟨[],H,I,.nil,h⟩
theorem av(ha:PE X e te)(hr:PA X es t)(hs:starEach (e::es) X.env=(false,eval e X.env)::starEach es X.env:=by rfl):PA X (e::es) (gm te t):=by intro pos ah s σ H Q I h;rw[hs];show wpAny _ _ (spliced ((false,eval e X.env)::backTo pos (starEach es X.env))) _ _ s;refine DH (bn (ha ah s σ H _ I h) λu s1 ⟨x,H1,I1,r1,q1⟩=>?_);exact bn (hr pos ah s1 σ H1 _ I1 q1) λus s2 ⟨xs,H2,I2,r2,q2⟩=>⟨x::xs,H2,I2,.cons r1 r2,q2⟩
def xq(t:TA):TE:=λσ H Q=>t σ H λxs H1=>xs.length<=sizeLine/\∀p,H1 p=af->Q (.ref p) (upd H1 p (.tup xs))
def I0(t:TA):TE:=λσ H Q=>t σ H λxs H1=>xs.length<=sizeLine/\∀p,H1 p=af->Q (.ref p) (upd H1 p (.lst xs))
theorem ed{x1}(h:PA X es t):PE X (.Tuple es x1 pos) (xq t):=by intro ah s σ H Q I hq;refine wpAny_Tuple_spliced (bn (h pos ah s σ H _ I hq) λus s1 ⟨xs,H1,I1,r,z,q⟩=>⟨by rw[<- r.length];exact z,?_⟩);have hf:H1 s1.heap.objs.size=af:=I1.hok.fresh (bU _);refine⟨.ref s1.heap.objs.size,upd H1 s1.heap.objs.size (.tup xs),I1.laid (t':=s1.toks) (λb u e=>dI _ e) (bU _) ?_,rfl,q _ hf⟩;exact⟨z,us,r,⟨_,ge _ rfl,rfl,rfl,_,rfl⟩⟩
theorem eF(h:PA X es t):PE X (.List es pos) (I0 t):=by intro ah s σ H Q I hq;refine wpAny_List_spliced (bn (h pos ah s σ H _ I hq) λus s1 ⟨xs,H1,I1,r,z,q⟩=>⟨by rw[<- r.length];exact z,?_⟩);have hf:H1 s1.heap.objs.size=af:=I1.hok.fresh (bU _);refine⟨.ref s1.heap.objs.size,upd H1 s1.heap.objs.size (.lst xs),I1.laid (t':=s1.toks) (λb u e=>dI _ e) (bU _) ?_,rfl,q _ hf⟩;exact⟨z,us,0,r,ge _ rfl⟩
end
abbrev Sp:=List V->Hp->VK->XK->Prop
abbrev iu:=List Env->Hp->az->XK->aj->az->Prop
structure sg(P:bH)(w:bt)(K:aO)(mg:Str->Option aj)(base:aY)(A:bT)(outer:List Env)(s:az)(H:Hp):Prop where
 frames:A.frames=ac outer
 mod:Mod K mg base
 bs:∀b o,base.get? b=ac o->s.heap.get? b=ac o/\H b=af
 bsz:base.objs.size<=s.heap.objs.size
 iF:s.heap.FunFrames base outer
 frf:∀b∈frs outer,H b=af
 hok:du P w H s.heap
 bare:m8 s.gens
def CE(outer:List Env)(P:bH)(w:bt)(H:Hp)(s:az)(Q:VK)(u:aj)(s':az):Prop:=∃v H',s'.os=s.os/\m8 s'.gens/\Un (frs outer) [] H H' s.heap s'.heap/\du P w H' s'.heap/\RelV v u/\Q v H'
def CR(CX:iu)(outer:List Env)(P:bH)(w:bt)(H:Hp)(s:az)(Q:VK)(E:XK)(r:Result)(s':az):Prop:=
 match r with
 |.ok (.ret u)=>CE outer P w H s Q u s'
 |.ok _=>False
 |.error e=>CX outer H s E e s'
structure bO(P:bH)(w:bt)(K:aO)(mg:Str->Option aj)(base:aY)(CX:iu)(k:Nat)(f:ai)(fd:bJ)(ps:List Str)(sp:Sp):Prop where
 len:∀vs H Q E,sp vs H Q E->vs.length=ps.length
 run:∀(A:bT) (outer:List Env) (s:az) (H:Hp) (args:Args) (us:List aj) (vs:List V) (Q:VK) (E:XK),ee k A->sg P w K mg base A outer s H->oi s fd args (ps.zip us)->Vals vs us->sp vs H Q E ->
  codeAny (model P w) A (.call (.ref f) args) (CR CX outer P w H s Q E) s
theorem bO.imp{P:bH}{w:bt}{K:aO}{mg:Str->Option aj}{base:aY}{CX:iu}{k:Nat}{f:ai}{fd:bJ}{ps:List Str}{sp sp':Sp}(F:bO P w K mg base CX k f fd ps sp)
 (h:∀vs H Q E,sp' vs H Q E->sp vs H Q E):bO P w K mg base CX k f fd ps sp':=
 ⟨λvs H Q E q=>F.len vs H Q E (h _ _ _ _ q),λA outer s H args us vs Q E hr he hb hv hs=>F.run A outer s H args us vs Q E hr he hb hv (h _ _ _ _ hs)⟩
section
variable{X:Cx}{ah:List (ai×Obj)}{σ:St}{H:Hp}{s s':az}
theorem Inv.env0(I:Inv X ah σ H s):sg X.prog X.w X.K X.mg X.base X.A X.stack s H:=⟨I.ok.frames,I.ok.mod,I.bs,c7 I.ok.bsz I.sz,I.stack,I.vq,I.hok,I.bare⟩
theorem Inv.after{Q:VK}{u:aj}(I:Inv X ah σ H s)(h:CE X.stack X.prog X.w H s Q u s'):EP X ah σ Q u s':=by obtain⟨v,H',os,bare,un,hok,r,q⟩:=h;obtain⟨hh,g,d,t,os'⟩:=s';obtain rfl:os'=s.os:=os;exact⟨v,H',I.call (h':=hh) (g':=g) (d':=d) (t':=t) (ch:=[]) un hok bare (λb z=>absurd z (by simp)),r,q⟩
end
def lm(sp:Sp)(dvs:List V)(E:XK)(t:TA):TE:=λσ H Q=>t σ H λvs H1=>sp (vs++dvs) H1 Q E
def Binds(K:aO)(fd:bJ)(ps:List Str)(ds:List aj):Prop:=∀(s:az) (us:List aj),K.In s.heap->(us++ds).length=ps.length->oi s fd ⟨us,[]⟩ (ps.zip (us++ds))
theorem Binds.all{K:aO}{fd:bJ}{ps:List Str}(h:∀us:List aj,us.length=ps.length->bindArgs fd ⟨us,[]⟩=pure (ps.zip us)):Binds K fd ps []:=λs us _ hl=>by
 rw[i8]at hl ⊢;exact .of_eq (h us hl)
def u6(CX:iu)(X:Cx)(E:XK):Prop:=∀(ah:List (ai×Obj)) (σ:St) (H:Hp) (s:az) (e:aj) (s':az),Inv X ah σ H s->CX X.stack H s E e s'->X.xe e s'
section
variable{X:Cx}{CX:iu}{k:Nat}{f C:ai}{fd:bJ}{ps:List Str}{sp:Sp}{dvs:List V}{ds:List aj}{E:XK}{x m:Str}{p pos apos:Pos}{e o:bj}{es:List bj}{ta:TE}{t:TA}
theorem SF{ah:List (ai×Obj)}{σ:St}{H:Hp}{s:az}{Q:VK}{us:List aj}{vs:List V}(F:bO X.prog X.w X.K X.mg X.base CX k f fd ps sp)(hr:ee k X.A)(hb:Binds X.K fd ps ds)(hd:Vals dvs ds)(hx:u6 CX X E)
 (I:Inv X ah σ H s) (r:Vals vs us) (h:sp (vs++dvs) H Q E):wpAny (model X.prog X.w) X.A (call (.ref f) us) (EP X ah σ Q) X.xe s:=by
 have r2:Vals (vs++dvs) (us++ds):=r.append hd;have hl:(us++ds).length=ps.length:=by rw[<- r2.length];exact F.len _ _ _ _ h
 refine wb (wa (F.run X.A X.stack s H ⟨us,[]⟩ (us++ds) (vs++dvs) Q E hr I.env0 (hb s us I.fR hl) r2 h) λr s' hq=>?_);cases r with
 |error e=>exact hx ah σ H s e s' I hq
 |ok fl=>
  cases fl with
  |ret u=>exact I.after hq
  |next=>exact iD hq
  |brk=>exact iD hq
  |cont=>exact iD hq
theorem Ui(F:bO X.prog X.w X.K X.mg X.base CX k f fd ps sp)(hr:ee k X.A)(hg:Gl X x)(hm:X.mg x=ac (.ref f))(hk:oh X.K (.ref f)=true)(hb:Binds X.K fd ps ds)(hd:Vals dvs ds)(hx:u6 CX X E)
 (ha:PA X (e::es) t) (hdb:(x==("__debug__" : Str))=false:=by decide) (he:starEach (e::es) X.env=(false,eval e X.env)::starEach es X.env:=by rfl) (hpl:(backTo pos (starEach es X.env)).any (·.1)=false:=by rfl) :
 PE X (.Call (.Name x p) (e::es) [] pos) (lm sp dvs E t):=by
 intro ah s σ H Q I h;refine tI (rm I hg hm ?_ hdb);refine Dg (h₀:=X.base) I.ok.mod.kin hk (bn (ha pos ah s σ H _ I h) λus s1 ⟨vs,H1,I1,r,q⟩=>⟨I1.fR,?_⟩) he hpl;exact SF F hr hb hd hx I1 r q
end
structure cz(N P:List Str)(sc:fh):Prop where
 kind:sc.kind=.function
 co:sc.isCoroutine=false
 gen:sc.isGenerator=false
 nd:N.Nodup
 pre:N.take P.length=P
 par:∀x∈P,sc.names.lookup x=ac .local\/sc.names.lookup x=ac .cell
 Vg:∀y∈sc.names,y.2≠.free
theorem Kw{kindOf:Str->Option pK}{x:Str}:∀{binds:List (Str×aj)} {m:Str->Option aj},(∀v,(x,v)∉binds)->bindL kindOf binds m x=m x
 |[],_,_=>rfl
 |(n,v)::r,m,h=>by
  unfold bindL;rw[Kw λw hw=>h w (eL _ hw)];split
  ·have:x≠n:=by rintro rfl;exact h v cW
   simp[this]
  ·rfl
theorem JX{kindOf:Str->Option pK}{x:Str}:∀{binds:List (Str×aj)} {m:Str->Option aj},(∀v,(x,v)∉binds)->bindC kindOf binds m x=m x
 |[],_,_=>rfl
 |(n,v)::r,m,h=>by
  unfold bindC;rw[JX λw hw=>h w (eL _ hw)];split
  ·rfl
  ·have:x≠n:=by rintro rfl;exact h v cW
   simp[this]
theorem Kf{kindOf:Str->Option pK}{x:Str}{v:aj}:∀{P:List Str} {vs:List aj} {i:Nat} {m:Str->Option aj},P.Nodup->P[i]? = ac x->vs[i]? = ac v->kindOf x=ac .local ->
 bindL kindOf (P.zip vs) m x=ac v
 |[],_,_,_,_,h,_,_=>by simp at h
 |_::_,[],_,_,_,_,h,_=>by simp at h
 |p::P,w::vs,0,m,nd,h1,h2,hk=>by
  simp at h1 h2;subst h1;subst h2;show bindL kindOf ((p,w)::P.zip vs) m p=_;unfold bindL;rw[Kw λv hv=>(kg.mp nd).1 (za hv).1,a8 hk];simp
 |p::P,w::vs,i+1,m,nd,h1,h2,hk=>by
  show bindL kindOf ((p,w)::P.zip vs) m x=_;unfold bindL;exact Kf (i:=i) (kg.mp nd).2 (by simpa using h1) (by simpa using h2) hk
theorem Jd{kindOf:Str->Option pK}{x:Str}{v:aj}:∀{P:List Str} {vs:List aj} {i:Nat} {m:Str->Option aj},P.Nodup->P[i]? = ac x->vs[i]? = ac v->kindOf x≠ac .local ->
 bindC kindOf (P.zip vs) m x=ac v
 |[],_,_,_,_,h,_,_=>by simp at h
 |_::_,[],_,_,_,_,h,_=>by simp at h
 |p::P,w::vs,0,m,nd,h1,h2,hk=>by
  simp at h1 h2;subst h1;subst h2;show bindC kindOf ((p,w)::P.zip vs) m p=_;unfold bindC;rw[JX λv hv=>(kg.mp nd).1 (za hv).1,a7 hk];simp
 |p::P,w::vs,i+1,m,nd,h1,h2,hk=>by
  show bindC kindOf ((p,w)::P.zip vs) m x=_;unfold bindC;exact Jd (i:=i) (kg.mp nd).2 (by simpa using h1) (by simpa using h2) hk
def start(N:List Str)(vs:List V):St:=vs.map ac++cu (N.length-vs.length) af
def f6(CX:iu)(P:bH)(w:bt)(K:aO)(mg:Str->Option aj)(base:aY)(N:List Str)(qual:Str)(scope:fh)(f:ai)(cd:aj)(A:bT)(outer:List Env)(s:az)(H:Hp)(E:XK):Cx where
 prog:=P
 w:=w
 K:=K
 mg:=mg
 base:=base
 A:=A.deeper (envOfC qual scope s.heap.objs.size f cd)
 N:=N
 s₀:=s
 H₀:=H
 env:=envOfC qual scope s.heap.objs.size f cd
 outer:=outer
 stack:=envOfC qual scope s.heap.objs.size f cd::outer
 ex:=[]
 calm:=true
 fn:=λ_=>true
 pn:=[]
 xe:=λe s'=>wpAny (model P w) (A.deeper (envOfC qual scope s.heap.objs.size f cd)) (leaving (envOfC qual scope s.heap.objs.size f cd) e) (λ_ s''=>CX outer H s E e s'') (λe' s''=>CX outer H s E e' s'') s'
theorem K9{sc:fh}{n:Nat}{x:Str}(h:sc.names.lookup x=ac .cell):∃c,(cellsFrom n sc.names []).lookup x=ac c:=by have q:=Df sc.names n [] (.inl h);exact zF.mp q
theorem Iy{CX:iu}{P:bH}{w:bt}{K:aO}{mg:Str->Option aj}{base:aY}{N ps:List Str}{qual:Str}{scope:fh}{f:ai}{cd:aj}{A:bT}{outer:List Env}{s s1:az}{H:Hp}{E:XK}{us:List aj}{vs:List V}
 (S:cz N ps scope) (hd:A.handled=af) (e0:sg P w K mg base A outer s H) (hl:vs.length=ps.length) (r:Vals vs us)
 (x:InCallC s s.heap.objs.size (bindL (envOfC qual scope s.heap.objs.size f cd).kindOf (ps.zip us) λ_=>af) (cellsFrom (s.heap.objs.size+1) scope.names []) (bindC (envOfC qual scope s.heap.objs.size f cd).kindOf (ps.zip us) λ_=>af) s1) :
 Inv (f6 CX P w K mg base N qual scope f cd A outer s H E) [] (start N vs) H s1:=by
 have hpl:ps.length<=N.length:=by have:=congrArg De S.pre;rw[i7]at this;omega
 obtain⟨h1,tk,rfl,hk⟩:=x.done;have noA:∀b:ai,b∉(f6 CX P w K mg base N qual scope f cd A outer s H E).ex:=λb z=>absurd (show b∈([]:List ai)from z) (by simp);refine⟨⟨e0.mod,S.kind,rfl,rfl,bU _,λy z c h1 h2=>?_,λy hy=>?_,λy c _ h=>?_,λ_=>hd,DM e0.frames,.inr ⟨rfl,rfl⟩,λb z=>absurd z (noA b),e0.bs,e0.bsz,λb _ _=>noA b,λb z=>absurd z (noA b),e0.iF,e0.frf⟩,
  rfl,e0.bare,Un.kept hk,⟨_,x.toInCall.ns,λi y v h1 h2 h3=>?_⟩,λy c h=>⟨_,x.cell y c h⟩,e0.hok.fresh (bU _),λy c h=>?_,λp hp=>absurd (show p∈([]:List (ai×Obj))from hp) (by simp),e0.hok.kept hk,?_⟩
 ·exact name_of_addr x.apart (tH h1) (tH h2)
 ·have hy:scope.names.lookup y=ac .cell\/scope.names.lookup y=ac .free:=hy;rcases hy with hy|hy
  ·exact K9 hy
  ·exact absurd rfl (S.Vg _ (tH hy))
 ·exact zv (x.above y c (tH h))
 ·have hi:i<vs.length:=by
   unfold start at h2;by_cases hi:i<vs.length
   ·exact hi
   ·rw[Ld (by simpa using hi)]at h2;rw[Lh]at h2;split at h2<;>cases h2
  have ha:vs[i]? = ac v:=by
   unfold start at h2;rw[yX (by simpa using hi),gc]at h2;cases e:vs[i]? with
   |none=>rw[e]at h2;cases h2
   |some a=>rw[e]at h2;cases h2;rfl
  obtain⟨u,hu,rv⟩:=r.get ha;have hp:ps[i]? = ac y:=by rw[<- S.pre,Lf (by omega)];exact h1
  have ndP:ps.Nodup:=by rw[<- S.pre];exact S.nd.sublist (List.take_sublist _ _)
  refine⟨u,rv,?_⟩;rcases S.par y (sY hp)with k|k
  ·exact .inl ⟨k,Kf ndP hp hu k⟩
  ·obtain⟨c,e⟩:=K9 (n:=s.heap.objs.size+1) k;refine .inr ⟨.inl k,c,e,?_⟩;have q:=x.cell y c e;rw[Jd ndP hp hu (by show scope.names.lookup y≠_;rw[k];decide)]at q;exact q
 ·exact e0.hok.fresh (zv (x.above y c (tH h)))
 ·unfold start;show _=N.length;rw[dz,aP,C3];omega
theorem Bl{CX:iu}{P:bH}{w:bt}{K:aO}{mg:Str->Option aj}{base:aY}{k:Nat}{f:ai}{name qual:Str}{params:tK}{body:List bz}{scope:fh}{dV kV doc pm cdv ct oc:aj}{an od:Option ai}
 {osl:Array (Option aj)} {N ps:List Str} {sp:Sp} (lk:K.lookup f=ac ⟨oc,od,.func (kj name qual params body scope dV kV doc pm an cdv ct),osl⟩) (hcd:qW K cdv qual=true) (S:cz N ps scope)
 (len:∀vs H Q E,sp vs H Q E->vs.length=ps.length)
 (hbody:∀(A:bT) (outer:List Env) (s:az) (H:Hp) (vs:List V) (Q:VK) (E:XK),ee k (A.deeper (envOfC qual scope s.heap.objs.size f cdv))->sp vs H Q E ->
  ∃t,gN (f6 CX P w K mg base N qual scope f cdv A outer s H E) body t/\t { nx:=λ_ H'=>Q .non H',rt:=Q } (start N vs) H) :
 bO P w K mg base CX (k+1) f (kj name qual params body scope dV kV doc pm an cdv ct) ps sp:=by
 refine⟨len,λA outer s H args us vs Q E hr e0 hb r hsp=>?_⟩;have hl:=len _ _ _ _ hsp;have KX:K.In s.heap:=e0.mod.kin.keeps λb o e=>(e0.bs b o e).1;have lim:s.heap.NoLimit:=e0.mod.nolimit.keeps λb o e=>(e0.bs b o e).1;have hkind:∀y∈ps.zip us,scope.names.lookup y.1=ac .local\/(scope.names.lookup y.1=ac .cell/\((cellsFrom (s.heap.objs.size+1) scope.names []).lookup y.1).isSome=true):=λ⟨n,v⟩ hy=>by
  rcases S.par n (za hy).1 with q|q
  ·exact .inl q
  ·exact .inr ⟨q,Df _ _ _ (.inl q)⟩
 refine codeAny_call_function hr.depth (KX _ _ lk) rfl S.co S.gen rfl (Lz KX hcd) (hb _ _ _ _ ?_);refine LI S.kind hkind λenv he s1 x=>?_;subst he;refine⟨lim.keeps x.toInCall.keep,codeAny_func ?_⟩;obtain⟨t,ht,hq⟩:=hbody A outer s H vs Q E (hr.deeper _) hsp;have I:Inv (f6 CX P w K mg base N qual scope f cdv A outer s H E) [] (start N vs) H s1:=Iy S hr.hd e0 hl r x;refine h7 (ht [] s1 (start N vs) H _ I hq) (λfl s' hs=>?_) λe s' hs=>hs;have fin:∀{σ':St} {H':Hp} {v:V} {u:aj},Inv (f6 CX P w K mg base N qual scope f cdv A outer s H E) [] σ' H' s'->RelV v u->Q v H'->CE outer P w H s Q u s':=
  λ{σ' H' v u} J rv q=>⟨v,H',J.os,J.bare,J.base,J.hok,rv,q⟩
 cases fl with
 |ret u=>
  obtain⟨v,σ',H',J,rv,q⟩:=hs;exact fin J rv q
 |next=>
  obtain⟨σ',H',J,q⟩:=hs;exact fin (v:=V.non) (u:=fi) J rfl q
 |brk=>
  obtain⟨_,_,_,q⟩:=hs;exact iD q
 |cont=>
  obtain⟨_,_,_,q⟩:=hs;exact iD q
section
variable{X:Cx}{x:Str}{p pos:Pos}{e:bj}{es:List bj}{t:TA}{id T:String}{r:List V->Hp->VK->Prop}
def sv(r:List V->Hp->VK->Prop)(t:TA):TE:=λσ H Q=>t σ H λvs H1=>r vs H1 Q
theorem c6(hc:gT X (.builtin id) r)(hg:Gl X x)(hm:X.mg x=af)(hv:bootBuiltins x=ac (.builtin id))(ha:PA X (e::es) t)(hn:x ≠ "__name__" := by decide)(hdb:(x==("__debug__" : Str))=false:=by decide)
 (he:starEach (e::es) X.env=(false,eval e X.env)::starEach es X.env:=by rfl) (hpl:(backTo pos (starEach es X.env)).any (·.1)=false:=by rfl):PE X (.Call (.Name x p) (e::es) [] pos) (sv r t):=by
 intro ah s σ H Q I h;refine tI (ql I hg hm hv ?_ hn hdb);exact PyProof.Rows.callWith_builtin1 (bn (ha pos ah s σ H _ I h) λus s1 ⟨vs,H1,I1,r1,q1⟩=>hc ah s1 σ H1 vs us Q I1 r1 q1) he hpl
theorem iX(hc:gT X (.type T) r)(hg:Gl X x)(hm:X.mg x=af)(hv:bootBuiltins x=ac (.type T))(ha:PA X (e::es) t)(hn:x ≠ "__name__" := by decide)(hdb:(x==("__debug__" : Str))=false:=by decide)
 (he:starEach (e::es) X.env=(false,eval e X.env)::starEach es X.env:=by rfl) (hpl:(backTo pos (starEach es X.env)).any (·.1)=false:=by rfl):PE X (.Call (.Name x p) (e::es) [] pos) (sv r t):=by
 intro ah s σ H Q I h;refine tI (ql I hg hm hv ?_ hn hdb);exact zG (bn (ha pos ah s σ H _ I h) λus s1 ⟨vs,H1,I1,r1,q1⟩=>hc ah s1 σ H1 vs us Q I1 r1 q1) he hpl
end
end L2
namespace HT
open PySem PyProof.Rows
section
variable{prog:bH}{w:bt}{A:bT}{E:aj->az->Prop}{s:az}
def eo(n d:Nat):Option Int->Nat
 |none=>d
 |some v=>if v<0 then(v+(n:Int)).toNat else min v.toNat n
theorem G5(n d:Nat)(hd:d<=n)(o:Option Int):eo n d o<=n:=by
 cases o with
 |none=>exact hd
 |some v=>
  show(if v<0 then(v+(n:Int)).toNat else min v.toNat n)<=n;by_cases hv:v<0
  ·rw[a8 hv];omega
  ·rw[a7 hv];exact Nat.min_le_right _ _
end
end HT
namespace L2
open PySem PySem.Spec PyProof.Rows
abbrev TO:=St->Hp->(Option Int->Hp->Prop)->Prop
def PO(X:Cx)(e:Option bj)(t:TO):Prop:=
 ∀(ah:List (ai×Obj)) (s:az) (σ:St) (H:Hp) (Q:Option Int->Hp->Prop),Inv X ah σ H s->t σ H Q ->
  wpAny (model X.prog X.w) X.A (evalPart e X.env) (λu s'=>∃o H',Inv X ah σ H' s'/\IsPart u o/\Q o H') X.xe s
def EF:TO:=λ_ H Q=>Q af H
def JO(t:TE):TO:=λσ H Q=>t σ H λx H1=>∃i,x=.int i/\Q (ac i) H1
section
variable{X:Cx}{e:bj}{te:TE}{lo hi:Option bj}{tl th:TO}{pos p2:Pos}
theorem fV:PO X af EF:=by intro ah s σ H Q I h;rw[evalPart_none];exact cE ⟨af,H,I,.none,h⟩
theorem fS(h:PE X e te):PO X (ac e) (JO te):=by intro ah s σ H Q I hw;rw[evalPart_some];refine bn (h ah s σ H _ I hw) λu s1 ⟨x,H1,I1,r1,q1⟩=>?_;obtain⟨i,rfl,q⟩:=q1;obtain⟨t,rfl⟩:=r1;exact⟨ac i,H1,I1,.int i t,q⟩
def lS(X:Cx)(r:V->Option Int->Option Int->Hp->VK->Prop):Prop:=
 ∀(ah:List (ai×Obj)) (s:az) (σ:St) (H:Hp) (x:V) (v vl vu:aj) (lo hi:Option Int) (sl:ai) (Q:VK),Inv X ah σ H s->RelV x v->s.heap.IsSliceOf sl vl vu .none->IsPart vl lo->IsPart vu hi->r x lo hi H Q ->
  ∃T id,typeLookup (.type T) "__getitem__" = pure (ac (.builtin id))/\s.TypeIs v T/\wpAny (model X.prog X.w) X.A (getItem v (.ref sl)) (EP X ah σ Q) X.xe s
theorem lS.or{r r':V->Option Int->Option Int->Hp->VK->Prop}(h:lS X r)(h':lS X r'):lS X (λx lo hi H Q=>r x lo hi H Q\/r' x lo hi H Q):=by
 intro ah s σ H x v vl vu lo hi sl Q I rx hs pl pu q;rcases q with q|q
 ·exact h ah s σ H x v vl vu lo hi sl Q I rx hs pl pu q
 ·exact h' ah s σ H x v vl vu lo hi sl Q I rx hs pl pu q
def Gq(r:V->Option Int->Option Int->Hp->VK->Prop)(te:TE)(tl th:TO):TE:=λσ H Q=>te σ H λx H1=>tl σ H1 λl H2=>th σ H2 λu H3=>r x l u H3 Q
theorem fY{r:V->Option Int->Option Int->Hp->VK->Prop}(hr:lS X r)(he:PE X e te)(hl:PO X lo tl)(hu:PO X hi th):PE X (.Subscript e (.Slice lo hi af p2) pos) (Gq r te tl th):=by intro ah s σ H Q I h;refine Subscript_ (bn (he ah s σ H _ I h) λv s1 ⟨x,H1,I1,r1,q1⟩=>?_);refine wpAny_Slice (bn (hl ah s1 σ H1 _ I1 q1) λvl s2 ⟨l,H2,I2,pl,q2⟩=>bn (hu ah s2 σ H2 _ I2 q2) λvu s3 ⟨u,H3,I3,pu,q3⟩=>?_);rw[evalPart_none];refine cE ?_;have I4:Inv X ah σ H3 { s3 with heap:=s3.heap.push { cls:=.type "slice",data:=.fields #[vl,vu,.none] } }:=I3.kept (t':=s3.toks) λb ob q=>dI _ q;obtain⟨T,id,hT,ht,hg⟩:=hr ah { s3 with heap:=s3.heap.push { cls:=.type "slice",data:=.fields #[vl,vu,.none] } } σ H3 x v vl vu l u s3.heap.objs.size Q I4 r1 (Heap.IsSliceOf.new ..) pl pu q3;show wpAny (model X.prog X.w) X.A (subscriptTail e (.Slice lo hi af p2) v (.ref s3.heap.objs.size)) (EP X ah σ Q) X.xe { s3 with heap:=s3.heap.push { cls:=.type "slice", data:=.fields #[vl,vu,.none] } };exact tail_any (ops:=[.ref s3.heap.objs.size,v]) ht hT hg (by with_unfolding_all rfl)
def rn(xs:List V)(lo hi:Option Int):List V:=(xs.drop (HT.eo xs.length 0 lo)).take (HT.eo xs.length xs.length hi-HT.eo xs.length 0 lo)
theorem Rn(xs:List V)(lo hi:Option Int):(rn xs lo hi).length<=xs.length:=by unfold rn;rw[i7,iy];omega
end
def gU(n:Nat)(i:Int):Option Nat:=if 0<=i then(if i<n then ac i.toNat else af)else if -(n:Int)<=i then ac (i+n).toNat else af
def cC{α:Type}(xs:List α)(i:Int):Option α:=(gU xs.length i).bind λj=>xs[j]?
theorem N7{n:Nat}{i:Int}{j:Nat}(h:gU n i=ac j):seqIndex? i n=ac j/\j<n/\-(n:Int)<=i/\i<n:=by
 unfold gU at h;by_cases h0:0<=i
 ·rw[a8 h0]at h;by_cases h1:i<n
  ·rw[a8 h1]at h;have e:i.toNat=j:=jQ h;exact⟨by rw[seqIndex_of h0 h1,e],by omega,by omega,h1⟩
  ·rw[a7 h1]at h;cases h
 ·rw[a7 h0]at h;by_cases h1:-(n:Int)<=i
  ·rw[a8 h1]at h;have e:(i+n).toNat=j:=jQ h;exact⟨by rw[seqIndex_neg (by omega) h1,e],by omega,h1,by omega⟩
  ·rw[a7 h1]at h;cases h
theorem CD{α:Type}{xs:List α}{i:Int}{v:α}(h:cC xs i=ac v):∃j,seqIndex? i xs.length=ac j/\xs[j]? = ac v/\j<xs.length/\-(xs.length:Int)<=i/\i<xs.length:=by
 unfold cC at h;cases e:gU xs.length i with
 |none=>rw[e]at h;cases h
 |some j=>
  rw[e]at h;obtain⟨h1,h2,h3,h4⟩:=N7 e;exact⟨j,h1,h,h2,h3,h4⟩
def Ft(b:bj):Prop:=∀o i,subscripted b false o i=operate [o,i] (getItem o i)
def nN(X:Cx)(r:R2):Prop:=
 ∀(value slice:bj) (ah:List (ai×Obj)) (s:az) (σ:St) (H:Hp) (x y:V) (v u:aj) (Q:VK),Inv X ah σ H s->RelV x v->RelV y u->r x y H Q ->
  subscripted slice false v u=operate [v,u] (getItem v u)->wpAny (model X.prog X.w) X.A (subscriptTail value slice v u) (EP X ah σ Q) X.xe s
def n5(X:Cx)(id:String)(r:V->List V->Hp->VK->Prop):Prop:=
 ∀(ah:List (ai×Obj)) (s:az) (σ:St) (H:Hp) (x:V) (xs:List V) (v:aj) (us:List aj) (Q:VK),Inv X ah σ H s->RelV x v->Vals xs us->r x xs H Q ->
  wpAny (model X.prog X.w) X.A (call (.builtin id) (v::us)) (EP X ah σ Q) X.xe s
section
variable{X:Cx}{a b:bj}{ta tb:TE}{pos:Pos}
theorem nN.or{r r':R2}(h:nN X r)(h':nN X r'):nN X (λx y H Q=>r x y H Q\/r' x y H Q):=by
 intro value slice ah s σ H x y v u Q I rx ry q hs;rcases q with q|q
 ·exact h value slice ah s σ H x y v u Q I rx ry q hs
 ·exact h' value slice ah s σ H x y v u Q I rx ry q hs
theorem oJ{r:R2}(hr:nN X r)(ha:PE X a ta)(hb:PE X b tb)(hs:Ft b):PE X (.Subscript a b pos) (oD r ta tb):=by intro ah s σ H Q I h;exact Subscript_ (AC ha hb I h λv u s2 x y H2 I2 rx ry q=>hr a b ah s2 σ H2 x y v u Q I2 rx ry q (hs _ _))
def II(K:aO):R2:=λx y H Q=>∃p xs i v,x=.ref p/\y=.int i/\fW K H p xs/\cC xs i=ac v/\Q v H
def FY(K:aO):R2:=λx y H Q=>∃p xs i v,x=.ref p/\y=.int i/\gu K H p xs/\cC xs i=ac v/\Q v H
def JN:R2:=λx y H Q=>∃z i c,x=.str z/\y=.int i/\z.length<=sizeLine/\cC z.cps.toList i=ac c/\Q (.str ⟨#[c]⟩) H
theorem Rf:nN X (II X.K):=by
 intro value slice ah s σ H x y v u Q I rx ry h hs;obtain⟨p,xs,i,z,rfl,rfl,hq,he,q⟩:=h;cases rx;obtain⟨t,rfl⟩:=ry;obtain⟨ax,r,pl,hz⟩:=I.list hq;obtain⟨j,h1,h2,h3,h4,h5⟩:=CD he;obtain⟨w,ew,rw'⟩:=r.get h2;have hl:=r.length;have hn:=vM;have fin:EP X ah σ Q w s:=⟨z,H,I,rw',q⟩;by_cases h0:0<=i
 ·have hj:i.toNat=j:=by
   rw[seqIndex_of h0 h5]at h1;exact jQ h1
  exact item_listR pl.isList h0 (by omega) (by rw[hj];simpa using ew) fin hs
 ·have hj:(i+(ax.toArray.size:Int)).toNat=j:=by
   rw[seqIndex_neg (by omega) h4]at h1;rw[dg,<- hl];exact jQ h1
  exact L4 (x:=w) pl.isList.typeIs slot_list_getitem.lookup
   (wpAny_getItem_list_neg (Q:=λr s'=>r=w/\EP X ah σ Q r s') pl.isList (by omega) (by rw[dg]<;>omega) (by omega) (by rw[hj];simpa using ew) ⟨rfl,fin⟩) hs
theorem PD:nN X (FY X.K):=by
 intro value slice ah s σ H x y v u Q I rx ry h hs;obtain⟨p,xs,i,z,rfl,rfl,hq,he,q⟩:=h;cases rx;obtain⟨t,rfl⟩:=ry;obtain⟨ax,r,pl,hz⟩:=I.tuple hq;obtain⟨j,h1,h2,h3,h4,h5⟩:=CD he;obtain⟨w,ew,rw'⟩:=r.get h2;have hl:=r.length;have hn:=vM;have fin:EP X ah σ Q w s:=⟨z,H,I,rw',q⟩;exact L4 (x:=w) pl.typeIs slot_tuple_getitem.lookup
  (getItem_tuple (j:=j) (Q:=λr s'=>r=w/\EP X ah σ Q r s') pl (by omega) (by omega) (by rw[dg,<- hl];exact h1) (by simpa using ew) ⟨rfl,fin⟩) hs
theorem T7:nN X JN:=by
 intro value slice ah s σ H x y v u Q I rx ry h hs;obtain⟨z,i,c,rfl,rfl,hz,he,q⟩:=h;obtain⟨t,rfl⟩:=rx;obtain⟨t',rfl⟩:=ry;obtain⟨j,h1,h2,h3,h4,h5⟩:=CD he;have hl:z.cps.toList.length=z.length:=by simp[q9]
 rw[hl]at h1 h4 h5;have hn:=vM;exact tail_any (typeIs_str s z t) slot_str_getitem.lookup (getItem_str (c:=c) (by
  have e1:decide (i < -(2 ^ 63:Int))=false:=d6 (by omega);have e2:decide (i >= 2 ^ 63)=false:=d6 (by omega);rw[e1,e2,Bool.or_false]) (by rw[h1];simpa using h2) ⟨.str ⟨#[c]⟩,H,I.tok _,⟨_,rfl⟩,q⟩) hs
def vO(K:aO):R2:=λx y H Q=>II K x y H Q\/FY K x y H Q\/JN x y H Q
theorem oH:nN X (vO X.K):=Rf.or (PD.or T7)
theorem RC(lo hi:Option Int)(n:Nat):(sliceBounds lo hi af n).1=((HT.eo n 0 lo:Nat):Int)/\(sliceBounds lo hi af n).2.1=((HT.eo n n hi:Nat):Int)/\(sliceBounds lo hi af n).2.2=1:=by
 refine⟨?_,?_,rfl⟩
 ·cases lo with
  |none=>simp[sliceBounds,HT.eo]
  |some i=>
   simp only[sliceBounds,HT.eo,LX,show(1:Int)>0 by decide,jX];by_cases h:i<0
   ·simp only[h,jX]<;>omega
   ·simp only[h,jB]<;>omega
 ·cases hi with
  |none=>simp[sliceBounds,HT.eo]
  |some i=>
   simp only[sliceBounds,HT.eo,LX,show(1:Int)>0 by decide,jX];by_cases h:i<0
   ·simp only[h,jX]<;>omega
   ·simp only[h,jB]<;>omega
theorem UM(ax:List aj)(lo hi:Option Int):slicePick ax.toArray lo hi af=((ax.drop (HT.eo ax.length 0 lo)).take (HT.eo ax.length ax.length hi-HT.eo ax.length 0 lo)).toArray:=by obtain⟨h1,h2,h3⟩:=RC lo hi ax.toArray.size;unfold slicePick;rw[h1,h2,h3];simp only[sliceRange_one,pick_run,dg]<;>rfl
def Aq(K:aO):V->Option Int->Option Int->Hp->VK->Prop:=λx lo hi H Q=>∃a xs,x=.ref a/\fW K H a xs/\∀p,H p=af->Q (.ref p) (upd H p (.lst (rn xs lo hi)))
theorem Jf:lS X (Aq X.K):=by intro ah s σ H x v vl vu lo hi sl Q I rx hs pl pu h;obtain⟨a,xs,rfl,hx,q⟩:=h;cases rx;obtain⟨ax,r,ht,hz⟩:=I.list hx;have hlen:=r.length;refine⟨"list", _,slot_list_getitem.lookup,ht.isList.typeIs,?_⟩;refine wpAny_getItem_list_slice ht.isList hs pl pu .none (by simp) ?_ (by rw[dg]<;>omega);rw[UM,<- hlen];refine⟨.ref s.heap.objs.size,_,I.laid (t':=s.toks) (o:=.lst (rn xs lo hi)) (λb ob q=>dI _ q) (bU _) ?_,rfl,q _ (I.hok.fresh (bU _))⟩;exact⟨c7 (Rn xs lo hi) hz,_,0,(r.drop (HT.eo xs.length 0 lo)).take (HT.eo xs.length xs.length hi-HT.eo xs.length 0 lo),ge _ rfl⟩
def Ay:V->Bool
 |.non=>true
 |.bl _=>true
 |.int _=>true
 |.str _=>true
 |_=>false
def HZ:V->V->Bool
 |.non,.non=>true
 |.bl a,.bl b=>a==b
 |.bl a,.int b=>(if a then 1 else 0)==b
 |.int a,.bl b=>a==(if b then 1 else 0)
 |.int a,.int b=>a==b
 |.str a,.str b=>a==b
 |_,_=>false
theorem N6{A:bT}{s:az}{y x:V}{u v:aj}(ry:RelV y u)(rx:RelV x v)(fy:Ay y=true)(fx:Ay x=true):SeqAt.EqAt A s u v (HZ y x):=by
 cases y with
 |non=>
  cases ry;cases x with
  |non=>cases rx;exact SeqAt.EqAt.same _
  |bl b=>cases rx;exact SeqAt.EqAt.none_bool b
  |int b=>obtain⟨t,rfl⟩:=rx;exact SeqAt.EqAt.none_int b t
  |str b=>obtain⟨t,rfl⟩:=rx;exact SeqAt.EqAt.none_str b t
  |_=>exact absurd (show false=true from fx) dJ
 |bl a=>
  cases ry;cases x with
  |non=>cases rx;exact SeqAt.EqAt.bool_none a
  |bl b=>cases rx;exact Mb a b
  |int b=>obtain⟨t,rfl⟩:=rx;exact SeqAt.EqAt.bool_int a b t
  |str b=>obtain⟨t,rfl⟩:=rx;exact Mc a b t
  |_=>exact absurd (show false=true from fx) dJ
 |int a=>
  obtain⟨t',rfl⟩:=ry;cases x with
  |non=>cases rx;exact SeqAt.EqAt.int_none a t'
  |bl b=>cases rx;exact SeqAt.EqAt.int_bool a t' b
  |int b=>obtain⟨t,rfl⟩:=rx;exact SeqAt.EqAt.int_int a t' b t
  |str b=>obtain⟨t,rfl⟩:=rx;exact SeqAt.EqAt.int_str a t' b t
  |_=>exact absurd (show false=true from fx) dJ
 |str a=>
  obtain⟨t',rfl⟩:=ry;cases x with
  |non=>cases rx;exact SeqAt.EqAt.str_none a t'
  |bl b=>cases rx;exact Md a t' b
  |int b=>obtain⟨t,rfl⟩:=rx;exact SeqAt.EqAt.str_int a t' b t
  |str b=>obtain⟨t,rfl⟩:=rx;exact SeqAt.EqAt.str_str a t' b t
  |_=>exact absurd (show false=true from fx) dJ
 |_=>exact absurd (show false=true from fy) dJ
theorem Qd:gT X (.type "list") (λxs H Q=>∃p ys,xs=[.ref p]/\(fW X.K H p ys\/gu X.K H p ys)/\∀l,H l=af->Q (.ref l) (upd H l (.lst ys))):=by
 intro ah s σ H xs us Q I r h;obtain⟨p,ys,rfl,hq,q⟩:=h;obtain⟨u,rfl,rx⟩:=vals1 r;cases rx;have fin:∀(ax:List aj),Vals ys ax->ys.length<=sizeLine->∀(h':aY) (c':Nat),(∀b o',s.heap.get? b=ac o'->h'.get? b=ac o') ->
  h'.get? s.heap.objs.size=ac { cls:=.type "list", dict:=af,data:=.seq ax.toArray c',slots:=#[] }->EP X ah σ Q (.ref s.heap.objs.size) { s with heap:=h' }:=λax r' hz h' c' kp e=>
  ⟨.ref s.heap.objs.size,_,I.laid (t':=s.toks) kp (bU _) (show d5 X.prog X.w _ h' _ (.lst ys)from⟨hz,ax,c',r',e⟩),rfl,q _ (I.hok.fresh (bU _))⟩
 rcases hq with hq|hq
 ·obtain⟨ax,r',pl,hz⟩:=I.list hq;have hlen:=r'.length;obtain⟨o,ho,hc,n,hd⟩:=pl.isList;exact call_list_seq p (.inl rfl) ho hc hd (λh' c' kp e=>fin ax r' hz h' c' kp e) (by simp only[dg]<;>omega)
 ·obtain⟨ax,r',pl,hz⟩:=I.tuple hq;have hlen:=r'.length;obtain⟨o,ho,hc,n,hd⟩:=pl;exact call_list_seq p (.inr rfl) ho hc hd (λh' c' kp e=>fin ax r' hz h' c' kp e) (by simp only[dg]<;>omega)
theorem QQ:gT X (.type "tuple") (λxs H Q=>∃p ys,xs=[.ref p]/\((fW X.K H p ys/\∀l,H l=af->Q (.ref l) (upd H l (.tup ys)))\/(gu X.K H p ys/\Q (.ref p) H))):=by
 intro ah s σ H xs us Q I r h;obtain⟨p,ys,rfl,h⟩:=h;obtain⟨u,rfl,rx⟩:=vals1 r;cases rx;rcases h with ⟨hq,q⟩|⟨hq,q⟩
 ·obtain⟨ax,r',pl,hz⟩:=I.list hq;have hlen:=r'.length;refine call_tuple_list pl.isList (λh' kp=>?_) (by simp only[dg]<;>omega);have I1:Inv X ah σ H { s with heap:=h' }:=I.kept (t':=s.toks) kp;have I2:Inv X ah σ (upd H h'.objs.size (.tup ys)) { s with heap:=h'.push { cls:=.type "tuple", data:=.seq ax.toArray } }:=
   I1.laid (t':=s.toks) (λb o e=>dI _ e) (bU _) (show d5 X.prog X.w _ _ _ (.tup ys)from⟨hz,ax,r',ro.new _ _⟩)
  exact⟨.ref h'.objs.size,_,I2,rfl,q _ (I1.hok.fresh (bU _))⟩
 ·obtain⟨ax,r',pl,hz⟩:=I.tuple hq;exact call_tuple_same pl ⟨.ref p,H,I,rfl,q⟩
def yl(K:aO)(T:String)(x:V)(H:Hp):Prop:=match x with
 |.str _=>T = "str"
 |.int _=>T = "int"
 | .ref p=>(T = "list" /\ ∃xs,fW K H p xs)\/(T = "tuple" /\ ∃o,K.lookup p=ac o/\o.cls=.type "tuple" /\ o.dict=af) \/
  (T = "dict" /\ ((∃ay,H p=ac (.dK ay))\/∃ay,H p=ac (.dT ay)))\/(T = "set" /\ ∃S n,H p=ac (.set S n))
 |_=>False
theorem CK{ah:List (ai×Obj)}{σ:St}{H:Hp}{s:az}{T:String}{x:V}{v:aj}(I:Inv X ah σ H s)(r:RelV x v)(ty:yl X.K T x H) :
 s.TypeIs v T/\∀a,v=.ref a->∃ob,s.heap.get? a=ac ob/\ob.dict=af:=by
 cases x with
 |str z=>
  obtain⟨t,rfl⟩:=r;cases(show T = "str" from ty);exact⟨typeIs_str s z t,λ_ e=>nomatch e⟩
 |int i=>
  obtain⟨t,rfl⟩:=r;cases(show T = "int" from ty);exact⟨typeIs_int s i t,λ_ e=>nomatch e⟩
 |ref p=>
  cases r;rcases ty with ⟨rfl,xs,hq⟩|⟨rfl,o,hk,hc,hd⟩|⟨rfl,hk⟩|⟨rfl,S,n,hk⟩
  ·obtain⟨ax,_,pl,_⟩:=I.list hq;refine⟨pl.isList.typeIs,λa e=>?_⟩;cases e;obtain⟨o,n,e,c,hd,_⟩:=pl;exact⟨o,e,hd⟩
  ·refine⟨⟨o,I.fR p o hk,hc⟩,λa e=>?_⟩;cases e;exact⟨o,I.fR _ o hk,hd⟩
  ·have z:∃o,s.heap.get? p=ac o/\o.ExactDict:=by
    rcases hk with ⟨ay,hk⟩|⟨ay,hk⟩
    ·obtain⟨_,_,_,_,o,_,_,e,ex,_⟩:=I.hok p _ hk;exact⟨o,e,ex⟩
    ·obtain⟨_,_,_,_,o,_,_,e,ex,_⟩:=I.hok p _ hk;exact⟨o,e,ex⟩
   obtain⟨o,e,ex⟩:=z;refine⟨⟨o,e,ex.1⟩,λa e2=>?_⟩;cases e2;exact⟨o,e,ex.2.1⟩
  ·obtain⟨o,_,_,_,e,ex,_⟩:=I.hok p _ hk;refine⟨⟨o,e,ex.1⟩,λa e2=>?_⟩;cases e2;exact⟨o,e,ex.2.1⟩
 |_=>exact iD ty
def wY(K:aO)(T:String)(r:V->List V->Hp->VK->Prop)(to:TE):TE:=λσ H Q=>to σ H λx H1=>yl K T x H1/\r x [] H1 Q
def qj(K:aO)(T:String)(r:V->List V->Hp->VK->Prop)(to:TE)(t:TA):TE:=λσ H Q=>to σ H λx H1=>yl K T x H1/\t σ H1 λxs H2=>r x xs H2 Q
variable{o e:bj}{es:List bj}{to:TE}{t:TA}{name:Str}{apos cpos:Pos}{T id:String}{r:V->List V->Hp->VK->Prop}
theorem vx(pa:zk T)(slot:Slot T name id)(hty:typeOf (.builtin id)=pure (.type "method_descriptor"))(hm:n5 X id r)(ho:PE X o to)
 (hbase:attributeBase o name X.env (eval o X.env)=eval o X.env:=by rfl) (hline:(apos.endLine==cpos.line)=true:=by rfl):PE X (.Call (.Attribute o name apos) [] [] cpos) (wY X.K T r to):=by
 intro ah s σ H Q I h;refine wpAny_Call_method0_late hbase hline (bn (ho ah s σ H _ I h) λv s1 ⟨x,H1,I1,r1,ty,q1⟩=>?_);obtain⟨h1,h2⟩:=CK I1 r1 ty;exact⟨T,id,pa,slot,hty,h1,h2,zK rfl (PySem.evalArgs_none (hm ah s1 σ H1 x [] v [] Q I1 r1 .nil q1))⟩
theorem gP(pa:zk T)(slot:Slot T name id)(hty:typeOf (.builtin id)=pure (.type "method_descriptor"))(hm:n5 X id r)(ho:PE X o to)(ha:PA X (e::es) t)
 (hbase:attributeBase o name X.env (eval o X.env)=eval o X.env:=by rfl)
 (hfew:((backTo cpos (starEach (e::es) X.env)).all (λx=>!x.1)&&(backToKw cpos (keywordEach [] X.env)).all (λx=>x.1.isSome)
  && decide ((e::es).length+([]:List Keyword).length+(if([]:List Keyword).isEmpty then 0 else 1)<30))=true:=by rfl)
 (hline:(apos.endLine==cpos.line)=true:=by rfl) (hs:starEach (e::es) X.env=(false,eval e X.env)::starEach es X.env:=by rfl) (hplain:(backTo cpos (starEach es X.env)).any (·.1)=false:=by rfl) :
 PE X (.Call (.Attribute o name apos) (e::es) [] cpos) (qj X.K T r to t):=by
 intro ah s σ H Q I h;refine LK hbase hfew hline rfl (bn (ho ah s σ H _ I h) λv s1 ⟨x,H1,I1,r1,ty,q1⟩=>?_);obtain⟨h1,h2⟩:=CK I1 r1 ty;refine⟨T,id,pa,slot,hty,h1,h2,?_⟩;have hA:=ha cpos ah s1 σ H1 _ I1 q1;rw[hs]at hA ⊢;refine zK (by show(false||(backTo cpos (starEach es X.env)).any (·.1))=false;rw[hplain]<;>rfl) (zL ?_);exact bn hA λus s2 ⟨vs,H2,I2,r2,q2⟩=>hm ah s2 σ H2 x vs v us Q I2 r1 r2 q2
end
def rZ(X:Cx)(id:String)(r:V->List V->Hp->VK->Prop):Prop:=
 ∀(ah:List (ai×Obj)) (s:az) (σ:St) (H:Hp) (x:V) (xs:List V) (v:aj) (us:List aj) (Q:VK),Inv X ah σ H s->RelV x v->Vals xs us->r x xs H Q ->
  wpAny (model X.prog X.w) X.A (call (.builtin id) (v::us)) (EP X ah σ Q) X.xe s
theorem Vals.one:∀{x:V} {us:List aj},Vals [x] us->∃u,us=[u]/\RelV x u
 |_,_,.cons r .nil=>⟨_,rfl,r⟩
theorem Vals.zero:∀{us:List aj},Vals [] us->us=[]
 |_,.nil=>rfl
theorem Vals.dropLast{xs:List V}{us:List aj}(h:Vals xs us):Vals xs.dropLast us.dropLast:=by
 induction h with
 |nil=>exact .nil
 |cons r t ih=>
  cases t with
  |nil=>exact .nil
  |cons q t'=>exact .cons r ih
theorem Vals.eraseIdx:∀{xs:List V} {us:List aj} (i:Nat),Vals xs us->Vals (xs.eraseIdx i) (us.eraseIdx i)
 |_,_,_,.nil=>.nil
 |_,_,0,.cons _ t=>t
 |_,_,i+1,.cons r t=>.cons r (Vals.eraseIdx i t)
theorem Vals.reverse{xs:List V}{us:List aj}(h:Vals xs us):Vals xs.reverse us.reverse:=by
 induction h with
 |nil=>exact .nil
 |cons r t ih=>rw[y6,y6];exact Vals.append ih (.cons r .nil)
theorem Uc{α:Type}(l:List α):l.eraseIdx (l.length-1)=l.dropLast:=by
 induction l with
 |nil=>rfl
 |cons a r ih=>
  cases r with
  |nil=>rfl
  |cons b r=>
   have e:(a::b::r).length-1=((b::r).length-1)+1:=by have h1:(a::b::r).length=r.length+2:=rfl;have h2:(b::r).length=r.length+1:=rfl;omega
   rw[e,Li,ih]
   all_goals rfl
theorem Gf{α:Type}:∀(l:List α) (i:Nat),(l.eraseIdx i).length<=l.length
 |[],_=>bU _
 |_::_,0=>zz _
 |_::r,i+1=>Nat.succ_le_succ (Gf r i)
section
variable{X:Cx}{ah:List (ai×Obj)}{σ:St}{H:Hp}{s:az}{l b:ai}{xs ys zs:List V}
theorem Inv.rD{ax its':List aj}{n:Nat}{f:Array aj->Array aj}{t':Nat}(I:Inv X ah σ H s)(hH:H l=ac (.lst xs))
 (e:s.heap.get? l=ac { cls:=.type "list", data:=.seq ax.toArray n }) (hf:f ax.toArray=its'.toArray) (hv:Vals ys its') (hz:ys.length<=sizeLine) :
 Inv X ah σ (upd H l (.lst ys)) { s with heap:=s.heap.update l (jR f),toks:=t' }:=by
 have q:=PySem.IsL.update e f;rw[hf]at q;refine I.write (x:=l) (e:=l) (by rw[hH];exact trivial) (.inl rfl) (λb' u hb hu=>(wc s.heap (jR f) (dW hb)).trans hu) ⟨_,q⟩ ?_;exact⟨hz,its',_,hv,q⟩
theorem Inv.OU{ax:List aj}{t':Nat}(I:Inv X ah σ H s)(hv:Vals ys ax)(hz:ys.length<=sizeLine) :
 Inv X ah σ (upd H s.heap.objs.size (.lst ys)) { s with heap:=s.heap.push { cls:=.type "list", data:=.seq ax.toArray },toks:=t' }:=
 I.laid (λ_ _ q=>dI _ q) (bU _) ⟨hz,ax,0,hv,ge _ rfl⟩
theorem Inv.fresh(I:Inv X ah σ H s):H s.heap.objs.size=af:=I.hok.fresh (bU _)
theorem Inv.sH(I:Inv X ah σ H s)(hH:H l=ac (.lst xs)):xs.length<=sizeLine/\∃(ax:List aj) (n:Nat),Vals xs ax/\xs.length=ax.length/\s.heap.get? l=ac { cls:=.type "list", data:=.seq ax.toArray n }:=by obtain⟨z,ax,n,r,e⟩:=I.hok l _ hH;exact⟨z,ax,n,r,r.length,e⟩
theorem SQ{n:Nat}(h:n<=sizeLine):DL n=false:=by unfold DL;exact d6 (by omega)
end
section
variable{X:Cx}
def xy:V->List V->Hp->VK->Prop:=λx vs H Q=>∃l xs y,x=.ref l/\vs=[y]/\H l=ac (.lst xs)/\xs.length<sizeLine/\Q .non (upd H l (.lst (xs++[y])))
theorem j7:rZ X "list.append" xy:=by intro ah s σ H x vs v us Q I rx rv h;obtain⟨l,xs,y,rfl,rfl,hH,hz,q⟩:=h;cases rx;obtain⟨u,rfl,ru⟩:=rv.one;obtain⟨z,ax,n,r,hl,e⟩:=I.sH hH;refine qY F.slot_list_append ⟨_,e,rfl⟩ F.entry_list_append (F.args_list_append_2 _ _) (PySem.list_append l ax.toArray n u (by rw[dg];omega)) ⟨e,?_⟩;refine⟨.non,_,I.rD (its':=ax++[u]) hH e (by simp) (r.append (.cons ru .nil)) ?_,rfl,q⟩;rw[dz,y4];omega
def IZ:V->List V->Hp->VK->Prop:=λx vs H Q=>∃l xs y,x=.ref l/\vs=[]/\H l=ac (.lst xs)/\xs[xs.length-1]? = ac y/\Q y (upd H l (.lst xs.dropLast))
theorem UF:rZ X "list.pop" IZ:=by
 intro ah s σ H x vs v us Q I rx rv h;obtain⟨l,xs,y,rfl,rfl,hH,hy,q⟩:=h;cases rx;have hus:=rv.zero;subst hus;obtain⟨z,ax,n,r,hl,e⟩:=I.sH hH;obtain⟨u,hu,ru⟩:=r.get hy;have hy':ax.toArray[ax.toArray.size-1]? = ac u:=by show ax.toArray[ax.length-1]? = ac u;rw[<- DG,<- hl];exact hu
 refine qY F.slot_list_pop ⟨_,e,rfl⟩ F.entry_list_pop (F.args_list_pop_1 _) (MeetsSeq.list_pop_last l ax.toArray n u hy' (by rw[dg];omega)) ⟨e,?_⟩;refine⟨y,_,I.rD (its':=ax.dropLast) hH e ?_ r.dropLast ?_,ru,q⟩
 ·show ax.toArray.eraseIdxIfInBounds (ax.toArray.size-1)=ax.dropLast.toArray;rw[dg,Lb,Uc]
 ·rw[List.length_dropLast];omega
def Fz:V->List V->Hp->VK->Prop:=λx vs H Q=>∃l xs i k y,x=.ref l/\vs=[.int i]/\H l=ac (.lst xs)/\-(2 ^ 63)<=i/\i<2 ^ 63/\seqIndex? i xs.length=ac k/\xs[k]? = ac y/\Q y (upd H l (.lst (xs.eraseIdx k)))
theorem OL:rZ X "list.pop" Fz:=by
 intro ah s σ H x vs v us Q I rx rv h;obtain⟨l,xs,i,k,y,rfl,rfl,hH,h1,h2,hk,hy,q⟩:=h;cases rx;obtain⟨u,rfl,ru⟩:=rv.one;obtain⟨t,rfl⟩:=ru;obtain⟨z,ax,n,r,hl,e⟩:=I.sH hH;obtain⟨w,hw,rw'⟩:=r.get hy;refine qY F.slot_list_pop ⟨_,e,rfl⟩ F.entry_list_pop (F.args_list_pop_2 _ _)
  (MeetsSeq.list_pop_at l ax.toArray n i t k w (fitsIndex_both h1 h2) (by rw[dg,<- hl];exact hk) (by rw[<- DG];exact hw) (by rw[dg];omega)) ⟨e,?_⟩
 refine⟨y,_,I.rD (its':=ax.eraseIdx k) hH e ?_ (r.eraseIdx k) ?_,rw',q⟩
 ·show ax.toArray.eraseIdxIfInBounds k=(ax.eraseIdx k).toArray;rw[Lb]
 ·have:=Gf xs k;omega
def KD:V->List V->Hp->VK->Prop:=λx vs H Q=>∃l xs,x=.ref l/\vs=[]/\H l=ac (.lst xs)/\Q .non (upd H l (.lst xs.reverse))
theorem AQ:rZ X "list.reverse" KD:=by intro ah s σ H x vs v us Q I rx rv h;obtain⟨l,xs,rfl,rfl,hH,q⟩:=h;cases rx;have hus:=rv.zero;subst hus;obtain⟨z,ax,n,r,hl,e⟩:=I.sH hH;refine qY F.slot_list_reverse ⟨_,e,rfl⟩ F.entry_list_reverse (F.args_list_reverse_1 _) (AutoSeq1.list_reverse_list_0 l ax.toArray n (by rw[dg];omega)) ⟨e,?_⟩;refine⟨.non,_,I.rD (its':=ax.reverse) hH e (by simp) r.reverse ?_,rfl,q⟩;rw[List.length_reverse];omega
def Ko:V->List V->Hp->VK->Prop:=λx vs H Q=>∃l xs,x=.ref l/\vs=[]/\H l=ac (.lst xs)/\Q .non (upd H l (.lst []))
theorem R7:rZ X "list.clear" Ko:=by intro ah s σ H x vs v us Q I rx rv h;obtain⟨l,xs,rfl,rfl,hH,q⟩:=h;cases rx;have hus:=rv.zero;subst hus;obtain⟨z,ax,n,r,hl,e⟩:=I.sH hH;refine qY F.slot_list_clear ⟨_,e,rfl⟩ F.entry_list_clear (F.args_list_clear_1 _) (AutoSeq1.list_clear_list_0 l ax.toArray n (by rw[dg];omega)) ⟨e,?_⟩;exact⟨.non,_,I.rD (its':=[]) (ys:=[]) hH e rfl .nil (iC _),rfl,q⟩
end
section
variable{κ:Type}[DecidableEq κ]
def jo(ay:List (κ×V))(k:κ):Option V:=(ay.find? λkv=>decide (kv.1=k)).map (·.2)
def putK(ay:List (κ×V))(k:κ)(v:V):List (κ×V):=if(ay.any λkv=>decide (kv.1=k))=true then ay.map (λkv=>if kv.1=k then(kv.1,v)else kv)else ay++[(k,v)]
theorem CV{p:κ×V}{r:List (κ×V)}{k:κ}(e:p.1=k):jo (p::r) k=ac p.2:=by simp[jo,mW,e]
theorem z8{p:κ×V}{r:List (κ×V)}{k:κ}(e:¬ p.1=k):jo (p::r) k=jo r k:=by simp[jo,mW,e]
theorem Kz(k:κ):∀ay:List (κ×V),(ay.any λkv=>decide (kv.1=k))=(jo ay k).isSome
 |[]=>rfl
 |p::r=>by
  rw[mX];by_cases e:p.1=k
  ·simp only[CV e,cV e,Bool.true_or,Option.isSome_some]
  ·rw[z8 e,d6 e,Bool.false_or];exact Kz k r
theorem AR(ay:List (κ×V))(k:κ)(v:V):(putK ay k v).length<=ay.length+1:=by
 unfold putK;split
 ·rw[aP];omega
 ·rw[dz,eG,iz];omega
theorem k7.uH{o:Option V}{u:Option aj}(r:k7 o u):o.isSome=u.isSome:=by
 cases o with
 | none=>cases u with
  |none=>rfl
  |some _=>exact(show False from r).elim
 | some _=>cases u with
  |none=>exact(show False from r).elim
  |some _=>rfl
theorem KV.val{ay:List (κ×V)}{vs:List (κ×aj)}(r:KV ay vs)(k:κ):k7 (jo ay k) (valueAt vs k):=by
 unfold KV at r
 induction r with
 |nil=>exact lN
 | @cons p q ps qs h t ih=>
  obtain⟨h1,h2⟩:=h;by_cases e:p.1=k
  ·have e':q.1=k:=h1.symm.trans e;have b:valueAt (q::qs) k=ac q.2:=by simp[valueAt,mW,e']
   rw[CV e,b];exact h2
  ·have e':¬ q.1=k:=λz=>e (h1.trans z);have b:valueAt (q::qs) k=valueAt qs k:=by simp[valueAt,mW,e']
   rw[z8 e,b];exact ih
theorem KV.any{ay:List (κ×V)}{vs:List (κ×aj)}(r:KV ay vs)(k:κ):(ay.any λkv=>decide (kv.1=k))=vs.any λkv=>decide (kv.1=k):=by
 unfold KV at r
 induction r with
 |nil=>rfl
 |cons h t ih=>rw[mX,mX,ih,h.1]
theorem KV.repl{ay:List (κ×V)}{vs:List (κ×aj)}(r:KV ay vs)(k:κ){y:V}{u:aj}(ry:RelV y u) :
 KV (ay.map λkv=>if kv.1=k then(kv.1,y)else kv) (vs.map λkv=>if kv.1=k then(kv.1,u)else kv):=by
 unfold KV at r ⊢
 induction r with
 |nil=>exact .nil
 | @cons p q ps qs h t ih=>
  rw[cM,cM];refine .cons ?_ ih;obtain⟨h1,h2⟩:=h;by_cases e:p.1=k
  ·rw[a8 e,a8 (h1.symm.trans e)];exact⟨h1,ry⟩
  ·rw[a7 e,a7 (λz=>e (h1.trans z))];exact⟨h1,h2⟩
theorem KV.put{ay:List (κ×V)}{vs:List (κ×aj)}(r:KV ay vs)(k:κ){y:V}{u:aj}(ry:RelV y u):KV (putK ay k y) (stored vs k u):=by
 unfold putK stored;rw[r.any k];by_cases e:(vs.any λkv=>decide (kv.1=k))=true
 ·rw[a8 e,a8 e];exact r.repl k ry
 ·rw[a7 e,a7 e];exact Paired.snoc r ⟨rfl,ry⟩
theorem KV.length{ay:List (κ×V)}{vs:List (κ×aj)}(r:KV ay vs):ay.length=vs.length:=zM r
end
theorem rl{P:bH}{w:bt}{k:Key}{u:aj}(r:RelV (kV k) u):(iS P w).is k u=true:=by
 cases k with
 |inl i=>obtain e:=(show u=tR i from r);subst e;exact Qk P w i
 |inr x=>obtain⟨t,e⟩:=(show∃t,u=pL x t from r);subst e;exact S6 P w x t
theorem IC{P:bH}{w:bt}:∀{ks:List Key} {us:List aj},Vals (ks.map kV) us->ItemsAre (iS P w) ks us
 |[],_,r=>by rw[mY]at r;cases r;exact .nil
 |k::ks,_,r=>by
  rw[cM]at r;cases r with
  |cons h t=>exact .cons (rl h) (IC t)
abbrev KT(H:Hp):List (List Key×V)->List (List Key×ai×aj)->Prop:=q8 λp q=>p.1=q.1/\H q.2.1=ac (.tup (p.1.map kV))/\RelV p.2 q.2.2
theorem KT.val{H:Hp}{ay:List (List Key×V)}{xs:List (List Key×ai×aj)}(r:KT H ay xs)(k:List Key):k7 (jo ay k) ((atKey xs k).map (·.2)):=by
 induction r with
 |nil=>exact lN
 | @cons p q ps qs h t ih=>
  obtain⟨h1,_,h2⟩:=h;by_cases e:p.1=k
  ·have e':q.1=k:=h1.symm.trans e;have b:atKey (q::qs) k=ac q.2:=by simp[atKey,mW,e']
   rw[CV e,b];exact h2
  ·have e':¬ q.1=k:=λz=>e (h1.trans z);have b:atKey (q::qs) k=atKey qs k:=by simp[atKey,mW,e']
   rw[z8 e,b];exact ih
theorem KT.repl{H:Hp}{ay:List (List Key×V)}{xs:List (List Key×ai×aj)}(r:KT H ay xs)(k:List Key){y:V}{u:aj}(ry:RelV y u) :
 KT H (ay.map λkv=>if kv.1=k then(kv.1,y)else kv) (xs.map (putAt k u)):=by
 induction r with
 |nil=>exact .nil
 | @cons p q ps qs h t ih=>
  rw[cM,cM];refine .cons ?_ ih;obtain⟨h1,h2,h3⟩:=h;unfold putAt;by_cases e:p.1=k
  ·rw[a8 e,a8 (h1.symm.trans e)];exact⟨h1,h2,ry⟩
  ·rw[a7 e,a7 (λz=>e (h1.trans z))];exact⟨h1,h2,h3⟩
theorem KT.put{H:Hp}{ay:List (List Key×V)}{xs:List (List Key×ai×aj)}(r:KT H ay xs)(k:List Key){b:ai}{y:V}{u:aj}(hb:H b=ac (.tup (k.map kV)))(ry:RelV y u) :
 KT H (putK ay k y) (storedH xs k b u):=by
 have e:(ay.any λkv=>decide (kv.1=k))=(atKey xs k).isSome:=by rw[Kz,(r.val k).uH,DD]
 unfold putK storedH;rw[e];by_cases q:(atKey xs k).isSome=true
 ·rw[a8 q,a8 q];exact r.repl k ry
 ·rw[a7 q,a7 q];exact Paired.snoc r ⟨rfl,hb,ry⟩
theorem KT.keeps{H H':Hp}{ay:List (List Key×V)}{xs:List (List Key×ai×aj)}(r:KT H ay xs)(ht:∀b ys,H b=ac (.tup ys)->H' b=ac (.tup ys)):KT H' ay xs:=Paired.AZ r λ_ _ z=>⟨z.1,ht _ _ z.2.1,z.2.2⟩
section
variable{P:bH}{w:bt}{H:Hp}{h:aY}{a:ai}
theorem J2{u:HO}(ok:du P w H h)(e:Rd H a u):d5 P w H h a u:=e.ok ok
theorem vW{ay:List (Key×V)}(ok:du P w H h)(e:Rd H a (.dK ay)):ay.length<=sizeLine/\(a==sysModules)=false/\∃vs,KV ay vs/\h.DictOf (iS P w) a vs:=show d5 P w H h a (.dK ay)from J2 ok e
theorem Kb{ay:List (Key×V)}(ok:du P w H h)(e:H a=ac (.dK ay)):ay.length<=sizeLine/\(a==sysModules)=false/\∃vs,KV ay vs/\h.DictOf (iS P w) a vs:=vW ok (.inl e)
theorem ux{ks:List Key}(ok:du P w H h)(e:H a=ac (.tup (ks.map kV))):(tupleKind (iS P w)).is h ks a:=by obtain⟨_,ax,r,o,h1,h2,_,n,h3⟩:=(show d5 P w H h a (.tup (ks.map kV))from ok a _ e);exact⟨o,ax.toArray,n,h1,h2,h3,by simpa using IC r⟩
theorem vg{ay:List (List Key×V)}(ok:du P w H h)(e:Rd H a (.dT ay)):ay.length<=sizeLine/\(a==sysModules)=false /\
 ∃xs,KT H ay xs/\h.DictOfH (tupleKind (iS P w)) a xs:=by
 obtain⟨z,y,xs,r,o,es,ep,h1,h2,h3,h4,h5⟩:=(show d5 P w H h a (.dT ay)from J2 ok e);refine⟨z,y,xs,r,o,es,ep,h1,h2,h3,h4,λx hx=>?_,h5⟩;have all:∀{l:List (List Key×V)} {m:List (List Key×ai×aj)},KT H l m->∀x∈m,(tupleKind (iS P w)).is h x.1 x.2.1:=by
  intro l m q
  induction q with
  |nil=>intro x hx;exact nomatch hx
  | @cons p q ps qs hq t ih=>
   intro x hx;rcases bZ.mp hx with e|hx
   ·subst e;exact ux ok (by rw[<- hq.1];exact hq.2.1)
   ·exact ih x hx
 exact all r x hx
theorem Se{ay:List (List Key×V)}(ok:du P w H h)(e:H a=ac (.dT ay)):ay.length<=sizeLine/\(a==sysModules)=false /\
 ∃xs,KT H ay xs/\h.DictOfH (tupleKind (iS P w)) a xs:=vg ok (.inl e)
end
def jH(H:Hp)(a:ai)(y:V)(r:Option V):Prop:=(∃ay k,Rd H a (.dK ay)/\y=kV k/\r=jo ay k)\/∃ay k b,Rd H a (.dT ay)/\y=.ref b/\H b=ac (.tup (k.map kV))/\r=jo ay k
def oE(H:Hp)(a:ai)(y v:V)(H':Hp):Prop:=
 (∃ay k,H a=ac (.dK ay)/\y=kV k/\ay.length<sizeLine/\H'=upd H a (.dK (putK ay k v))) \/
 ∃ay k b,H a=ac (.dT ay)/\y=.ref b/\H b=ac (.tup (k.map kV))/\ay.length<sizeLine/\H'=upd H a (.dT (putK ay k v))
theorem jH.k{H:Hp}{a:ai}{ay:List (Key×V)}{k:Key}(e:H a=ac (.dK ay)):jH H a (kV k) (jo ay k):=.inl ⟨ay,k,.inl e,rfl,rfl⟩
theorem jH.t{H:Hp}{a b:ai}{ay:List (List Key×V)}{k:List Key}(e:H a=ac (.dT ay))(eb:H b=ac (.tup (k.map kV))):jH H a (.ref b) (jo ay k):=.inr ⟨ay,k,b,.inl e,rfl,eb,rfl⟩
theorem oE.k{H:Hp}{a:ai}{ay:List (Key×V)}{k:Key}{v:V}(e:H a=ac (.dK ay))(hl:ay.length<sizeLine):oE H a (kV k) v (upd H a (.dK (putK ay k v))):=.inl ⟨ay,k,e,rfl,hl,rfl⟩
theorem oE.t{H:Hp}{a b:ai}{ay:List (List Key×V)}{k:List Key}{v:V}(e:H a=ac (.dT ay))(eb:H b=ac (.tup (k.map kV)))(hl:ay.length<sizeLine) :
 oE H a (.ref b) v (upd H a (.dT (putK ay k v))):=.inr ⟨ay,k,b,e,rfl,eb,hl,rfl⟩
section
variable{X:Cx}{ah:List (ai×Obj)}{σ:St}{H:Hp}{s:az}{a:ai}{y v:V}{u r:aj}{o:Option V}{A:bT}{E:aj->az->Prop}
theorem Inv.big(I:Inv X ah σ H s):sysModules<s.heap.objs.size:=by have h:mainGlobals<s.heap.objs.size:=(I.mod.glob.keeps I.bk).lt;exact Nat.lt_trans (by decide) h
theorem SX{Q:aj->az->Prop}(hu:A.units+1<cLine)(I:Inv X ah σ H s)(g:jH H a y (ac v))(ry:RelV y u)(h:∀w' s',Inv X ah σ H s'->RelV v w'->Q w' s') :
 wpAny (model X.prog X.w) A (getItem (.ref a) u) Q E s:=by
 rcases g with ⟨ay,k,e,ey,l⟩|⟨ay,k,b,e,ey,eb,l⟩
 ·subst ey;obtain⟨z,hd,vs,rel,dd⟩:=vW I.hok e;obtain⟨w',hw,rw'⟩:=k7.some_of (v:=v) (o:=valueAt vs k) (by rw[l];exact rel.val k);exact wpAny_getItem_of (rl ry) dd.mapOf hw (h w' _ (I.tok _) rw')
 ·subst ey;cases(show u=dP b from ry);obtain⟨z,hd,xs,rel,dd⟩:=vg I.hok e;obtain⟨w',hw,rw'⟩:=k7.some_of (v:=v) (o:=(atKey xs k).map (·.2)) (by rw[l];exact rel.val k);obtain⟨p,hp,hp2⟩:=pN.mp hw;refine wpAny_getItem_heap (zf hu) (ux I.hok eb) dd hp ?_;rw[hp2];exact h w' _ (I.tok _) rw'
theorem RA{Q:aj->az->Prop}(hu:A.units+1<cLine)(I:Inv X ah σ H s)(g:jH H a y o)(ry:RelV y u)(h:∀s',Inv X ah σ H s'->Q (.bool o.isSome) s') :
 wpAny (model X.prog X.w) A (compareOp .In u (.ref a)) Q E s:=by
 rcases g with ⟨ay,k,e,ey,l⟩|⟨ay,k,b,e,ey,eb,l⟩
 ·subst ey;obtain⟨z,hd,vs,rel,dd⟩:=vW I.hok e;refine wpAny_in_of (rl ry) hd dd.mapOf ?_;rw[<- (rel.val k).uH,<- l];exact h _ (I.tok _)
 ·subst ey;cases(show u=dP b from ry);obtain⟨z,hd,xs,rel,dd⟩:=vg I.hok e;refine wpAny_in_heap (zf hu) (ux I.hok eb) hd dd ?_;have q:=(rel.val k).uH;rw[DD]at q;rw[<- q,<- l];exact h _ (I.tok _)
theorem OW{Q:aj->az->Prop}(hu:A.units+1<cLine)(I:Inv X ah σ H s)(g:jH H a y o)(ry:RelV y u)(h:∀s',Inv X ah σ H s'->Q (.bool (!o.isSome)) s') :
 wpAny (model X.prog X.w) A (compareOp .NotIn u (.ref a)) Q E s:=by
 rcases g with ⟨ay,k,e,ey,l⟩|⟨ay,k,b,e,ey,eb,l⟩
 ·subst ey;obtain⟨z,hd,vs,rel,dd⟩:=vW I.hok e;refine wpAny_notIn_of (rl ry) hd dd.mapOf ?_;rw[<- (rel.val k).uH,<- l];exact h _ (I.tok _)
 ·subst ey;cases(show u=dP b from ry);obtain⟨z,hd,xs,rel,dd⟩:=vg I.hok e;refine wpAny_notIn_heap (zf hu) (ux I.hok eb) hd dd ?_;have q:=(rel.val k).uH;rw[DD]at q;rw[<- q,<- l];exact h _ (I.tok _)
theorem BV{h':aY}{t':Nat}{ob:HO}(I:Inv X ah σ H s)(mu:vL (H a))(hs:wf a s.heap h')(he:∃q,h'.get? a=ac q)(new:d5 X.prog X.w (upd H a ob) h' a ob) :
 Inv X ah σ (upd H a ob) { s with heap:=h',toks:=t' }:=
 I.write (x:=a) (e:=a) mu (.inl rfl) (λb q hb z=>(hs.2 b hb).trans z) he new
theorem K6{P:bH}{w:bt}{H':Hp}{h':aY}{ay:List (Key×V)}{vs:List (Key×aj)}(z:ay.length<=sizeLine)(hd:(a==sysModules)=false)(rel:KV ay vs)(dd:h'.DictOf (iS P w) a vs) :
 d5 P w H' h' a (.dK ay):=⟨z,hd,vs,rel,dd⟩
theorem P7{H':Hp}{Q:Unit->az->Prop}(hu:A.units+1<cLine)(I:Inv X ah σ H s)(g:oE H a y v H')(ry:RelV y u)(rv:RelV v r)(h:∀s',Inv X ah σ H' s'->Q () s') :
 wpAny (model X.prog X.w) A (setItem (.ref a) u r) Q E s:=by
 rcases g with ⟨ay,k,e,ey,l,eH⟩|⟨ay,k,b,e,ey,eb,l,eH⟩
 ·subst ey eH;obtain⟨z,hd,vs,rel,dd⟩:=Kb I.hok e;have hz:vs.length<=sizeLine:=by rw[<- rel.length];exact z
  have hl:(putK ay k v).length<=sizeLine:=by have:=AR ay k v;omega
  refine wpAny_setItem_pairs (hsz:=hz) (rl ry) dd λh' dd' hs=>h _ ?_;have he:∃q,h'.get? a=ac q:=let ⟨q,_,_,hq,_⟩:=dd';⟨q,hq⟩;exact BV I (by rw[e];exact lN) hs he (K6 hl hd (rel.put k rv) dd')
 ·subst ey eH;cases(show u=dP b from ry);obtain⟨z,hd,xs,rel,dd⟩:=Se I.hok e;have hz:xs.length<=sizeLine:=by rw[<- zM rel];exact z
  have hl:(putK ay k v).length<=sizeLine:=by have:=AR ay k v;omega
  refine wpAny_setItem_heap (hsz:=hz) (zf hu) (ux I.hok eb) dd λh' dd' hs=>h _ ?_;obtain⟨q,es,ep,hq,h2,h3,h4,_,h5⟩:=dd';refine BV I (by rw[e];exact lN) hs ⟨q,hq⟩ ⟨hl,hd,_,(rel.put k eb rv).keeps λc ys ec=>?_,q,es,ep,hq,h2,h3,h4,h5⟩;rw[aX (Tc ec e (λz=>nomatch z))];exact ec
end
def GU(i:bj):Prop:=∀ov iv,subscripted i false ov iv=operate [ov,iv] (getItem ov iv)
theorem Qx{prog:bH}{w:bt}{A:bT}{E:aj->az->Prop}{s:az}{env:Env}{value slice:bj}{pos:Pos}{T id:String}{Q:aj->az->Prop}
 (hl:typeLookup (.type T) "__getitem__" = pure (ac (.builtin id))) (hs:GU slice)
 (h:wpAny (model prog w) A (eval value env) (λo s₁=>wpAny (model prog w) A (eval slice env) (λi s₂=>s₂.TypeIs o T/\wpAny (model prog w) A (getItem o i) Q E s₂) E s₁) E s) :
 wpAny (model prog w) A (eval (.Subscript value slice pos) env) Q E s:=by
 refine Subscript_ (h7 h (λo s₁ h₁=>h7 h₁ (λi s₂ h₂=>?_) λ_ _ x=>x) λ_ _ x=>x);obtain⟨hT,h₂⟩:=h₂;unfold subscriptTail;refine aV ?_;rw[getitemInPython_of_ne hT.not_modules];refine aV (Dr hT hl ?_);have fin:wpAny (model prog w) A (subscripted slice false o i) (λr s₃=>wpAny (model prog w) A (letTemporaryGo value o r >>= λ_=>pure r) Q E s₃) E s₂:=by rw[hs o i];exact wpAny_operating (h7 h₂ (λr s₃ h₃=>aV (wpAny_letTemporaryGo (cE h₃))) λ_ _ x=>x)
 first
  |exact cE (aV fin)
  |exact aV (cE (aV fin))
  |exact aV fin
theorem NE{X:Cx}{ah:List (ai×Obj)}{σ:St}{H:Hp}{s:az}{a:ai}{y:V}{o:Option V}(I:Inv X ah σ H s)(g:jH H a y o):s.TypeIs (.ref a) "dict":= by
 rcases g with ⟨ay,k,e,_,_⟩|⟨ay,k,b,e,_,_,_⟩
 ·obtain⟨_,_,vs,_,dd⟩:=vW I.hok e;exact dd.typeIs
 ·obtain⟨_,_,xs,_,dd⟩:=vg I.hok e;exact dd.typeIs
def KU(td ty:TE):TE:=λσ H Q=>td σ H λx H1=>ty σ H1 λy H2=>∃a v,x=.ref a/\jH H2 a y (ac v)/\Q v H2
def FK(ty td:TE):TE:=λσ H Q=>ty σ H λy H1=>td σ H1 λx H2=>∃a o,x=.ref a/\jH H2 a y o/\Q (.bl o.isSome) H2
def Il(ty td:TE):TE:=λσ H Q=>ty σ H λy H1=>td σ H1 λx H2=>∃a o,x=.ref a/\jH H2 a y o/\Q (.bl (!o.isSome)) H2
def jh(td ty tv:TE):TS:=λD σ H=>tv σ H λv H1=>td σ H1 λx H2=>ty σ H2 λy H3=>∃a H4,x=.ref a/\oE H3 a y v H4/\D.nx σ H4
section
variable{X:Cx}{o i e value:bj}{pos pos' tpos:Pos}{td ty tv:TE}
theorem Jk(hu:X.A.units+1<cLine)(ho:PE X o td)(hi:PE X i ty)(hs:GU i):PE X (.Subscript o i pos) (KU td ty):=by intro ah s σ H Q I h;refine Qx PySem.F.slot_dict_getitem.lookup hs (bn (ho ah s σ H _ I h) λu s1 ⟨x,H1,I1,rx,q1⟩=>bn (hi ah s1 σ H1 _ I1 q1) λiv s2 ⟨y,H2,I2,ry,a,v,ex,g,q2⟩=>?_);subst ex;obtain rfl:u=dP a:=rx;exact⟨NE I2 g,SX hu I2 g ry λw' s3 I3 rw'=>⟨v,H2,I3,rw',q2⟩⟩
theorem U8(hu:X.A.units+1<cLine)(hi:PE X i ty)(ho:PE X o td):PC X .In i o (FK ty td):=by intro ah s σ H Q I h;refine bn (hi ah s σ H _ I h) λiv s1 ⟨y,H1,I1,ry,q1⟩=>bn (ho ah s1 σ H1 _ I1 q1) λu s2 ⟨x,H2,I2,rx,a,ov,ex,g,q2⟩=>?_;subst ex;obtain rfl:u=dP a:=rx;exact RA hu I2 g ry λs3 I3=>⟨.bl ov.isSome,H2,I3,rfl,q2⟩
theorem Oj(hu:X.A.units+1<cLine)(hi:PE X i ty)(ho:PE X o td):PC X .NotIn i o (Il ty td):=by intro ah s σ H Q I h;refine bn (hi ah s σ H _ I h) λiv s1 ⟨y,H1,I1,ry,q1⟩=>bn (ho ah s1 σ H1 _ I1 q1) λu s2 ⟨x,H2,I2,rx,a,ov,ex,g,q2⟩=>?_;subst ex;obtain rfl:u=dP a:=rx;exact OW hu I2 g ry λs3 I3=>⟨.bl (!ov.isSome),H2,I3,rfl,q2⟩
theorem G6(hu:X.A.units+1<cLine)(ho:PE X o td)(hi:PE X i ty)(hv:PE X value tv)(hs:swapsWith value (ac (.Subscript o i pos')) pos.line X.env=pure false) :
 PS X (.Assign [.Subscript o i pos'] value pos) (jh td ty tv):=by
 intro ah s σ H D I h;refine wpAny_Assign_Subscript (bn (hv ah s σ H _ I h) λr s1 ⟨v,H1,I1,rv,q1⟩=>bn (ho ah s1 σ H1 _ I1 q1) λu s2 ⟨x,H2,I2,rx,q2⟩=>bn (hi ah s2 σ H2 _ I2 q2) λiv s3 ⟨y,H3,I3,ry,a,H4,ex,g,q3⟩=>?_) hs;subst ex;obtain rfl:u=dP a:=rx;exact P7 hu I3 g ry rv λs4 I4=>⟨σ,H4,I4,q3⟩
end
theorem Kh{P:bH}{w:bt}{H:Hp}(h:aY)(hb:sysModules<h.objs.size):d5 P w H (h.push { cls:=.type "dict", data:=.dict #[] }) h.objs.size (.dK []):=⟨iC _,yV.mpr (dW (iO hb)),[],.nil,Heap.DictOf.new h⟩
def JB:TE:=λ_ H Q=>∀p,H p=af->Q (.ref p) (upd H p (.dK []))
section
variable{X:Cx}{pos:Pos}
theorem Sf:PE X (.Dict [] [] pos) JB:=λah s σ H Q I h=>
 wpAny_Dict_empty ⟨.ref s.heap.objs.size,_,I.laid (a:=s.heap.objs.size) (o:=.dK []) (t':=s.toks) (λ_ _ q=>dI _ q) (bU _) (Kh s.heap I.big),rfl,h _ (I.hok.fresh (bU _))⟩
end
def BA:List (TE×TE)->St->Hp->(List (V×V)->Hp->Prop)->Prop
 |[],_,H,Q=>Q [] H
 |(tk,tv)::r,σ,H,Q=>tk σ H λx H1=>tv σ H1 λy H2=>BA r σ H2 λps H3=>Q ((x,y)::ps) H3
abbrev VV:List (V×V)->List (aj×aj)->Prop:=q8 λp q=>RelV p.1 q.1/\RelV p.2 q.2
def yt(X:Cx)(pos:Pos)(keys:List (Option bj))(values:List bj)(trs:List (TE×TE)):Prop:=
 ∀(ah:List (ai×Obj)) (s:az) (σ:St) (H:Hp) (Q:List (V×V)->Hp->Prop),Inv X ah σ H s->BA trs σ H Q ->
  wpAny (model X.prog X.w) X.A (evalPairs (pairTrees keys values X.env pos)) (λvs s'=>∃ps H',Inv X ah σ H' s'/\VV ps vs/\Q ps H') X.xe s
theorem OI{X:Cx}{pos:Pos}:yt X pos [] [] []:=λah s σ H Q I h=>pairTrees_nil_walk ⟨[],H,I,.nil,h⟩
theorem Q0{X:Cx}{pos:Pos}{k v:bj}{ks:List (Option bj)}{vs:List bj}{tk tv:TE}{trs:List (TE×TE)}(hk:PE X k tk)(hv:PE X v tv)(hr:yt X pos ks vs trs) :
 yt X pos (ac k::ks) (v::vs) ((tk,tv)::trs):=λah s σ H Q I h=>
 pairTrees_cons_walk (bn (hk ah s σ H _ I h) λu s1 ⟨x,H1,I1,rx,q1⟩=>bn (hv ah s1 σ H1 _ I1 q1) λw2 s2 ⟨y,H2,I2,ry,q2⟩=>
  bn (hr ah s2 σ H2 _ I2 q2) λws s3 ⟨ps,H3,I3,rel,q3⟩=>⟨(x,y)::ps,H3,I3,.cons ⟨rx,ry⟩ rel,q3⟩)
def vU(ay more:List (Key×V)):List (Key×V):=more.foldl (λacc kv=>putK acc kv.1 kv.2) ay
theorem KV.merge:∀{more:List (Key×V)} {rs:List (Key×aj)} {ay:List (Key×V)} {vs:List (Key×aj)},KV more rs->KV ay vs->KV (vU ay more) (merged vs rs):=by
 intro more rs ay vs r;unfold KV at r
 induction r generalizing ay vs with
 |nil=>intro q;exact q
 | @cons p q ps qs h t ih=>
  intro r0;have e:KV (putK ay p.1 p.2) (stored vs q.1 q.2):=by have:=r0.put p.1 h.2;rw[<- h.1];exact this
  exact ih e
theorem Gs:∀(more ay:List (Key×V)),(vU ay more).length<=ay.length+more.length
 |[],ay=>by show ay.length<=ay.length+0;omega
 |p::r,ay=>by
  have h1:=Gs r (putK ay p.1 p.2);have h2:=AR ay p.1 p.2;show(vU (putK ay p.1 p.2) r).length<=_;rw[eG];omega
theorem Ji{P:bH}{w:bt}:∀{ay:List (Key×V)} {ws:List (aj×aj)},VV (ay.map λkv=>(kV kv.1,kv.2)) ws->∃rs,Carries (iS P w) ws rs/\KV ay rs
 |[],_,r=>by rw[mY]at r;cases r;exact⟨[],lN,.nil⟩
 |p::ay,_,r=>by
  rw[cM]at r;cases r with
  | @cons a b as bs h t=>
   obtain⟨rs,c,q⟩:=Ji (P:=P) (w:=w) t;obtain⟨b1,b2⟩:=b;exact⟨(p.1,b2)::rs,⟨rl h.1,rfl,c⟩,.cons ⟨rfl,h.2⟩ q⟩
def BB(trs:List (TE×TE)):TE:=λσ H Q=>∀p,H p=af->BA trs σ (upd H p (.dK [])) λps H2=>H2 p=ac (.dK [])/\∃ay:List (Key×V),ps=ay.map (λkv=>(kV kv.1,kv.2))/\ay.length<=15/\Q (.ref p) (upd H2 p (.dK (vU [] ay)))
theorem RK{X:Cx}{pos:Pos}{keys:List (Option bj)}{values:List bj}{trs:List (TE×TE)}(h:yt X pos keys values trs)(hall:keys.all (·.isSome)=true)(hl:keys.length=values.length)(h0:keys≠[])
 (h15:keys.length<=15):PE X (.Dict keys values pos) (BB trs):=by
 intro ah s σ H Q I q;have hn:=I.hok.fresh (bU s.heap.objs.size);have I1:=I.laid (a:=s.heap.objs.size) (o:=.dK []) (h':=s.heap.push { cls:=.type "dict", data:=.dict #[] }) (t':=s.toks) (λ_ _ q=>dI _ q) (bU _) (Kh s.heap I.big);refine wpAny_Dict_walk (knd:=iS X.prog X.w) hall hl h0 h15 (bn (h ah _ σ _ _ I1 (q _ hn)) λws s2 ⟨ps,H2,I2,rel,e,ay,ep,lk,q2⟩=>?_);subst ep;obtain⟨rs,c,rk⟩:=Ji (P:=X.prog) (w:=X.w) rel;obtain⟨z,hd,vs0,r0,dd⟩:=Kb I2.hok e;cases r0;refine⟨rs,c,dd,λh' dd' hs=>⟨.ref s.heap.objs.size,_,?_,rfl,q2⟩⟩;have hz:(vU [] ay).length<=sizeLine:=by have h1:=Gs ay [];rw[iz]at h1;rw[er];omega
 have he:∃q,h'.get? s.heap.objs.size=ac q:=let ⟨q,_,_,hq,_⟩:=dd';⟨q,hq⟩;exact BV I2 (by rw[e];exact lN) hs he (K6 hz hd (rk.merge .nil) dd')
end L2
namespace Att
open PySem PySem.W PySem.Calls PyProof.Rows
theorem UR{P:Params}{h:aY}:∀(ns:List Int) (vs:List aj),WellAll P h vs (ns.map WData.int)->kR vs ns:=by
 intro ns
 induction ns with
 |nil=>
  intro vs w;rw[mY]at w;cases w;exact .nil
 |cons n ns ih=>
  intro vs w;rw[cM]at w;cases w with
  |cons a b=>
   cases a;exact .cons _ _ (ih _ b)
theorem QA{l:OpenLaw}{n:Nat}(hn:l.most=ac n){P:Params}{h:aY}{args:List WData}{vals:List aj}
 (hpre:l.row.toRowW.claim.pre args=true) (hwl:WellAll P h vals args) :
 ∃a vs ns,vals=[dP a]/\args=[WData.list (ns.map WData.int)]/\h.get? a=ac { cls:=.type "list", data:=.seq vs.toArray }/\kR vs ns/\ns.length<=n:=by
 have hsh:WShape.hasAll [] args [.list .int]=true:=(pre_splitW hpre).1;have hc:l.pre.holds [] { args:=args }=true:=(pre_splitW hpre).2;obtain⟨d,r,rfl,h1,h2⟩:=hasAllW_cons hsh;obtain rfl:=hasAllW_nil h2;obtain⟨xs,rfl,h3⟩:=hasW_list h1;obtain⟨ns,rfl⟩:=items_int h3;have hlen:ns.length<=n:=by
  unfold OpenLaw.pre at hc;have h4:(WTm.not (.lt (.lit (.int (n:Int))) (.len (.arg 0)))).holds [] { args:=[.list (ns.map .int)] }=true:=by have h4:=(holds_andW hc).1;rw[hn]at h4;exact h4
  have h5:=condW_of h4 (w_not (w_lt w_lit (w_len_list (w_arg rfl))));rw[aP]at h5;refine Nat.le_of_not_lt λq=>?_;have q':(n:Int)<((ns.length:Nat):Int):=by omega
  first
   |(rw[cV q']at h5;exact absurd h5 (by decide))
   |(simp at h5;omega)
 cases hwl with
 |cons w1 w2=>
  cases w2;cases w1 with
  |list ho hall=>exact⟨_,_,ns,rfl,rfl,ho,UR ns _ hall,hlen⟩
theorem Qw(l:OpenLaw)(args:List WData):l.row.toRowW.claim.post args (.bool true) args=true:=
 postW_of (r:=l.row.toRowW) (X:=(true==true))
  (show WShape.has [] (.bool true) .bool=true by first|rfl|decide|simp[WShape.has,WShape.arms,WShape.armsAll])
  (show(WTm.eq .res (.lit (.bool true))).value [] { args:=args,res:=ac (.bool true),after:=args }=ac (.bool (true==true))from w_eq_bool (w_res rfl) w_lit) rfl
theorem Um{l:OpenLaw}{n:Nat}{q:bH}{loose:List Str}{XP:(Str->Option aj)->aY->Prop}{YP:bt->aY->Prop}{d:DefRec}
 (hn:l.most=ac n) (hdf:d.params.defaults=[])
 (call:∀(w:bt) (s₀ s₁:az) (mg mb:Str->Option aj) (fa:ai) (o:Obj) (pm cd doc:aj) (a:ai) (vs:List aj) (ns:List Int),
  Ground q loose [] XP w s₀ mg mb s₁.heap->YP w s₁.heap ->
  s₁.heap.get? fa=ac o->o.data=.func (docDef d.name d.params d.body d.scope pm cd doc)->s₁.heap.CodeRec cd d.name->mg d.name=ac (.ref fa) ->
  s₁.heap.get? a=ac { cls:=.type "list", data:=.seq vs.toArray }->kR vs ns->ns.length<=n->s₁.gens = #[] ->
  codeAny (model l.prog w) callerA (.call (.ref fa) ⟨[.ref a],[]⟩) (λr s'=>r=.ok (.ret (.bool true))/\OldK s₁.heap s'.heap/\s'.os=s₁.os/\m8 s'.gens) s₁) :
 WalkO q loose XP YP l.row.toRowW d [] (λf vs=>Dt f vs):=by
 intro w s₀ s₁ mg mb G Y fa o pm cd doc dV kV ho hd hcd hD hmg hg args vals as hpre hlay hrd hwl hlo;obtain rfl:dV=.none:=Dflts.none hD hdf;obtain rfl:kV=.none:=Dflts.noKw hD;obtain⟨a,vs,ns,rfl,rfl,hobj,hints,hlen⟩:=QA hn hpre hwl;refine enter_call (wa (call w s₀ s₁ mg mb fa o pm cd doc a vs ns G Y ho (fd_plain hd) hcd hmg hobj hints hlen hg) λr s' hq=>?_);obtain⟨rfl,h2,h3,h4⟩:=hq;exact⟨.inl ⟨.bool true,.bool true,[],rfl,λ_=>rfl,.bool true,Qw l _,λ_=>⟨DK,λ_ hm=>(nomatch hm)⟩⟩,h2,h3,h4⟩
end Att
namespace L2
open PySem PySem.Spec PyProof.Rows
theorem HB:∀{vs:List aj} {ns:List Int},kR vs ns->Vals (ns.map V.int) vs
 |_,_,.nil=>.nil
 |_,_,.cons n t h=>.cons ⟨t,rfl⟩ (HB h)
def nV(s:bz):tK:=match s with
 |.FunctionDef _ a _ _ _ _ _ _ _ _=>a
 |_=>{ posonlyargs:=[],args:=[],vararg:=af,kwonlyargs:=[],kw_defaults:=[],kwarg:=af,defaults:=[] }
def js(s:bz):List bz:=match s with
 |.FunctionDef _ _ b _ _ _ _ _ _ _=>b
 |_=>[]
def bF(s:bz):fh:=match s with
 |.FunctionDef _ _ _ _ _ _ sc _ _ _=>sc
 |_=>{ kind:=.function,names:=[],isGenerator:=false,isCoroutine:=false }
abbrev aI:iu:=λ_ _ _ _ _ _=>False
abbrev E0:XK:=λ_ _ _=>False
theorem oz{X:Cx}:u6 aI X E0:=λ_ _ _ _ _ _ _ h=>h.elim
structure bY(K:aO)(x qual:Str)(st:bz)(f:ai)(fd:bJ):Prop where
 ex:∃(oc:aj) (od:Option ai) (kV doc pm:aj) (an:Option ai) (cdv ct:aj) (osl:Array (Option aj)),
  fd=kj x qual (nV st) (js st) (bF st) .none kV doc pm an cdv ct/\K.lookup f=ac ⟨oc,od,.func fd,osl⟩/\qW K cdv qual=true
 kp:oh K (.ref f)=true
section
variable{P:bH}{w:bt}{K:aO}{mg:Str->Option aj}{base:aY}
theorem bY.ok{x qual:Str}{st:bz}{f:ai}{fd:bJ}{N ps:List Str}{k:Nat}{sp:Sp}(F:bY K x qual st f fd)(S:cz N ps (bF st))(len:∀vs H Q E,sp vs H Q E->vs.length=ps.length)
 (hbody:∀(cdv:aj) (A:bT) (outer:List Env) (s:az) (H:Hp) (vs:List V) (Q:VK) (E:XK),ee k (A.deeper (envOfC qual (bF st) s.heap.objs.size f cdv))->sp vs H Q E ->
  ∃t,gN (f6 aI P w K mg base N qual (bF st) f cdv A outer s H E).pD (js st) t/\t { nx:=λ_ H'=>Q .non H',rt:=Q } (start N vs) H):bO P w K mg base aI (k+1) f fd ps sp:=by
 obtain⟨oc,od,kV,doc,pm,an,cdv,ct,osl,rfl,lk,hcd⟩:=F.ex;refine Bl lk hcd S len λA outer s H vs Q E hr hsp=>?_;obtain⟨t,h,q⟩:=hbody cdv A outer s H vs Q E hr hsp;exact⟨t,h.pD,q⟩
theorem bY.binds{x qual:Str}{st:bz}{f:ai}{fd:bJ}{ps:List Str}(F:bY K x qual st f fd)
 (h:∀(kV doc pm:aj) (an:Option ai) (cdv ct:aj) (us:List aj),us.length=ps.length->bindArgs (kj x qual (nV st) (js st) (bF st) .none kV doc pm an cdv ct) ⟨us,[]⟩=pure (ps.zip us)):Binds K fd ps []:=by
 obtain⟨oc,od,kV,doc,pm,an,cdv,ct,osl,rfl,lk,hcd⟩:=F.ex;exact .all (h kV doc pm an cdv ct)
theorem HF{x qual:Str}{st:bz}{f:ai}{oc:aj}{od an:Option ai}{osl:Array (Option aj)}{kV doc pm cdv ct:aj}(l:K.lookup f=ac ⟨oc,od,.func (kj x qual (nV st) (js st) (bF st) .none kV doc pm an cdv ct),osl⟩)
 (c:qW K cdv qual=true) (k:oh K (.ref f)=true):bY K x qual st f (kj x qual (nV st) (js st) (bF st) .none kV doc pm an cdv ct):=⟨⟨oc,od,kV,doc,pm,an,cdv,ct,osl,rfl,l,c⟩,k⟩
end
theorem qB{A:bT}{k:Nat}(hr:ee k A):A.units+1<cLine:=Nat.lt_of_le_of_lt (Nat.add_le_add_left (by decide:1<=64) _) hr.units
section
variable{X:Cx}
theorem pv(i:Nat){x:Str}{pos:Pos}(hN:X.N[i]? = ac x:=by rfl)(hv:uh X.env.scope x:=by first|exact dh rfl|exact fN (dh rfl)|exact fN (fN rfl))(hd:(x==("__debug__" : Str))=false:=by decide)
 (hcd:(x==("__classdict__" : Str))=false:=by decide):PE X (.Name x pos) (fQ i):=Q6 hN hv hd hcd
end
theorem mO{A B:Prop}(h:B):if false=true then A else B:=by rw[a7 dJ];exact h
theorem mJ{A B:Prop}(h:A):if true=true then A else B:=by rw[a8 rfl];exact h
def dC(H H':Hp):Prop:=∀b o,H b=ac o->H' b=ac o
theorem dC.refl(H:Hp):dC H H:=λ_ _ h=>h
theorem dC.trans{H H1 H2:Hp}(a:dC H H1)(b:dC H1 H2):dC H H2:=λc o h=>b c o (a c o h)
theorem dC.free{H H':Hp}(e:dC H H'){l:ai}(h:H' l=Option.none):H l=Option.none:=by
 cases q:H l with
 |none=>rfl
 |some o=>
  rw[e l o q]at h;cases h
section
variable{prog:bH}{w:bt}{A:bT}{R:Result->az->Prop}{s:az}
theorem TQ{elt target iter:bj}{ifs:List bj}{scope:fh}{pos:Pos}{it acc:aj}{env:Env}(I:Nat->az->Prop)
 (turn:∀n s,I n s->wpAny (model prog w) A (pyNext it) (λr s₁=>match r with
  |none=>R (.ok .next) s₁
  |some v=>wpAny (model prog w) A (letOwnedTupleGo target it v) (λ_ s₂=>wpAny (model prog w) A (assign target env v) (λ_ s₃=>
   wpAny (model prog w) A (forIn ifs true λc r=>if r=true then do let ok <- isTrue c env (eval c env);pure (m9 ok)else pure (m9 r)) (λok s₄=>
    if ok=true then wpAny (model prog w) A (eval elt env) (λx s₅=>
     wpAny (model prog w) A (call (.builtin "list.append") [acc,x]) (λ_ s₆=>∃m,m<n/\I m s₆) (λ_ _=>False) s₅) (λ_ _=>False) s₄
    else∃m,m<n/\I m s₄) (λ_ _=>False) s₃) (λ_ _=>False) s₂) (λ_ _=>False) s₁) (λ_ _=>False) s)
 (n:Nat) (h:I n s) :
 codeAny (model prog w) A (.compLoop (.ListComp elt [⟨target,iter,ifs,0⟩] scope pos) 0 it acc env) R s:=by
 refine codeAny_loop rfl I (λn s hI=>?_) n h;show wpAny _ A ((compTurn (.ListComp elt [⟨target,iter,ifs,0⟩] scope pos) 0 it acc env).onRaise (λx=>do noteFrame x env;theTreesLotGoes x)) _ _ s;refine wpAny_noted (h7 (E:=λ_ _=>False) ?_ (λ_ _ q=>q) λ_ _ q=>q.elim);rw[compTurn_list];refine aV (zj (aV (bn (turn n s hI) λr s₁ h₁=>?_)));cases r with
 |none=>exact cE h₁
 |some v=>
  refine aV (bn h₁ λ_ s₂ h₂=>aV (bn h₂ λ_ s₃ h₃=>aV (bn h₃ λok s₄ h₄=>?_)));cases ok with
  |false=>exact cE ⟨rfl,h₄⟩
  |true=>exact aV (aV (bn h₄ λx s₅ h₅=>aV (bn h₅ λ_ s₆ h₆=>cE (cE ⟨rfl,h₆⟩))))
end
theorem du.track{P:bH}{w:bt}{H:Hp}{h:aY}{a:ai}{o:HO}(x:du P w H h)(hn:H a=af)(new:d5 P w (upd H a o) h a o):du P w (upd H a o) h:=λb u e=>by
 by_cases hb:b=a
 ·subst hb;rw[bS]at e;cases e;exact new
 ·rw[aX hb]at e;exact(x b u e).stay (λc v _ q=>q) (λc q=>by rw[aX (dX q hn)];exact q) λc xs q=>by rw[aX (dX q hn)];exact q
theorem lookup_mem{α:Type}:∀{l:List (Str×α)} {x:Str} {k:α},l.lookup x=ac k->(x,k)∈l
 |[],_,_,h=>by simp at h
 |(n,k')::r,x,k,h=>by
  rw[pF]at h;cases hx:x==n with
  |true=>
   rw[hx]at h;have:x=n:=by simpa using hx
   cases h;subst this;exact cW
  |false=>rw[hx]at h;exact eL _ (lookup_mem h)
theorem yo{env:Env}:∀{names:List (Str×pK)} {x:Str} {k:pK},
 (names.map λ(n,k)=>if(k==ng&&env.scope.kind==.function&&env.kindOf n==ac .cell)then(n,DF)else(n,k)).lookup x=ac k ->
 ∃k',names.lookup x=ac k'/\(k=k'\/(k'=.free/\k=.cell))
 |[],_,_,h=>by simp at h
 |(n,k0)::r,x,k,h=>by
  have ih:=@yo env r x k;have h':mZ x ((if(k0==ng&&env.scope.kind==.function&&env.kindOf n==ac .cell)=true then(n,DF)else(n,k0)) ::
   (r.map λ(n,k)=>if(k==ng&&env.scope.kind==.function&&env.kindOf n==ac .cell)then(n,DF)else(n,k)))=ac k:=h
  by_cases hc:(k0==ng&&env.scope.kind==.function&&env.kindOf n==ac .cell)=true
  ·rw[a8 hc,pF]at h';rw[pF];cases hx:x==n with
   |true=>
    rw[hx]at h';cases h';simp only[km]at hc;exact⟨k0,rfl,.inr ⟨by simpa using hc.1.1,rfl⟩⟩
   |false=>rw[hx]at h';exact ih h'
  ·rw[a7 hc,pF]at h';rw[pF];cases hx:x==n with
   |true=>rw[hx]at h';cases h';exact⟨_,rfl,.inl rfl⟩
   |false=>rw[hx]at h';exact ih h'
theorem A5{env:Env}{f:(Str×pK)->List (Str×ai)->Sem (ForInStep (List (Str×ai)))}
 (hf:∀n k r,f (n,k) r=if(k==ng)=true then(cellOf env n >>= λa=>pure (m9 ((n,a)::r)))else pure (m9 r)) :
 ∀(names:List (Str×pK)) (acc:List (Str×ai)),(∀y∈names,y.2=.free->∃c,env.cells.lookup y.1=ac c)->(∀x c,acc.lookup x=ac c->env.cells.lookup x=ac c) ->
  ∃cl,forIn names acc f=pure cl/\(∀x c,cl.lookup x=ac c->env.cells.lookup x=ac c)/\(∀x,(∃c,acc.lookup x=ac c)->∃c,cl.lookup x=ac c)/\∀x,(x,ng)∈names->∃c,cl.lookup x=ac c
 |[],acc,_,hacc=>⟨acc,rfl,hacc,λ_ h=>h,λ_ h=>by simp at h⟩
 |(n,k)::r,acc,hn,hacc=>by
  have hr:∀y∈r,y.2=.free->∃c,env.cells.lookup y.1=ac c:=λy hy=>hn y (eL _ hy);by_cases hk:(k==ng)=true
  ·have hk':k=.free:=by simpa using hk
   obtain⟨c,hc⟩:=hn (n,k) cW hk';obtain⟨cl,e,h1,h2,h3⟩:=A5 hf r ((n,c)::acc) hr (λx c' h=>by
    rw[pF]at h;cases hx:x==n with
    | true => rw [hx] at h; cases h; have : x = n := by simpa using hx
              subst this;exact hc
    |false=>rw[hx]at h;exact hacc x c' h)
   refine⟨cl,?_,h1,λx ⟨c',hx⟩=>h2 x ?_,λx hx=>?_⟩
   ·rw[zb,hf,a8 hk];have:cellOf env n=pure c:=by unfold cellOf;rw[hc]
    rw[this];exact e
   ·rw[pF];cases x==n with
    |true=>exact⟨_,rfl⟩
    |false=>exact⟨c',hx⟩
   ·rcases bZ.mp hx with e|hx
    ·cases e;exact h2 _ ⟨c,by rw[pF];simp⟩
    ·exact h3 x hx
  ·obtain⟨cl,e,h1,h2,h3⟩:=A5 hf r acc hr hacc;refine⟨cl,?_,h1,h2,λx hx=>?_⟩
   ·rw[zb,hf,a7 hk];exact e
   ·rcases bZ.mp hx with e|hx
    ·cases e;exact absurd rfl hk
    ·exact h3 x hx
theorem Sx{sc:fh}{env:Env}(h:∀y∈sc.names,y.2=.free->∃c,env.cells.lookup y.1=ac c) :
 ∃cl,closureFor sc env=pure cl/\(∀x c,cl.lookup x=ac c->env.cells.lookup x=ac c)/\∀x,(x,ng)∈sc.names->∃c,cl.lookup x=ac c:=by
 obtain⟨cl,e,h1,_,h3⟩:=A5 (env:=env) (f:=λx r=>match x with|(name,kind)=>if(kind==ng)=true then(cellOf env name >>= λa=>pure (m9 ((name,a)::r)))else pure (m9 r))
  (λn k r=>rfl) sc.names [] h (λ_ _ h=>by simp at h)
 refine⟨cl,?_,h1,h3⟩;unfold closureFor;refine Eq.trans ?_ e;exact bind_pure _
def pick(ρ:List (Option Nat))(σ:St):St:=ρ.map λo=>o.bind λj=>(σ[j]?).join
def gY(X:Cx)(N':List Str)(sc:fh)(cl:List (Str×ai))(C:ai)(s:az)(H:Hp)(fp:List ai):Cx:={ X with N:=N',s₀:=s,H₀:=H,env:=compEnvC sc cl C X.env,outer:=X.stack,ex:=fp,fn:=λ_=>false,xe:=λ_ _=>False }
structure eI(X:Cx)(N':List Str)(ρ:List (Option Nat))(sc:fh):Prop where
 kind:sc.kind=.function
 wC:∀y∈sc.names,y.2≠.cell
 names:∀y∈sc.names,y.2=.local->sc.names.lookup y.1=ac .local
 free:∀y∈sc.names,y.2=.free->(X.env.kindOf y.1=ac .cell\/X.env.kindOf y.1=ac .free)
 len:ρ.length=N'.length
 ix:∀(i j:Nat),ρ[i]? = ac (ac j)->∃x,N'[i]? = ac x/\X.N[j]? = ac x/\sc.names.lookup x=ac .free
def uP(X:Cx)(ifs:List bj)(t:TT):Prop:=
 ∀(ah:List (ai×Obj)) (s:az) (σ:St) (H:Hp) (Q:Bool->Hp->Prop),Inv X ah σ H s->t σ H Q ->
  wpAny (model X.prog X.w) X.A (forIn ifs true λc r=>if r=true then do let ok <- isTrue c X.env (eval c X.env);pure (m9 ok)else pure (m9 r)) (TP X ah σ Q) X.xe s
def Gh:TT:=λ_ H Q=>Q true H
theorem lE{X:Cx}:uP X [] Gh:=λ_ _ _ H _ I h=>wpAny_tests_nil ⟨H,I,h⟩
theorem jd{X:Cx}{c:bj}{t:TT}(h:PT X c t):uP X [c] t:=λah s σ H Q I hw=>wpAny_tests_one (h ah s σ H Q I hw)
def vV(ρ:List (Option Nat))(g:TG):Prop:=∀v σ H Q,g v σ H Q->g v σ H λσ2 H2=>(σ2.length = σ.length/\∀(i j:Nat),ρ[i]? = ac (ac j)->σ2[i]? = σ[i]?)/\Q σ2 H2
def xH(ρ:List (Option Nat))(g:kK):Prop:=∀v σ H Q,g v σ H Q->g v σ H λσ2 H2=>(σ2.length = σ.length/\∀(i j:Nat),ρ[i]? = ac (ac j)->σ2[i]? = σ[i]?)/\Q σ2 H2
theorem gA{ρ:List (Option Nat)}{i:Nat}(h:ρ[i]? = ac af):vV ρ (i3 i):=λv σ H Q q=>by
 refine⟨⟨kh,λk j e=>?_⟩,q⟩;have:i≠k:=by intro z;subst z;rw[h]at e;cases e
 rw[fF this]
theorem ui{ρ:List (Option Nat)}:xH ρ vN:=λv σ H Q ⟨e,q⟩=>⟨e,⟨rfl,λ_ _ _=>rfl⟩,q⟩
theorem mH{ρ:List (Option Nat)}{i:Nat}{u:kK}(h:ρ[i]? = ac af)(hu:xH ρ u)(mu:∀v σ H Q Q',(∀a b,Q a b->Q' a b)->u v σ H Q->u v σ H Q'):xH ρ (vK (i3 i) u):=λvs σ H Q ⟨v,r,e,q⟩=>by
 refine⟨v,r,e,?_⟩;refine mu _ _ _ _ _ (λa b ⟨⟨l,k⟩,z⟩=>⟨⟨l.trans kh,λi' j' e'=>(k i' j' e').trans ?_⟩,z⟩) (hu _ _ _ _ q);have:i≠i':=by intro z;subst z;rw[h]at e';cases e'
 rw[fF this]
theorem mR:∀v σ H Q Q',(∀a b,Q a b->Q' a b)->vN v σ H Q->vN v σ H Q':=λ_ _ _ _ _ m ⟨e,q⟩=>⟨e,m _ _ q⟩
theorem vz{i:Nat}{u:kK}(mu:∀v σ H Q Q',(∀a b,Q a b->Q' a b)->u v σ H Q->u v σ H Q'):∀v σ H Q Q',(∀a b,Q a b->Q' a b)->vK (i3 i) u v σ H Q->vK (i3 i) u v σ H Q':=λ_ _ _ _ _ m ⟨v,r,e,q⟩=>⟨v,r,e,mu _ _ _ _ _ m q⟩
theorem uK{ρ:List (Option Nat)}{K:aO}{n:Nat}{u:kK}(hu:xH ρ u):vV ρ (CM K n u):=λv σ H Q ⟨a,xs,e,hq,hl,q⟩=>⟨a,xs,e,hq,hl,hu _ _ _ _ q⟩
def Q1(J:It)(ρ:List (Option Nat))(g:TG)(tc:TT)(te:TE)(σ:St)(H1:Hp)(Q:VK):Prop:=∃W:Nat->Nat->List V->Hp->Prop,(∃m,W 0 m [] H1)/\∀i m acc H,W i m acc H ->
 (J.stop i H/\∀p,H p=af->Q (.ref p) (upd H p (.lst acc))) \/
 (J.go i H/\acc.length<sizeLine/\∃N:List V->Hp->Prop,(∀acc' H',N acc' H'->∃m',m'<m/\W (i+1) m' acc' H') /\
  ∀x H',J.yld i H x H'->g x (pick ρ σ) H' λσ2 H2=>tc σ2 H2 λb H3=>if b=true then te σ2 H3 λy H4=>N (acc++[y]) H4 else N acc H3)
def yR(wi:TI)(ρ:List (Option Nat))(g:TG)(tc:TT)(te:TE):TE:=λσ H Q=>wi σ H λJ H1=>Q1 J ρ g tc te σ H1 Q
section
variable{X:Cx}{elt tg iter:bj}{ifs:List bj}{sc:fh}{pos cpos:Pos}{N':List Str}{ρ:List (Option Nat)}{wi:TI}{g:TG}{tc:TT}{te:TE}
theorem Iz(hcalm:X.calm=true)(S:eI X N' ρ sc)(hi:PI X tg iter wi)
 (hg:∀cl C s H fp,PG (gY X N' sc cl C s H fp) tg g) (gk:vV ρ g) (hc:∀cl C s H fp,uP (gY X N' sc cl C s H fp) ifs tc) (he:∀cl C s H fp,PE (gY X N' sc cl C s H fp) elt te)
 (hs:∀x,foldedSetIterable iter X.env x=pure x)
 (use:Option (aj->Sem Unit)) {R:aj->az->Prop} {ah:List (ai×Obj)} {s:az} {σ:St} {H:Hp} {Q:VK} (I:Inv X ah σ H s) (h:yR wi ρ g tc te σ H Q)
 (hR:∀s' D C H',Inv X ah σ H' s'->Q (.ref D) H'->(∃m,s'.heap.Ns C m)->gQ X ah H' C->compPost (model X.prog X.w) X.A X.xe use R (.ref D) C (.ok .next) s') :
 wpAny (model X.prog X.w) X.A (comprehension (.ListComp elt [⟨tg,iter,ifs,0⟩] sc pos) sc X.env cpos (newList []) false (eval iter X.env) use) R X.xe s:=by
 obtain⟨cl,hcl,hsub,hall⟩:=Sx (sc:=sc) (env:=X.env) λy hy hf=>I.ok.has y.1 (S.free y hy hf);refine wpAny_comprehension_free rfl hs hcl S.kind S.names (bn (hi ah s σ H _ I h) λv s1 h1=>bn h1 λitv s2 h2=>?_);obtain⟨it,fp,tn,J,H2,e,I2,T,st2,f2,W,⟨m0,w0⟩,turn⟩:=h2;subst e;refine Du (items:=[]) ?_;refine wpAny_newFunctionEnv S.wC (by intro y hy;simp at hy) (λh₁ hns hsb=>?_) S.kind;dsimp only at hns hsb ⊢;generalize hH2:s2.heap.push { cls:=.type "list", data:=.seq ([]:List aj).toArray }=Hh at hns hsb ⊢;have hCs:Hh.objs.size=s2.heap.objs.size+1:=by rw[<- hH2,zl]
 generalize hD:s2.heap.objs.size=D at *;generalize hCC:Hh.objs.size=C at *;have hDC:D≠C:=by omega
 have ltC:∀b:Nat,b<s2.heap.objs.size->b≠C/\b≠D/\b<D:=λb h=>by omega
 have ltD:∀b:Nat,b<D->b≠C/\b≠D:=λb h=>by omega
 have old:∀b o,s2.heap.get? b=ac o->h₁.get? b=ac o:=λb o e=>hsb.extBut b o (ltC b (cY e)).1 (dI _ (by rw[<- hH2];exact dI _ e));have newD:h₁.get? D=ac { cls:=.type "list", data:=.seq ([]:List aj).toArray }:=hsb.extBut _ _ hDC (dI _ (by rw[<- hH2,<- hD];exact ge _ rfl));have ltb:∀b∈fp,b<D:=λb hb=>by
  obtain⟨o,e,_⟩:=T.obj _ _ st2 b hb;exact(ltC b (cY e)).2.2
 have fD:gQ X ah H2 D:=I2.jP (by omega) (I2.hok.fresh (by omega));have fC:gQ X ah H2 C:=I2.jP (by omega) (I2.hok.fresh (by omega));have nst:∀b,b≠X.env.locals->b∉X.fs->b∉frs X.stack:=λb h1 h2 hb=>by
  rcases bZ.mp (I2.yG b hb)with e|e
  ·exact h1 e
  ·exact h2 e
 have ok':(gY X N' sc cl C s2 H2 fp).Ok:=by
  refine⟨I2.ok.mod,S.kind,I2.ok.glob,I2.ok.blt,(by show s2.heap.objs.size<=C;omega),λx y c e1 e2=>I2.ok.inj x y c (hsub _ _ e1) (hsub _ _ e2),λx hx=>?_,λx c z=>(by cases z),I2.ok.hd,I2.ok.frames,.inl rfl,
   λb hb=>⟨(ltD b (ltb b hb)).1,λx c e=>(f2 b hb).2.2.2.2.1 x c (hsub _ _ e)⟩,I2.bs,(by show X.base.objs.size<=s2.heap.objs.size;exact c7 I2.ok.bsz I2.sz),λb o e hb=>?_,λb hb=>nst b (f2 b hb).2.1 (f2 b hb).2.2.1,I2.stack,I2.vq⟩
  ·have hx':∃k',sc.names.lookup x=ac k'/\(k'=.cell\/k'=.free):=by
    rcases hx with hx|hx
    ·obtain⟨k',e1,e2⟩:=yo (env:=X.env) (names:=sc.names) hx;rcases e2 with e2|⟨e2,_⟩
     ·exact⟨k',e1,.inl e2.symm⟩
     ·exact⟨k',e1,.inr e2⟩
    ·obtain⟨k',e1,e2⟩:=yo (env:=X.env) (names:=sc.names) hx;rcases e2 with e2|⟨e2,_⟩
     ·exact⟨k',e1,.inr e2.symm⟩
     ·exact⟨k',e1,.inr e2⟩
   obtain⟨k',e1,e2⟩:=hx';have hm:=lookup_mem e1;rcases e2 with e2|e2
   ·exact absurd e2 (S.wC _ hm)
   ·subst e2;exact hall x hm
  ·rcases(f2 b hb).2.2.2.1 with z|z
   ·exact I2.ok.rh b o e z
   ·exact absurd (iN (cY e) (c7 I2.ok.bsz z)) (m6 _)
 have Mk:∀p∈X.pn++ah,p.1<D:=λp hp=>(ltC p.1 (cY (I2.pin p hp).1)).2.2;have Vh:∀x c,cl.lookup x=ac c->c<D:=λx c e=>by
  obtain⟨v,q⟩:=I2.cell x c (hsub _ _ e);exact(ltC c q.lt).2.2
 have I':∀tk,Inv (gY X N' sc cl C s2 H2 fp) (ah++[(D,{ cls:=.type "list", data:=.seq ([]:List aj).toArray })]) (pick ρ σ) H2 { s2 with heap:=h₁,toks:=tk }:=λtk=>by
  refine⟨ok',rfl,I2.bare,Un.kept old,⟨_,hns,λi x v e1 e2 e3=>?_⟩,λx c e=>?_,fC.1,λx c e=>I2.i9 x c (hsub _ _ e),λp hp=>?_,I2.hok.kept old,?_⟩
  ·have e2':∃j,ρ[i]? = ac (ac j)/\σ[j]? = ac (ac v):=by
    unfold pick at e2;rw[gc]at e2;cases hr:ρ[i]? with
    |none=>rw[hr]at e2;cases e2
    |some o=>
     rw[hr]at e2;cases o with
     |none=>cases e2
     |some j=>
      refine⟨j,rfl,?_⟩;have e2:(σ[j]?).join=ac v:=jQ e2;cases hq:σ[j]? with
      |none=>rw[hq]at e2;cases e2
      | some o' => rw [hq] at e2; have e2 : o' = ac v := e2
                   rw[e2]
   obtain⟨j,hj,hv⟩:=e2';obtain⟨y,ey,eN,ef⟩:=S.ix i j hj;have e1':N'[i]? = ac x:=e1;rw[ey]at e1';cases e1';obtain⟨m,hn,hl⟩:=I2.loc;have hm:=lookup_mem ef;have kX:=S.free _ hm rfl;obtain⟨u,ru,lk⟩:=hl j x v eN hv (by rcases kX with k|k;exact .inr (.inl k);exact .inr (.inr k));refine⟨u,ru,.inr ⟨?_,?_⟩⟩
   ·show(relabel sc X.env).names.lookup x=ac .cell\/(relabel sc X.env).names.lookup x=ac .free;rcases e3 with e3|e3|e3
    ·obtain⟨k',q1,q2⟩:=yo (env:=X.env) (names:=sc.names) e3;rw[ef]at q1;cases q1;rcases q2 with q2|⟨_,q2⟩<;>cases q2
    ·exact .inl e3
    ·exact .inr e3
   ·obtain⟨c,hc'⟩:=hall x hm;refine⟨c,hc',?_⟩;rcases lk with ⟨k,_⟩|⟨_,c',ec,z⟩
    ·rcases kX with k'|k'<;>(rw[k]at k';cases k')
    ·rw[hsub _ _ hc']at ec;cases ec;obtain⟨o,ho,hd⟩:=z;exact⟨o,old _ _ ho,hd⟩
  ·obtain⟨v,o,ho,hd⟩:=I2.cell x c (hsub _ _ e);exact⟨v,o,old _ _ ho,hd⟩
  ·have hp':p∈X.pn++ah\/p=(D,{ cls:=.type "list", data:=.seq ([]:List aj).toArray }):=by
    rcases fG.mp hp with z|z
    ·exact .inl (jv _ z)
    ·rcases fG.mp z with z|z
     ·exact .inl (gv _ z)
     ·exact .inr (by simpa using z)
   rcases hp' with z|z
   ·obtain⟨q1,q2,q3,q4,q5⟩:=I2.pin p z;exact⟨old _ _ q1,q2,(ltD p.1 (Mk p z)).1,nst _ q3 q4,q5⟩
   ·subst z;exact⟨newD,fD.1,hDC,nst _ fD.2.1 fD.2.2.1,λv z=>by cases z⟩
  ·show(pick ρ σ).length=N'.length;unfold pick;rw[aP];exact S.len
 have stat:∀{H':Hp} {o:Obj},(∀b∈fp,H' b=af)->∀b∈fp,gQ (gY X N' sc cl C s2 H2 fp) (ah++[(D,o)]) H' b:=λ{H' o} hn b hb=>by
  refine⟨hn b hb,(ltD b (ltb b hb)).1,nst b (f2 b hb).2.1 (f2 b hb).2.2.1,.inl hb,λx c e=>(f2 b hb).2.2.2.2.1 x c (hsub _ _ e),λp hp=>?_⟩;rcases fG.mp hp with z|z
  ·exact(f2 b hb).2.2.2.2.2 p (jv _ z)
  ·rcases fG.mp z with z|z
   ·exact(f2 b hb).2.2.2.2.2 p (gv _ z)
   ·have e:p=(D,o):=by simpa using z
    subst e;exact dW (ltD b (ltb b hb)).2
 have loop:∀tk,codeAny (model X.prog X.w) X.A (.compLoop (.ListComp elt [⟨tg,iter,ifs,0⟩] sc pos) 0 (.ref it) (.ref D) (compEnvC sc cl C X.env)) (compPost (model X.prog X.w) X.A X.xe use R (.ref D) C) { s2 with heap:=h₁,toks:=tk }:=λtk=>by
  refine TQ (λn s'=>∃(i:Nat) (acc:List V) (ax:List aj) (k:Nat) (H':Hp),Inv (gY X N' sc cl C s2 H2 fp) (ah++[(D,{ cls:=.type "list", data:=.seq ax.toArray k })]) (pick ρ σ) H' s'/\Vals acc ax/\acc.length<=sizeLine/\tn i s'.heap/\(∀b∈fp,H' b=af)/\W i n acc H')
   ?_ m0 ⟨0,[],[],0,H2,I' tk,.nil,iC _,T.keep _ _ _ st2 λb hb o e=>old b o e,λb hb=>(f2 b hb).1,w0⟩
  rintro n s3 ⟨i,acc,ax,k,H3,I3,va,hz0,st3,fr3,w3⟩;rcases turn i n acc H3 w3 with ⟨stop,qn⟩|⟨go,hz,Nn,hN,step⟩
  ·refine bn (T.done (gY X N' sc cl C s2 H2 fp) rfl rfl rfl hcalm i _ s3 _ H3 (λ_ _=>False) I3 (stat fr3) st3 stop) λr s4 ⟨hr,I4⟩=>?_;subst hr;obtain⟨p1,p2,p3,p4,p5⟩:=I4.pin (D,{ cls:=.type "list",data:=.seq ax.toArray k }) (by simp);have p1:s4.heap.get? D=ac { cls:=.type "list", data:=.seq ax.toArray k }:=p1;have p2:H3 D=af:=p2;have B:=I4.base;have upn:∀b o,H3 b=ac o->upd H3 D (.lst acc) b=ac o:=λb o e=>by rw[aX (dX e p2)];exact e
   have IX:Inv X ah σ (upd H3 D (.lst acc)) s4:=by
    refine I2.call' (ch:=fp) I4.os ⟨λb o q1 q2 q3 q4=>B.keep b o q1 q2 q3 q4,λb o q1 q2 q3 q4=>B.slot b o q1 q2 q3 q4,λb o q1 q2 q3=>?_,λb o q1 q2=>B.there b o q1 q2,
     λb xs q=>upn _ _ (B.tups b xs q),λb o u q=>upn _ _ (B.ku b o u q),λb w ps q=>?_⟩ (I4.hok.track p2 ⟨hz0,ax,k,va,p1⟩) I4.bare λb hb=>⟨(f2 b hb).2.2.2.1,(f2 b hb).2.1,(f2 b hb).2.2.2.2.1,(f2 b hb).2.2.2.2.2⟩
    ·rw[aX (ltC b (cY q1)).2.1];exact B.free b o q1 q2 q3
    ·obtain⟨more,q'⟩:=B.kw b w ps q;exact⟨more,upn _ _ q'⟩
   obtain⟨m,hm,_⟩:=I4.loc;refine hR s4 D C _ IX (qn D p2) ⟨m,hm⟩ (I2.jP (by omega) ?_);rw[aX (dW hDC)];exact I4.free
  ·refine bn (T.item (gY X N' sc cl C s2 H2 fp) rfl rfl rfl hcalm i _ s3 _ H3 (λ_ _=>False) I3 (stat fr3) st3 go) λr s4 ⟨u,hr,h4⟩=>?_;subst hr;refine bn h4 λ_ s5 ⟨x,H5,I5,r5,y5,st5,fr5⟩=>?_;have I5':=I5.pinned (stat fr5) (T.obj _ _ st5);refine bn (hg cl C s2 H2 fp _ s5 _ H5 x u _ I5' r5 (gk _ _ _ _ (step x H5 y5))) λ_ s6 ⟨σ6,H6,I6,⟨l6,k6⟩,q6⟩=>?_;refine bn (hc cl C s2 H2 fp _ s6 σ6 H6 _ I6 q6) λok s7 ⟨H7,I7,q7⟩=>?_;have wk:∀{tW:List (ai×Obj)} {H':Hp} {s':az},Inv (gY X N' sc cl C s2 H2 fp) tW σ6 H' s'->Inv (gY X N' sc cl C s2 H2 fp) tW (pick ρ σ) H' s':=λ{tW H' s'} J'=>
    J'.weak l6.symm λj v e=>by
     have:∃j',ρ[j]? = ac (ac j'):=by
      unfold pick at e;rw[gc]at e;cases hr:ρ[j]? with
      |none=>rw[hr]at e;cases e
      |some o=>
       rw[hr]at e;cases o with
       |none=>cases e
       |some j'=>exact⟨j',rfl⟩
     obtain⟨j',hj'⟩:=this;rw[k6 j j' hj'];exact e
   cases ok with
   |false=>
    have q7:Nn acc H7:=by simpa using q7
    rw[a7 dJ];obtain⟨m',hm,w7⟩:=hN acc H7 q7;refine⟨m',hm,i+1,acc,ax,k,H7,wk I7.rM,va,hz0,T.keep _ _ _ st5 λb hb o e=>(I7.pin (b,o) (gv _ (gv _ (rP hb e)))).1,λb hb=>?_,w7⟩;obtain⟨o,e,d⟩:=T.obj _ _ st5 b hb;exact(I7.pin (b,o) (gv _ (gv _ (rP hb e)))).2.1
   |true=>
    have q7:te σ6 H7 λy H4=>Nn (acc++[y]) H4:=by simpa using q7
    rw[a8 rfl];refine bn (he cl C s2 H2 fp _ s7 σ6 H7 _ I7 q7) λxv s8 ⟨y,H8,I8,r8,n8⟩=>?_;obtain⟨p1,p2,p3,p4,p5⟩:=I8.pin (D,{ cls:=.type "list",data:=.seq ax.toArray k }) (by simp);have p1:s8.heap.get? D=ac { cls:=.type "list",data:=.seq ax.toArray k }:=p1;have p2:H8 D=af:=p2;refine wpAny_list_append_plain ⟨k,p1⟩ (λh' pl sb=>?_) (by rw[dg,<- va.length];omega);obtain⟨k',pl⟩:=pl;obtain⟨m',hm,w8⟩:=hN _ _ n8;have Ia:Inv (gY X N' sc cl C s2 H2 fp) ah σ6 H8 s8:=I8.rM.rM;have Ib:Inv (gY X N' sc cl C s2 H2 fp) ah σ6 H8 { s8 with heap:=h' }:=Ia.turned (t':=s8.toks) (it:=D) (λb o hb e=>(sb.2 b hb).trans e) p2 hDC (.inr (by show s2.heap.objs.size<=D;omega)) (λx c e=>(ltD c (Vh x c e)).2) λp hp=>(ltD p.1 (Mk p hp)).2;have pl':h'.get? D=ac { cls:=.type "list", data:=.seq (ax++[xv]).toArray k' }:=by rw[pl];simp
    have Ic:Inv (gY X N' sc cl C s2 H2 fp) (ah++[(D,{ cls:=.type "list", data:=.seq (ax++[xv]).toArray k' })]) σ6 H8 { s8 with heap:=h' }:=Ib.Cc λp hp=>by
     rcases fG.mp hp with z|z
     ·exact Ib.pin p (gv _ z)
     ·have e:p=(D,{ cls:=.type "list", data:=.seq (ax++[xv]).toArray k' }):=by simpa using z
      subst e;exact⟨pl',p2,p3,p4,λv z=>by cases z⟩
    refine⟨m',hm,i+1,acc++[y],ax++[xv],k',H8,wk Ic,va.append (.cons r8 .nil),(by rw[dz,y4];omega),T.keep _ _ _ st5 λb hb o e=>?_,λb hb=>?_,w8⟩
    ·exact(sb.2 b (ltD b (ltb b hb)).2).trans (I8.pin (b,o) (gv _ (gv _ (rP hb e)))).1
    ·obtain⟨o,e,d⟩:=T.obj _ _ st5 b hb;exact(I8.pin (b,o) (gv _ (gv _ (rP hb e)))).2.1
 refine codeAny_compStart_list (loop _) (T.self X.A 0 _ _ _ (T.keep _ _ _ st2 λb hb o e=>old b o e) (loop _))
theorem gC(hcalm:X.calm=true)(S:eI X N' ρ sc)(hi:PI X tg iter wi)
 (hg:∀cl C s H fp,PG (gY X N' sc cl C s H fp) tg g) (gk:vV ρ g) (hc:∀cl C s H fp,uP (gY X N' sc cl C s H fp) ifs tc) (he:∀cl C s H fp,PE (gY X N' sc cl C s H fp) elt te)
 (hs:∀x,foldedSetIterable iter X.env x=pure x:=by intro _;rfl) :
 PE X (.ListComp elt [⟨tg,iter,ifs,0⟩] sc pos) (yR wi ρ g tc te):=by
 intro ah s σ H Q I h;rw[eval_ListComp];refine Iz hcalm S hi hg gk hc he hs af I h λs' D C H' I' q ⟨m,hm⟩ f=>⟨m,hm,λh' sb=>?_⟩;exact⟨.ref D,H',I'.turned (t':=s'.toks) (it:=C) (λb o hb e=>(sb.2 b hb).trans e) f.1 f.2.1 f.2.2.2.1 f.2.2.2.2.1 f.2.2.2.2.2,rfl,q⟩
theorem u7{i:Nat}{x:Str}{px:Pos}(hcalm:X.calm=true)(hN:X.N.Nodup)(hix:X.N[i]? = ac x)(hx:Loc X.env.scope x)(S:eI X N' ρ sc)(hi:PI X tg iter wi)
 (hg:∀cl C s H fp,PG (gY X N' sc cl C s H fp) tg g) (gk:vV ρ g) (hc:∀cl C s H fp,uP (gY X N' sc cl C s H fp) ifs tc) (he:∀cl C s H fp,PE (gY X N' sc cl C s H fp) elt te)
 (hsw:swapsWith (.ListComp elt [⟨tg,iter,ifs,0⟩] sc pos) (ac (.Name x px)) cpos.line X.env=pure true:=by rfl)
 (hs:∀x,foldedSetIterable iter X.env x=pure x:=by intro _;rfl)
 (hf:X.fn x=true\/X.env.scope.names.lookup x=ac .local:=by first|exact .inl rfl|exact .inr rfl|assumption) :
 PS X (.Assign [.Name x px] (.ListComp elt [⟨tg,iter,ifs,0⟩] sc pos) cpos) (l5 (yR wi ρ g tc te) (i3 i)):=by
 intro ah s σ H D I h;rw[exec_Assign_Name_used _ _ _ _ hsw];refine aV (zj (aV ?_));show wpAny _ X.A (do let _ <- comprehension (.ListComp elt [⟨tg,iter,ifs,0⟩] sc pos) sc X.env _ (newList []) false (eval iter X.env) (ac (assign (.Name x px) X.env))) _ _ s;refine aV (bn (Iz (Q:=λy H1=>D.nx (σ.set i (ac y)) H1) (R:=λ_ s'=>SP X ah D .next s') hcalm S hi hg gk hc he hs (ac (assign (.Name x px) X.env)) I h λs' Da C H' I' q ⟨m,hm⟩ f=>?_) λ_ s' hq=>cE (cE hq));show wpAny _ X.A (assign (.Name x px) X.env (.ref Da)) _ _ _;refine wpAny_assign_Name (Kv I' hN hix hx (v:=.ref Da) rfl (λs2 I2 ⟨a,sb,ha⟩=>⟨m,hm.sameBut sb ?_,λh' sb2=>?_⟩) hf)
 ·rcases ha with e|e
  ·subst e;exact f.2.1
  ·exactλz=>f.2.2.2.2.1 x a e z.symm
 ·exact⟨_,H',I2.turned (t':=s2.toks) (it:=C) (λb o hb e=>(sb2.2 b hb).trans e) f.1 f.2.1 f.2.2.2.1 f.2.2.2.2.1 f.2.2.2.2.2,q⟩
end
structure It.Of(J:It)(Ok:Hp->Prop)(xs:List V):Prop where
 go:∀i H,Ok H->i<xs.length->J.go i H
 yld:∀i H x H',Ok H->i<xs.length->J.yld i H x H'->H'=H/\xs[i]? = ac x
 stop:∀H,Ok H->J.stop xs.length H
theorem EM{K:aO}{a:ai}{xs:List V}:(vI K a).Of (λH=>fW K H a xs) xs:=⟨λi H h hi=>⟨xs,xs[i],h,by simp[hi]⟩,λi H x H' h _ y=>⟨y.1,y.2 xs h⟩,λH h=>⟨xs,h,bU _⟩⟩
theorem Ke{K:aO}{a:ai}{xs:List V}:(vR K a).Of (λH=>gu K H a xs) xs:=⟨λi H h hi=>⟨xs,xs[i],h,by simp[hi]⟩,λi H x H' h _ y=>⟨y.1,y.2 xs h⟩,λH h=>⟨xs,h,bU _⟩⟩
def pY(lo:Int)(n:Nat):List V:=(bP n).map λi=>V.int (lo+(i:Nat))
theorem BL(lo:Int)(n:Nat):(pY lo n).length=n:=by simp[pY]
theorem QD{lo:Int}{n i:Nat}(h:i<n):(pY lo n)[i]? = ac (.int (lo+i)):=by simp[pY,h]
theorem QV{lo:Int}{n:Nat}:(oA lo n).Of (λ_=>True) (pY lo n):=⟨λi H _ hi=>by rw[BL]at hi;exact hi,λi H x H' _ hi y=>⟨y.1,by rw[BL]at hi;rw[y.2];exact QD hi⟩,λH _=>by rw[BL];exact bU _⟩
def sgn(c:Nat):V:=.str ⟨#[c]⟩
def qa(x:Str):List V:=x.cps.toList.map sgn
theorem Jh(x:Str):(qa x).length=x.length:=by simp[qa,q9]
def pQ(x:Str):It:=⟨λi _=>i<x.length,λi H y H'=>H'=H/\(qa x)[i]? = ac y,λi _=>i=x.length⟩
theorem Hu{x:Str}:(pQ x).Of (λ_=>True) (qa x):=⟨λi H _ hi=>by rw[Jh]at hi;exact hi,λi H y H' _ _ h=>h,λH _=>Jh x⟩
theorem FQ{P:bH}{w:bt}{K:aO}{tg:bj}(it:ai)(x:Str)(t:Tok)(ty:String)
 (hty:["enumerate","zip","dict_itemiterator","dict_reverseitemiterator","odict_iterator","itertools.zip_longest","itertools.pairwise"].contains ty=false)
 (W:∀A':bT,A'.handled=af->Walks P w A' it [it] [it] x.cps.size (SignAt x) (λi h=>h.IsStrIter it ty x t i))
 (sf:∀(A:bT) (i:Nat) (s:az) (Q:aj->az->Prop) (E:aj->az->Prop),s.heap.IsStrIter it ty x t i->Q (.ref it) s->wpAny (model P w) A (pyIter (.ref it)) Q E s) :
 Turn P w K tg (pQ x) [it] it (λi h=>h.IsStrIter it ty x t i) where
 mem:=by simp
 obj:=λi h st b hb=>by
  have e:b=it:=by simpa using hb
  subst e;obtain⟨o,e,c,d⟩:=st;exact⟨o,e,λv z=>by rw[d]at z;cases z⟩
 keep:=λi h h' st k=>let ⟨o,ho,r⟩:=st;⟨o,k it (by simp) o ho,r⟩
 item:=by intro X hP hw hK hc i ah s σ H E I hf st hg;subst hP hw hK;obtain⟨f0,f1,f2,f3,f4,f5⟩:=hf it (by simp);refine(W X.A (I.ok.hd hc)).item i s _ _ hg st λv h' tk hv st' kk=>?_;obtain⟨c,u,e,rfl⟩:=hv;have I1:Inv X ah σ H { s with heap:=h',toks:=tk }:=I.turned (λb o hb e=>kk b o (by simpa using hb) e) f0 f1 f3 f4 f5;obtain⟨o,e',c',d'⟩:=id st';refine⟨_,rfl,wI (s:={ s with heap:=h',toks:=tk }) e' c' d' hty ⟨sgn c,H,I1,⟨u,rfl⟩,⟨rfl,?_⟩,st',λb hb=>(hf b hb).1⟩⟩;unfold qa;rw[gc,DG,e];rfl
 done:=by intro X hP hw hK hc i ah s σ H E I hf st hg;subst hP hw hK;obtain⟨f0,f1,f2,f3,f4,f5⟩:=hf it (by simp);have hg:i=x.length:=hg;subst hg;exact(W X.A (I.ok.hd hc)).done s _ _ st λh' tk kk=>⟨rfl,I.turned (λb o hb e=>kk b o (by simpa using hb) e) f0 f1 f3 f4 f5⟩
 self:=sf
section
variable{X:Cx}{tg:bj}
def Ij(tl:TE):TI:=λσ H R=>tl σ H λx H1=>∃z,x=.str z/\R (pQ z) H1
theorem Tn{l:bj}{tl:TE}(hl:PE X l tl):PI X tg l (Ij tl):=by
 intro ah s σ H R I h;refine bn (hl ah s σ H _ I h) λv s1 ⟨x,H1,I1,r1,q1⟩=>?_;obtain⟨z,e,q⟩:=q1;subst e;obtain⟨t,rfl⟩:=r1;cases ha:z.cps.all (· < 128)
 ·refine wpAny_pyIter_wide ha ?_;refine⟨s1.heap.objs.size,[s1.heap.objs.size],_,pQ z,H1,rfl,I1.kept (t':=s1.toks) λb o e=>dI _ e,FQ _ z t "str_iterator" (by decide) (λA' hA=>Walks.strWide hA _ z t) (λ_ _ _ _ _ st hQ=>wpAny_pyIter_striter_wide st hQ),⟨_,ge _ rfl,rfl,rfl⟩,λb hb=>?_,q⟩;have e:b=s1.heap.objs.size:=by simpa using hb
  subst e;exact I1.jP (bU _) (I1.hok.fresh (bU _))
 ·refine wpAny_pyIter_ascii ha ?_;refine⟨s1.heap.objs.size,[s1.heap.objs.size],_,pQ z,H1,rfl,I1.kept (t':=s1.toks) λb o e=>dI _ e,FQ _ z t "str_ascii_iterator" (by decide) (λA' hA=>Walks.strAscii hA _ z t) (λ_ _ _ _ _ st hQ=>wpAny_pyIter_striter_ascii st hQ),⟨_,ge _ rfl,rfl,rfl⟩,λb hb=>?_,q⟩;have e:b=s1.heap.objs.size:=by simpa using hb
  subst e;exact I1.jP (bU _) (I1.hok.fresh (bU _))
theorem Qa:dO X (compareOp .Gt) (λx y H Q=>∃i j,x=.str i/\y=.str j/\Q (.bl (decide (j.cps.toList<i.cps.toList))) H):=by intro ah s σ H x y v u Q I rx ry h;obtain⟨i,j,rfl,rfl,q⟩:=h;obtain⟨t,rfl⟩:=rx;obtain⟨t',rfl⟩:=ry;exact PySem.P.gt_str (sC I q rfl)
def sU(x:Str)(lo hi:Option Int):Str:=⟨((x.cps.toList.drop (HT.eo x.length 0 lo)).take (HT.eo x.length x.length hi-HT.eo x.length 0 lo)).toArray⟩
theorem O6(lo hi:Option Int)(n:Nat):L9 lo hi 1 n=(bP (HT.eo n n hi-HT.eo n 0 lo)).map (λk=>HT.eo n 0 lo+k):=by
 have h1:∀(v:Option Int) (d:Nat),d<=n->(match v with|none=>(d:Int)|some i=>max 0 (min (if i<0 then i+(n:Int)else i) (n:Int)))=((HT.eo n d v:Nat):Int):=by
  intro v d hd;cases v with
  |none=>rfl
  |some i=>
   show max 0 (min (if i<0 then i+(n:Int)else i) (n:Int))=(((if i<0 then(i+(n:Int)).toNat else min i.toNat n):Nat):Int);by_cases hv:i<0
   ·simp only[a8 hv];omega
   ·simp only[a7 hv];omega
 have fin:∀(p q:Int) (a b:Nat),p=(a:Int)->q=(b:Int)->sliceRange p q 1=(bP (b-a)).map (λk=>a+k):=by
  intro p q a b e1 e2;subst e1 e2;unfold sliceRange;simp only[show((1:Int)>0)=True from by simp,jX];by_cases hlt:(a:Int)<b
  ·have e3:(((b:Int)-a+1-1)/1).toNat=b-a:=by first|omega|(simp;done)|(simp;omega)
   simp only[hlt,jX,e3];refine v3 λk _=>?_;omega
  ·have:b-a=0:=by omega
   simp[hlt,this]
 unfold L9;refine fin _ _ _ _ ?_ ?_
 ·have:=h1 lo 0 (iC _);cases lo with
  |none=>exact this
  |some i=>exact this
 ·have:=h1 hi n (bU _);cases hi with
  |none=>exact this
  |some i=>exact this
theorem UZ(x:Str)(lo hi:Option Int):Txt.slice x lo hi=sU x lo hi:=by
 have hle:HT.eo x.length x.length hi<=x.length:=HT.G5 _ _ (bU _) hi;have ha:HT.eo x.length 0 lo<=x.length:=HT.G5 _ _ (iC _) lo;unfold Txt.slice sU;rw[O6];generalize HT.eo x.length 0 lo=a at *;generalize HT.eo x.length x.length hi=b at *;have hp:((bP (b-a)).map (λk=>a+k)).filterMap (λi=>x.cps[i]?)=(x.cps.toList.drop a).take (b-a):=by have h:=StrLaws.picks x.cps.toList (b-a) a (by simp[q9]at hle ha ⊢;omega);simpa using h
 split
 ·rename_i h;simp only[aP,v5,j3,Bool.true_and,jF]at h;have e:a=0\/x.length=0:=by omega
  have e2:(x.cps.toList.drop a).take (b-a)=x.cps.toList:=by
   rw[h];rcases e with e|e
   ·subst e;rw[tF];exact qQ (by simp[q9])
   ·have:x.cps.toList=[]:=List.eq_nil_of_length_eq_zero (by simpa [q9]using e);rw[this];simp
  rw[e2]
 ·rw[hp]
def G9:V->Option Int->Option Int->Hp->VK->Prop:=λx lo hi H Q=>∃z,x=.str z/\z.length<=sizeLine/\Q (.str (sU z lo hi)) H
theorem US:lS X G9:=by
 intro ah s σ H x v vl vu lo hi sl Q I rx hs pl pu h;obtain⟨z,rfl,hz,q⟩:=h;obtain⟨t,rfl⟩:=rx;have fin:∀(l u:Option (Int×Tok)),vl=partValue l->vu=partValue u->lo=l.map (·.1)->hi=u.map (·.1) ->
  wpAny (model X.prog X.w) X.A (getItem (.str z t) (.ref sl)) (EP X ah σ Q) X.xe s:=by
  intro l u e1 e2 e3 e4;subst e1 e2 e3 e4;refine wpAny_getItem_str_slice (l:=l) (u:=u) (st:=af) hs rfl ?_;refine post_val_or_str ⟨c7 (Txt.slice_le z _ _) hz,λt' k=>?_⟩;refine⟨.str (sU z _ _),H,I.tok k,⟨t',?_⟩,q⟩;show pL (Txt.slice z _ _) t'=_;rw[UZ]
 refine⟨"str", _,F.slot_str_getitem.lookup,typeIs_str _ _ _,?_⟩;cases pl with
 | none=>cases pu with
  |none=>exact fin af af rfl rfl rfl rfl
  |int j tj=>exact fin af (ac (j,tj)) rfl rfl rfl rfl
 | int i ti=>cases pu with
  |none=>exact fin (ac (i,ti)) af rfl rfl rfl rfl
  |int j tj=>exact fin (ac (i,ti)) (ac (j,tj)) rfl rfl rfl rfl
def Kn(neg:Bool):R2:=λx y H Q=>∃c z,x=sgn c/\y=.str z/\Q (.bl (if neg then !decide (c∈z.cps.toList)else decide (c∈z.cps.toList))) H
theorem RY:dO X (compareOp .In) (Kn false):=by intro ah s σ H x y v u Q I rx ry h;obtain⟨c,z,rfl,rfl,q⟩:=h;refine OE ah s σ H _ _ v u Q I rx ry ⟨_,z,rfl,rfl,?_⟩;rw[StrLaws.found_one];exact q
def Ho(K:aO):List V->Hp->VK->Prop:=λxs H Q=>∃x t T b,xs=[x,.ty T]/\jO K H x t/\og K t (.type T)=ac b/\Q (.bl b) H
theorem qJ:gT X (.builtin "isinstance") (Ho X.K):=by intro ah s σ H xs us Q I r h;obtain⟨x,t,T,b,rfl,ty,e,q⟩:=h;obtain⟨u,w',rfl,rx,rt⟩:=vals2 r;cases(show w'=wq T from rt);exact N2 I rx ty e λtk=>⟨.bl b,H,I.tok tk,rfl,q⟩
end
def ES(osc:fh)(N N':List Str)(ρ:List (Option Nat))(sc:fh):Bool:=
 sc.names.all (λy=>!(decide (y.2=.cell)))&&sc.names.all (λy=>!(decide (y.2=.local))||decide (sc.names.lookup y.1=ac .local)) &&
 sc.names.all (λy=>!(decide (y.2=.free))||(decide (osc.names.lookup y.1=ac .cell)||decide (osc.names.lookup y.1=ac .free))) &&
 decide (ρ.length=N'.length)&&(bP ρ.length).all λi=>match ρ[i]? with
  |some (ac j)=>(match N'[i]? with|some x=>decide (N[j]? = ac x)&&decide (sc.names.lookup x=ac .free)|none=>false)
  |_=>true
theorem eI.of{X:Cx}{N':List Str}{ρ:List (Option Nat)}{sc:fh}(hk:sc.kind=.function)(h:ES X.env.scope X.N N' ρ sc=true):eI X N' ρ sc:=by
 unfold ES at h;simp only[km,y8,zo,wj,jm,sQ]at h;obtain⟨⟨⟨⟨h1,h2⟩,h3⟩,h4⟩,h5⟩:=h;refine⟨hk,λy hy=>h1 y hy,λy hy e=>(h2 y hy).resolve_left (λz=>z e),λy hy e=>(h3 y hy).resolve_left (λz=>z e),h4,λi j e=>?_⟩;have hi:i < ρ.length:=(fe.mp e).1;have q:=h5 i (e5.mpr hi);rw[e]at q;cases hN:N'[i]? with
 |none=>rw[hN]at q;cases q
 |some x=>
  rw[hN]at q;simp only[km,jm]at q;exact⟨x,rfl,q.1,q.2⟩
structure bI(P:bH)(w:bt)(K:aO)(mg:Str->Option aj)(base:aY)(CX:iu)(k:Nat)(x:Str)(ps:List Str)(sp:Sp):Prop where
 ex:∃(f:ai) (fd:bJ),mg x=ac (.ref f)/\oh K (.ref f)=true/\Binds K fd ps []/\bO P w K mg base CX k f fd ps sp
theorem mD{X:Cx}{CX:iu}{k:Nat}{x:Str}{ps:List Str}{sp:Sp}{E:XK}{e:bj}{es:List bj}{t:TA}{p pos:Pos}(C:bI X.prog X.w X.K X.mg X.base CX k x ps sp)(hr:ee k X.A)(hg:Gl X x)(hx:u6 CX X E)
 (ha:PA X (e::es) t) (hdb:(x==("__debug__" : Str))=false:=by decide) (he:starEach (e::es) X.env=(false,eval e X.env)::starEach es X.env:=by rfl) (hpl:(backTo pos (starEach es X.env)).any (·.1)=false:=by rfl) :
 PE X (.Call (.Name x p) (e::es) [] pos) (lm sp [] E t):=by
 obtain⟨f,fd,hm,hk,hb,F⟩:=C.ex;exact Ui F hr hg hm hk hb .nil hx ha hdb he hpl
theorem pA{X:Cx}{x:Str}{T:String}{pos:Pos}(hg:Gl X x)(hm:X.mg x=af)(hv:bootBuiltins x=ac (.type T))(hn:x ≠ "__name__" := by decide)(hd:(x==("__debug__" : Str))=false:=by decide):PE X (.Name x pos) (tC (.ty T)):=Rx hg hm hv rfl hn hd
structure cO(K:aO)(mg:Str->Option aj)(x:Str)(st:bz)(ps:List Str):Prop where
 ex:∃(f:ai) (fd:bJ),mg x=ac (.ref f)/\oh K (.ref f)=true/\Binds K fd ps []/\(∀(s:az) (us:List aj),us.length=ps.length->oi s fd ⟨us,[]⟩ (ps.zip us))/\bY K x x st f fd
theorem vo{K:aO}{h:aY}{mg:Str->Option aj}{x:Str}{st:bz}{ps:List Str}{f:ai}{oc:aj}{od an:Option ai}{osl:Array (Option aj)}{kV doc pm cdv ct:aj}(X:K.In h)(G:h.Ns mainGlobals mg)
 (hb:∀(kV doc pm:aj) (an:Option ai) (cdv ct:aj) (us:List aj),us.length=ps.length->bindArgs (kj x x (nV st) (js st) (bF st) .none kV doc pm an cdv ct) ⟨us,[]⟩=pure (ps.zip us))
 (a:dU K mainGlobals x=ac (ac (.ref f))) (l:K.lookup f=ac ⟨oc,od,.func (kj x x (nV st) (js st) (bF st) .none kV doc pm an cdv ct),osl⟩)
 (c:qW K cdv x=true) (k:oh K (.ref f)=true):cO K mg x st ps:=by
 have F:=HF (st:=st) l c k;exact⟨f,_,iB X G a,k,F.binds hb,λs us hl=>.of_eq (hb kV doc pm an cdv ct us hl),F⟩
theorem cO.cal{P:bH}{w:bt}{K:aO}{mg:Str->Option aj}{base:aY}{CX:iu}{k:Nat}{x:Str}{st:bz}{ps:List Str}{sp:Sp}(F:cO K mg x st ps)(h:∀f fd,bY K x x st f fd->bO P w K mg base CX k f fd ps sp) :
 bI P w K mg base CX k x ps sp:=by
 obtain⟨f,fd,h1,h2,h3,_,h4⟩:=F.ex;exact⟨f,fd,h1,h2,h3,h f fd h4⟩
end L2
namespace Mi
open PySem
inductive D where
 |non|bl (b:Bool)|int (i:Int)|str (x:Str)|lst (ds:List D)|tup (ds:List D)
mutual
def D.dep:D->Nat
 |.lst ds=>eJ ds+1
 |.tup ds=>eJ ds+1
 |_=>0
def eJ:List D->Nat
 |[]=>0
 |d::r=>max d.dep (eJ r)
end
mutual
/-- Python's == -/
def bM:D->D->Bool
 |.non,.non=>true
 |.bl a,.bl b=>a==b
 |.bl a,.int b=>(if a then 1 else 0)==b
 |.int a,.bl b=>a==(if b then 1 else 0)
 |.int a,.int b=>a==b
 |.str a,.str b=>a==b
 |.lst a,.lst b=>eD a b
 |.tup a,.tup b=>eD a b
 |_,_=>false
def eD:List D->List D->Bool
 |[],[]=>true
 |a::r,b::s=>bM a b&&eD r s
 |_,_=>false
end
mutual
/-- no list in it -/
def qw:D->Bool
 |.lst _=>false
 |.tup ds=>x6 ds
 |_=>true
def x6:List D->Bool
 |[]=>true
 |d::r=>qw d&&x6 r
end
def gU(n:Nat)(i:Int):Option Nat:=if 0<=i then(if i<n then ac i.toNat else af)else if -(n:Int)<=i then ac (i+n).toNat else af
def cC{α:Type}(xs:List α)(i:Int):Option α:=(gU xs.length i).bind λj=>xs[j]?
def eo(n d:Nat):Option Int->Nat
 |none=>d
 |some v=>if v<0 then(v+(n:Int)).toNat else min v.toNat n
def eP{α:Type}(xs:List α)(lo hi:Option Int):List α:=(xs.drop (eo xs.length 0 lo)).take (eo xs.length xs.length hi-eo xs.length 0 lo)
abbrev Ky:=Sum Bool Str
inductive W where
 |d (x:D)|dk (ay:List (Ky×D))|dt (ay:List (List Ky×D))|df (ay:List (List Ky×D))|ex (c:String)|fn (a:Nat)
abbrev Env:=List (Option W)
structure hW where
 cls:String
 val:List D
inductive Rs(α:Type) where
 |ok (a:α)|ex (x:hW)|no
def Rs.bind{α β:Type}:Rs α->(α->Rs β)->Rs β
 |.ok a,f=>f a
 |.ex x,_=>.ex x
 |.no,_=>.no
@[simp] theorem aK {α β:Type} (a:α) (f:α->Rs β):(Rs.ok a).bind f=f a:=rfl
@[simp] theorem Wg {α β:Type} (x:hW) (f:α->Rs β):(Rs.ex x).bind f=.ex x:=rfl
@[simp] theorem Wf {α β:Type} (f:α->Rs β):(Rs.no).bind f=.no:=rfl
def Fin{α:Type}(r:Rs α)(k:α->Prop):Prop:=match r with
 |.ok a=>k a
 |_=>False
theorem aD{α β:Type}{r:Rs α}{f:α->Rs β}{k:β->Prop}:Fin (r.bind f) k↔Fin r λa=>Fin (f a) k:=by cases r<;>exact Iff.rfl
theorem Fin.mono{α:Type}{r:Rs α}{k k':α->Prop}(h:Fin r k)(m:∀a,k a->k' a):Fin r k':=by
 cases r with
 |ok a=>exact m a h
 |ex x=>exact h
 |no=>exact h
theorem lZ{α:Type}{r s:Rs α}{k:α->Prop}(h:Fin (if true=true then r else s) k):Fin r k:=by simpa using h
theorem oV{α:Type}{r s:Rs α}{k:α->Prop}(h:Fin (if false=true then r else s) k):Fin s k:=by simpa using h
theorem mi{α:Type}{a:α}{k:α->Prop}(h:Fin (.ok a) k):k a:=h
def cy{α:Type}:Option α->Rs α
 |some a=>.ok a
 |none=>.no
def bp{α:Type}(c:Prop)[Decidable c](r:Rs α):Rs α:=if c then r else .no
theorem aG{α:Type}{c:Prop}[Decidable c]{r:Rs α}(h:c):bp c r=r:=a8 h
theorem cR{α:Type}{c:Prop}[Decidable c]{r:Rs α}{k:α->Prop}(h:Fin (bp c r) k):c/\Fin r k:=by
 unfold bp at h;split at h
 ·exact⟨‹_›,h⟩
 ·exact h.elim
abbrev E:=Env->Rs D
abbrev C:=Env->Rs Bool
def mC(d:D):E:=λ_=>.ok d
def mV(i:Nat):E:=λe=>match e[i]? with
 |some (ac (.d x))=>.ok x
 |_=>.no
def m1(f:D->Rs D)(a:E):E:=λe=>(a e).bind f
def m2(f:D->D->Rs D)(a b:E):E:=λe=>(a e).bind λx=>(b e).bind λy=>f x y
def eX:List E->Env->Rs (List D)
 |[],_=>.ok []
 |a::r,e=>(a e).bind λx=>(eX r e).bind λxs=>.ok (x::xs)
def mN(f:List D->Rs D)(as:List E):E:=λe=>(eX as e).bind f
def dTup(ds:List D):Rs D:=bp (ds.length<=16777216) (.ok (.tup ds))
def b9(ds:List D):Rs D:=bp (ds.length<=16777216) (.ok (.lst ds))
def oR:D->Rs Bool
 |.bl b=>.ok b
 |_=>.no
def ie(a b:E):E:=λe=>(a e).bind λx=>(oR x).bind λc=>if c=true then b e else .ok (.bl false)
def oZ(a b:E):E:=λe=>(a e).bind λx=>(oR x).bind λc=>if c=true then .ok (.bl true)else b e
def Bx(a:E):E:=λe=>(a e).bind λx=>(oR x).bind λc=>.ok (.bl (!c))
def qg(c:C)(a b:E):E:=λe=>(c e).bind λk=>if k=true then a e else b e
def wR(f g:D->D->Rs D)(a b c:E):E:=λe=>(a e).bind λx=>(b e).bind λy=>(f x y).bind λz=>(oR z).bind λk=>if k=true then(c e).bind λw=>g y w else .ok (.bl false)
def qt:D->Rs Int
 |.int i=>.ok i
 |_=>.no
def jT:Option E->Env->Rs (Option Int)
 |none,_=>.ok af
 |some a,e=>(a e).bind λx=>(qt x).bind λi=>.ok (ac i)
def jb(x:Str)(lo hi:Option Int):Str:=⟨(eP x.cps.toList lo hi).toArray⟩
def cx(x:D)(lo hi:Option Int):Rs D:=match x with
 |.lst ds=>.ok (.lst (eP ds lo hi))
 |.str z=>bp (z.length<=16777216) (.ok (.str (jb z lo hi)))
 |_=>.no
def bV(f:D->Option Int->Option Int->Rs D)(a:E)(lo hi:Option E):E:=λe=>(a e).bind λx=>(jT lo e).bind λl=>(jT hi e).bind λh=>f x l h
def cB(a:E):C:=λe=>(a e).bind oR
def cJ(a b:C):C:=λe=>(a e).bind λc=>if c=true then b e else .ok false
def dY(a b:C):C:=λe=>(a e).bind λc=>if c=true then .ok true else b e
def dw(a:C):C:=λe=>(a e).bind λc=>.ok (!c)
def TC:D->Rs Bool
 |.non=>.ok false
 |.bl b=>.ok b
 |.int i=>.ok (i != 0)
 |.str y=>bp (y.length<=16777216) (.ok ((y.length:Int) != 0))
 |.lst ds=>.ok (!ds.isEmpty)
 |.tup ds=>.ok (!ds.isEmpty)
def iY(a:E):C:=λe=>(a e).bind TC
abbrev I:=Env->Rs (List D)
def vS:D->Rs (List D)
 |.lst ds=>.ok ds
 |.tup ds=>.ok ds
 |.str x=>.ok (x.cps.toList.map λc=>.str ⟨#[c]⟩)
 |_=>.no
def bA(a:E):I:=λe=>(a e).bind vS
def dA(lo hi:Int):List D:=(bP (hi-lo).toNat).map λk=>.int (lo+(k:Nat))
def okR(i:Int):Prop:=-(2 ^ 62)<=i/\i<2 ^ 62
instance (i:Int):Decidable (okR i):=inferInstanceAs (Decidable (_/\_))
def fo(a:E):I:=λe=>(a e).bind λx=>(qt x).bind λj=>bp (okR j) (.ok (dA 0 j))
def uv(a b:E):I:=λe=>(a e).bind λx=>(b e).bind λy=>(qt x).bind λi=>(qt y).bind λj=>bp (okR i/\okR j) (.ok (dA i j))
def mI(k:Nat):List D->List D
 |[]=>[]
 |d::r=>.tup [.int k,d]::mI (k+1) r
def F8:D->Rs (List D)
 |.lst ds=>.ok ds
 |_=>.no
inductive Tg where
 |n (i:Nat)|t (is:List Nat)
def sR:List Nat->List D->Env->Rs Env
 |[],[],e=>.ok e
 |i::is,d::ds,e=>sR is ds (e.set i (ac (.d d)))
 |_,_,_=>.no
def Tg.put:Tg->D->Env->Rs Env
 |.n i,d,e=>.ok (e.set i (ac (.d d)))
 |.t is,.tup ds,e=>sR is ds e
 |_,_,_=>.no
def lF(ρ:List (Option Nat))(e:Env):Env:=ρ.map λo=>o.bind λj=>(e[j]?).join
def dE(tg:Tg)(c:C)(a:E)(e:Env):List D->Rs (List D)
 |[]=>.ok []
 |x::r=>(tg.put x e).bind λe1=>(c e1).bind λk=>if k=true then(a e1).bind λy=>(dE tg c a e r).bind λys=>.ok (y::ys)else dE tg c a e r
def eK:C:=λ_=>.ok true
def cq(ρ:List (Option Nat))(it:I)(tg:Tg)(c:C)(a:E):E:=λe=>(it e).bind λxs=>bp (xs.length<=16777216) ((dE tg c a (lF ρ e) xs).bind λys=>.ok (.lst ys))
abbrev Fn:=List W->Rs W
abbrev EW:=Env->Rs W
def wD(a:E):EW:=λe=>(a e).bind λx=>.ok (.d x)
def wV(i:Nat):EW:=λe=>match e[i]? with
 |some (ac w)=>.ok w
 |_=>.no
def cG:List EW->Env->Rs (List W)
 |[],_=>.ok []
 |a::r,e=>(a e).bind λx=>(cG r e).bind λxs=>.ok (x::xs)
def lj(f:Fn)(as:List EW):EW:=λe=>(cG as e).bind f
def uR:W->Rs D
 |.d x=>.ok x
 |_=>.no
def aN(f:Fn)(as:List EW):E:=λe=>(lj f as e).bind uR
def FL:W->Rs D
 |.d x=>bp (qw x=true) (.ok x)
 |_=>.no
def uS(f:Fn)(as:List EW):E:=λe=>(lj f as e).bind FL
inductive Out where
 |nx (e:Env)|rt (w:W)|bk (e:Env)|ct (e:Env)
abbrev S:=Env->Rs Out
def bw:S:=λe=>.ok (.nx e)
def aE(s t:S):S:=λe=>(s e).bind λo=>match o with
 |.nx e'=>t e'
 |o=>.ok o
def Az(i:Nat)(a:EW):S:=λe=>(a e).bind λw=>.ok (.nx (e.set i (ac w)))
def bf(i:Nat)(a:E):S:=λe=>(a e).bind λd=>.ok (.nx (e.set i (ac (.d d))))
def qx(tg:Tg)(a:E):S:=λe=>(a e).bind λd=>(tg.put d e).bind λe'=>.ok (.nx e')
def mn(a:E):S:=λe=>(a e).bind λ_=>.ok (.nx e)
def br(a:EW):S:=λe=>(a e).bind λw=>.ok (.rt w)
def bq(c:C)(s t:S):S:=λe=>(c e).bind λk=>if k=true then s e else t e
def wM:S:=λ_=>.no
def gL(tg:Tg)(body:S):List D->Env->Rs Out
 |[],e=>.ok (.nx e)
 | x::r,e=>(tg.put x e).bind λe1=>(body e1).bind λo=>match o with
  |.nx e2=>gL tg body r e2
  |.ct e2=>gL tg body r e2
  |.bk e2=>.ok (.nx e2)
  |.rt w=>.ok (.rt w)
def cU(it:I)(tg:Tg)(body:S):S:=λe=>(it e).bind λxs=>gL tg body xs e
def oy(c:C)(body:S):Nat->Env->Rs Out
 |0,_=>.no
 | n+1,e=>(c e).bind λk=>if k=true then(body e).bind λo=>match o with
  |.nx e2=>oy c body n e2
  |.ct e2=>oy c body n e2
  |.bk e2=>.ok (.nx e2)
  |.rt w=>.ok (.rt w)
  else .ok (.nx e)
def Al(n:Nat)(c:C)(body:S):S:=oy c body n
def getL(e:Env)(i:Nat):Rs (List D):=match e[i]? with
 |some (ac (.d (.lst ds)))=>.ok ds
 |_=>.no
def putL(e:Env)(i:Nat)(ds:List D):Env:=e.set i (ac (.d (.lst ds)))
def ek(i:Nat)(a:E):S:=λe=>(a e).bind λd=>(getL e i).bind λds=>bp (ds.length<16777216) (.ok (.nx (putL e i (ds++[d]))))
def k8(i:Nat)(a:E):S:=λe=>(a e).bind λd=>(getL e i).bind λds=>match d with
 |.lst xs=>bp (ds.length+xs.length<=16777216) (.ok (.nx (putL e i (ds++xs))))
 |_=>.no
def ul(i:Nat):S:=λe=>(getL e i).bind λds=>.ok (.nx (putL e i ds.reverse))
def yp(x y:Nat):S:=λe=>(getL e y).bind λds=>(cy ds[ds.length-1]?).bind λd=>.ok (.nx ((putL e y ds.dropLast).set x (ac (.d d))))
def yc(ds:List D)(i:Int):Rs (D×List D):=bp (-(2 ^ 63)<=i/\i<2 ^ 63) ((cy (gU ds.length i)).bind λk=>(cy ds[k]?).bind λd=>.ok (d,ds.eraseIdx k))
def wZ(x y:Nat)(k:E):S:=λe=>(k e).bind λz=>(qt z).bind λi=>(getL e y).bind λds=>(yc ds i).bind λp=>(getL (putL e y p.2) x).bind λes=>
 bp (es.length<16777216) (.ok (.nx (putL (putL e y p.2) x (es++[p.1]))))
def oP:D->Option Ky
 |.bl i=>ac (.inl i)
 |.str x=>ac (.inr x)
 |_=>af
def qr:List D->Option (List Ky)
 |[]=>ac []
 | d::r=>match oP d,qr r with
  |some k,ac ks=>ac (k::ks)
  |_,_=>af
def jJ{κ:Type}[DecidableEq κ](ay:List (κ×D))(k:κ):Option D:=(ay.find? λkv=>decide (kv.1=k)).map (·.2)
def yE(w:W)(k:D):Rs (Option D):=match w with
 |.dk ay=>(cy (oP k)).bind λk=>.ok (jJ ay k)
 | .dt ay=>match k with
  |.tup ds=>(cy (qr ds)).bind λk=>.ok (jJ ay k)
  |_=>.no
 | .df ay=>match k with
  |.tup ds=>(cy (qr ds)).bind λk=>.ok (jJ ay k)
  |_=>.no
 |_=>.no
def putK{κ:Type}[DecidableEq κ](k:κ)(v:D)(ay:List (κ×D)):List (κ×D):=if(ay.any λkv=>decide (kv.1=k))=true then ay.map (λkv=>if kv.1=k then(kv.1,v)else kv)else ay++[(k,v)]
def AB(w:W)(k v:D):Rs W:=match w with
 |.dk ay=>bp (ay.length<16777216) ((cy (oP k)).bind λk=>.ok (.dk (putK k v ay)))
 | .dt ay=>match k with
  |.tup ds=>bp (ay.length<16777216) ((cy (qr ds)).bind λk=>.ok (.dt (putK k v ay)))
  |_=>.no
 |_=>.no
def uY(i:Nat)(k:E):E:=λe=>(k e).bind λd=>(wV i e).bind λw=>(yE w d).bind λo=>.ok (.bl o.isSome)
def oK(i:Nat)(k:E):E:=λe=>(k e).bind λd=>(wV i e).bind λw=>(yE w d).bind λo=>.ok (.bl (!o.isSome))
def mL(i:Nat)(k:E):E:=λe=>(k e).bind λd=>(wV i e).bind λw=>(yE w d).bind cy
def jh(i:Nat)(k v:E):S:=λe=>(v e).bind λx=>(k e).bind λd=>(wV i e).bind λw=>(AB w d x).bind λw'=>.ok (.nx (e.set i (ac w')))
def nF:Out->Rs W
 |.rt w=>.ok w
 |.nx _=>.ok (.d .non)
 |_=>.no
def dG(k n:Nat)(body:S):Fn:=λws=>bp (ws.length=k) ((body (ws.map ac++cu (n-ws.length) af)).bind nF)
def me:Out->Rs W
 |.rt w=>.ok w
 |_=>.no
def gs(k n:Nat)(body:S):Fn:=λws=>bp (ws.length=k) ((body (ws.map ac++cu (n-ws.length) af)).bind me)
def nB(i j:Int):Prop:=(-(2 ^ 64)<i/\i<2 ^ 64)\/(-(2 ^ 64)<j/\j<2 ^ 64)
instance (i j:Int):Decidable (nB i j):=inferInstanceAs (Decidable (_\/_))
def nJ(j:Int):Prop:=0<j/\j.natAbs.log2<9000
instance (j:Int):Decidable (nJ j):=inferInstanceAs (Decidable (_/\_))
def NO(i j:Int):Prop:=0<=j/\j<=1000000/\i.natAbs<2 ^ 64
instance (i j:Int):Decidable (NO i j):=inferInstanceAs (Decidable (_/\_))
def bc:D->D->Rs D
 |.int i,.int j=>.ok (.int (i+j))
 |.str i,.str j=>bp (i.length+j.length<=16777216) (.ok (.str (i++j)))
 |.lst i,.lst j=>bp (i.length+j.length<=16777216) (.ok (.lst (i++j)))
 |_,_=>.no
def gW:D->D->Rs D
 |.int i,.int j=>.ok (.int (i-j))
 |_,_=>.no
def dM:D->D->Rs D
 |.int i,.int j=>bp (nB i j) (.ok (.int (i*j)))
 |_,_=>.no
def c5:D->D->Rs D
 |.int i,.int j=>bp (nJ j) (.ok (.int (i/j)))
 |_,_=>.no
def bG:D->D->Rs D
 |.int i,.int j=>bp (0<j) (.ok (.int (i%j)))
 |_,_=>.no
def lf:D->Rs D
 |.int i=>.ok (.int (-i))
 |_=>.no
def gR:D->D->Rs D
 |.int i,.int j=>.ok (.bl (decide (i<j)))
 |.str i,.str j=>.ok (.bl (decide (i.cps.toList<j.cps.toList)))
 |_,_=>.no
def gV:D->D->Rs D
 |.int i,.int j=>.ok (.bl (decide (j<i)))
 |.str i,.str j=>.ok (.bl (decide (j.cps.toList<i.cps.toList)))
 |_,_=>.no
def rX:D->D->Rs D
 |.int i,.int j=>.ok (.bl (decide (i<=j)))
 |_,_=>.no
def bK(x y:D):Rs D:=bp (x.dep<=16) (.ok (.bl (bM x y)))
def gp(x y:D):Rs D:=bp (x.dep<=16) (.ok (.bl (!bM x y)))
def vm:D->Bool
 |.non=>true
 |_=>false
def sB(x y:D):Rs D:=match y with
 |.non=>.ok (.bl (vm x))
 |_=>.no
def Cp(x y:D):Rs D:=match y with
 |.non=>.ok (.bl (!vm x))
 |_=>.no
def bC(x y:D):Rs D:=match y with
 |.lst ds=>bp (eJ ds<=16) (.ok (.bl (ds.any λe=>bM e x)))
 |.tup ds=>bp (eJ ds<=16) (.ok (.bl (ds.any λe=>bM e x)))
 | .str z=>match x with
  |.str s=>bp (s.length=1) (.ok (.bl (decide (s.cps.getD 0 0∈z.cps.toList))))
  |_=>.no
 |_=>.no
def cQ(x y:D):Rs D:=match y with
 |.lst ds=>bp (eJ ds<=16) (.ok (.bl (!ds.any λe=>bM e x)))
 |.tup ds=>bp (eJ ds<=16) (.ok (.bl (!ds.any λe=>bM e x)))
 |_=>.no
def au(x y:D):Rs D:=match x,y with
 |.lst ds,.int i=>cy (cC ds i)
 |.tup ds,.int i=>cy (cC ds i)
 |.str z,.int i=>bp (z.length<=16777216) ((cy (cC z.cps.toList i)).bind λc=>.ok (.str ⟨#[c]⟩))
 |_,_=>.no
def bR:List D->Rs D
 |[.lst ds]=>.ok (.int ds.length)
 |[.tup ds]=>.ok (.int ds.length)
 |[.str z]=>bp (z.length<=16777216) (.ok (.int z.length))
 |_=>.no
def j8:List D->Rs D
 |[.int i,.int j]=>.ok (.int (max i j))
 |_=>.no
def ma:List D->Rs D
 |[.int i,.int j]=>.ok (.int (min i j))
 |_=>.no
def u5:List D->Option (List Bool)
 |[]=>ac []
 |.bl b::r=>(u5 r).map (b :: ·)
 |_=>af
def A4:List D->Rs D
 |[.lst ds]=>(cy (u5 ds)).bind λbs=>.ok (.bl (bs.all id))
 |_=>.no
def j9:List D->Rs D
 |[.lst ds]=>.ok (.lst ds)
 |[.tup ds]=>.ok (.lst ds)
 |_=>.no
def pe:List D->Rs D
 |[.lst ds]=>.ok (.tup ds)
 |[.tup ds]=>.ok (.tup ds)
 |_=>.no
def qI:List D->Rs D
 |[.int i]=>.ok (.int i)
 |[.bl k]=>.ok (.int (if k then 1 else 0))
 |_=>.no
def yS(t:String):D->Bool
 |.non=>false
 |.bl _=>t == "bool" || t == "int"
 |.int _=>t == "int"
 |.str _=>t == "str"
 |.lst _=>t == "list"
 |.tup _=>t == "tuple"
def GN:D->String
 |.non => "NoneType" | .bl _ => "bool" | .int _ => "int" | .str _ => "str" | .lst _ => "list" | .tup _ => "tuple"
def h9(ts:List String)(x:D):Rs D:=.ok (.bl (ts.any λt=>yS t x))
def ir:List D->Option (List Str)
 |[]=>ac []
 |.str b::r=>(ir r).map (b :: ·)
 |_=>af
def xY(x y:D):Rs D:=match x,y with
 |.str sep,.lst ds=>(cy (ir ds)).bind λys=>bp ((ys.map (·.length)).sum+ys.length*sep.length<=16777216) (.ok (.str (kP sep ys)))
 |_,_=>.no
def met(val:Nat->Str):Nat->List Str
 |0=>[]
 |i+1=>if val i∈met val i then met val i else met val i++[val i]
end Mi
namespace L2
open PySem PySem.Spec PyProof.Rows
open Mi (D eJ bM eD)
mutual
theorem BG:∀d:D,bM d d=true
 |.non=>rfl
 |.bl b=>by simp[bM]
 |.int i=>by simp[bM]
 |.str x=>by simp[bM]
 |.lst ds=>by rw[bM];exact Ai ds
 |.tup ds=>by rw[bM];exact Ai ds
theorem Ai:∀ds:List D,eD ds ds=true
 |[]=>rfl
 |d::r=>by rw[eD,BG d,Ai r];rfl
end
theorem uz:∀{ds es:List D},ds.length≠es.length->eD ds es=false
 |[],[],h=>absurd rfl h
 |[],_::_,_=>rfl
 |_::_,[],_=>rfl
 |d::r,e::s,h=>by rw[eD,uz (λz=>h (by rw[eG,eG,z])),tP]
theorem vP:∀{ds es:List D},ds.length=es.length->eD ds es=(bP ds.length).all λj=>bM (ds.getD j .non) (es.getD j .non)
 |[],[],_=>rfl
 |[],_::_,h=>by simp at h
 |_::_,[],h=>by simp at h
 |d::r,e::s,h=>by
  rw[eD,vP (by simpa using h),eG,Lm,List.all_cons,List.all_map];rfl
mutual
/-- the value v in the heap H is the tree d -/
def Rep(K:aO)(H:Hp):D->V->Prop
 |.non,v=>v=.non
 |.bl b,v=>v=.bl b
 |.int i,v=>v=.int i
 |.str x,v=>v=.str x
 |.lst ds,v=>∃a xs,v=.ref a/\fW K H a xs/\bE K H ds xs
 |.tup ds,v=>∃a xs,v=.ref a/\gu K H a xs/\bE K H ds xs
def bE(K:aO)(H:Hp):List D->List V->Prop
 |[],vs=>vs=[]
 |d::ds,vs=>∃v r,vs=v::r/\Rep K H d v/\bE K H ds r
end
theorem bE.length{K:aO}{H:Hp}:∀{ds:List D} {vs:List V},bE K H ds vs->ds.length=vs.length
 |[],vs,h=>by rw[bE]at h;subst h;rfl
 |d::ds,vs,h=>by
  rw[bE]at h;obtain⟨v,r,rfl,_,q⟩:=h;rw[eG,eG,bE.length q]
theorem bE.get{K:aO}{H:Hp}:∀{ds:List D} {vs:List V} {j:Nat} {v:V},bE K H ds vs->vs[j]? = ac v->Rep K H (ds.getD j .non) v
 |[],vs,j,v,h,e=>by rw[bE]at h;subst h;simp at e
 |d::ds,vs,0,v,h,e=>by
  rw[bE]at h;obtain⟨v',r,rfl,p,q⟩:=h;simp at e;subst e;exact p
 |d::ds,vs,j+1,v,h,e=>by
  rw[bE]at h;obtain⟨v',r,rfl,p,q⟩:=h;have:=bE.get (j:=j) (v:=v) q (by simpa using e);simpa using this
section
variable{X:Cx}{ah:List (ai×Obj)}{σ:St}{H:Hp}{s:az}
theorem Inv.FC(I:Inv X ah σ H s){a:ai}{xs ys:List V}(h:fW X.K H a xs)(h':gu X.K H a ys):False:=by obtain⟨ax,_,p,_⟩:=I.list h;obtain⟨its',_,q,_⟩:=I.tuple h';obtain⟨o,n,e,c,_⟩:=p;obtain⟨o',e',c',_⟩:=q;rw[e]at e';cases e';rw[c]at c';exact absurd (Value.type.inj c') (by decide)
mutual
theorem Rep.inj(I:Inv X ah σ H s):∀{d e:D} {v:V},Rep X.K H d v->Rep X.K H e v->d=e
 |.non,e,v,h,h'=>by
  rw[Rep]at h;subst h;cases e<;>rw[Rep]at h'<;>first|rfl|(obtain⟨_,_,z,_⟩:=h';cases z)|cases h'
 |.bl b,e,v,h,h'=>by
  rw[Rep]at h;subst h;cases e<;>rw[Rep]at h'<;>first|(obtain⟨_,_,z,_⟩:=h';cases z)|(cases h';rfl)|cases h'
 |.int b,e,v,h,h'=>by
  rw[Rep]at h;subst h;cases e<;>rw[Rep]at h'<;>first|(obtain⟨_,_,z,_⟩:=h';cases z)|(cases h';rfl)|cases h'
 |.str b,e,v,h,h'=>by
  rw[Rep]at h;subst h;cases e<;>rw[Rep]at h'<;>first|(obtain⟨_,_,z,_⟩:=h';cases z)|(cases h';rfl)|cases h'
 |.lst ds,e,v,h,h'=>by
  rw[Rep]at h;obtain⟨a,xs,rfl,q,r⟩:=h;cases e with
  |lst es=>
   rw[Rep]at h';obtain⟨a',xs',z,q',r'⟩:=h';cases z;rw[I.Av q' q]at r';rw[bE.inj I r r']
  |tup es=>
   rw[Rep]at h';obtain⟨a',xs',z,q',r'⟩:=h';cases z;exact(I.FC q q').elim
  |_=>rw[Rep]at h';cases h'
 |.tup ds,e,v,h,h'=>by
  rw[Rep]at h;obtain⟨a,xs,rfl,q,r⟩:=h;cases e with
  |tup es=>
   rw[Rep]at h';obtain⟨a',xs',z,q',r'⟩:=h';cases z;rw[I.A9 q' q]at r';rw[bE.inj I r r']
  |lst es=>
   rw[Rep]at h';obtain⟨a',xs',z,q',r'⟩:=h';cases z;exact(I.FC q' q).elim
  |_=>rw[Rep]at h';cases h'
theorem bE.inj(I:Inv X ah σ H s):∀{ds es:List D} {vs:List V},bE X.K H ds vs->bE X.K H es vs->ds=es
 |[],es,vs,h,h'=>by
  rw[bE]at h;subst h;cases es with
  |nil=>rfl
  |cons e es=>rw[bE]at h';obtain⟨_,_,z,_⟩:=h';cases z
 |d::ds,es,vs,h,h'=>by
  rw[bE]at h;obtain⟨v,r,rfl,p,q⟩:=h;cases es with
  |nil=>rw[bE]at h';cases h'
  |cons e es=>
   rw[bE]at h';obtain⟨v',r',z,p',q'⟩:=h';cases z;rw[Rep.inj I p p',bE.inj I q q']
end
theorem CY:∀{ds:List D} {j:Nat},(ds.getD j .non).dep<=eJ ds
 |[],j=>by simp[D.dep]
 |d::ds,0=>by simp[eJ];omega
 |d::ds,j+1=>by
  have:=CY (ds:=ds) (j:=j);have e:(d::ds).getD (j+1) .non=ds.getD j .non:=by simp
  rw[e,eJ];omega
def _root_.Mi.D.flat:D->Bool
 |.lst _=>false
 |.tup _=>false
 |_=>true
def _root_.Mi.D.toV:D->V
 |.non=>.non|.bl b=>.bl b|.int i=>.int i|.str x=>.str x|.lst _=>.non|.tup _=>.non
theorem Rep.flat{K:aO}:∀{d:D} {v:V},d.flat=true->Rep K H d v->v=d.toV/\Ay v=true
 |.non,v,_,h=>by rw[Rep]at h;subst h;exact⟨rfl,rfl⟩
 |.bl b,v,_,h=>by rw[Rep]at h;subst h;exact⟨rfl,rfl⟩
 |.int b,v,_,h=>by rw[Rep]at h;subst h;exact⟨rfl,rfl⟩
 |.str b,v,_,h=>by rw[Rep]at h;subst h;exact⟨rfl,rfl⟩
 |.lst _,v,z,h=>by cases z
 |.tup _,v,z,h=>by cases z
theorem P6:∀{d e:D},d.flat=true->e.flat=true->bM d e=HZ d.toV e.toV:=by intro d e h1 h2;cases d<;>cases e<;>first|rfl|exact absurd (show false=true from h1) dJ|exact absurd (show false=true from h2) dJ
open SeqAt in
theorem JK(I:Inv X ah σ H s):∀(n:Nat) (d e:D) (A:bT) {x y:V} {u u':aj},d.dep<=n->A.units+n<cLine->Rep X.K H d x->Rep X.K H e y->RelV x u->RelV y u'->EqAt A s u u' (bM d e):=by
 intro n
 induction n using Nat.strongRecOn with
 |ind n ih=>
  intro d e A x y u u' hd hu h h' r r';have hu0:A.units<cLine:=by omega
  by_cases hdf:d.flat=true
  ·obtain⟨ex,fx⟩:=h.flat hdf;subst ex;by_cases hef:e.flat=true
   ·obtain⟨ey,fy⟩:=h'.flat hef;subst ey;rw[P6 hdf hef];exact N6 r r' fx fy
   ·cases e with
    |lst es=>
     rw[Rep]at h';obtain⟨a,xs,rfl,q,_⟩:=h';cases r';obtain⟨ax,_,p,_⟩:=I.list q;cases d with
     |non=>cases r;exact EqAt.none_list p.isList hu0
     |bl b=>cases r;exact EqAt.bool_list b p.isList hu0
     |int b=>obtain⟨t,rfl⟩:=r;exact EqAt.int_list b t p.isList hu0
     |str b=>obtain⟨t,rfl⟩:=r;exact EqAt.str_list b t p.isList hu0
     |_=>cases hdf
    |tup es=>
     rw[Rep]at h';obtain⟨a,xs,rfl,q,_⟩:=h';cases r';obtain⟨ax,_,p,_⟩:=I.tuple q;cases d with
     |non=>cases r;exact EqAt.none_tuple p hu0
     |bl b=>cases r;exact EqAt.bool_tuple b p hu0
     |int b=>obtain⟨t,rfl⟩:=r;exact EqAt.int_tuple b t p hu0
     |str b=>obtain⟨t,rfl⟩:=r;exact EqAt.str_tuple b t p hu0
     |_=>cases hdf
    |_=>exact absurd rfl hef
  ·by_cases hef:e.flat=true
   ·obtain⟨ey,fy⟩:=h'.flat hef;subst ey;cases d with
    |lst ds=>
     rw[Rep]at h;obtain⟨a,xs,rfl,q,_⟩:=h;cases r;obtain⟨ax,_,p,_⟩:=I.list q;cases e with
     |non=>cases r';exact EqAt.list_none p.isList hu0
     |bl b=>cases r';exact EqAt.list_bool b p.isList hu0
     |int b=>obtain⟨t,rfl⟩:=r';exact EqAt.list_int b t p.isList hu0
     |str b=>obtain⟨t,rfl⟩:=r';exact EqAt.list_str b t p.isList hu0
     |_=>cases hef
    |tup ds=>
     rw[Rep]at h;obtain⟨a,xs,rfl,q,_⟩:=h;cases r;obtain⟨ax,_,p,_⟩:=I.tuple q;cases e with
     |non=>cases r';exact EqAt.tuple_none p hu0
     |bl b=>cases r';exact EqAt.tuple_bool b p hu0
     |int b=>obtain⟨t,rfl⟩:=r';exact EqAt.tuple_int b t p hu0
     |str b=>obtain⟨t,rfl⟩:=r';exact EqAt.tuple_str b t p hu0
     |_=>cases hef
    |_=>exact absurd rfl hdf
   ·-- both are lists or tuples
    have item:∀{ds es:List D} {xs ys:List V} {ax its':List aj},eJ ds+1<=n->bE X.K H ds xs->bE X.K H es ys->Vals xs ax->Vals ys its' ->
     ∀j (h1:j<ax.toArray.size) (h2:j<its'.toArray.size),EqAt A.in1 s ax.toArray[j] its'.toArray[j] (bM (ds.getD j .non) (es.getD j .non)):=by
     intro ds es xs ys ax its' hn q q' v v' j h1 h2;have h1':j<ax.length:=by simpa using h1
     have h2':j<its'.length:=by simpa using h2
     have e1:j<xs.length:=by rw[v.length];exact h1'
     have e2:j<ys.length:=by rw[v'.length];exact h2'
     have g1:xs[j]? = ac xs[j]:=by simp[e1]
     have g2:ys[j]? = ac ys[j]:=by simp[e2]
     obtain⟨w1,k1,r1⟩:=v.get g1;obtain⟨w2,k2,r2⟩:=v'.get g2;have t1:ax.toArray[j]=w1:=by obtain⟨_,k1⟩:=fe.mp k1;simpa using k1
     have t2:its'.toArray[j]=w2:=by obtain⟨_,k2⟩:=fe.mp k2;simpa using k2
     rw[t1,t2];have:=CY (ds:=ds) (j:=j);refine ih (n-1) (by omega) _ _ A.in1 (by omega) ?_ (q.get g1) (q'.get g2) r1 r2;show A.units+1+(n-1)<cLine;omega
    cases d with
    |lst ds=>
     rw[Rep]at h;obtain⟨a,xs,rfl,q,rr⟩:=h;cases r;obtain⟨ax,v,p,_⟩:=I.list q;have hn:eJ ds+1<=n:=by simpa [D.dep]using hd
     cases e with
     |lst es=>
      rw[Rep]at h';obtain⟨b,ys,rfl,q',rr'⟩:=h';cases r';obtain⟨its',v',p',_⟩:=I.list q';by_cases hab:a=b
      ·subst hab;rw[I.Av q' q]at rr';rw[bE.inj I rr rr',BG];exact EqAt.same _
      ·have l1:=rr.length;have l2:=rr'.length;have l3:=v.length;have l4:=v'.length;by_cases hl:ds.length=es.length
       ·rw[bM,vP hl];have:=RcAt.lists p.isList p'.isList (by simp;omega) hu0 (item hn rr rr' v v');have e:ax.toArray.size=ds.length:=by simp;omega
        rw[e]at this;exact .of_refs hab this
       ·rw[bM,uz hl];exact .of_refs hab (RcAt.lists_lengths p.isList p'.isList (by simp;omega) hu0)
     |tup es=>
      rw[Rep]at h';obtain⟨b,ys,rfl,q',_⟩:=h';cases r';obtain⟨its',_,p',_⟩:=I.tuple q';exact EqAt.list_tuple p.isList p' hu0
     |_=>exact absurd rfl hef
    |tup ds=>
     rw[Rep]at h;obtain⟨a,xs,rfl,q,rr⟩:=h;cases r;obtain⟨ax,v,p,_⟩:=I.tuple q;have hn:eJ ds+1<=n:=by simpa [D.dep]using hd
     cases e with
     |tup es=>
      rw[Rep]at h';obtain⟨b,ys,rfl,q',rr'⟩:=h';cases r';obtain⟨its',v',p',_⟩:=I.tuple q';by_cases hab:a=b
      ·subst hab;rw[I.A9 q' q]at rr';rw[bE.inj I rr rr',BG];exact EqAt.same _
      ·have l1:=rr.length;have l2:=rr'.length;have l3:=v.length;have l4:=v'.length;have R:=RcAt.tuples p p' hu0 (item hn rr rr' v v');have e1:ax.toArray.size=ds.length:=by simp;omega
       have e2:its'.toArray.size=es.length:=by simp;omega
       rw[e1,e2]at R;by_cases hl:ds.length=es.length
       ·rw[bM,vP hl];rw[hl,Nat.min_self,j3,Bool.and_true,<- hl]at R;exact .of_refs hab R
       ·rw[bM,uz hl];have:(ds.length==es.length)=false:=by simpa using hl
        rw[this,tP]at R;exact .of_refs hab R
     |lst es=>
      rw[Rep]at h';obtain⟨b,ys,rfl,q',_⟩:=h';cases r';obtain⟨its',_,p',_⟩:=I.list q';exact EqAt.tuple_list p p'.isList hu0
     |_=>exact absurd rfl hef
    |_=>exact absurd rfl hdf
def w6(K:aO)(neg:Bool):R2:=λx y H Q=>∃(p:ai) (xs:List V) (d:D) (ds:List D),y=.ref p/\(fW K H p xs\/gu K H p xs)/\Rep K H d x/\bE K H ds xs/\eJ ds<=16 /\
 Q (.bl (if neg then !ds.any (λe=>bM e d)else ds.any (λe=>bM e d))) H
theorem bE.main{K:aO}:∀{ds:List D} {xs:List V} {us:List aj},bE K H ds xs->Vals xs us->∀u∈us,∃b∈ds,∃y,Rep K H b y/\RelV y u
 |[],xs,us,hr,hv,u,hu=>by
  rw[bE]at hr;subst hr;cases hv;cases hu
 |b::bs,xs,us,hr,hv,u,hu=>by
  rw[bE]at hr;obtain⟨y,r,rfl,p,q⟩:=hr;cases hv with
  |cons ry t=>
   rcases bZ.mp hu with rfl|hu
   ·exact⟨b,cW,_,p,ry⟩
   ·obtain⟨b',hb',w⟩:=bE.main q t u hu;exact⟨b',eL _ hb',w⟩
theorem bE.any{K:aO}{e:aj->Bool}{f:D->Bool}(key:∀b y u,Rep K H b y->RelV y u->e u=f b):∀{ds:List D} {xs:List V} {us:List aj},bE K H ds xs->Vals xs us->us.any e=ds.any f
 |[],xs,us,hr,hv=>by
  rw[bE]at hr;subst hr;cases hv;rfl
 |b::bs,xs,us,hr,hv=>by
  rw[bE]at hr;obtain⟨y,r,rfl,p,q⟩:=hr;cases hv with
  |cons ry t=>rw[mX,mX,key b y _ p ry,bE.any key q t]
theorem GK:∀{ds:List D} {b:D},b∈ds->b.dep<=eJ ds
 |d::ds,b,h=>by
  rw[eJ];rcases bZ.mp h with rfl|h
  ·omega
  ·have:=GK h;omega
open Classical in
theorem yw(I:Inv X ah σ H s){A:bT}(hu:A.units+16<cLine){d:D}{x:V}{v:aj}(hx:Rep X.K H d x)(rx:RelV x v){ds:List D}{xs:List V}{us:List aj}(hd:eJ ds<=16)(hr:bE X.K H ds xs)(hv:Vals xs us) :
 ∃e:aj->Bool,(∀u∈us,SeqAt.EqAt A s u v (e u))/\us.any e=ds.any (λb=>bM b d):=by
 have key:∀b y u,Rep X.K H b y->RelV y u->(λu=>decide (∃b y,Rep X.K H b y/\RelV y u/\bM b d=true)) u=bM b d:=by
  intro b y u hb hy;cases hp:bM b d with
  |true=>exact cV ⟨b,y,hb,hy,hp⟩
  |false=>
   refine d6 ?_;rintro⟨b',y',hb',hy',hp'⟩;have:=hy.inj hy';subst this;rw[Rep.inj I hb hb',hp']at hp;cases hp
 refine⟨λu=>decide (∃b y,Rep X.K H b y/\RelV y u/\bM b d=true),λu hu'=>?_,bE.any key hr hv⟩;obtain⟨b,hb,y,rb,ry⟩:=bE.main hr hv u hu';rw[key b y u rb ry];exact JK I 16 b d A (c7 (GK hb) hd) hu rb hx ry rx
theorem Pk(hu:X.A.units+64<cLine):dO X (compareOp .In) (w6 X.K false):=by
 intro ah s σ H x y v u Q I rx ry h;obtain⟨p,xs,d,ds,rfl,hq,hx,hr,hd,q⟩:=h;cases ry;have hu1:X.A.in1.units+16<cLine:=by show X.A.units+1+16<cLine;omega
 rcases hq with hq|hq
 ·obtain⟨ax,r,pl,hz⟩:=I.list hq;obtain⟨e,he,ea⟩:=yw I hu1 hx rx hd hr r;refine SeqAt.in_listAt e pl.isList (λw hw=>he w (by simpa using hw)) ⟨.bl _,H,I,rfl,?_⟩;rw[show ax.toArray.any e=ax.any e by simp,ea];exact q
 ·obtain⟨ax,r,pl,hz⟩:=I.tuple hq;obtain⟨e,he,ea⟩:=yw I hu1 hx rx hd hr r;refine SeqAt.in_tupleAt e pl (λw hw=>he w (by simpa using hw)) ⟨.bl _,H,I,rfl,?_⟩;rw[show ax.toArray.any e=ax.any e by simp,ea];exact q
theorem jZ(hu:X.A.units+64<cLine):dO X (compareOp .NotIn) (w6 X.K true):=by
 intro ah s σ H x y v u Q I rx ry h;obtain⟨p,xs,d,ds,rfl,hq,hx,hr,hd,q⟩:=h;cases ry;have hu1:X.A.in1.units+16<cLine:=by show X.A.units+1+16<cLine;omega
 rcases hq with hq|hq
 ·obtain⟨ax,r,pl,hz⟩:=I.list hq;obtain⟨e,he,ea⟩:=yw I hu1 hx rx hd hr r;refine SeqAt.notIn_listAt e pl.isList (λw hw=>he w (by simpa using hw)) ⟨.bl _,H,I,rfl,?_⟩;rw[show ax.toArray.any e=ax.any e by simp,ea];exact q
 ·obtain⟨ax,r,pl,hz⟩:=I.tuple hq;obtain⟨e,he,ea⟩:=yw I hu1 hx rx hd hr r;refine SeqAt.notIn_tupleAt e pl (λw hw=>he w (by simpa using hw)) ⟨.bl _,H,I,rfl,?_⟩;rw[show ax.toArray.any e=ax.any e by simp,ea];exact q
end
end L2
namespace L2
open PySem PySem.Spec PyProof.Rows
theorem yr{H:Hp}{p:ai}{o:HO}(hp:H p=af):dC H (upd H p o):=λb u e=>by rw[aX (dX e hp)];exact e
theorem FN:∀{ys:List Str} {us:List aj},Vals (ys.map V.str) us->StrsAre us ys
 |[],_,.nil=>.nil
 |y::ys,_,.cons r t=>by
  obtain⟨tk,rfl⟩:=(show∃tk,_=pL y tk from r);exact .cons y tk (FN t)
section
variable{X:Cx}
def rJoin(K:aO):V->List V->Hp->VK->Prop:=λx vs H Q=>∃(sep:Str) (p:ai) (ys:List Str),x=.str sep/\vs=[.ref p]/\fW K H p (ys.map V.str)/\(ys.map (·.length)).sum+ys.length*sep.length<=16777216/\Q (.str (kP sep ys)) H
theorem E8:n5 X "str.join" (rJoin X.K):=by intro ah s σ H x vs v us Q I rx rv h;obtain⟨sep,p,ys,rfl,rfl,hq,hz,q⟩:=h;obtain⟨t,rfl⟩:=rx;obtain⟨u,rfl,ru⟩:=rv.one;cases ru;obtain⟨ax,r,pl,_⟩:=I.list hq;refine join_list pl.isList (by simpa using FN r) hz λt' k=>⟨.str (kP sep ys),H,I.tok k,⟨t',?_⟩,q⟩;show pL (Builtin.Str.glued sep ys) t'=_;rw[StrLaws.glued_eq_join]
def EI(i j:Int):Prop:=0<j/\j.natAbs.log2<9000
theorem g6:dO X (binaryOp .FloorDiv) (rI EI λi j=>.int (i/j)):=B6 λi j _ _ _ _ _ hc q=>by
 refine floordiv_int (by have:=hc.1;omega) ?_ (.inl (PyProof.noPylong_of_log2 hc.2));rw[Int.fdiv_eq_ediv_of_nonneg i (by have:=hc.1;omega)];exact q
theorem Th(hc:X.calm=true):gT X (.builtin "max") (λxs H Q=>∃i j z,xs=[.int i,.int j]/\max i j=z/\Q (.int z) H):=by intro ah s σ H xs us Q I r ⟨i,j,z,e1,e2,q⟩;subst e2;refine Ri hc ah s σ H xs us Q I r ⟨i,j,e1,?_⟩;rw[show(if j>i then j else i)=max i j by split<;>omega];exact q
theorem Ph(hc:X.calm=true):gT X (.builtin "min") (λxs H Q=>∃i j z,xs=[.int i,.int j]/\min i j=z/\Q (.int z) H):=by intro ah s σ H xs us Q I r ⟨i,j,z,e1,e2,q⟩;subst e2;refine UQ hc ah s σ H xs us Q I r ⟨i,j,e1,?_⟩;rw[show(if j<i then j else i)=min i j by split<;>omega];exact q
end
end L2
namespace A
open PySem L2 PyProof.Rows
open Mi (D W Rs Fin aD)
inductive P2{α β:Type}(F:α->β->Prop):List α->List β->Prop
 |nil:P2 F [] []
 |cons {a b l m}:F a b->P2 F l m->P2 F (a::l) (b::m)
section
variable{α β:Type}{F G:α->β->Prop}
theorem P2.imp(h:∀a b,F a b->G a b):∀{l m},P2 F l m->P2 G l m
 |_,_,.nil=>.nil
 |_,_,.cons x t=>.cons (h _ _ x) (t.imp h)
theorem P2.len:∀{l m},P2 F l m->l.length=m.length
 |_,_,.nil=>rfl
 |_,_,.cons _ t=>by rw[eG,eG,t.len]
theorem P2.append:∀{l m l' m'},P2 F l m->P2 F l' m'->P2 F (l++l') (m++m')
 |_,_,_,_,.nil,s=>s
 |_,_,_,_,.cons x t,s=>.cons x (t.append s)
theorem P2.get:∀{l m} {i:Nat} {a b},P2 F l m->l[i]? = ac a->m[i]? = ac b->F a b
 |_,_,_,_,_,.nil,e,_=>by simp at e
 |_,_,0,_,_,.cons x _,e,e'=>by simp at e e';subst e e';exact x
 |_,_,i+1,a,b,.cons _ t,e,e'=>t.get (i:=i) (by simpa using e) (by simpa using e')
theorem P2.getL{l m}{i:Nat}{a}(t:P2 F l m)(e:l[i]? = ac a):∃b,m[i]? = ac b/\F a b:=by
 have h:i<m.length:=by rw[<- t.len];exact(fe.mp e).1
 exact⟨m[i],by simp[h],t.get e (by simp[h])⟩
theorem P2.Tk{l m}{i:Nat}{b}(t:P2 F l m)(e:m[i]? = ac b):∃a,l[i]? = ac a/\F a b:=by
 have h:i<l.length:=by rw[t.len];exact(fe.mp e).1
 exact⟨l[i],by simp[h],t.get (by simp[h]) e⟩
theorem P2.take:∀{l m} (n:Nat),P2 F l m->P2 F (l.take n) (m.take n)
 |_,_,0,_=>.nil
 |_,_,_+1,.nil=>.nil
 |_,_,n+1,.cons x t=>.cons x (t.take n)
theorem P2.drop:∀{l m} (n:Nat),P2 F l m->P2 F (l.drop n) (m.drop n)
 |_,_,0,t=>t
 |_,_,_+1,.nil=>.nil
 |_,_,n+1,.cons _ t=>t.drop n
theorem P2.erase:∀{l m} (n:Nat),P2 F l m->P2 F (l.eraseIdx n) (m.eraseIdx n)
 |_,_,_,.nil=>.nil
 |_,_,0,.cons _ t=>t
 |_,_,n+1,.cons x t=>.cons x (t.erase n)
theorem P2.rev:∀{l m},P2 F l m->P2 F l.reverse m.reverse
 |_,_,.nil=>.nil
 |_,_,.cons x t=>by rw[y6,y6];exact t.rev.append (.cons x .nil)
theorem P2.dropLast:∀{l m},P2 F l m->P2 F l.dropLast m.dropLast
 |_,_,.nil=>.nil
 |_,_,.cons x .nil=>.nil
 |_,_,.cons x (.cons y t)=>.cons x (P2.dropLast (.cons y t))
end
def Lst(H:Hp)(a:ai)(xs:List V):Prop:=H a=ac (.lst xs)\/∃o,H a=ac (.frz o (.lst xs))
mutual
def Rep(H:Hp):D->V->Prop
 |.non,v=>v=.non
 |.bl b,v=>v=.bl b
 |.int i,v=>v=.int i
 |.str x,v=>v=.str x
 |.lst ds,v=>∃a xs,v=.ref a/\Lst H a xs/\bE H ds xs
 |.tup ds,v=>∃a xs,v=.ref a/\H a=ac (.tup xs)/\bE H ds xs
def bE(H:Hp):List D->List V->Prop
 |[],vs=>vs=[]
 |d::ds,vs=>∃v r,vs=v::r/\Rep H d v/\bE H ds r
end
theorem qE{H:Hp}:∀{ds:List D} {vs:List V},bE H ds vs↔P2 (Rep H) ds vs
 |[],vs=>by
  rw[bE];exact⟨λh=>by subst h;exact .nil,λh=>by cases h;rfl⟩
 |d::ds,vs=>by
  rw[bE];constructor
  ·rintro⟨v,r,rfl,p,q⟩;exact .cons p (qE.mp q)
  ·intro h;cases h with
   |cons p q=>exact⟨_,_,rfl,p,qE.mpr q⟩
@[simp] theorem JE {H:Hp} {v:V}:Rep H .non v↔v=.non:=by rw[Rep]
@[simp] theorem wU {H:Hp} {v:V} {b:Bool}:Rep H (.bl b) v↔v=.bl b:=by rw[Rep]
@[simp] theorem rO {H:Hp} {v:V} {b:Int}:Rep H (.int b) v↔v=.int b:=by rw[Rep]
@[simp] theorem nH {H:Hp} {v:V} {b:Str}:Rep H (.str b) v↔v=.str b:=by rw[Rep]
theorem lu{H:Hp}{v:V}{ds:List D}:Rep H (.lst ds) v↔∃a xs,v=.ref a/\Lst H a xs/\P2 (Rep H) ds xs:=by rw[Rep];exact⟨λ⟨a,xs,e,l,r⟩=>⟨a,xs,e,l,qE.mp r⟩,λ⟨a,xs,e,l,r⟩=>⟨a,xs,e,l,qE.mpr r⟩⟩
theorem j1{H:Hp}{v:V}{ds:List D}:Rep H (.tup ds) v↔∃a xs,v=.ref a/\H a=ac (.tup xs)/\P2 (Rep H) ds xs:=by rw[Rep];exact⟨λ⟨a,xs,e,l,r⟩=>⟨a,xs,e,l,qE.mp r⟩,λ⟨a,xs,e,l,r⟩=>⟨a,xs,e,l,qE.mpr r⟩⟩
theorem Lst.same{H H':Hp}{a:ai}{xs:List V}(s:dC H H')(h:Lst H a xs):Lst H' a xs:=by
 rcases h with h|⟨o,h⟩
 ·exact .inl (s _ _ h)
 ·exact .inr ⟨o,s _ _ h⟩
theorem Lst.sq{K:aO}{H:Hp}{a:ai}{xs:List V}(h:Lst H a xs):fW K H a xs:=.inl h
mutual
theorem oU{H H':Hp}(s:dC H H'):∀{d:D} {v:V},Rep H d v->Rep H' d v
 |.non,v,h=>by rw[Rep]at h ⊢;exact h
 |.bl b,v,h=>by rw[Rep]at h ⊢;exact h
 |.int i,v,h=>by rw[Rep]at h ⊢;exact h
 |.str x,v,h=>by rw[Rep]at h ⊢;exact h
 |.lst ds,v,h=>by
  rw[Rep]at h ⊢;obtain⟨a,xs,e,q,r⟩:=h;exact⟨a,xs,e,q.same s,AJ s r⟩
 |.tup ds,v,h=>by
  rw[Rep]at h ⊢;obtain⟨a,xs,e,q,r⟩:=h;exact⟨a,xs,e,s _ _ q,AJ s r⟩
theorem AJ{H H':Hp}(s:dC H H'):∀{ds:List D} {vs:List V},bE H ds vs->bE H' ds vs
 |[],vs,h=>by rw[bE]at h ⊢;exact h
 |d::ds,vs,h=>by
  rw[bE]at h ⊢;obtain⟨v,r,e,p,q⟩:=h;exact⟨v,r,e,oU s p,AJ s q⟩
end
theorem f9{H H':Hp}(s:dC H H'){ds:List D}{vs:List V}(h:P2 (Rep H) ds vs):P2 (Rep H') ds vs:=h.imp λ_ _=>oU s
mutual
theorem nK(K:aO){H:Hp}:∀{d:D} {v:V},Rep H d v->L2.Rep K H d v
 |.non,v,h=>by rw[Rep]at h;rw[L2.Rep];exact h
 |.bl b,v,h=>by rw[Rep]at h;rw[L2.Rep];exact h
 |.int i,v,h=>by rw[Rep]at h;rw[L2.Rep];exact h
 |.str x,v,h=>by rw[Rep]at h;rw[L2.Rep];exact h
 |.lst ds,v,h=>by
  rw[Rep]at h;rw[L2.Rep];obtain⟨a,xs,e,q,r⟩:=h;exact⟨a,xs,e,q.sq,yP K r⟩
 |.tup ds,v,h=>by
  rw[Rep]at h;rw[L2.Rep];obtain⟨a,xs,e,q,r⟩:=h;exact⟨a,xs,e,.inl (.inl q),yP K r⟩
theorem yP(K:aO){H:Hp}:∀{ds:List D} {vs:List V},bE H ds vs->L2.bE K H ds vs
 |[],vs,h=>by rw[bE]at h;rw[L2.bE];exact h
 |d::ds,vs,h=>by
  rw[bE]at h;rw[L2.bE];obtain⟨v,r,e,p,q⟩:=h;exact⟨v,r,e,nK K p,yP K q⟩
end
def NT:HO->Prop
 |.tbl _ _=>False
 |_=>True
def NW:HO->Prop
 |.tbl _ _=>False
 |.frz _ (.lst _)=>False
 |_=>True
theorem NW.nt:∀{o:HO},NW o->NT o:=λ{o} c=>by cases o<;>first|exact c.elim|trivial
structure Old(H H':Hp):Prop where
 nt:∀a o,H a=ac o->NT o->H' a=ac o
 dom:∀a,H' a=af->H a=af
 tb:∀a w ps,H a=ac (.tbl w ps)->∃ps',H' a=ac (.tbl w ps')
theorem Old.at{H H':Hp}(s:Old H H'){a:ai}{o:HO}(q:H a=ac o)(n:NT o:=by trivial):H' a=ac o:=s.nt a o q n
theorem Old.free{H H':Hp}(s:Old H H'){a:ai}(h:H' a=af):H a=af:=s.dom a h
theorem Old.refl(H:Hp):Old H H:=⟨λ_ _ e _=>e,λ_ e=>e,λ_ _ ps e=>⟨ps,e⟩⟩
theorem Old.trans{H H1 H2:Hp}(a:Old H H1)(b:Old H1 H2):Old H H2:=⟨λx o e n=>b.nt x o (a.nt x o e n) n,λx e=>a.dom x (b.dom x e),λx w ps e=>let ⟨p1,e1⟩:=a.tb x w ps e;b.tb x w p1 e1⟩
theorem Old.of{H H':Hp}(s:dC H H'):Old H H':=⟨λa o e _=>s a o e,λa e=>s.free e,λa w ps e=>⟨ps,s a _ e⟩⟩
theorem Old.tab{H H':Hp}(s:Old H H'){a:ai}{w:Str}{ps:Array aj}{o:HO}(q:H a=ac (.tbl w ps))(n:NT o):¬ H' a=ac o:=λe=>by
 obtain⟨p,z⟩:=s.tb a w ps q;rw[e]at z;cases z;exact n
theorem Old.put{H0 H:Hp}(s:Old H0 H){p:ai}{o u:HO}(h0:H0 p=af)(h:H p=ac u):Old H0 (upd H p o):=
 ⟨λa v e n=>by rw[aX (dX e h0)];exact s.nt a v e n,λa e=>by
  by_cases hp:a=p
  ·subst hp;exact h0
  ·rw[aX hp]at e;exact s.dom a e,λa w ps e=>by rw[aX (dX e h0)];exact s.tb a w ps e⟩
def jr(c:ai)(q:Str):aY->Prop:=λh=>∃o vs t,h.get? c=ac o/\o.data=.fields vs/\vs[1]? = ac (.str q t)
class cp where
 l:List (ai×Str)
 cl:String->ai
variable[Tb:cp]
structure jq(H:Hp):Prop where
 has:∀p∈Tb.l,∃ps,H p.1=ac (.tbl p.2 ps)
 cd:∀T q ps,H T=ac (.tbl q ps)->tL ps.toList/\∀pos v,codeAmong pos ps.toList=ac v->∃c,v=.ref c/\H c=ac (.ext (jr c q))
 fz:∀a o xs,H a=ac (.frz o (.lst xs))->∀x∈xs,∃i,x=V.int i
theorem jq.new{H:Hp}(k:jq H){p:ai}{o:HO}(h:H p=af)(n:NW o):jq (upd H p o):=⟨λr hr=>let ⟨ps,e⟩:=k.has r hr;⟨ps,by rw[aX (dX e h)];exact e⟩,λT q ps e=>by
 by_cases hp:T=p
 ·subst hp;rw[bS]at e;cases e;exact n.elim
 ·rw[aX hp]at e;obtain⟨t,r⟩:=k.cd T q ps e;refine⟨t,λpos v z=>?_⟩;obtain⟨c,e1,e2⟩:=r pos v z;exact⟨c,e1,by rw[aX (dX e2 h)];exact e2⟩,λa q xs e=>by
 by_cases hp:a=p
 ·subst hp;rw[bS]at e;cases e;exact n.elim
 ·rw[aX hp]at e;exact k.fz a q xs e⟩
def Cell:HO->Prop
 |.lst _=>True
 |.dK _=>True
 |.dT _=>True
 |.ext _=>True
 |_=>False
theorem Cell.nw:∀{o:HO},Cell o->NW o:=λ{o} c=>by cases o<;>first|exact c.elim|trivial
theorem Cell.nt:∀{o:HO},Cell o->NT o:=λ{o} c=>by cases o<;>first|exact c.elim|trivial
def uO:HO->Prop
 |.lst _=>True
 |.dK _=>True
 |.dT _=>True
 |_=>False
theorem uO.cell:∀{o:HO},uO o->Cell o:=λ{o} c=>by cases o<;>first|exact c.elim|trivial
theorem jq.put{H:Hp}(k:jq H){p:ai}{o u:HO}(h:H p=ac u)(c:uO u)(n:NW o):jq (upd H p o):=⟨λr hr=>let ⟨ps,e⟩:=k.has r hr;⟨ps,by rw[aX (λy=>by rw[y,h]at e;cases e;exact c.elim)];exact e⟩,λT q ps e=>by
 by_cases hp:T=p
 ·subst hp;rw[bS]at e;cases e;exact n.elim
 ·rw[aX hp]at e;obtain⟨t,r⟩:=k.cd T q ps e;refine⟨t,λpos v z=>?_⟩;obtain⟨x,e1,e2⟩:=r pos v z;refine⟨x,e1,?_⟩;rw[aX (λy=>by subst y;rw[h]at e2;cases e2;exact c.elim)];exact e2,λa q xs e=>by
 by_cases hp:a=p
 ·subst hp;rw[bS]at e;cases e;exact n.elim
 ·rw[aX hp]at e;exact k.fz a q xs e⟩
structure Vw(H Hv:Hp):Prop where
 sub:dC Hv H
 tup:∀a xs,H a=ac (.tup xs)->Hv a=ac (.tup xs)
 frz:∀a o u,H a=ac (.frz o u)->Hv a=ac (.frz o u)
 cd:jq H
 nv:∀a o,Hv a=ac o->NT o
structure bx(H Hv H' Hv':Hp):Prop where
 old:Old H H'
 vis:dC Hv Hv'
 vw:Vw H' Hv'
 hid:∀a o,H a=ac o->Hv a=af->Hv' a=af
theorem bx.refl{H Hv:Hp}(v:Vw H Hv):bx H Hv H Hv:=⟨Old.refl _,dC.refl _,v,λ_ _ _ e=>e⟩
theorem Old.some{H H':Hp}(s:Old H H'){a:ai}{o:HO}(q:H a=ac o):∃o',H' a=ac o':=by
 cases h:H' a with
 |none=>rw[s.dom a h]at q;cases q
 |some o'=>exact⟨o',rfl⟩
theorem bx.trans{H Hv H1 Hv1 H2 Hv2:Hp}(g:bx H Hv H1 Hv1)(k:bx H1 Hv1 H2 Hv2):bx H Hv H2 Hv2:=⟨g.old.trans k.old,g.vis.trans k.vis,k.vw,λa o e n=>let ⟨o',e'⟩:=g.old.some e;k.hid a o' e' (g.hid a o e n)⟩
theorem rK{H Hv:Hp}(v:Vw H Hv){p:ai}(h:H p=af):Hv p=af:=v.sub.free h
theorem bx.new{H Hv:Hp}(v:Vw H Hv){p:ai}{o:HO}(h:H p=af)(nt:NW o:=by trivial):bx H Hv (upd H p o) (upd Hv p o):=by
 refine⟨.of (yr h),yr (rK v h),⟨λb u e=>?_,λb xs e=>?_,λb q u e=>?_,v.cd.new h nt,λb u e=>?_⟩,λb u e n=>?_⟩
 ·by_cases hb:b=p
  ·subst hb;rw[bS]at e ⊢;exact e
  ·rw[aX hb]at e ⊢;exact v.sub b u e
 ·by_cases hb:b=p
  ·subst hb;rw[bS]at e ⊢;exact e
  ·rw[aX hb]at e ⊢;exact v.tup b xs e
 ·by_cases hb:b=p
  ·subst hb;rw[bS]at e ⊢;exact e
  ·rw[aX hb]at e ⊢;exact v.frz b q u e
 ·by_cases hb:b=p
  ·subst hb;rw[bS]at e;cases e;exact nt.nt
  ·rw[aX hb]at e;exact v.nv b u e
 ·rw[aX (dX e h)];exact n
theorem bx.um{H Hv:Hp}(v:Vw H Hv){p:ai}{o:HO}(c:Cell o)(h:H p=af):bx H Hv (upd H p o) Hv:=by
 refine⟨.of (yr h),dC.refl _,⟨λb u e=>?_,λb xs e=>?_,λb q u e=>?_,v.cd.new h c.nw,v.nv⟩,λb u e n=>n⟩
 ·rw[aX (dX (v.sub b u e) h)];exact v.sub b u e
 ·by_cases hb:b=p
  ·subst hb;rw[bS]at e;cases e;exact c.elim
  ·rw[aX hb]at e;exact v.tup b xs e
 ·by_cases hb:b=p
  ·subst hb;rw[bS]at e;cases e;exact c.elim
  ·rw[aX hb]at e;exact v.frz b q u e
theorem Vw.show{H Hv:Hp}(v:Vw H Hv){a:ai}{o:HO}(h:H a=ac o)(n:Hv a=af)(nt:NT o):Vw H (upd Hv a o)/\dC Hv (upd Hv a o):=by
 refine⟨⟨λb u e=>?_,λb xs e=>?_,λb q u e=>?_,v.cd,λb u e=>?_⟩,yr n⟩
 ·by_cases hb:b=a
  ·subst hb;rw[bS]at e;rw[h];exact e
  ·rw[aX hb]at e;exact v.sub b u e
 ·by_cases hb:b=a
  ·subst hb;rw[bS];rw[h]at e;exact e
  ·rw[aX hb];exact v.tup b xs e
 ·by_cases hb:b=a
  ·subst hb;rw[bS];rw[h]at e;exact e
  ·rw[aX hb];exact v.frz b q u e
 ·by_cases hb:b=a
  ·subst hb;rw[bS]at e;cases e;exact nt
  ·rw[aX hb]at e;exact v.nv b u e
theorem Lst.old{H H':Hp}{a:ai}{xs:List V}(s:Old H H')(h:Lst H a xs):Lst H' a xs:=by
 rcases h with h|⟨o,h⟩
 ·exact .inl (s.at h)
 ·exact .inr ⟨o,s.at h⟩
mutual
theorem Kg{H H':Hp}(t:∀a xs,H a=ac (.tup xs)->H' a=ac (.tup xs)):∀{d:D} {v:V},Mi.qw d=true->Rep H d v->Rep H' d v
 |.non,v,_,h=>by rw[Rep]at h ⊢;exact h
 |.bl b,v,_,h=>by rw[Rep]at h ⊢;exact h
 |.int i,v,_,h=>by rw[Rep]at h ⊢;exact h
 |.str x,v,_,h=>by rw[Rep]at h ⊢;exact h
 |.lst ds,v,z,h=>by rw[Mi.qw]at z;cases z
 |.tup ds,v,z,h=>by
  rw[Mi.qw]at z;rw[Rep]at h ⊢;obtain⟨a,xs,e,q,r⟩:=h;exact⟨a,xs,e,t _ _ q,Fl t z r⟩
theorem Fl{H H':Hp}(t:∀a xs,H a=ac (.tup xs)->H' a=ac (.tup xs)):∀{ds:List D} {vs:List V},Mi.x6 ds=true->bE H ds vs->bE H' ds vs
 |[],vs,_,h=>by rw[bE]at h ⊢;exact h
 |d::ds,vs,z,h=>by
  rw[Mi.x6,km]at z;rw[bE]at h ⊢;obtain⟨v,r,e,p,q⟩:=h;exact⟨v,r,e,Kg t z.1 p,Fl t z.2 q⟩
end
def ii{κ:Type}(H:Hp)(ay:List (κ×D))(kv:List (κ×V)):Prop:=P2 (λp q=>p.1=q.1/\Rep H p.2 q.2) ay kv
theorem ii.same{κ:Type}{H H':Hp}(s:dC H H'){ay:List (κ×D)}{kv:List (κ×V)}(h:ii H ay kv):ii H' ay kv:=P2.imp (λ_ _ z=>⟨z.1,oU s z.2⟩) h
def fK(Hv:Hp):W->HO->Prop
 |.d (.lst ds),.lst xs=>P2 (Rep Hv) ds xs
 |.dk ay,.dK kv=>ii Hv ay kv
 |.dt ay,.dT kv=>ii Hv ay kv
 |_,_=>False
theorem fK.same{H H':Hp}(s:dC H H'):∀{w:W} {o:HO},fK H w o->fK H' w o:=λ{w o} h=>by
 cases w with
 |d x=>
  cases x with
  | lst ds=>cases o with
   |lst xs=>exact f9 s h
   |_=>exact h.elim
  |_=>cases o<;>exact h.elim
 | dk ay=>cases o with
  |dK kv=>exact ii.same s h
  |_=>exact h.elim
 | dt ay=>cases o with
  |dT kv=>exact ii.same s h
  |_=>exact h.elim
 |df ay=>exact h.elim
 |ex c=>exact h.elim
 |fn c=>exact h.elim
theorem fK.GY{H:Hp}{w:W}{o:HO}(h:fK H w o):uO o:=by
 cases w with
 |d x=>
  cases x with
  | lst ds=>cases o with
   |lst xs=>trivial
   |_=>exact h.elim
  |_=>cases o<;>exact h.elim
 | dk ay=>cases o with
  |dK kv=>trivial
  |_=>exact h.elim
 | dt ay=>cases o with
  |dT kv=>trivial
  |_=>exact h.elim
 |df ay=>exact h.elim
 |ex c=>exact h.elim
 |fn c=>exact h.elim
theorem fK.cell{H:Hp}{w:W}{o:HO}(h:fK H w o):Cell o:=h.GY.cell
theorem fK.nw{H:Hp}{w:W}{o:HO}(h:fK H w o):NW o:=h.cell.nw
theorem fK.nt{H:Hp}{w:W}{o:HO}(h:fK H w o):NT o:=h.cell.nt
def j4(a C:ai):aY->Prop:=λh=>∃o,h.get? a=ac o/\o.cls=.ref C/\o.dict=af/\∃vs,o.data=.fields vs
def gX(H:Hp):W->V->Prop
 |.d x,v=>Rep H x v
 |.dk ay,v=>∃a kv,v=.ref a/\H a=ac (.dK kv)/\ii H ay kv
 |.dt ay,v=>∃a kv,v=.ref a/\H a=ac (.dT kv)/\ii H ay kv
 |.df ay,v=>∃a ob kv,v=.ref a/\H a=ac (.frz ob (.dT kv))/\ii H ay kv
 |.ex c,v=>∃a,v=.ref a/\H a=ac (.ext (j4 a (Tb.cl c)))
 |.fn a,v=>v=.ref a
theorem qm{H H':Hp}(s:dC H H'):∀{w:W} {v:V},gX H w v->gX H' w v
 |.d x,v,h=>oU (d:=x) s h
 |.dk ay,v,⟨a,kv,e,q,r⟩=>⟨a,kv,e,s _ _ q,r.same s⟩
 |.dt ay,v,⟨a,kv,e,q,r⟩=>⟨a,kv,e,s _ _ q,r.same s⟩
 |.df ay,v,⟨a,ob,kv,e,q,r⟩=>⟨a,ob,kv,e,s _ _ q,r.same s⟩
 |.ex c,v,⟨a,e,q⟩=>⟨a,e,s _ _ q⟩
 |.fn a,v,h=>h
theorem xE{H:Hp}{w:W}{a:ai}{o:HO}(h:H a=ac o)(c:fK H w o):gX H w (.ref a):=by
 cases w with
 |d x=>
  cases x with
  | lst ds=>cases o with
   |lst xs=>exact lu.mpr ⟨a,xs,rfl,.inl h,c⟩
   |_=>exact c.elim
  |_=>cases o<;>exact c.elim
 | dk ay=>cases o with
  |dK kv=>exact⟨a,kv,rfl,h,c⟩
  |_=>exact c.elim
 | dt ay=>cases o with
  |dT kv=>exact⟨a,kv,rfl,h,c⟩
  |_=>exact c.elim
 |df ay=>exact c.elim
 |ex z=>exact c.elim
 |fn z=>exact c.elim
def Own(H Hv:Hp)(w:W)(v:V):Prop:=∃a o,v=.ref a/\H a=ac o/\Hv a=af/\fK Hv w o
def RB(H Hv:Hp)(w:W)(v:V):Prop:=gX Hv w v\/∃a o,v=.ref a/\H a=ac o/\fK Hv w o
theorem RB.grow{H Hv H' Hv':Hp}(g:bx H Hv H' Hv'){w:W}{v:V}(h:RB H Hv w v):RB H' Hv' w v:=by
 rcases h with h|⟨a,o,e,q,c⟩
 ·exact .inl (qm g.vis h)
 ·exact .inr ⟨a,o,e,g.old.at q c.nt,c.same g.vis⟩
theorem Own.grow{H Hv H' Hv':Hp}(g:bx H Hv H' Hv'){w:W}{v:V}(h:Own H Hv w v):Own H' Hv' w v:=by obtain⟨a,o,e,q,n,c⟩:=h;exact⟨a,o,e,g.old.at q c.nt,g.hid _ _ q n,c.same g.vis⟩
theorem RB.full{H Hv:Hp}(v:Vw H Hv){w:W}{x:V}(h:RB H Hv w x):gX H w x:=by
 rcases h with h|⟨a,o,rfl,q,c⟩
 ·exact qm v.sub h
 ·exact xE q (c.same v.sub)
abbrev RD(H Hv:Hp)(d:D)(v:V):Prop:=RB H Hv (.d d) v
theorem RD.rW{H Hv:Hp}{d:D}{v:V}(h:RD H Hv d v)(n:∀ds,d≠.lst ds):Rep Hv d v:=by
 rcases h with h|⟨a,o,e,q,c⟩
 ·exact h
 ·cases d with
  |lst ds=>exact absurd rfl (n ds)
  |_=>cases o<;>exact c.elim
theorem RD.lst{H Hv:Hp}(w:Vw H Hv){ds:List D}{v:V}(h:RD H Hv (.lst ds) v):∃a xs,v=.ref a/\Lst H a xs/\P2 (Rep Hv) ds xs:=by
 rcases h with h|⟨a,o,e,q,c⟩
 ·obtain⟨a,xs,e,l,r⟩:=lu.mp h;exact⟨a,xs,e,l.same w.sub,r⟩
 ·cases o with
  |lst xs=>exact⟨a,xs,e,.inl q,c⟩
  |_=>exact c.elim
theorem RD.tup{H Hv:Hp}(w:Vw H Hv){ds:List D}{v:V}(h:RD H Hv (.tup ds) v):∃a xs,v=.ref a/\H a=ac (.tup xs)/\Hv a=ac (.tup xs)/\P2 (Rep Hv) ds xs:=by obtain⟨a,xs,e,l,r⟩:=j1.mp (h.rW λ_ z=>by cases z);exact⟨a,xs,e,w.sub _ _ l,l,r⟩
theorem RD.int{H Hv:Hp}{i:Int}{v:V}(h:RD H Hv (.int i) v):v=.int i:=rO.mp (h.rW λ_ z=>by cases z)
theorem RD.str{H Hv:Hp}{i:Str}{v:V}(h:RD H Hv (.str i) v):v=.str i:=nH.mp (h.rW λ_ z=>by cases z)
theorem RD.bl{H Hv:Hp}{i:Bool}{v:V}(h:RD H Hv (.bl i) v):v=.bl i:=wU.mp (h.rW λ_ z=>by cases z)
theorem RD.non{H Hv:Hp}{v:V}(h:RD H Hv .non v):v=.non:=JE.mp (h.rW λ_ z=>by cases z)
theorem RD.full{H Hv:Hp}(v:Vw H Hv){d:D}{x:V}(h:RD H Hv d x):Rep H d x:=RB.full v h
abbrev Kd:=Hp->Hp->Hp->W->V->Prop
def qP:Kd:=λ_ H' Hv' w v=>RB H' Hv' w v
def qV:Kd:=λ_ _ Hv' w v=>gX Hv' w v
def qN:Kd:=λH H' Hv' w v=>∃a o,v=.ref a/\H a=af/\H' a=ac o/\Hv' a=af/\fK Hv' w o
theorem iV{H H' Hv':Hp}{i:Int}:qV H H' Hv' (.d (.int i)) (.int i):=(rO (H:=Hv')).mpr rfl
theorem ut{H H' Hv':Hp}{i:Str}:qV H H' Hv' (.d (.str i)) (.str i):=(nH (H:=Hv')).mpr rfl
theorem f7{H H' Hv':Hp}{i:Bool}:qV H H' Hv' (.d (.bl i)) (.bl i):=(wU (H:=Hv')).mpr rfl
theorem u0{H H' Hv':Hp}:qV H H' Hv' (.d .non) .non:=(JE (H:=Hv')).mpr rfl
class KM (κ:Kd):Prop where
 mono:∀{H H1 H' Hv' w v},Old H H1->κ H1 H' Hv' w v->κ H H' Hv' w v
instance:KM qP:=⟨λ_ h=>h⟩
instance:KM qV:=⟨λ_ h=>h⟩
instance:KM qN:=⟨λs ⟨a,o,e,n,r⟩=>⟨a,o,e,s.free n,r⟩⟩
structure R0(M:Nat->Bool)(e:Mi.Env)(σ:L2.St)(H Hv:Hp):Prop where
 vw:Vw H Hv
 len:σ.length=e.length
 nob:∀i w,e[i]? = ac (ac w)->M i=false->∃v,σ[i]? = ac (ac v)/\gX Hv w v
 own:∀i w,e[i]? = ac (ac w)->M i=true->∃v,σ[i]? = ac (ac v)/\Own H Hv w v
theorem R0.grow{M:Nat->Bool}{e:Mi.Env}{σ:L2.St}{H Hv H' Hv':Hp}(r:R0 M e σ H Hv)(g:bx H Hv H' Hv'):R0 M e σ H' Hv':=⟨g.vw,r.len,λi w h m=>let ⟨v,q,z⟩:=r.nob i w h m;⟨v,q,qm g.vis z⟩,λi w h m=>let ⟨v,q,z⟩:=r.own i w h m;⟨v,q,z.grow g⟩⟩
structure R1(M:Nat->Bool)(H0 Hv0:Hp)(e:Mi.Env)(σ:L2.St)(H Hv:Hp):Prop extends R0 M e σ H Hv where
 gw:bx H0 Hv0 H Hv
 fresh:∀i w a,e[i]? = ac (ac w)->M i=true->σ[i]? = ac (ac (.ref a))->H0 a=af
 sep:∀i j w w' a b,i≠j->e[i]? = ac (ac w)->e[j]? = ac (ac w')->M i=true->M j=true->σ[i]? = ac (ac (.ref a))->σ[j]? = ac (ac (.ref b))->a≠b
theorem R1.grow{M:Nat->Bool}{H0 Hv0:Hp}{e:Mi.Env}{σ:L2.St}{H Hv H' Hv':Hp}(r:R1 M H0 Hv0 e σ H Hv)(g:bx H Hv H' Hv'):R1 M H0 Hv0 e σ H' Hv':=⟨r.toR0.grow g,r.gw.trans g,r.fresh,r.sep⟩
end A
namespace A
open PySem L2 PyProof.Rows
open Mi (D W Rs Fin aD)
variable[Tb:cp]
abbrev sV:=Mi.Env
class KG (κ:Kd):Prop where
 go:∀{H H1 Hv1 H2 Hv2 w v},bx H1 Hv1 H2 Hv2->κ H H1 Hv1 w v->κ H H2 Hv2 w v
instance:KG qP:=⟨λg h=>h.grow g⟩
instance:KG qV:=⟨λg h=>qm g.vis h⟩
instance:KG qN:=⟨λg ⟨a,o,e,n,q,z,c⟩=>⟨a,o,e,n,g.old.at q c.nt,g.hid _ _ q z,c.same g.vis⟩⟩
def AW(M:Nat->Bool)(κ:Kd)(t:TE)(m:Mi.EW):Prop:=∀e σ H Hv Q,R0 M e σ H Hv->Fin (m e) (λw=>∀v H' Hv',bx H Hv H' Hv'->κ H H' Hv' w v->Q v H')->t σ H Q
def AE(M:Nat->Bool)(κ:Kd)(t:TE)(m:Mi.E):Prop:=∀e σ H Hv Q,R0 M e σ H Hv->Fin (m e) (λd=>∀v H' Hv',bx H Hv H' Hv'->κ H H' Hv' (.d d) v->Q v H')->t σ H Q
def AT(M:Nat->Bool)(t:TT)(m:Mi.C):Prop:=∀e σ H Hv Q,R0 M e σ H Hv->Fin (m e) (λb=>∀H' Hv',bx H Hv H' Hv'->Q b H')->t σ H Q
def AA(M:Nat->Bool)(κ:Kd)(t:TA)(m:sV->Rs (List D)):Prop:=∀e σ H Hv Q,R0 M e σ H Hv->Fin (m e) (λds=>∀vs H' Hv',bx H Hv H' Hv'->P2 (λd v=>κ H H' Hv' (.d d) v) ds vs->Q vs H')->t σ H Q
def AAW(M:Nat->Bool)(κ:Kd)(t:TA)(m:sV->Rs (List W)):Prop:=∀e σ H Hv Q,R0 M e σ H Hv->Fin (m e) (λws=>∀vs H' Hv',bx H Hv H' Hv'->P2 (λw v=>κ H H' Hv' w v) ws vs->Q vs H')->t σ H Q
def AO(M:Nat->Bool)(t:TO)(m:sV->Rs (Option Int)):Prop:=∀e σ H Hv Q,R0 M e σ H Hv->Fin (m e) (λo=>∀H' Hv',bx H Hv H' Hv'->Q o H')->t σ H Q
section
variable{M:Nat->Bool}{κ:Kd}{t ta tb tc te:TE}{a b c:Mi.E}{r r':R2}{f g:D->D->Rs D}
theorem AE.w(h:AE M κ t a):AW M κ t (Mi.wD a):=λe σ H Hv Q I q=>h e σ H Hv Q I ((aD.mp q).mono λd z=>z)
theorem HY{H H' Hv':Hp}{w:W}{v:V}(h:qV H H' Hv' w v):qP H H' Hv' w v:=.inl h
theorem SY{H H' Hv':Hp}{w:W}{v:V}(h:qN H H' Hv' w v):qP H H' Hv' w v:=by obtain⟨a,o,e,_,q,_,c⟩:=h;exact .inr ⟨a,o,e,q,c⟩
theorem ID{H Hv H' Hv':Hp}(g:bx H Hv H' Hv'){w:W}{v:V}(h:qN H H' Hv' w v):∃tX,bx H Hv H' tX/\gX tX w v:=by obtain⟨a,o,rfl,n,q,z,c⟩:=h;obtain⟨vw,s⟩:=g.vw.show q z c.nt;refine⟨upd Hv' a o,⟨g.old,g.vis.trans s,vw,λb u e m=>?_⟩,xE bS (c.same s)⟩;rw[aX (dX e n)];exact g.hid b u e m
theorem AW.p(h:AW M qV t m):AW M qP t m:=λe σ H Hv Q I q=>h e σ H Hv Q I (q.mono λw z v H' Hv' g k=>z v H' Hv' g (HY k))
theorem AW.nv(h:AW M qN t m):AW M qV t m:=λe σ H Hv Q I q=>h e σ H Hv Q I (q.mono λw z v H' Hv' g k=>let ⟨tX,g',r⟩:=ID g k;z v H' tX g' r)
theorem AE.p(h:AE M qV t a):AE M qP t a:=λe σ H Hv Q I q=>h e σ H Hv Q I (q.mono λw z v H' Hv' g k=>z v H' Hv' g (HY k))
theorem AE.np(h:AE M qN t a):AE M qP t a:=λe σ H Hv Q I q=>h e σ H Hv Q I (q.mono λw z v H' Hv' g k=>z v H' Hv' g (SY k))
theorem AE.nv(h:AE M qN t a):AE M qV t a:=λe σ H Hv Q I q=>h e σ H Hv Q I (q.mono λw z v H' Hv' g k=>let ⟨tX,g',r⟩:=ID g k;z v H' tX g' r)
theorem aC{i:Int}:AE M qV (tC (.int i)) (Mi.mC (.int i)):=λe σ H Hv Q I h=>h _ H Hv (.refl I.vw) iV
theorem l7{i:Str}:AE M qV (tC (.str i)) (Mi.mC (.str i)):=λe σ H Hv Q I h=>h _ H Hv (.refl I.vw) ut
theorem iJ{i:Bool}:AE M qV (tC (.bl i)) (Mi.mC (.bl i)):=λe σ H Hv Q I h=>h _ H Hv (.refl I.vw) f7
theorem B7:AE M qV (tC .non) (Mi.mC .non):=λe σ H Hv Q I h=>h _ H Hv (.refl I.vw) u0
theorem ET{e:sV}{i:Nat}{k:D->Prop}(h:Fin (Mi.mV i e) k):∃d,e[i]? = ac (ac (.d d))/\k d:=by
 unfold Mi.mV at h;split at h
 ·exact⟨_,‹_›,h⟩
 ·exact h.elim
theorem sG{e:sV}{i:Nat}{k:W->Prop}(h:Fin (Mi.wV i e) k):∃w,e[i]? = ac (ac w)/\k w:=by
 unfold Mi.wV at h;split at h
 ·exact⟨_,‹_›,h⟩
 ·exact h.elim
theorem Ir(i:Nat)(hm:M i=false):AE M qV (fQ i) (Mi.mV i):=λe σ H Hv Q I h=>by
 obtain⟨d,he,k⟩:=ET h;obtain⟨v,q,z⟩:=I.nob i _ he hm;exact⟨v,q,k v H Hv (.refl I.vw) z⟩
theorem O1{H Hv:Hp}{w:W}{v:V}(h:Own H Hv w v):RB H Hv w v:=by obtain⟨a,o,e,q,_,c⟩:=h;exact .inr ⟨a,o,e,q,c⟩
theorem R0.any{e:sV}{σ:L2.St}{H Hv:Hp}(I:R0 M e σ H Hv){i:Nat}{w:W}(he:e[i]? = ac (ac w)):∃v,σ[i]? = ac (ac v)/\RB H Hv w v:=by
 cases hm:M i with
 |false=>
  obtain⟨v,q,z⟩:=I.nob i w he hm;exact⟨v,q,.inl z⟩
 |true=>
  obtain⟨v,q,z⟩:=I.own i w he hm;exact⟨v,q,O1 z⟩
theorem ao(i:Nat):AE M qP (fQ i) (Mi.mV i):=λe σ H Hv Q I h=>by
 obtain⟨d,he,k⟩:=ET h;obtain⟨v,q,z⟩:=I.any he;exact⟨v,q,k v H Hv (.refl I.vw) z⟩
theorem Pr(i:Nat)(hm:M i=false):AW M qV (fQ i) (Mi.wV i):=λe σ H Hv Q I h=>by
 obtain⟨d,he,k⟩:=sG h;obtain⟨v,q,z⟩:=I.nob i _ he hm;exact⟨v,q,k v H Hv (.refl I.vw) z⟩
def B2(κ:Kd)(r:R2)(f:D->D->Rs D):Prop:=∀x y v u H Hv Q,Vw H Hv->RD H Hv x v->RD H Hv y u->Fin (f x y) (λd=>∀w H' Hv',bx H Hv H' Hv'->κ H H' Hv' (.d d) w->Q w H')->r v u H Q
def B1(κ:Kd)(r:V->Hp->VK->Prop)(f:D->Rs D):Prop:=∀x v H Hv Q,Vw H Hv->RD H Hv x v->Fin (f x) (λd=>∀w H' Hv',bx H Hv H' Hv'->κ H H' Hv' (.d d) w->Q w H')->r v H Q
def BN(κ:Kd)(r:List V->Hp->VK->Prop)(f:List D->Rs D):Prop:=∀ds vs H Hv Q,Vw H Hv->P2 (RD H Hv) ds vs->Fin (f ds) (λd=>∀w H' Hv',bx H Hv H' Hv'->κ H H' Hv' (.d d) w->Q w H')->r vs H Q
theorem aq[KM κ](hr:B2 κ r f)(ha:AE M qP ta a)(hb:AE M qP tb b):AE M κ (oD r ta tb) (Mi.m2 f a b):=λe σ H Hv Q I h=>
 ha e σ H Hv _ I ((aD.mp h).mono λx hx v H1 Hv1 g1 rx=>hb e σ H1 Hv1 _ (I.grow g1) ((aD.mp hx).mono λy hy u H2 Hv2 g2 ry=>
  hr x y v u H2 Hv2 Q g2.vw (RB.grow g2 rx) ry (hy.mono λd hd w H3 Hv3 g3 rw=>hd w H3 Hv3 (g1.trans (g2.trans g3)) (KM.mono (g1.old.trans g2.old) rw))))
theorem vn[KM κ]{r:V->Hp->VK->Prop}{f:D->Rs D}(hr:B1 κ r f)(ha:AE M qP ta a):AE M κ (Kq r ta) (Mi.m1 f a):=λe σ H Hv Q I h=>
 ha e σ H Hv _ I ((aD.mp h).mono λx hx v H1 Hv1 g1 rx=>hr x v H1 Hv1 Q g1.vw rx (hx.mono λd hd w H3 Hv3 g3 rw=>hd w H3 Hv3 (g1.trans g3) (KM.mono g1.old rw)))
theorem xW{x:D}{k:Bool->Prop}(h:Fin (Mi.oR x) k):∃b,x=.bl b/\k b:=by
 cases x with
 |bl b=>exact⟨b,rfl,h⟩
 |_=>exact h.elim
theorem vk{x:D}{k:Int->Prop}(h:Fin (Mi.qt x) k):∃b,x=.int b/\k b:=by
 cases x with
 |int b=>exact⟨b,rfl,h⟩
 |_=>exact h.elim
theorem qH(ha:AE M qP ta a)(hb:AE M qV tb b):AE M qV (JH ta tb) (Mi.ie a b):=λe σ H Hv Q I h=>
 ha e σ H Hv _ I ((aD.mp h).mono λx hx v H1 Hv1 g1 rx=>by
  obtain⟨k,rfl,hk⟩:=xW (aD.mp hx);cases RD.bl rx;refine⟨k,rfl,?_⟩;cases k with
  |true=>exact mJ (hb e σ H1 Hv1 Q (I.grow g1) (Fin.mono (Mi.lZ hk) λd hd w H2 Hv2 g2 rw=>hd w H2 Hv2 (g1.trans g2) rw))
  |false=>exact mO ((Mi.mi (Mi.oV hk)) _ H1 Hv1 g1 f7))
theorem Ki(ha:AE M qP ta a)(hb:AE M qV tb b):AE M qV (Fg ta tb) (Mi.oZ a b):=λe σ H Hv Q I h=>
 ha e σ H Hv _ I ((aD.mp h).mono λx hx v H1 Hv1 g1 rx=>by
  obtain⟨k,rfl,hk⟩:=xW (aD.mp hx);cases RD.bl rx;refine⟨k,rfl,?_⟩;cases k with
  |false=>exact mO (hb e σ H1 Hv1 Q (I.grow g1) (Fin.mono (Mi.oV hk) λd hd w H2 Hv2 g2 rw=>hd w H2 Hv2 (g1.trans g2) rw))
  |true=>exact mJ ((Mi.mi (Mi.lZ hk)) _ H1 Hv1 g1 f7))
theorem QM(ha:AE M qP ta a):AE M qV (IB ta) (Mi.Bx a):=λe σ H Hv Q I h=>
 ha e σ H Hv _ I ((aD.mp h).mono λx hx v H1 Hv1 g1 rx=>by
  obtain⟨k,rfl,hk⟩:=xW (aD.mp hx);cases RD.bl rx;exact⟨k,rfl,hk _ H1 Hv1 g1 f7⟩)
theorem Am[KM κ]{tt:TT}{k:Mi.C}(hc:AT M tt k)(ha:AE M κ ta a)(hb:AE M κ tb b):AE M κ (F0 tt ta tb) (Mi.qg k a b):=λe σ H Hv Q I h=>
 hc e σ H Hv _ I ((aD.mp h).mono λx hx H1 Hv1 g1=>by
  cases x with
  |true=>exact mJ (ha e σ H1 Hv1 Q (I.grow g1) (Fin.mono (Mi.lZ hx) λd hd w H2 Hv2 g2 rw=>hd w H2 Hv2 (g1.trans g2) (KM.mono g1.old rw)))
  |false=>exact mO (hb e σ H1 Hv1 Q (I.grow g1) (Fin.mono (Mi.oV hx) λd hd w H2 Hv2 g2 rw=>hd w H2 Hv2 (g1.trans g2) (KM.mono g1.old rw))))
theorem fU:AO M EF (Mi.jT af):=λe σ H Hv Q I h=>h H Hv (.refl I.vw)
theorem fT(ha:AE M qP ta a):AO M (JO ta) (Mi.jT (ac a)):=λe σ H Hv Q I h=>
 ha e σ H Hv _ I ((aD.mp h).mono λx hx v H1 Hv1 g1 rx=>by
  obtain⟨i,rfl,hk⟩:=vk (aD.mp hx);exact⟨i,RD.int rx,hk H1 Hv1 g1⟩)
def BS(κ:Kd)(r:V->Option Int->Option Int->Hp->VK->Prop)(f:D->Option Int->Option Int->Rs D):Prop:=∀x lo hi v H Hv Q,Vw H Hv->RD H Hv x v->Fin (f x lo hi) (λd=>∀w H' Hv',bx H Hv H' Hv'->κ H H' Hv' (.d d) w->Q w H')->r v lo hi H Q
theorem fO[KM κ]{r:V->Option Int->Option Int->Hp->VK->Prop}{tl th:TO}{lo hi:Option Mi.E}{f:D->Option Int->Option Int->Rs D}(hr:BS κ r f)(ha:AE M qP ta a)(hl:AO M tl (Mi.jT lo))(hh:AO M th (Mi.jT hi)):AE M κ (Gq r ta tl th) (Mi.bV f a lo hi):=λe σ H Hv Q I h=>
 ha e σ H Hv _ I ((aD.mp h).mono λx hx v H1 Hv1 g1 rx=>hl e σ H1 Hv1 _ (I.grow g1) ((aD.mp hx).mono λl hl H2 Hv2 g2=>hh e σ H2 Hv2 _ (I.grow (g1.trans g2)) ((aD.mp hl).mono λu hu H3 Hv3 g3=>
  hr x l u v H3 Hv3 Q g3.vw (RB.grow (g2.trans g3) rx) (hu.mono λd hd w H4 Hv4 g4 rw=>hd w H4 Hv4 (g1.trans (g2.trans (g3.trans g4))) (KM.mono (g1.old.trans (g2.old.trans g3.old)) rw)))))
theorem f8(ha:AE M qP ta a):AT M (tB ta) (Mi.cB a):=λe σ H Hv Q I h=>
 ha e σ H Hv _ I ((aD.mp h).mono λx hx v H1 Hv1 g1 rx=>by
  obtain⟨k,rfl,hk⟩:=xW hx;exact⟨k,RD.bl rx,hk H1 Hv1 g1⟩)
theorem bN(ha:AE M qP ta a):AT M (Ih ta) (Mi.cB a):=f8 ha
theorem sL{K:aO}(ha:AE M qP ta a):AT M (λσ H Q=>ta σ H λx H'=>∃k,A8 K x H' k/\Q k H') (Mi.iY a):=λe σ H Hv Q I h=>
 ha e σ H Hv _ I ((aD.mp h).mono λx hx v H1 Hv1 g1 rx=>by
  cases x with
  |non=>cases RD.non rx;exact⟨false,rfl,hx H1 Hv1 g1⟩
  |bl b=>cases RD.bl rx;exact⟨b,rfl,hx H1 Hv1 g1⟩
  |int i=>cases RD.int rx;exact⟨_,rfl,hx H1 Hv1 g1⟩
  |str y=>
   cases RD.str rx;obtain⟨hz,hq⟩:=Mi.cR hx;exact⟨_,⟨by rw[er];exact hz,rfl⟩,hq H1 Hv1 g1⟩
  |lst ds=>
   obtain⟨p,xs,rfl,l,r⟩:=RD.lst g1.vw rx;refine⟨!xs.isEmpty,.inl ⟨xs,l.sq,rfl⟩,?_⟩;have:ds.isEmpty=xs.isEmpty:=by cases r<;>rfl
   rw[<- this];exact hx H1 Hv1 g1
  |tup ds=>
   obtain⟨p,xs,rfl,l,_,r⟩:=RD.tup g1.vw rx;refine⟨!xs.isEmpty,.inr (.inl ⟨xs,.inl (.inl l),rfl⟩),?_⟩;have:ds.isEmpty=xs.isEmpty:=by cases r<;>rfl
   rw[<- this];exact hx H1 Hv1 g1)
variable{tt uu:TT}{k l:Mi.C}
theorem kJ(ha:AT M tt k)(hb:AT M uu l):AT M (HC tt uu) (Mi.cJ k l):=λe σ H Hv Q I h=>
 ha e σ H Hv _ I ((aD.mp h).mono λx hx H1 Hv1 g1=>by
  cases x with
  |true=>exact mJ (hb e σ H1 Hv1 Q (I.grow g1) (Fin.mono (Mi.lZ hx) λb hd H2 Hv2 g2=>hd H2 Hv2 (g1.trans g2)))
  |false=>exact mO ((Mi.mi (Mi.oV hx)) H1 Hv1 g1))
theorem jY(ha:AT M tt k)(hb:AT M uu l):AT M (Gb tt uu) (Mi.dY k l):=λe σ H Hv Q I h=>
 ha e σ H Hv _ I ((aD.mp h).mono λx hx H1 Hv1 g1=>by
  cases x with
  |false=>exact mO (hb e σ H1 Hv1 Q (I.grow g1) (Fin.mono (Mi.oV hx) λb hd H2 Hv2 g2=>hd H2 Hv2 (g1.trans g2)))
  |true=>exact mJ ((Mi.mi (Mi.lZ hx)) H1 Hv1 g1))
theorem iU(ha:AT M tt k):AT M (HN tt) (Mi.dw k):=λe σ H Hv Q I h=>
 ha e σ H Hv _ I ((aD.mp h).mono λx hx H1 Hv1 g1=>hx H1 Hv1 g1)
theorem li:AT M Gh Mi.eK:=λe σ H Hv Q I h=>h H Hv (.refl I.vw)
variable{tr:TA}{as:List Mi.E}{ws:List Mi.EW}
theorem aZ:AA M κ ib (Mi.eX []):=λe σ H Hv Q I h=>h [] H Hv (.refl I.vw) .nil
theorem aF[KM κ][KG κ](ha:AE M κ ta a)(hr:AA M κ tr (Mi.eX as)):AA M κ (gm ta tr) (Mi.eX (a::as)):=λe σ H Hv Q I h=>
 ha e σ H Hv _ I ((aD.mp h).mono λx hx v H1 Hv1 g1 rx=>hr e σ H1 Hv1 _ (I.grow g1) ((aD.mp hx).mono λxs hs vs H2 Hv2 g2 rs=>
  hs (v::vs) H2 Hv2 (g1.trans g2) (.cons (KG.go g2 rx) (rs.imp λ_ _ z=>KM.mono g1.old z))))
theorem bv:AAW M κ ib (Mi.cG []):=λe σ H Hv Q I h=>h [] H Hv (.refl I.vw) .nil
theorem aH[KM κ][KG κ]{w:Mi.EW}(ha:AW M κ ta w)(hr:AAW M κ tr (Mi.cG ws)):AAW M κ (gm ta tr) (Mi.cG (w::ws)):=λe σ H Hv Q I h=>
 ha e σ H Hv _ I ((aD.mp h).mono λx hx v H1 Hv1 g1 rx=>hr e σ H1 Hv1 _ (I.grow g1) ((aD.mp hx).mono λxs hs vs H2 Hv2 g2 rs=>
  hs (v::vs) H2 Hv2 (g1.trans g2) (.cons (KG.go g2 rx) (rs.imp λ_ _ z=>KM.mono g1.old z))))
theorem cD[KM κ]{r:List V->Hp->VK->Prop}{f:List D->Rs D}(hr:BN κ r f)(ha:AA M qP tr (Mi.eX as)):AE M κ (sv r tr) (Mi.mN f as):=λe σ H Hv Q I h=>
 ha e σ H Hv _ I ((aD.mp h).mono λds hx vs H1 Hv1 g1 rx=>hr ds vs H1 Hv1 Q g1.vw rx (hx.mono λd hd w H3 Hv3 g3 rw=>hd w H3 Hv3 (g1.trans g3) (KM.mono g1.old rw)))
theorem eM(ha:AA M qV tr (Mi.eX as)):AE M qV (xq tr) (Mi.mN Mi.dTup as):=λe σ H Hv Q I h=>
 ha e σ H Hv _ I ((aD.mp h).mono λds hx vs H1 Hv1 g1 rx=>by
  obtain⟨hz,hq⟩:=Mi.cR hx;refine⟨by rw[<- rx.len,er];exact hz,λp hp=>?_⟩;have g2:bx H1 Hv1 (upd H1 p (.tup vs)) (upd Hv1 p (.tup vs)):=.new g1.vw hp;exact hq _ _ _ (g1.trans g2) (j1.mpr ⟨p,vs,rfl,bS,f9 g2.vis rx⟩))
theorem eA(ha:AA M qV tr (Mi.eX as)):AE M qN (I0 tr) (Mi.mN Mi.b9 as):=λe σ H Hv Q I h=>
 ha e σ H Hv _ I ((aD.mp h).mono λds hx vs H1 Hv1 g1 rx=>by
  obtain⟨hz,hq⟩:=Mi.cR hx;refine⟨by rw[<- rx.len,er];exact hz,λp hp=>?_⟩;have g2:bx H1 Hv1 (upd H1 p (.lst vs)) Hv1:=.um g1.vw trivial hp;exact hq _ _ _ (g1.trans g2) ⟨p,.lst vs,rfl,g1.old.free hp,bS,rK g1.vw hp,rx⟩)
def bW(f:Mi.Fn):Sp:=λvs H Q _=>∃Hv ws,Vw H Hv/\P2 (gX Hv) ws vs/\Fin (f ws) (λw=>∀v H' Hv',bx H Hv H' Hv'->qV H H' Hv' w v->Q v H')
def cI(f:Mi.Fn):Sp:=λvs H Q _=>∃Hv ws,Vw H Hv/\P2 (gX Hv) ws vs/\Fin (f ws) (λw=>∀v H' Hv',bx H Hv H' Hv'->qN H H' Hv' w v->Q v H')
variable{fn:Mi.Fn}{E:XK}
theorem Ts(ha:AAW M qV tr (Mi.cG ws)):AW M qV (lm (bW fn) [] E tr) (Mi.lj fn ws):=λe σ H Hv Q I h=>
 ha e σ H Hv _ I ((aD.mp h).mono λds hx vs H1 Hv1 g1 rx=>by
  rw[i8];exact⟨Hv1,ds,g1.vw,rx,hx.mono λd hd w H3 Hv3 g3 rw=>hd w H3 Hv3 (g1.trans g3) rw⟩)
theorem Ps(ha:AAW M qV tr (Mi.cG ws)):AW M qN (lm (cI fn) [] E tr) (Mi.lj fn ws):=λe σ H Hv Q I h=>
 ha e σ H Hv _ I ((aD.mp h).mono λds hx vs H1 Hv1 g1 rx=>by
  rw[i8];exact⟨Hv1,ds,g1.vw,rx,hx.mono λd hd w H3 Hv3 g3 rw=>hd w H3 Hv3 (g1.trans g3) (KM.mono (κ:=qN) g1.old rw)⟩)
theorem E7{w:W}{k:D->Prop}(h:Fin (Mi.uR w) k):∃d,w=.d d/\k d:=by
 cases w with
 |d x=>exact⟨x,rfl,h⟩
 |_=>exact h.elim
theorem AW.d{w:Mi.EW}(h:AW M κ t w):AE M κ t (λe=>(w e).bind Mi.uR):=λe σ H Hv Q I q=>
 h e σ H Hv Q I ((aD.mp q).mono λw z v H' Hv' g k=>by
  obtain⟨d,rfl,z⟩:=E7 z;exact z v H' Hv' g k)
theorem dD(ha:AAW M qV tr (Mi.cG ws)):AE M qV (lm (bW fn) [] E tr) (Mi.aN fn ws):=(Ts ha).d
theorem eu(ha:AAW M qV tr (Mi.cG ws)):AE M qN (lm (cI fn) [] E tr) (Mi.aN fn ws):=(Ps ha).d
def kA(H:Hp):Hp:=λa=>match H a with
 |some (.tbl _ _)=>af
 |x=>x
theorem nL{H:Hp}{a:ai}{o:HO}(h:H a=ac o)(n:NT o):kA H a=ac o:=by unfold kA;rw[h];cases o<;>first|rfl|exact n.elim
theorem xj{H:Hp}{a:ai}{o:HO}(h:kA H a=ac o):H a=ac o/\NT o:=by
 unfold kA at h;cases q:H a with
 |none=>rw[q]at h;cases h
 |some u=>
  rw[q]at h;cases u with
  |tbl w ps=>cases h
  |_=>cases h;exact⟨rfl,trivial⟩
theorem Vw.all{H:Hp}(k:jq H):Vw H (kA H):=⟨λa o e=>(xj e).1,λa xs e=>nL e trivial,λa o u e=>nL e trivial,k,λa o e=>(xj e).2⟩
theorem RB.O7{H Hv:Hp}(v:Vw H Hv){w:W}{x:V}(h:RB H Hv w x):gX (kA H) w x:=by
 have s:dC Hv (kA H):=λa o e=>nL (v.sub a o e) (v.nv a o e);rcases h with h|⟨a,o,rfl,q,c⟩
 ·exact qm s h
 ·exact xE (nL q c.nt) (c.same s)
def seen(H Hv H':Hp):Hp:=λa=>match Hv a,H a with
 |none,ac _=>af
 |_,_=>kA H' a
theorem QF{H Hv H':Hp}(v:Vw H Hv)(s:Old H H')(k':jq H'):bx H Hv H' (seen H Hv H'):=by
 have key:∀a,(∃o,H a=ac o/\Hv a=af/\seen H Hv H' a=af)\/(seen H Hv H' a=kA H' a/\∀o,H a=ac o->Hv a=ac o):=λa=>by
  cases h1:Hv a with
  |none=>
   cases h2:H a with
   |none=>exact .inr ⟨by unfold seen;rw[h1,h2],λo e=>by cases e⟩
   |some o=>exact .inl ⟨o,rfl,rfl,by unfold seen;rw[h1,h2]⟩
  |some o=>
   refine .inr ⟨by unfold seen;rw[h1],λu e=>?_⟩;rw[v.sub a o h1]at e;exact e
 have back:∀b o,H' b=ac o->NT o->(∃u,H b=ac u)->∃u,H b=ac u:=λ_ _ _ _ z=>z;refine⟨s,λb o e=>?_,⟨λb o e=>?_,λb xs e=>?_,λb q u e=>?_,k',λb o e=>?_⟩,λb o e n=>?_⟩
 ·rcases key b with ⟨u,_,z,_⟩|⟨z,_⟩
  ·rw[e]at z;cases z
  ·rw[z];exact nL (s.nt b o (v.sub b o e) (v.nv b o e)) (v.nv b o e)
 ·rcases key b with ⟨u,_,_,z⟩|⟨z,_⟩
  ·rw[e]at z;cases z
  ·rw[z]at e;exact(xj e).1
 ·rcases key b with ⟨u,h1,h2,_⟩|⟨z,_⟩
  ·cases u with
   |tbl w ps=>exact absurd e (s.tab h1 trivial)
   |_=>
    have:=s.nt b _ h1 trivial;rw[e]at this;cases this
    try (rw[v.tup b xs h1]at h2;cases h2)
  ·rw[z];exact nL e trivial
 ·rcases key b with ⟨w,h1,h2,_⟩|⟨z,_⟩
  ·cases w with
   |tbl w ps=>exact absurd e (s.tab h1 trivial)
   |_=>
    have:=s.nt b _ h1 trivial;rw[e]at this;cases this
    try (rw[v.frz b q u h1]at h2;cases h2)
  ·rw[z];exact nL e trivial
 ·rcases key b with ⟨u,_,_,z⟩|⟨z,_⟩
  ·rw[e]at z;cases z
  ·rw[z]at e;exact(xj e).2
 ·rcases key b with ⟨u,h1,h2,z⟩|⟨z,k⟩
  ·exact z
  ·rw[k o e]at n;cases n
theorem Oq(ha:AAW M qP tr (Mi.cG ws)):AE M qV (lm (bW fn) [] E tr) (Mi.uS fn ws):=λe σ H Hv Q I h=>
 ha e σ H Hv _ I ((aD.mp (aD.mp h)).mono λds hx vs H1 Hv1 g1 rx=>by
  rw[i8];refine⟨kA H1,ds,.all g1.vw.cd,rx.imp λw v z=>RB.O7 g1.vw z,hx.mono λw hd v H3 Hv3 g3 rw=>?_⟩;cases w with
  |d x=>
   obtain⟨hi,hd⟩:=Mi.cR hd;have g4:=QF g1.vw g3.old g3.vw.cd;refine hd v H3 _ (g1.trans g4) (Kg g4.vw.tup hi (oU g3.vw.sub rw))
  |_=>exact hd.elim)
end
end A
namespace A
open PySem L2 PyProof.Rows
open Mi (D W Rs Fin aD Out Tg)
variable[Tb:cp]
structure uo(J:It)(P:Hp->Hp->Prop)(ds:List D):Prop where
 go:∀i H Hv,P H Hv->Vw H Hv->i<ds.length->J.go i H
 yld:∀i H Hv x H',P H Hv->Vw H Hv->i<ds.length->J.yld i H x H'->∃Hv' d,bx H Hv H' Hv'/\ds[i]? = ac d/\Rep Hv' d x
 stop:∀H Hv,P H Hv->Vw H Hv->J.stop ds.length H
def Cv(M:Nat->Bool)(wi:TI)(it:Mi.I):Prop:=∀e σ H Hv (R:It->Hp->Prop),R0 M e σ H Hv->Fin (it e) (λds=>∀(J:It) H' Hv' (P:Hp->Hp->Prop),bx H Hv H' Hv'->uo J P ds->P H' Hv'->(∀H1 Hv1 H2 Hv2,P H1 Hv1->bx H1 Hv1 H2 Hv2->P H2 Hv2)->R J H')->wi σ H R
def jS(M:Nat->Bool)(wi:TI)(it:Mi.I):Prop:=∀e σ H Hv (R:It->Hp->Prop),R0 M e σ H Hv->Fin (it e) (λds=>∀(J:It) H' Hv' (P:Hp->Hp->Prop),bx H Hv H' Hv'->uo J P ds->P H' Hv'->(∀H1 Hv1 H2 Hv2,P H1 Hv1->dC Hv1 Hv2->Vw H2 Hv2->P H2 Hv2)->R J H')->wi σ H R
theorem kE{α:Type}{r:Rs α}{k:α->Prop}(h:Fin r k):∃x,r=.ok x/\k x:=by
 cases r with
 |ok x=>exact⟨x,rfl,h⟩
 |_=>exact h.elim
section
variable{M:Nat->Bool}{ta tb:TE}{a b:Mi.E}{wi:TI}{it:Mi.I}{tr:TA}{as:List Mi.E}
theorem jS.c(h:jS M wi it):Cv M wi it:=λe σ H Hv R I q=>h e σ H Hv R I (q.mono λds z J H' Hv' P g o p k=>z J H' Hv' P g o p λH1 Hv1 H2 Hv2 p g'=>k H1 Hv1 H2 Hv2 p g'.vis g'.vw)
theorem qv{J:It}{Ok:Hp->Prop}{xs:List V}(O:J.Of Ok xs){ds:List D}{P:Hp->Hp->Prop}(ok:∀H Hv,P H Hv->Vw H Hv->Ok H)(r:∀H Hv,P H Hv->P2 (Rep Hv) ds xs)(ex:∃H Hv,P H Hv):uo J P ds:=by
 have hl:ds.length=xs.length:=by obtain⟨H,Hv,p⟩:=ex;exact(r H Hv p).len
 refine⟨λi H Hv p v hi=>O.go i H (ok H Hv p v) (by omega),λi H Hv x H' p v hi y=>?_,λH Hv p v=>by rw[hl];exact O.stop H (ok H Hv p v)⟩;obtain⟨rfl,hx⟩:=O.yld i H x H' (ok H Hv p v) (by omega) y;obtain⟨d,hd,rx⟩:=(r H' Hv p).Tk hx;exact⟨Hv,d,.refl v,hd,rx⟩
def A6(K:aO)(tl:TE):TI:=λσ H R=>Fy K tl σ H R\/F4 K tl σ H R\/Ij tl σ H R
theorem en{X:Cx}{tg l:bj}{tl:TE}(hl:PE X l tl):PI X tg l (A6 X.K tl):=λah s σ H R I h=>by
 rcases h with h|h|h
 ·exact Qh hl ah s σ H R I h
 ·exact NK hl ah s σ H R I h
 ·exact Tn hl ah s σ H R I h
theorem EH(H:Hp)(z:Str):P2 (Rep H) (z.cps.toList.map λc=>D.str ⟨#[c]⟩) (qa z):=by
 unfold qa
 induction z.cps.toList with
 |nil=>exact .nil
 |cons c r ih=>exact .cons (nH.mpr rfl) ih
theorem gO{K:aO}(ha:AE M qP ta a):Cv M (A6 K ta) (Mi.bA a):=λe σ H Hv R I h=>by
 obtain⟨d,hd,h⟩:=kE (aD.mp h);have run:∀Q:VK,(∀v H' Hv',bx H Hv H' Hv'->RD H' Hv' d v->Q v H')->ta σ H Q:=λQ q=>ha e σ H Hv Q I (by rw[hd];exact q);cases d with
 |lst ds=>
  refine .inl (run _ λv H' Hv' g r=>?_);obtain⟨p,xs,rfl,l,r⟩:=RD.lst g.vw r;exact⟨p,rfl,⟨xs,l.sq⟩,h (vI K p) H' Hv' (λH Hv=>Lst H p xs/\P2 (Rep Hv) ds xs) g (qv EM (λH Hv p v=>p.1.sq) (λH Hv p=>p.2) ⟨H',Hv',l,r⟩) ⟨l,r⟩ λH1 Hv1 H2 Hv2 z g'=>⟨z.1.old g'.old,f9 g'.vis z.2⟩⟩
 |tup ds=>
  refine .inr (.inl (run _ λv H' Hv' g r=>?_));obtain⟨p,xs,rfl,l,_,r⟩:=RD.tup g.vw r;exact⟨p,rfl,⟨xs,.inl (.inl l)⟩,h (vR K p) H' Hv' (λH Hv=>H p=ac (.tup xs)/\P2 (Rep Hv) ds xs) g (qv Ke (λH Hv p v=>.inl (.inl p.1)) (λH Hv p=>p.2) ⟨H',Hv',l,r⟩) ⟨l,r⟩ λH1 Hv1 H2 Hv2 z g'=>⟨g'.old.at z.1,f9 g'.vis z.2⟩⟩
 |str z=>
  refine .inr (.inr (run _ λv H' Hv' g r=>?_));exact⟨z,RD.str r,h (pQ z) H' Hv' (λ_ _=>True) g (qv Hu (λ_ _ _ _=>trivial) (λH Hv _=>EH Hv z) ⟨H,Hv,trivial⟩) trivial λ_ _ _ _ _ _=>trivial⟩
 |_=>exact h.elim
theorem jK{K:aO}(ha:AE M qV ta a):jS M (A6 K ta) (Mi.bA a):=λe σ H Hv R I h=>by
 obtain⟨d,hd,h⟩:=kE (aD.mp h);have run:∀Q:VK,(∀v H' Hv',bx H Hv H' Hv'->Rep Hv' d v->Q v H')->ta σ H Q:=λQ q=>ha e σ H Hv Q I (by rw[hd];exact q);cases d with
 |lst ds=>
  refine .inl (run _ λv H' Hv' g r=>?_);obtain⟨p,xs,rfl,l,r⟩:=lu.mp r;exact⟨p,rfl,⟨xs,(l.same g.vw.sub).sq⟩,h (vI K p) H' Hv' (λH Hv=>Lst Hv p xs/\P2 (Rep Hv) ds xs) g (qv EM (λH Hv p v=>(p.1.same v.sub).sq) (λH Hv p=>p.2) ⟨H',Hv',l,r⟩) ⟨l,r⟩ λH1 Hv1 H2 Hv2 z s v=>⟨z.1.same s,f9 s z.2⟩⟩
 |tup ds=>
  refine .inr (.inl (run _ λv H' Hv' g r=>?_));obtain⟨p,xs,rfl,l,r⟩:=j1.mp r;exact⟨p,rfl,⟨xs,.inl (.inl (g.vw.sub _ _ l))⟩,h (vR K p) H' Hv' (λH Hv=>Hv p=ac (.tup xs)/\P2 (Rep Hv) ds xs) g (qv Ke (λH Hv p v=>.inl (.inl (v.sub _ _ p.1))) (λH Hv p=>p.2) ⟨H',Hv',l,r⟩) ⟨l,r⟩ λH1 Hv1 H2 Hv2 z s v=>⟨s _ _ z.1,f9 s z.2⟩⟩
 |str z=>
  refine .inr (.inr (run _ λv H' Hv' g r=>?_));exact⟨z,nH.mp r,h (pQ z) H' Hv' (λ_ _=>True) g (qv Hu (λ_ _ _ _=>trivial) (λH Hv _=>EH Hv z) ⟨H,Hv,trivial⟩) trivial λ_ _ _ _ _ _ _=>trivial⟩
 |_=>exact h.elim
theorem UV(H:Hp)(lo hi:Int):P2 (Rep H) (Mi.dA lo hi) (pY lo (hi-lo).toNat):=by
 unfold Mi.dA pY
 induction bP (hi-lo).toNat with
 |nil=>exact .nil
 |cons c r ih=>exact .cons (rO.mpr rfl) ih
theorem JD(lo hi:Int)(H Hv:Hp):uo (oA lo (hi-lo).toNat) (λ_ _=>True) (Mi.dA lo hi):=qv QV (λ_ _ _ _=>trivial) (λH Hv _=>UV Hv lo hi) ⟨H,Hv,trivial⟩
theorem iI(ha:AE M qP ta a):jS M (FE (gm ta ib)) (Mi.fo a):=λe σ H Hv R I h=>
 ha e σ H Hv _ I ((aD.mp h).mono λx hx v H1 Hv1 g1 rx=>by
  obtain⟨j,rfl,hk⟩:=vk (aD.mp hx);obtain⟨hz,hq⟩:=Mi.cR hk;cases RD.int rx;refine⟨j,rfl,hz.1,hz.2,?_⟩;have:=hq (oA 0 (j-0).toNat) H1 Hv1 _ g1 (JD 0 j H Hv) trivial λ_ _ _ _ _ _ _=>trivial;rw[Int.sub_zero]at this;exact this)
theorem Sw(ha:AE M qP ta a)(hb:AE M qP tb b):jS M (IK (gm ta (gm tb ib))) (Mi.uv a b):=λe σ H Hv R I h=>
 ha e σ H Hv _ I ((aD.mp h).mono λx hx v H1 Hv1 g1 rx=>hb e σ H1 Hv1 _ (I.grow g1) ((aD.mp hx).mono λy hy u H2 Hv2 g2 ry=>by
  obtain⟨i,rfl,hk⟩:=vk (aD.mp hy);obtain⟨j,rfl,hk⟩:=vk (aD.mp hk);obtain⟨hz,hq⟩:=Mi.cR hk;cases RD.int rx;cases RD.int ry;exact⟨i,j,rfl,⟨hz.1.1,hz.1.2,hz.2.1,hz.2.2⟩,hq (oA i (j-i).toNat) H2 Hv2 _ (g1.trans g2) (JD i j H Hv) trivial λ_ _ _ _ _ _ _=>trivial⟩))
end
def As:List Nat->kK
 |[]=>vN
 |i::r=>vK (i3 i) (As r)
def uD:Tg->List Nat
 |.n i=>[i]
 |.t is=>is
def yA(K:aO):Tg->TG
 |.n i=>i3 i
 |.t is=>CM K is.length (As is)
section
variable{P:Mi.Env->L2.St->Prop}{H Hv:Hp}
theorem IJ:∀{is:List Nat} {ds:List D} {xs:List V} {e:Mi.Env} {σ:L2.St} {Q:L2.St->Hp->Prop},(∀i∈is,∀e σ d v,P e σ->Rep Hv d v->P (e.set i (ac (.d d))) (σ.set i (ac v)))->P e σ->P2 (Rep Hv) ds xs ->
 Fin (Mi.sR is ds e) (λe'=>∀σ',P e' σ'->Q σ' H)->As is xs σ H Q
 |[],[],xs,e,σ,Q,cl,p,r,h=>by
  cases r;exact⟨rfl,h σ p⟩
 |[],_::_,xs,e,σ,Q,cl,p,r,h=>h.elim
 |_::_,[],xs,e,σ,Q,cl,p,r,h=>h.elim
 |i::is,d::ds,xs,e,σ,Q,cl,p,r,h=>by
  cases r with
  |cons x t=>exact⟨_,_,rfl,IJ (λj hj=>cl j (eL _ hj)) (cl i cW _ _ _ _ p x) t h⟩
theorem HA:∀{is:List Nat} {ds:List D} {e:Mi.Env} {k:Mi.Env->Prop},Fin (Mi.sR is ds e) k->ds.length=is.length
 |[],[],_,_,_=>rfl
 |[],_::_,_,_,h=>h.elim
 |_::_,[],_,_,h=>h.elim
 |i::is,d::ds,e,k,h=>by rw[eG,eG,HA (is:=is) (ds:=ds) (k:=k) h]
theorem Cu{K:aO}(vw:Vw H Hv){tg:Tg}{d:D}{v:V}{e:Mi.Env}{σ:L2.St}{Q:L2.St->Hp->Prop}(cl:∀i∈uD tg,∀e σ d v,P e σ->Rep Hv d v->P (e.set i (ac (.d d))) (σ.set i (ac v)))(p:P e σ)(r:Rep Hv d v)
 (h:Fin (tg.put d e) (λe'=>∀σ',P e' σ'->Q σ' H)):yA K tg v σ H Q:=by
 cases tg with
 |n i=>exact h _ (cl i (by simp[uD]) _ _ _ _ p r)
 |t is=>
  cases d with
  |tup ds=>
   obtain⟨a,xs,e1,l,r⟩:=j1.mp r;exact⟨a,xs,e1,.inl (.inl (vw.sub _ _ l)),by rw[<- r.len];exact HA h,IJ cl p r h⟩
  |_=>exact h.elim
end
theorem kB{α:Type}{l:List α}{i j:Nat}{x y:α}(h:(l.set i x)[j]? = ac y):(i=j/\x=y/\i<l.length)\/(i≠j/\l[j]? = ac y):=by
 rw[Db]at h;split at h
 ·split at h
  ·exact .inl ⟨‹_›,jQ h,by omega⟩
  ·cases h
 ·exact .inr ⟨‹_›,h⟩
theorem R0.set{M:Nat->Bool}{e:Mi.Env}{σ:L2.St}{H Hv:Hp}(I:R0 M e σ H Hv){i:Nat}{w:W}{v:V}(hm:M i=false)(r:gX Hv w v):R0 M (e.set i (ac w)) (σ.set i (ac v)) H Hv:=by
 refine⟨I.vw,by rw[kh,kh];exact I.len,λj w' h m=>?_,λj w' h m=>?_⟩
 ·rcases kB h with ⟨rfl,h,l⟩|⟨n,h⟩
  ·cases h;exact⟨v,by rw[mT (by rw[I.len];exact l)],r⟩
  ·obtain⟨u,q,z⟩:=I.nob j w' h m;exact⟨u,by rw[fF n];exact q,z⟩
 ·rcases kB h with ⟨rfl,h,l⟩|⟨n,h⟩
  ·rw[hm]at m;cases m
  ·obtain⟨u,q,z⟩:=I.own j w' h m;exact⟨u,by rw[fF n];exact q,z⟩
theorem R1.set{M:Nat->Bool}{H0 Hv0:Hp}{e:Mi.Env}{σ:L2.St}{H Hv:Hp}(I:R1 M H0 Hv0 e σ H Hv){i:Nat}{w:W}{v:V}(hm:M i=false)(r:gX Hv w v):R1 M H0 Hv0 (e.set i (ac w)) (σ.set i (ac v)) H Hv:=by
 have nj:∀{j:Nat} {w':W},(e.set i (ac w))[j]? = ac (ac w')->M j=true->i≠j/\e[j]? = ac (ac w'):=λ{j w'} h m=>by
  rcases kB h with ⟨rfl,_,_⟩|⟨n,h⟩
  ·rw[hm]at m;cases m
  ·exact⟨n,h⟩
 refine⟨I.toR0.set hm r,I.gw,λj w' a h m q=>?_,λj k w1 w2 a b hjk h1 h2 m1 m2 q1 q2=>?_⟩
 ·obtain⟨n,h⟩:=nj h m;rw[fF n]at q;exact I.fresh j w' a h m q
 ·obtain⟨n1,h1⟩:=nj h1 m1;obtain⟨n2,h2⟩:=nj h2 m2;rw[fF n1]at q1;rw[fF n2]at q2;exact I.sep j k w1 w2 a b hjk h1 h2 m1 m2 q1 q2
def pZ(ρ:List (Option Nat))(M:Nat->Bool):Nat->Bool:=λi=>match ρ[i]? with
 |some (ac j)=>M j
 |_=>false
theorem Kj{α:Type}{ρ:List (Option Nat)}{e:List (Option α)}{i:Nat}{w:α}(h:(ρ.map λo=>o.bind λj=>(e[j]?).join)[i]? = ac (ac w)):∃j,ρ[i]? = ac (ac j)/\e[j]? = ac (ac w):=by
 rw[gc]at h;cases hr:ρ[i]? with
 |none=>rw[hr]at h;cases h
 |some o=>
  rw[hr]at h;cases o with
  |none=>cases h
  |some j=>
   refine⟨j,rfl,?_⟩;have h:(e[j]?).join=ac w:=jQ h;cases hq:e[j]? with
   |none=>rw[hq]at h;cases h
   | some o' => rw [hq] at h; have h : o' = ac w := h
                rw[h]
theorem I9{α:Type}{ρ:List (Option Nat)}{e:List (Option α)}{i j:Nat}{w:α}(h1:ρ[i]? = ac (ac j))(h2:e[j]? = ac (ac w)):(ρ.map λo=>o.bind λj=>(e[j]?).join)[i]? = ac (ac w):=by rw[gc,h1];show ac ((e[j]?).join)=_;rw[h2];rfl
theorem R0.pick{M:Nat->Bool}{e:Mi.Env}{σ:L2.St}{H Hv:Hp}(I:R0 M e σ H Hv)(ρ:List (Option Nat)):R0 (pZ ρ M) (Mi.lF ρ e) (L2.pick ρ σ) H Hv:=by
 refine⟨I.vw,by unfold Mi.lF L2.pick;rw[aP,aP],λi w h m=>?_,λi w h m=>?_⟩
 ·obtain⟨j,h1,h2⟩:=Kj h;have m:M j=false:=by unfold pZ at m;rw[h1]at m;exact m
  obtain⟨v,q,z⟩:=I.nob j w h2 m;exact⟨v,I9 h1 q,z⟩
 ·obtain⟨j,h1,h2⟩:=Kj h;have m:M j=true:=by unfold pZ at m;rw[h1]at m;exact m
  obtain⟨v,q,z⟩:=I.own j w h2 m;exact⟨v,I9 h1 q,z⟩
theorem TN{tg:Tg}{c:Mi.C}{a:Mi.E}{e:Mi.Env}{x:D}{r:List D}{k:List D->Prop}(h:Fin (Mi.dE tg c a e (x::r)) k) :
 Fin (tg.put x e) λe1=>Fin (c e1) λb=>if b=true then Fin (a e1) λy=>Fin (Mi.dE tg c a e r) λys=>k (y::ys)else Fin (Mi.dE tg c a e r) k:=by
 refine(aD.mp h).mono λe1 h1=>(aD.mp h1).mono λb h2=>?_;cases b with
 |true=>exact mJ ((aD.mp (Mi.lZ h2)).mono λy h3=>(aD.mp h3).mono λys h4=>h4)
 |false=>exact mO (Mi.oV h2)
theorem ft{M:Nat->Bool}{K:aO}{ρ:List (Option Nat)}{wi:TI}{it:Mi.I}{tg:Tg}{tc:TT}{c:Mi.C}{te:TE}{a:Mi.E}(hi:Cv M wi it)(hm:∀i∈uD tg,pZ ρ M i=false)(hc:AT (pZ ρ M) tc c)(he:AE (pZ ρ M) qV te a) :
 AE M qN (yR wi ρ (yA K tg) tc te) (Mi.cq ρ it tg c a):=λe σ H Hv Q I h=>
 hi e σ H Hv _ I ((aD.mp h).mono λds h1 J H1 Hv1 P g1 O p1 per=>by
  obtain⟨hz,h1⟩:=Mi.cR h1;have h1:=aD.mp h1;have I1:=I.grow g1;refine⟨λi m acc H'=>m=ds.length-i/\i<=ds.length/\∃Hv',bx H1 Hv1 H' Hv'/\P H' Hv'/\acc.length<=i/\∃done,P2 (Rep Hv') done acc/\Fin (Mi.dE tg c a (Mi.lF ρ e) (ds.drop i)) λys=>∀v H2 Hv2,bx H Hv H2 Hv2->qN H H2 Hv2 (.d (.lst (done++ys))) v->Q v H2,
   ⟨ds.length,by simp,iC _,Hv1,.refl g1.vw,p1,bU _,[],.nil,by rw[tF];exact h1.mono λys z=>z⟩,?_⟩
  rintro i m acc H' ⟨rfl,hle,Hv',g,pp,l,done,pd,hf⟩;by_cases hlt:i<ds.length
  ·refine .inr ⟨O.go i H' Hv' pp g.vw hlt,by rw[er];omega,λacc' H2=>∃Hv2,bx H1 Hv1 H2 Hv2/\P H2 Hv2/\acc'.length<=i+1/\∃done,P2 (Rep Hv2) done acc'/\Fin (Mi.dE tg c a (Mi.lF ρ e) (ds.drop (i+1))) λys=>∀v H3 Hv3,bx H Hv H3 Hv3->qN H H3 Hv3 (.d (.lst (done++ys))) v->Q v H3,
    λacc' H2 z=>⟨ds.length-(i+1),by omega,rfl,hlt,z⟩,λx H2 y=>?_⟩
   obtain⟨Hv2,d,g2,hd,rx⟩:=O.yld i H' Hv' x H2 pp g.vw hlt y;have g12:=g.trans g2;have hdr:ds.drop i=d::ds.drop (i+1):=by obtain⟨hl,e1⟩:=fe.mp hd;rw[qO hl,e1]
   rw[hdr]at hf;have hf:=TN hf;refine Cu (P:=λe1 σ1=>R0 (pZ ρ M) e1 σ1 H2 Hv2) g2.vw (λj hj e1 σ1 d1 v1 r1 z=>r1.set (hm j hj) z) ((I1.grow g12).pick ρ) rx (hf.mono λe1 hf1 σ1 r1=>?_);refine hc e1 σ1 H2 Hv2 _ r1 (hf1.mono λb hb H3 Hv3 g3=>?_);cases b with
   |true=>
    refine mJ (he e1 σ1 H3 Hv3 _ (r1.grow g3) (Fin.mono (by simpa using hb) λy hy v H4 Hv4 g4 ry=>?_));exact⟨Hv4,g12.trans (g3.trans g4),per _ _ _ _ pp (g2.trans (g3.trans g4)),by rw[dz,y4];omega,done++[y],(f9 (g2.trans (g3.trans g4)).vis pd).append (.cons ry .nil),hy.mono λys z v H5 Hv5 g5 k=>z v H5 Hv5 g5 (by rw[tD]at k;exact k)⟩
   |false=>exact mO ⟨Hv3,g12.trans g3,per _ _ _ _ pp (g2.trans g3),by omega,done,f9 (g2.trans g3).vis pd,by simpa using hb⟩
  ·have hi:i=ds.length:=by omega
   subst hi;refine .inl ⟨O.stop H' Hv' pp g.vw,λp hp=>?_⟩;rw[yZ (bU _)]at hf;have g2:bx H' Hv' (upd H' p (.lst acc)) Hv':=.um g.vw trivial hp;refine hf _ _ _ (g1.trans (g.trans g2)) ⟨p,.lst acc,rfl,(g1.old.trans g.old).free hp,bS,rK g.vw hp,?_⟩;show P2 (Rep Hv') (done++[]) acc;rw[i8];exact pd)
def hO(M:Nat->Bool)(κ:Kd)(H0 Hv0:Hp)(D:Ends)(Hv:Hp):Out->Prop
 |.nx e=>∀σ H' Hv',R1 M H0 Hv0 e σ H' Hv'->dC Hv Hv'->D.nx σ H'
 |.rt w=>∀v H' Hv',bx H0 Hv0 H' Hv'->κ H0 H' Hv' w v->D.rt v H'
 |.bk e=>∀σ H' Hv',R1 M H0 Hv0 e σ H' Hv'->dC Hv Hv'->D.bk σ H'
 |.ct e=>∀σ H' Hv',R1 M H0 Hv0 e σ H' Hv'->dC Hv Hv'->D.ct σ H'
def AS(M:Nat->Bool)(κ:Kd)(t:TS)(m:Mi.S):Prop:=∀H0 Hv0 e σ H Hv D,R1 M H0 Hv0 e σ H Hv->Fin (m e) (hO M κ H0 Hv0 D Hv)->t D σ H
section
variable{M:Nat->Bool}{κ:Kd}{t u:TS}{m n:Mi.S}{te:TE}{a b:Mi.E}{w:Mi.EW}
theorem da:AS M κ vB Mi.bw:=λH0 Hv0 e σ H Hv D I h=>h σ H Hv I (dC.refl _)
theorem Gp:AS M κ JI Mi.wM:=λH0 Hv0 e σ H Hv D I h=>h
theorem aU(h1:AS M κ t m)(h2:AS M κ u n):AS M κ (pz t u) (Mi.aE m n):=λH0 Hv0 e σ H Hv D I h=>
 h1 H0 Hv0 e σ H Hv _ I ((aD.mp h).mono λo ho=>by
  cases o with
  |nx e'=>exactλσ' H' Hv' I' s=>h2 H0 Hv0 e' σ' H' Hv' D I' (Fin.mono ho λo z=>by
   cases o with
   |nx e2=>exactλσ2 H2 Hv2 I2 s2=>z σ2 H2 Hv2 I2 (s.trans s2)
   |rt w=>exact z
   |bk e2=>exactλσ2 H2 Hv2 I2 s2=>z σ2 H2 Hv2 I2 (s.trans s2)
   |ct e2=>exactλσ2 H2 Hv2 I2 s2=>z σ2 H2 Hv2 I2 (s.trans s2))
  |rt w=>exact ho
  |bk e'=>exact ho
  |ct e'=>exact ho)
theorem uB(ha:AE M qP te a):AS M κ (nW te) (Mi.mn a):=λH0 Hv0 e σ H Hv D I h=>
 ha e σ H Hv _ I.toR0 ((aD.mp h).mono λd hd v H1 Hv1 g1 r=>hd σ H1 Hv1 (I.grow g1) g1.vis)
theorem cj(i:Nat)(hm:M i=false)(ha:AE M qV te a):AS M κ (l5 te (i3 i)) (Mi.bf i a):=λH0 Hv0 e σ H Hv D I h=>
 ha e σ H Hv _ I.toR0 ((aD.mp h).mono λd hd v H1 Hv1 g1 r=>hd _ H1 Hv1 ((I.grow g1).set hm r) g1.vis)
theorem wQ{K:aO}(tg:Tg)(hm:∀i∈uD tg,M i=false)(ha:AE M qV te a):AS M κ (l5 te (yA K tg)) (Mi.qx tg a):=λH0 Hv0 e σ H Hv D I h=>
 ha e σ H Hv _ I.toR0 ((aD.mp h).mono λd hd v H1 Hv1 g1 r=>
  Cu (P:=λe1 σ1=>R1 M H0 Hv0 e1 σ1 H1 Hv1) g1.vw (λj hj e1 σ1 d1 v1 r1 z=>r1.set (hm j hj) z) (I.grow g1) r ((aD.mp hd).mono λe1 h1 σ1 I1=>h1 σ1 H1 Hv1 I1 g1.vis))
theorem dB(ha:AW M qV te w):AS M qV (nQ te) (Mi.br w):=λH0 Hv0 e σ H Hv D I h=>
 ha e σ H Hv _ I.toR0 ((aD.mp h).mono λd hd v H1 Hv1 g1 r=>hd v H1 Hv1 (I.gw.trans g1) r)
theorem lY(ha:AW M qN te w):AS M qN (nQ te) (Mi.br w):=λH0 Hv0 e σ H Hv D I h=>
 ha e σ H Hv _ I.toR0 ((aD.mp h).mono λd hd v H1 Hv1 g1 r=>hd v H1 Hv1 (I.gw.trans g1) (KM.mono (κ:=qN) I.gw.old r))
theorem dc{tt:TT}{c:Mi.C}(hc:AT M tt c)(h1:AS M κ t m)(h2:AS M κ u n):AS M κ (sT tt t u) (Mi.bq c m n):=λH0 Hv0 e σ H Hv D I h=>
 hc e σ H Hv _ I.toR0 ((aD.mp h).mono λb hb H1 Hv1 g1=>by
  have up:∀o,hO M κ H0 Hv0 D Hv o->hO M κ H0 Hv0 D Hv1 o:=λo z=>by
   cases o with
   |nx e2=>exactλσ2 H2 Hv2 I2 s2=>z σ2 H2 Hv2 I2 (g1.vis.trans s2)
   |rt w=>exact z
   |bk e2=>exactλσ2 H2 Hv2 I2 s2=>z σ2 H2 Hv2 I2 (g1.vis.trans s2)
   |ct e2=>exactλσ2 H2 Hv2 I2 s2=>z σ2 H2 Hv2 I2 (g1.vis.trans s2)
  cases b with
  |true=>exact mJ (h1 H0 Hv0 e σ H1 Hv1 D (I.grow g1) (Fin.mono (Mi.lZ hb) up))
  |false=>exact mO (h2 H0 Hv0 e σ H1 Hv1 D (I.grow g1) (Fin.mono (Mi.oV hb) up)))
theorem hO.up{H0 Hv0 Hv Hv1:Hp}{D:Ends}(s:dC Hv Hv1){o:Out}(z:hO M κ H0 Hv0 D Hv o):hO M κ H0 Hv0 D Hv1 o:=by
 cases o with
 |nx e2=>exactλσ2 H2 Hv2 I2 s2=>z σ2 H2 Hv2 I2 (s.trans s2)
 |rt w=>exact z
 |bk e2=>exactλσ2 H2 Hv2 I2 s2=>z σ2 H2 Hv2 I2 (s.trans s2)
 |ct e2=>exactλσ2 H2 Hv2 I2 s2=>z σ2 H2 Hv2 I2 (s.trans s2)
theorem eW{K:aO}{wi:TI}{it:Mi.I}{tg:Tg}(hi:jS M wi it)(hm:∀i∈uD tg,M i=false)(hb:AS M κ t m):AS M κ (HL wi (yA K tg) t) (Mi.cU it tg m):=λH0 Hv0 e σ H Hv D I h=>
 hi e σ H Hv _ I.toR0 ((aD.mp h).mono λds h1 J H1 Hv1 P g1 O p1 per=>by
  refine⟨λi k σ' H'=>k=ds.length-i/\i<=ds.length/\∃e' Hv',R1 M H0 Hv0 e' σ' H' Hv'/\P H' Hv'/\Fin (Mi.gL tg m (ds.drop i) e') (hO M κ H0 Hv0 D Hv'),
   ⟨ds.length,by simp,iC _,e,Hv1,I.grow g1,p1,by rw[tF];exact h1.mono λo z=>z.up g1.vis⟩,?_⟩
  rintro i k σ' H' ⟨rfl,hle,e',Hv',I',pp,hf⟩;by_cases hlt:i<ds.length
  ·refine .inr ⟨O.go i H' Hv' pp I'.vw hlt,λσ2 H2=>∃e2 Hv2,R1 M H0 Hv0 e2 σ2 H2 Hv2/\P H2 Hv2/\Fin (Mi.gL tg m (ds.drop (i+1)) e2) (hO M κ H0 Hv0 D Hv2),
    λσ2 H2 z=>⟨ds.length-(i+1),by omega,rfl,hlt,z⟩,λx H2 y=>?_⟩
   obtain⟨Hv2,d,g2,hd,rx⟩:=O.yld i H' Hv' x H2 pp I'.vw hlt y;have I2:=I'.grow g2;have hdr:ds.drop i=d::ds.drop (i+1):=by obtain⟨hl,e1⟩:=fe.mp hd;rw[qO hl,e1]
   rw[hdr]at hf;refine Cu (P:=λe1 σ1=>R1 M H0 Hv0 e1 σ1 H2 Hv2) g2.vw (λj hj e1 σ1 d1 v1 r1 z=>r1.set (hm j hj) z) I2 rx ((aD.mp hf).mono λe1 h1 σ1 I1=>?_);refine hb H0 Hv0 e1 σ1 H2 Hv2 _ I1 ((aD.mp h1).mono λo ho=>?_);cases o with
   |nx e2=>exactλσ2 H3 Hv3 I3 s3=>⟨e2,Hv3,I3,per _ _ _ _ pp (g2.vis.trans s3) I3.vw,Fin.mono ho λo z=>z.up (g2.vis.trans s3)⟩
   |ct e2=>exactλσ2 H3 Hv3 I3 s3=>⟨e2,Hv3,I3,per _ _ _ _ pp (g2.vis.trans s3) I3.vw,Fin.mono ho λo z=>z.up (g2.vis.trans s3)⟩
   |bk e2=>exactλσ2 H3 Hv3 I3 s3=>ho σ2 H3 Hv3 I3 (g2.vis.trans s3)
   |rt w=>exact ho
  ·have hi:i=ds.length:=by omega
   subst hi;refine .inl ⟨O.stop H' Hv' pp I'.vw,?_⟩;rw[yZ (bU _)]at hf;exact hf σ' H' Hv' I' (dC.refl _))
theorem RI{tt:TT}{c:Mi.C}(k:Nat)(hc:AT M tt c)(hb:AS M κ t m):AS M κ (FV tt t) (Mi.Al k c m):=λH0 Hv0 e σ H Hv D I h=>by
 refine⟨λj σ' H'=>∃e' Hv',R1 M H0 Hv0 e' σ' H' Hv'/\Fin (Mi.oy c m j e') (hO M κ H0 Hv0 D Hv'),⟨k,e,Hv,I,h⟩,?_⟩;rintro j σ' H' ⟨e',Hv',I',hf⟩;cases j with
 |zero=>exact hf.elim
 |succ j=>
  refine hc e' σ' H' Hv' _ I'.toR0 ((aD.mp hf).mono λb hb' H1 Hv1 g1=>?_);cases b with
  |false=>exact mO ((Mi.mi (Mi.oV hb')) σ' H1 Hv1 (I'.grow g1) g1.vis)
  |true=>
   refine mJ ⟨λσ2 H2=>∃e2 Hv2,R1 M H0 Hv0 e2 σ2 H2 Hv2/\Fin (Mi.oy c m j e2) (hO M κ H0 Hv0 D Hv2),λσ2 H2 z=>⟨j,Nat.lt_succ_self j,z⟩,?_⟩;refine hb H0 Hv0 e' σ' H1 Hv1 _ (I'.grow g1) ((aD.mp (Mi.lZ hb')).mono λo ho=>?_);cases o with
   |nx e2=>exactλσ2 H2 Hv2 I2 s2=>⟨e2,Hv2,I2,Fin.mono ho λo z=>z.up (g1.vis.trans s2)⟩
   |ct e2=>exactλσ2 H2 Hv2 I2 s2=>⟨e2,Hv2,I2,Fin.mono ho λo z=>z.up (g1.vis.trans s2)⟩
   |bk e2=>exactλσ2 H2 Hv2 I2 s2=>ho σ2 H2 Hv2 I2 (g1.vis.trans s2)
   |rt w=>exact ho
end
end A
namespace A
open PySem L2 PyProof.Rows
open Mi (D W Rs Fin aD Out Tg)
variable[Tb:cp]
section
variable{M:Nat->Bool}{κ:Kd}{te:TE}{a b:Mi.E}{w:Mi.EW}{K:aO}
theorem R1.write{H0 Hv0:Hp}{e:Mi.Env}{σ:L2.St}{H Hv:Hp}(I:R1 M H0 Hv0 e σ H Hv){i:Nat}{w w':W}{p:ai}{o:HO}(hm:M i=true)(he:e[i]? = ac (ac w))(hs:σ[i]? = ac (ac (.ref p)))(c:fK Hv w' o):R1 M H0 Hv0 (e.set i (ac w')) σ (upd H p o) Hv:=by
 have hp:∃o',H p=ac o'/\Hv p=af/\uO o':=by obtain⟨v,q,a,o',e1,q1,n,c'⟩:=I.own i w he hm;rw[hs]at q;cases q;cases e1;exact⟨o',q1,n,c'.GY⟩
 obtain⟨o',hp,hn,hcc⟩:=hp;have h0:H0 p=af:=I.fresh i w p he hm hs;have vw:Vw (upd H p o) Hv:=by
  refine⟨λb u q=>?_,λb xs q=>?_,λb z u q=>?_,I.vw.cd.put hp hcc c.nw,I.vw.nv⟩
  ·rw[aX (dX q hn)];exact I.vw.sub b u q
  ·by_cases hb:b=p
   ·subst hb;rw[bS]at q;cases q;exact c.cell.elim
   ·rw[aX hb]at q;exact I.vw.tup b xs q
  ·by_cases hb:b=p
   ·subst hb;rw[bS]at q;cases q;exact c.cell.elim
   ·rw[aX hb]at q;exact I.vw.frz b z u q
 have get:∀{j:Nat} {w2:W},(e.set i (ac w'))[j]? = ac (ac w2)->(i=j/\w'=w2)\/(i≠j/\e[j]? = ac (ac w2)):=λ{j w2} h=>by
  rcases kB h with ⟨x,y,_⟩|z
  ·exact .inl ⟨x,jQ y⟩
  ·exact .inr z
 have get':∀{j:Nat} {w2:W},(e.set i (ac w'))[j]? = ac (ac w2)->∃w3,e[j]? = ac (ac w3):=λ{j w2} h=>by
  rcases get h with ⟨x,_⟩|⟨_,z⟩
  ·subst x;exact⟨w,he⟩
  ·exact⟨w2,z⟩
 refine⟨⟨vw,by rw[kh];exact I.len,λj w2 h m=>?_,λj w2 h m=>?_⟩,⟨I.gw.old.put h0 hp,I.gw.vis,vw,I.gw.hid⟩,λj w2 x h m q=>?_,λj k w1 w2 x y hjk h1 h2 m1 m2 q1 q2=>?_⟩
 ·rcases get h with ⟨rfl,_⟩|⟨_,z⟩
  ·rw[hm]at m;cases m
  ·exact I.nob j w2 z m
 ·rcases get h with ⟨rfl,rfl⟩|⟨n,z⟩
  ·exact⟨.ref p,hs,p,o,rfl,bS,hn,c⟩
  ·obtain⟨v,q,x,u,e1,q1,n1,c1⟩:=I.own j w2 z m;subst e1;have:=I.sep i j w w2 p x n he z hm m hs q;exact⟨.ref x,q,x,u,rfl,by rw[aX (dW this)];exact q1,n1,c1⟩
 ·obtain⟨w3,z⟩:=get' h;exact I.fresh j w3 x z m q
 ·obtain⟨w3,z3⟩:=get' h1;obtain⟨w4,z4⟩:=get' h2;exact I.sep j k w3 w4 x y hjk z3 z4 m1 m2 q1 q2
theorem R1.cell{H0 Hv0:Hp}{e:Mi.Env}{σ:L2.St}{H Hv:Hp}(I:R1 M H0 Hv0 e σ H Hv){i:Nat}{w:W}(hm:M i=true)(he:e[i]? = ac (ac w)):∃p o,σ[i]? = ac (ac (.ref p))/\H p=ac o/\Hv p=af/\H0 p=af/\fK Hv w o:=by obtain⟨v,q,p,o,rfl,q1,n,c⟩:=I.own i w he hm;exact⟨p,o,q,q1,n,I.fresh i w p he hm q,c⟩
theorem rL{e:Mi.Env}{i:Nat}{k:List D->Prop}(h:Fin (Mi.getL e i) k):∃ds,e[i]? = ac (ac (.d (.lst ds)))/\k ds:=by
 unfold Mi.getL at h;split at h
 ·exact⟨_,‹_›,h⟩
 ·exact h.elim
theorem R1.list{H0 Hv0:Hp}{e:Mi.Env}{σ:L2.St}{H Hv:Hp}(I:R1 M H0 Hv0 e σ H Hv){i:Nat}{ds:List D}(hm:M i=true)(he:e[i]? = ac (ac (.d (.lst ds)))):∃p xs,σ[i]? = ac (ac (.ref p))/\H p=ac (.lst xs)/\Hv p=af/\P2 (Rep Hv) ds xs:=by
 obtain⟨p,o,q,q1,n,_,c⟩:=I.cell hm he;cases o with
 |lst xs=>exact⟨p,xs,q,q1,n,c⟩
 |_=>exact c.elim
theorem R1.name{H0 Hv0:Hp}{e:Mi.Env}{σ:L2.St}{H Hv H1 Hv1:Hp}(I:R1 M H0 Hv0 e σ H Hv)(g:bx H Hv H1 Hv1){i:Nat}{w:W}{v:V}(hm:M i=true)(k:qN H H1 Hv1 w v):R1 M H0 Hv0 (e.set i (ac w)) (σ.set i (ac v)) H1 Hv1:=by
 obtain⟨p,o,rfl,hf,hp,hn,c⟩:=k;have I1:=I.grow g;have other:∀{j:Nat} {w2:W} {x:ai},e[j]? = ac (ac w2)->M j=true->σ[j]? = ac (ac (.ref x))->x≠p:=λ{j w2 x} h m q=>by
  obtain⟨p',o',q',q1,_⟩:=I.cell m h;rw[q]at q';cases q';exact dX q1 hf
 refine⟨⟨I1.vw,by rw[kh,kh];exact I.len,λj w2 h m=>?_,λj w2 h m=>?_⟩,I1.gw,λj w2 x h m q=>?_,λj k w1 w2 x y hjk h1 h2 m1 m2 q1 q2=>?_⟩
 ·rcases kB h with ⟨rfl,_⟩|⟨n,z⟩
  ·rw[hm]at m;cases m
  ·obtain⟨u,q,r⟩:=I1.nob j w2 z m;exact⟨u,by rw[fF n];exact q,r⟩
 ·rcases kB h with ⟨rfl,h,l⟩|⟨n,z⟩
  ·cases h;exact⟨.ref p,by rw[mT (by rw[I.len];exact l)],p,o,rfl,hp,hn,c⟩
  ·obtain⟨u,q,r⟩:=I1.own j w2 z m;exact⟨u,by rw[fF n];exact q,r⟩
 ·rcases kB h with ⟨rfl,h,l⟩|⟨n,z⟩
  ·rw[mT (by rw[I.len];exact l)]at q;cases q;exact I.gw.old.free hf
  ·rw[fF n]at q;exact I.fresh j w2 x z m q
 ·rcases kB h1 with ⟨rfl,_,l⟩|⟨n,z⟩
  ·rw[mT (by rw[I.len];exact l)]at q1;cases q1;rcases kB h2 with ⟨rfl,_,_⟩|⟨n2,z2⟩
   ·exact absurd rfl hjk
   ·rw[fF n2]at q2;exact dW (other z2 m2 q2)
  ·rw[fF n]at q1;rcases kB h2 with ⟨rfl,_,l⟩|⟨n2,z2⟩
   ·rw[mT (by rw[I.len];exact l)]at q2;cases q2;exact other z m1 q1
   ·rw[fF n2]at q2;exact I.sep j k w1 w2 x y hjk z z2 m1 m2 q1 q2
theorem ig(i:Nat)(hm:M i=true)(ha:AE M qN te a):AS M κ (l5 te (i3 i)) (Mi.bf i a):=λH0 Hv0 e σ H Hv D I h=>
 ha e σ H Hv _ I.toR0 ((aD.mp h).mono λd hd v H1 Hv1 g1 r=>hd _ H1 Hv1 (I.name g1 hm r) g1.vis)
theorem Fh(i:Nat)(hm:M i=true)(ha:AW M qN te w):AS M κ (l5 te (i3 i)) (Mi.Az i w):=λH0 Hv0 e σ H Hv D I h=>
 ha e σ H Hv _ I.toR0 ((aD.mp h).mono λd hd v H1 Hv1 g1 r=>hd _ H1 Hv1 (I.name g1 hm r) g1.vis)
theorem PM:AW M qN JB (λ_=>.ok (.dk [])):=λe σ H Hv Q I h p hp=>
 h _ _ Hv (.um I.vw trivial hp) ⟨p,.dK [],rfl,hp,bS,rK I.vw hp,.nil⟩
theorem lD(i:Nat)(hm:M i=true)(ha:AE M qV te a):AS M κ (nW (qj K "list" xy (fQ i) (gm te ib))) (Mi.ek i a):=λH0 Hv0 e σ H Hv D I h=>by
 obtain⟨d,hd,h⟩:=kE (aD.mp h);obtain⟨ds,he,h⟩:=rL (aD.mp h);obtain⟨hz,h⟩:=Mi.cR h;obtain⟨p,xs,q,q1,n,c⟩:=I.list hm he;refine⟨.ref p,q,.inl ⟨rfl,xs,.inl (.inl q1)⟩,ha e σ H Hv _ I.toR0 (by
  rw[hd];intro v H1 Hv1 g1 r;have I1:=I.grow g1;refine⟨p,xs,v,rfl,rfl,g1.old.at q1,by rw[<- c.len,er];exact hz,?_⟩;exact h σ _ Hv1 (I1.write hm he q (show fK Hv1 (.d (.lst (ds++[d]))) (.lst (xs++[v]))from(f9 g1.vis c).append (.cons r .nil))) g1.vis)⟩
theorem CT(i:Nat)(hm:M i=true):AS M κ (nW (wY K "list" KD (fQ i))) (Mi.ul i):=λH0 Hv0 e σ H Hv D I h=>by
 obtain⟨ds,he,h⟩:=rL (aD.mp h);obtain⟨p,xs,q,q1,n,c⟩:=I.list hm he;exact⟨.ref p,q,.inl ⟨rfl,xs,.inl (.inl q1)⟩,p,xs,rfl,rfl,q1,h σ _ Hv (I.write hm he q (show fK Hv (.d (.lst ds.reverse)) (.lst xs.reverse)from c.rev)) (dC.refl _)⟩
theorem jC{α:Type}{o:Option α}{k:α->Prop}(h:Fin (Mi.cy o) k):∃x,o=ac x/\k x:=by
 cases o with
 |some x=>exact⟨x,rfl,h⟩
 |none=>exact h.elim
theorem Qt(x y:Nat)(hx:M x=false)(hy:M y=true):AS M κ (l5 (wY K "list" IZ (fQ y)) (i3 x)) (Mi.yp x y):=λH0 Hv0 e σ H Hv D I h=>by
 obtain⟨ds,he,h⟩:=rL (aD.mp h);obtain⟨d,hd,h⟩:=jC (aD.mp h);obtain⟨p,xs,q,q1,n,c⟩:=I.list hy he;rw[c.len]at hd;obtain⟨v,hv,r⟩:=c.getL hd;exact⟨.ref p,q,.inl ⟨rfl,xs,.inl (.inl q1)⟩,p,xs,v,rfl,rfl,q1,hv,h _ _ Hv ((I.write hy he q (show fK Hv (.d (.lst ds.dropLast)) (.lst xs.dropLast)from c.dropLast)).set hx r) (dC.refl _)⟩
theorem Oh{n:Nat}{i:Int}{k:Nat}(h:Mi.gU n i=ac k):seqIndex? i n=ac k:=by
 unfold Mi.gU at h;split at h
 ·split at h
  ·rw[seqIndex_of (by omega) (by omega)];exact h
  ·cases h
 ·split at h
  ·rw[seqIndex_neg (by omega) (by omega)];exact h
  ·cases h
theorem PL{ds:List D}{i:Int}{k:D×List D->Prop}(h:Fin (Mi.yc ds i) k):-(2 ^ 63)<=i/\i<2 ^ 63/\∃j d,Mi.gU ds.length i=ac j/\ds[j]? = ac d/\k (d,ds.eraseIdx j):=by obtain⟨⟨h1,h2⟩,h⟩:=Mi.cR h;obtain⟨j,hj,h⟩:=jC (aD.mp h);obtain⟨d,hd,h⟩:=jC (aD.mp h);exact⟨h1,h2,j,d,hj,hd,h⟩
theorem Uz(x y:Nat)(hxy:x≠y)(hx:M x=true)(hy:M y=true)(ha:AE M qP te a):AS M κ (nW (qj K "list" xy (fQ x) (gm (qj K "list" Fz (fQ y) (gm te ib)) ib))) (Mi.wZ x y a):=λH0 Hv0 e σ H Hv D I h=>by
 obtain⟨z,hz,h⟩:=kE (aD.mp h);obtain⟨i,rfl,h⟩:=vk (aD.mp h);obtain⟨ds,he,h⟩:=rL (aD.mp h);obtain⟨h1,h2,j,d,hj,hd,h⟩:=PL (aD.mp h);obtain⟨es,he2,h⟩:=rL (aD.mp h);obtain⟨hsz,h⟩:=Mi.cR h;have Ml:e[x]? = ac (ac (.d (.lst es))):=by
  have he2:(e.set y (ac (.d (.lst (ds.eraseIdx j)))))[x]? = _:=he2
  rwa [fF (dW hxy)]at he2
 obtain⟨p,xs,q,q1,n,c⟩:=I.list hy he;obtain⟨p',xs',q',q1',n',c'⟩:=I.list hx Ml;have hpp:p'≠p:=I.sep x y _ _ p' p hxy Ml he hx hy q' q;refine⟨.ref p',q',.inl ⟨rfl,xs',.inl (.inl q1')⟩,.ref p,q,.inl ⟨rfl,xs,.inl (.inl q1)⟩,ha e σ H Hv _ I.toR0 (by
  rw[hz];intro v H1 Hv1 g1 r;have I1:=I.grow g1;cases RD.int r;obtain⟨u,hu,ru⟩:=c.getL hd;rw[c.len]at hj;refine⟨p,xs,i,j,u,rfl,rfl,g1.old.at q1,h1,h2,Oh hj,hu,?_⟩;have I2:=I1.write hy he q (show fK Hv1 (.d (.lst (ds.eraseIdx j))) (.lst (xs.eraseIdx j))from(f9 g1.vis c).erase j);refine⟨p',xs',u,rfl,rfl,by rw[aX hpp];exact g1.old.at q1',by rw[<- c'.len,er];exact hsz,?_⟩;exact h σ _ Hv1 (I2.write hx he2 q' (show fK Hv1 (.d (.lst (es++[d]))) (.lst (xs'++[u]))from(f9 g1.vis c').append (.cons (oU g1.vis ru) .nil))) g1.vis)⟩
theorem pW(i:Nat)(hm:M i=true):AS M qN (nQ (fQ i)) (Mi.br (Mi.wV i)):=λH0 Hv0 e σ H Hv D I h=>by
 obtain⟨w,he,h⟩:=sG (aD.mp h);obtain⟨p,o,q,q1,n,h0,c⟩:=I.cell hm he;exact⟨.ref p,q,h _ H Hv I.gw ⟨p,o,rfl,h0,q1,n,c⟩⟩
theorem R1.Jl{H0 Hv0:Hp}{e:Mi.Env}{σ:L2.St}{H Hv:Hp}(I:R1 M H0 Hv0 e σ H Hv){y:Nat}{w:W}(hy:M y=true)(he:e[y]? = ac (ac w)):∃p Hv',σ[y]? = ac (ac (.ref p))/\R1 M H0 Hv0 (e.set y af) σ H Hv'/\dC Hv Hv'/\gX Hv' w (.ref p):=by
 obtain⟨p,o,q,q1,n,h0,c⟩:=I.cell hy he;obtain⟨vw,s⟩:=I.vw.show q1 n c.nt;have nj:∀{j:Nat} {w':W},(e.set y af)[j]? = ac (ac w')->y≠j/\e[j]? = ac (ac w'):=λ{j w'} h=>by
  rcases kB h with ⟨_,h,_⟩|z
  ·cases h
  ·exact z
 refine⟨p,upd Hv p o,q,⟨⟨vw,by rw[kh];exact I.len,λj w' h m=>?_,λj w' h m=>?_⟩,⟨I.gw.old,I.gw.vis.trans s,vw,λb u z1 z2=>?_⟩,λj w' x h m z=>?_,λj k w1 w2 x z hjk h1 h2 m1 m2 z1 z2=>?_⟩,s,xE bS (c.same s)⟩
 ·obtain⟨_,h⟩:=nj h;obtain⟨v,z,r⟩:=I.nob j w' h m;exact⟨v,z,qm s r⟩
 ·obtain⟨hne,h⟩:=nj h;obtain⟨v,z,x,u,e1,q2,n2,c2⟩:=I.own j w' h m;subst e1;have:=I.sep y j w w' p x hne he h hy m q z;exact⟨.ref x,z,x,u,rfl,q2,by rw[aX (dW this)];exact n2,c2.same s⟩
 ·rw[aX (dX z1 h0)];exact I.gw.hid b u z1 z2
 ·exact I.fresh j w' x (nj h).2 m z
 ·exact I.sep j k w1 w2 x z hjk (nj h1).2 (nj h2).2 m1 m2 z1 z2
theorem Ag{κ':Type}[DecidableEq κ']{H:Hp}{k:κ'}{ay:List (κ'×D)}{kv:List (κ'×V)}(h:ii H ay kv):match Mi.jJ ay k with
 |some d=>∃v,jo kv k=ac v/\Rep H d v
 |none=>jo kv k=af:=by
 unfold Mi.jJ jo
 induction h with
 |nil=>rfl
 | @cons p q l m hpq t ih=>
  rw[mW,mW,hpq.1];by_cases hk:q.1=k
  ·rw[cV hk];exact⟨q.2,rfl,hpq.2⟩
  ·rw[d6 hk];exact ih
theorem Kc{κ':Type}[DecidableEq κ']{H:Hp}{k:κ'}{d:D}{v:V}(r:Rep H d v){ay:List (κ'×D)}{kv:List (κ'×V)}(h:ii H ay kv):ii H (Mi.putK k d ay) (L2.putK kv k v):=by
 have e:(ay.any λx=>decide (x.1=k))=(kv.any λx=>decide (x.1=k)):=by
  induction h with
  |nil=>rfl
  | @cons p q l m hpq t ih=>rw[mX,mX,ih,hpq.1]
 unfold Mi.putK L2.putK;rw[e];split
 ·rename_i hh;clear hh e
  induction h with
  |nil=>exact .nil
  | @cons p q l m hpq t ih=>
   rw[cM,cM];refine .cons ?_ ih
   ·by_cases hk:q.1=k
    ·rw[a8 hk,a8 (hpq.1.trans hk)];exact⟨hpq.1,r⟩
    ·rw[a7 hk,a7 (λz=>hk (hpq.1.symm.trans z))];exact hpq
 ·exact P2.append h (.cons ⟨rfl,r⟩ .nil)
end
end A
namespace A
open PySem L2 PyProof.Rows
open Mi (D W Rs Fin aD Out Tg)
variable[Tb:cp]
section
variable{X:Cx}{K:aO}
def Pa:R2:=λx y H Q=>∃i j,x=.str i/\y=.str j/\i.length+j.length<=sizeLine/\Q (.str (i++j)) H
theorem rJ{ah:List (ai×Obj)}{σ:L2.St}{H:Hp}{s:az}{a:ai}{xs:List V}(I:Inv X ah σ H s)(h:Lst H a xs):∃(ax:List aj) (n:Nat),Vals xs ax/\xs.length<=sizeLine/\s.heap.get? a=ac { cls:=.type "list", data:=.seq ax.toArray n }:=by
 rcases h with h|⟨o,h⟩
 ·obtain⟨z,ax,n,r,e⟩:=I.hok a _ h;exact⟨ax,n,r,z,e⟩
 ·obtain⟨_,z,ax,n,r,e⟩:=I.hok a _ h;exact⟨ax,n,r,z,e⟩
def JR:R2:=λx y H Q=>∃l b xs zs,x=.ref l/\y=.ref b/\Lst H l xs/\Lst H b zs/\xs.length+zs.length<=sizeLine/\∀p,H p=af->Q (.ref p) (upd H p (.lst (xs++zs)))
theorem Uw:dO X (binaryOp .Add) JR:=by
 intro ah s σ H x y v u Q I rx ry h;obtain⟨l,b,xs,zs,rfl,rfl,hH,hB,hz,q⟩:=h;cases rx;cases ry;obtain⟨ax,n,r,z,e⟩:=rJ I hH;obtain⟨its2,n2,r2,z2,e2⟩:=rJ I hB;have hl:=r.length;have hl2:=r2.length;refine PySem.P.add_list e e2 ?_ (by rw[dg,dg];omega);have ea:ax.toArray++its2.toArray=(ax++its2).toArray:=by simp
 rw[ea];exact⟨.ref _,_,I.OU (t':=s.toks) (r.append r2) (by rw[dz];omega),rfl,q _ I.fresh⟩
def K2:R2:=λx y H Q=>lW (λi j=>.int (i+j)) x y H Q\/Pa x y H Q\/JR x y H Q
theorem cK:dO X (binaryOp .Add) K2:=Qc.or (dO.or UN Uw)
theorem yz{H Hv:Hp}(vw:Vw H Hv){ds:List D}{xs:List V}(r:P2 (Rep Hv) ds xs){p:ai}(hp:H p=af):bx H Hv (upd H p (.lst xs)) Hv/\qN H (upd H p (.lst xs)) Hv (.d (.lst ds)) (.ref p):=⟨.um vw trivial hp,p,.lst xs,rfl,hp,bS,rK vw hp,r⟩
theorem AV{H Hv:Hp}(vw:Vw H Hv){ds:List D}{xs:List V}(r:P2 (Rep Hv) ds xs){p:ai}(hp:H p=af):bx H Hv (upd H p (.lst xs)) (upd Hv p (.lst xs))/\qV H (upd H p (.lst xs)) (upd Hv p (.lst xs)) (.d (.lst ds)) (.ref p):=by have g:bx H Hv (upd H p (.lst xs)) (upd Hv p (.lst xs)):=.new vw hp;exact⟨g,lu.mpr ⟨p,xs,rfl,.inl bS,f9 g.vis r⟩⟩
theorem BP{H Hv:Hp}(vw:Vw H Hv){ds:List D}{xs:List V}(r:P2 (Rep Hv) ds xs){p:ai}(hp:H p=af):bx H Hv (upd H p (.tup xs)) (upd Hv p (.tup xs))/\qV H (upd H p (.tup xs)) (upd Hv p (.tup xs)) (.d (.tup ds)) (.ref p):=by have g:bx H Hv (upd H p (.tup xs)) (upd Hv p (.tup xs)):=.new vw hp;exact⟨g,j1.mpr ⟨p,xs,rfl,bS,f9 g.vis r⟩⟩
theorem cH:B2 qV K2 Mi.bc:=λx y v u H Hv Q vw rx ry h=>by
 cases x with
 | int i=>cases y with
  |int j=>cases RD.int rx;cases RD.int ry;exact .inl ⟨i,j,rfl,rfl,h _ H Hv (.refl vw) iV⟩
  |_=>exact h.elim
 | str i=>cases y with
  |str j=>
   cases RD.str rx;cases RD.str ry;obtain⟨hz,h⟩:=Mi.cR h;exact .inr (.inl ⟨i,j,rfl,rfl,by rw[er];exact hz,h _ H Hv (.refl vw) ut⟩)
  |_=>exact h.elim
 | lst a=>cases y with
  |lst b=>
   obtain⟨hz,h⟩:=Mi.cR h;obtain⟨p,xs,rfl,l1,r1⟩:=RD.lst vw rx;obtain⟨q,ys,rfl,l2,r2⟩:=RD.lst vw ry;refine .inr (.inr ⟨p,q,xs,ys,rfl,rfl,l1,l2,by rw[<- r1.len,<- r2.len,er];exact hz,λa ha=>?_⟩);obtain⟨g,k⟩:=AV vw (r1.append r2) ha;exact h _ _ _ g k
  |_=>exact h.elim
 |_=>cases y<;>exact h.elim
theorem rE:B2 qV (lW λi j=>.int (i-j)) Mi.gW:=λx y v u H Hv Q vw rx ry h=>by
 cases x with
 | int i=>cases y with
  |int j=>cases RD.int rx;cases RD.int ry;exact⟨i,j,rfl,rfl,h _ H Hv (.refl vw) iV⟩
  |_=>exact h.elim
 |_=>cases y<;>exact h.elim
theorem jL:B2 qV (rI wH λi j=>.int (i*j)) Mi.dM:=λx y v u H Hv Q vw rx ry h=>by
 cases x with
 | int i=>cases y with
  |int j=>cases RD.int rx;cases RD.int ry;obtain⟨hz,h⟩:=Mi.cR h;exact⟨i,j,rfl,rfl,hz,h _ H Hv (.refl vw) iV⟩
  |_=>exact h.elim
 |_=>cases y<;>exact h.elim
theorem gJ:B2 qV (rI EI λi j=>.int (i/j)) Mi.c5:=λx y v u H Hv Q vw rx ry h=>by
 cases x with
 | int i=>cases y with
  |int j=>cases RD.int rx;cases RD.int ry;obtain⟨hz,h⟩:=Mi.cR h;exact⟨i,j,rfl,rfl,hz,h _ H Hv (.refl vw) iV⟩
  |_=>exact h.elim
 |_=>cases y<;>exact h.elim
theorem ej:B2 qV (rI (λ_ j=>0<j) λi j=>.int (i%j)) Mi.bG:=λx y v u H Hv Q vw rx ry h=>by
 cases x with
 | int i=>cases y with
  |int j=>cases RD.int rx;cases RD.int ry;obtain⟨hz,h⟩:=Mi.cR h;exact⟨i,j,rfl,rfl,hz,h _ H Hv (.refl vw) iV⟩
  |_=>exact h.elim
 |_=>cases y<;>exact h.elim
theorem vY:B1 qV (rU λi=>.int (-i)) Mi.lf:=λx v H Hv Q vw rx h=>by
 cases x with
 |int i=>cases RD.int rx;exact⟨i,rfl,h _ H Hv (.refl vw) iV⟩
 |_=>exact h.elim
def Fw:R2:=λx y H Q=>lW (λi j=>.bl (decide (i<j))) x y H Q\/∃i j,x=.str i/\y=.str j/\Q (.bl (decide (i.cps.toList<j.cps.toList))) H
theorem vp:dO X (compareOp .Lt) Fw:=O2.or Nv
def Kr:R2:=λx y H Q=>lW (λi j=>.bl (decide (j<i))) x y H Q\/∃i j,x=.str i/\y=.str j/\Q (.bl (decide (j.cps.toList<i.cps.toList))) H
theorem pj:dO X (compareOp .Gt) Kr:=Uj.or Qa
theorem uC:B2 qV Fw Mi.gR:=λx y v u H Hv Q vw rx ry h=>by
 cases x with
 | int i=>cases y with
  |int j=>cases RD.int rx;cases RD.int ry;exact .inl ⟨i,j,rfl,rfl,h _ H Hv (.refl vw) f7⟩
  |_=>exact h.elim
 | str i=>cases y with
  |str j=>cases RD.str rx;cases RD.str ry;exact .inr ⟨i,j,rfl,rfl,h _ H Hv (.refl vw) f7⟩
  |_=>exact h.elim
 |_=>cases y<;>exact h.elim
theorem oB:B2 qV Kr Mi.gV:=λx y v u H Hv Q vw rx ry h=>by
 cases x with
 | int i=>cases y with
  |int j=>cases RD.int rx;cases RD.int ry;exact .inl ⟨i,j,rfl,rfl,h _ H Hv (.refl vw) f7⟩
  |_=>exact h.elim
 | str i=>cases y with
  |str j=>cases RD.str rx;cases RD.str ry;exact .inr ⟨i,j,rfl,rfl,h _ H Hv (.refl vw) f7⟩
  |_=>exact h.elim
 |_=>cases y<;>exact h.elim
def wL(K:aO)(neg:Bool):R2:=λx y H Q=>∃d e,L2.Rep K H d x/\L2.Rep K H e y/\d.dep<=16/\Q (.bl (if neg then !Mi.bM d e else Mi.bM d e)) H
theorem fv:B2 qV (wL K false) Mi.bK:=λx y v u H Hv Q vw rx ry h=>by
 obtain⟨hz,h⟩:=Mi.cR h;exact⟨x,y,nK K (RD.full vw rx),nK K (RD.full vw ry),hz,h _ H Hv (.refl vw) f7⟩
theorem pq:B2 qV (wL K true) Mi.gp:=λx y v u H Hv Q vw rx ry h=>by
 obtain⟨hz,h⟩:=Mi.cR h;exact⟨x,y,nK K (RD.full vw rx),nK K (RD.full vw ry),hz,h _ H Hv (.refl vw) f7⟩
def w5(neg:Bool):R2:=λx y H Q=>y=.non/\Q (.bl (if neg then !decide (x=.non)else decide (x=.non))) H
theorem FO:dO X (compareOp .Is) (w5 false):=RR
theorem QK:dO X (compareOp .IsNot) (w5 true):=Qp
theorem Je{H Hv:Hp}{d:D}{v:V}(r:RD H Hv d v):decide (v=.non)=Mi.vm d:=by
 cases d with
 |non=>cases RD.non r;rfl
 |bl b=>cases RD.bl r;rfl
 |int b=>cases RD.int r;rfl
 |str b=>cases RD.str r;rfl
 |lst ds=>
  rcases r with r|⟨a,o,e,_⟩
  ·obtain⟨a,xs,e,_⟩:=lu.mp r;subst e;rfl
  ·subst e;rfl
 |tup ds=>
  obtain⟨a,xs,e,_⟩:=j1.mp (r.rW λ_ z=>by cases z);subst e;rfl
theorem JV:B2 qV (w5 false) Mi.sB:=λx y v u H Hv Q vw rx ry h=>by
 cases y with
 |non=>
  cases RD.non ry;refine⟨rfl,?_⟩;show Q (.bl (decide (v=.non))) H;rw[Je rx];exact h _ H Hv (.refl vw) f7
 |_=>exact h.elim
theorem Vc:B2 qV (w5 true) Mi.Cp:=λx y v u H Hv Q vw rx ry h=>by
 cases y with
 |non=>
  cases RD.non ry;refine⟨rfl,?_⟩;show Q (.bl (!decide (v=.non))) H;rw[Je rx];exact h _ H Hv (.refl vw) f7
 |_=>exact h.elim
def Kx(K:aO):R2:=λx y H Q=>w6 K false x y H Q\/Kn false x y H Q
theorem h6(hu:X.A.units+64<cLine):dO X (compareOp .In) (Kx X.K):=(Pk hu).or RY
theorem xS{H:Hp}{ds:List D}{xs:List V}(h:P2 (Rep H) ds xs):L2.bE K H ds xs:=yP K (qE.mpr h)
theorem hU:B2 qV (Kx K) Mi.bC:=λx y v u H Hv Q vw rx ry h=>by
 cases y with
 |lst ds=>
  obtain⟨hz,h⟩:=Mi.cR h;obtain⟨p,xs,rfl,l1,r1⟩:=RD.lst vw ry;exact .inl ⟨p,xs,x,ds,rfl,.inl l1.sq,nK K (RD.full vw rx),xS (f9 vw.sub r1),hz,h _ H Hv (.refl vw) f7⟩
 |tup ds=>
  obtain⟨hz,h⟩:=Mi.cR h;obtain⟨p,xs,rfl,l1,_,r1⟩:=RD.tup vw ry;exact .inl ⟨p,xs,x,ds,rfl,.inr (.inl (.inl l1)),nK K (RD.full vw rx),xS (f9 vw.sub r1),hz,h _ H Hv (.refl vw) f7⟩
 | str z=>cases x with
  |str c=>
   obtain⟨hz,h⟩:=Mi.cR h;cases RD.str rx;cases RD.str ry;obtain⟨⟨l⟩⟩:=c
   match l,hz with
   |[c],_=>exact .inr ⟨c,z,rfl,rfl,h _ H Hv (.refl vw) f7⟩
  |_=>exact h.elim
 |_=>exact h.elim
theorem jW:B2 qV (w6 K true) Mi.cQ:=λx y v u H Hv Q vw rx ry h=>by
 cases y with
 |lst ds=>
  obtain⟨hz,h⟩:=Mi.cR h;obtain⟨p,xs,rfl,l1,r1⟩:=RD.lst vw ry;exact⟨p,xs,x,ds,rfl,.inl l1.sq,nK K (RD.full vw rx),xS (f9 vw.sub r1),hz,h _ H Hv (.refl vw) f7⟩
 |tup ds=>
  obtain⟨hz,h⟩:=Mi.cR h;obtain⟨p,xs,rfl,l1,_,r1⟩:=RD.tup vw ry;exact⟨p,xs,x,ds,rfl,.inr (.inl (.inl l1)),nK K (RD.full vw rx),xS (f9 vw.sub r1),hz,h _ H Hv (.refl vw) f7⟩
 |_=>exact h.elim
theorem Qz{α:Type}(xs:List α)(i:Int):Mi.cC xs i=L2.cC xs i:=rfl
theorem IY{α β:Type}{F:α->β->Prop}{l:List α}{m:List β}(h:P2 F l m){i:Int}{a:α}(e:Mi.cC l i=ac a):∃b,L2.cC m i=ac b/\F a b:=by
 unfold Mi.cC at e;cases hj:Mi.gU l.length i with
 |none=>rw[hj]at e;cases e
 |some j=>
  rw[hj]at e;have e:l[j]? = ac a:=e;obtain⟨b,hb,r⟩:=h.getL e;refine⟨b,?_,r⟩;rw[<- Qz];unfold Mi.cC;rw[<- h.len,hj];exact hb
theorem bh:B2 qV (vO K) Mi.au:=λx y v u H Hv Q vw rx ry h=>by
 cases y with
 |int i=>
  cases RD.int ry;cases x with
  |lst ds=>
   obtain⟨d,e,h⟩:=jC h;obtain⟨p,xs,rfl,l1,r1⟩:=RD.lst vw rx;obtain⟨z,ez,rz⟩:=IY r1 e;exact .inl ⟨p,xs,i,z,rfl,rfl,l1.sq,ez,h z H Hv (.refl vw) rz⟩
  |tup ds=>
   obtain⟨d,e,h⟩:=jC h;obtain⟨p,xs,rfl,l1,_,r1⟩:=RD.tup vw rx;obtain⟨z,ez,rz⟩:=IY r1 e;exact .inr (.inl ⟨p,xs,i,z,rfl,rfl,.inl (.inl l1),ez,h z H Hv (.refl vw) rz⟩)
  |str z=>
   cases RD.str rx;obtain⟨hz,h⟩:=Mi.cR h;obtain⟨c,e,h⟩:=jC (aD.mp h);exact .inr (.inr ⟨z,i,c,rfl,rfl,by rw[er];exact hz,e,h _ H Hv (.refl vw) ut⟩)
  |_=>exact h.elim
 |_=>cases x<;>exact h.elim
theorem JU{F:D->V->Prop}{l:List D}{m:List V}(h:P2 F l m)(lo hi:Option Int):P2 F (Mi.eP l lo hi) (L2.rn m lo hi):=by unfold Mi.eP L2.rn;rw[h.len];exact(h.drop _).take _
def IV(K:aO):V->Option Int->Option Int->Hp->VK->Prop:=λx lo hi H Q=>Aq K x lo hi H Q\/G9 x lo hi H Q
theorem gz:lS X (IV X.K):=Jf.or US
theorem Rq(z:Str)(lo hi:Option Int):sU z lo hi=Mi.jb z lo hi:=by
 unfold sU Mi.jb Mi.eP;have:z.cps.toList.length=z.length:=by simp[q9]
 rw[this];rfl
theorem gG:BS qV (IV K) Mi.cx:=λx lo hi v H Hv Q vw rx h=>by
 cases x with
 |lst ds=>
  obtain⟨p,xs,rfl,l1,r1⟩:=RD.lst vw rx;refine .inl ⟨p,xs,rfl,l1.sq,λa ha=>?_⟩;obtain⟨g,k⟩:=AV vw (JU r1 lo hi) ha;exact h _ _ _ g k
 |str z=>
  cases RD.str rx;obtain⟨hz,h⟩:=Mi.cR h;exact .inr ⟨z,rfl,by rw[er];exact hz,h _ H Hv (.refl vw) (by rw[Rq];exact ut)⟩
 |_=>exact h.elim
theorem mP{F:D->V->Prop}{d:D}{vs:List V}(h:P2 F [d] vs):∃v,vs=[v]/\F d v:=by
 cases h with
 |cons r t=>cases t;exact⟨_,rfl,r⟩
theorem Fs{F:D->V->Prop}{d e:D}{vs:List V}(h:P2 F [d,e] vs):∃v u,vs=[v,u]/\F d v/\F e u:=by
 cases h with
 | cons r t=>cases t with
  |cons r' t=>cases t;exact⟨_,_,rfl,r,r'⟩
def FU(K:aO):List V->Hp->VK->Prop:=λxs H Q=>∃x n,xs=[x]/\HX K x H n/\Q (.int n) H
theorem fA:gT X (.builtin "len") (FU X.K):=UA
theorem b8:BN qV (FU K) Mi.bR:=λds vs H Hv Q vw r h=>by
 match ds,r,h with
 |[.lst ds],r,h=>
  obtain⟨v,ev,rr⟩:=mP r;subst ev;replace r:=rr;obtain⟨p,xs,rfl,l1,r1⟩:=RD.lst vw r;refine⟨_,xs.length,rfl,.inl ⟨xs,l1.sq,rfl⟩,?_⟩;rw[<- r1.len];exact h _ H Hv (.refl vw) iV
 |[.tup ds],r,h=>
  obtain⟨v,ev,rr⟩:=mP r;subst ev;replace r:=rr;obtain⟨p,xs,rfl,l1,_,r1⟩:=RD.tup vw r;refine⟨_,xs.length,rfl,.inr ⟨xs,.inl (.inl l1),rfl⟩,?_⟩;rw[<- r1.len];exact h _ H Hv (.refl vw) iV
 |[.str z],r,h=>
  obtain⟨v,ev,rr⟩:=mP r;subst ev;replace r:=rr;cases RD.str r;obtain⟨hz,h⟩:=Mi.cR h;exact⟨_,z.length,rfl,⟨by rw[er];exact hz,rfl⟩,h _ H Hv (.refl vw) iV⟩
def Fc:List V->Hp->VK->Prop:=λxs H Q=>∃i j z,xs=[.int i,.int j]/\max i j=z/\Q (.int z) H
def J6:List V->Hp->VK->Prop:=λxs H Q=>∃i j z,xs=[.int i,.int j]/\min i j=z/\Q (.int z) H
theorem IU(hc:X.calm=true):gT X (.builtin "max") Fc:=Th hc
theorem F6(hc:X.calm=true):gT X (.builtin "min") J6:=Ph hc
theorem uT:BN qV Fc Mi.j8:=λds vs H Hv Q vw r h=>by
 match ds,r,h with
 |[.int i,.int j],r,h=>
  obtain⟨v,u,ev,rr,r'⟩:=Fs r;subst ev;replace r:=rr;cases RD.int r;cases RD.int r';exact⟨i,j,_,rfl,rfl,h _ H Hv (.refl vw) iV⟩
theorem vd:BN qV J6 Mi.ma:=λds vs H Hv Q vw r h=>by
 match ds,r,h with
 |[.int i,.int j],r,h=>
  obtain⟨v,u,ev,rr,r'⟩:=Fs r;subst ev;replace r:=rr;cases RD.int r;cases RD.int r';exact⟨i,j,_,rfl,rfl,h _ H Hv (.refl vw) iV⟩
def JJ(K:aO):List V->Hp->VK->Prop:=λxs H Q=>∃p ys,xs=[.ref p]/\(fW K H p ys\/gu K H p ys)/\∀l,H l=af->Q (.ref l) (upd H l (.lst ys))
theorem ph:gT X (.type "list") (JJ X.K):=Qd
theorem g9:BN qN (JJ K) Mi.j9:=λds vs H Hv Q vw r h=>by
 match ds,r,h with
 |[.lst ds],r,h=>
  obtain⟨v,ev,rr⟩:=mP r;subst ev;replace r:=rr;obtain⟨p,xs,rfl,l1,r1⟩:=RD.lst vw r;refine⟨p,xs,rfl,.inl l1.sq,λa ha=>?_⟩;obtain⟨g,k⟩:=yz vw r1 ha;exact h _ _ _ g k
 |[.tup ds],r,h=>
  obtain⟨v,ev,rr⟩:=mP r;subst ev;replace r:=rr;obtain⟨p,xs,rfl,l1,_,r1⟩:=RD.tup vw r;refine⟨p,xs,rfl,.inr (.inl (.inl l1)),λa ha=>?_⟩;obtain⟨g,k⟩:=yz vw r1 ha;exact h _ _ _ g k
def K7(K:aO):List V->Hp->VK->Prop:=λxs H Q=>∃p ys,xs=[.ref p]/\((fW K H p ys/\∀l,H l=af->Q (.ref l) (upd H l (.tup ys)))\/(gu K H p ys/\Q (.ref p) H))
theorem uQ:gT X (.type "tuple") (K7 X.K):=QQ
theorem kM:BN qV (K7 K) Mi.pe:=λds vs H Hv Q vw r h=>by
 match ds,r,h with
 |[.lst ds],r,h=>
  obtain⟨v,ev,rr⟩:=mP r;subst ev;replace r:=rr;obtain⟨p,xs,rfl,l1,r1⟩:=RD.lst vw r;refine⟨p,xs,rfl,.inl ⟨l1.sq,λa ha=>?_⟩⟩;obtain⟨g,k⟩:=BP vw r1 ha;exact h _ _ _ g k
 |[.tup ds],r,h=>
  obtain⟨v,ev,rr⟩:=mP r;subst ev;replace r:=rr;obtain⟨p,xs,rfl,l1,l2,r1⟩:=RD.tup vw r;exact⟨p,xs,rfl,.inr ⟨.inl (.inl l1),h _ H Hv (.refl vw) (j1.mpr ⟨p,xs,rfl,l2,r1⟩)⟩⟩
def GI:List V->Hp->VK->Prop:=λxs H Q=>(∃i,xs=[.int i]/\Q (.int i) H)\/∃k,xs=[.bl k]/\Q (.int (if k then 1 else 0)) H
theorem Cd:gT X (.type "int") GI:=P8
theorem qp:BN qV GI Mi.qI:=λds vs H Hv Q vw r h=>by
 match ds,r,h with
 |[.int i],r,h=>
  obtain⟨v,ev,rr⟩:=mP r;subst ev;replace r:=rr;cases RD.int r;exact .inl ⟨i,rfl,h _ H Hv (.refl vw) iV⟩
 |[.bl k],r,h=>
  obtain⟨v,ev,rr⟩:=mP r;subst ev;replace r:=rr;cases RD.bl r;exact .inr ⟨k,rfl,h _ H Hv (.refl vw) iV⟩
end
end A
namespace A
open PySem L2 PyProof.Rows
open Mi (D W Rs Fin aD Out Tg)
variable[Tb:cp]
section
variable{X:Cx}{ah:List (ai×Obj)}{σ:L2.St}{H:Hp}{s:az}
open SeqAt in
theorem PF:∀{d e:D} {A:bT} {x y:V} {u u':aj},d.flat=true->e.flat=true->L2.Rep X.K H d x->L2.Rep X.K H e y->RelV x u->RelV y u'->RcAt A s u u' (Mi.bM d e)/\RcNeAt A s u u' (!Mi.bM d e):=by
 intro d e A x y u u' h1 h2 r1 r2 q1 q2;cases d with
 |non=>
  rw[L2.Rep]at r1;subst r1;cases q1;cases e with
  |non=>rw[L2.Rep]at r2;subst r2;cases q2;exact⟨RcAt.none_none,RcNeAt.none_none⟩
  |bl b=>rw[L2.Rep]at r2;subst r2;cases q2;exact⟨RcAt.none_bool b,RcNeAt.none_bool b⟩
  |int b=>rw[L2.Rep]at r2;subst r2;obtain⟨t,rfl⟩:=q2;exact⟨RcAt.none_int b t,RcNeAt.none_int b t⟩
  |str b=>rw[L2.Rep]at r2;subst r2;obtain⟨t,rfl⟩:=q2;exact⟨RcAt.none_str b t,RcNeAt.none_str b t⟩
  |_=>cases h2
 |bl a=>
  rw[L2.Rep]at r1;subst r1;cases q1;cases e with
  |non=>rw[L2.Rep]at r2;subst r2;cases q2;exact⟨RcAt.bool_none a,RcNeAt.bool_none a⟩
  |bl b=>rw[L2.Rep]at r2;subst r2;cases q2;rw[Mi.bM];exact⟨RcAt.bool_bool a b,RcNeAt.bool_bool a b⟩
  |int b=>rw[L2.Rep]at r2;subst r2;obtain⟨t,rfl⟩:=q2;rw[Mi.bM];exact⟨RcAt.bool_int a b t,RcNeAt.bool_int a b t⟩
  |str b=>rw[L2.Rep]at r2;subst r2;obtain⟨t,rfl⟩:=q2;exact⟨RcAt.bool_str a b t,RcNeAt.bool_str a b t⟩
  |_=>cases h2
 |int a=>
  rw[L2.Rep]at r1;subst r1;obtain⟨t1,rfl⟩:=q1;cases e with
  |non=>rw[L2.Rep]at r2;subst r2;cases q2;exact⟨RcAt.int_none a t1,RcNeAt.int_none a t1⟩
  |bl b=>rw[L2.Rep]at r2;subst r2;cases q2;rw[Mi.bM];exact⟨RcAt.int_bool a t1 b,RcNeAt.int_bool a t1 b⟩
  |int b=>rw[L2.Rep]at r2;subst r2;obtain⟨t,rfl⟩:=q2;rw[Mi.bM];exact⟨RcAt.int_int a t1 b t,RcNeAt.int_int a t1 b t⟩
  |str b=>rw[L2.Rep]at r2;subst r2;obtain⟨t,rfl⟩:=q2;exact⟨RcAt.int_str a t1 b t,RcNeAt.int_str a t1 b t⟩
  |_=>cases h2
 |str a=>
  rw[L2.Rep]at r1;subst r1;obtain⟨t1,rfl⟩:=q1;cases e with
  |non=>rw[L2.Rep]at r2;subst r2;cases q2;exact⟨RcAt.str_none a t1,RcNeAt.str_none a t1⟩
  |bl b=>rw[L2.Rep]at r2;subst r2;cases q2;exact⟨RcAt.str_bool a t1 b,RcNeAt.str_bool a t1 b⟩
  |int b=>rw[L2.Rep]at r2;subst r2;obtain⟨t,rfl⟩:=q2;exact⟨RcAt.str_int a t1 b t,RcNeAt.str_int a t1 b t⟩
  |str b=>rw[L2.Rep]at r2;subst r2;obtain⟨t,rfl⟩:=q2;rw[Mi.bM];exact⟨RcAt.str_str a t1 b t,RcNeAt.str_str a t1 b t⟩
  |_=>cases h2
 |_=>cases h1
open SeqAt in
theorem KH(I:Inv X ah σ H s):∀(d e:D) (A:bT) {x y:V} {u u':aj},d.dep<=16->A.units+17<cLine->L2.Rep X.K H d x->L2.Rep X.K H e y->RelV x u->RelV y u'->RcAt A s u u' (Mi.bM d e)/\RcNeAt A s u u' (!Mi.bM d e):=by
 intro d e A x y u u' hd hu h h' r r';have hu0:A.units<cLine:=by omega
 have item:∀{ds es:List D} {xs ys:List V} {ax its':List aj},Mi.eJ ds<=16->L2.bE X.K H ds xs->L2.bE X.K H es ys->Vals xs ax->Vals ys its' ->
  ∀j (h1:j<ax.toArray.size) (h2:j<its'.toArray.size),EqAt A.in1 s ax.toArray[j] its'.toArray[j] (Mi.bM (ds.getD j .non) (es.getD j .non)):=by
  intro ds es xs ys ax its' hn q q' v v' j h1 h2;have h1':j<ax.length:=by simpa using h1
  have h2':j<its'.length:=by simpa using h2
  have e1:j<xs.length:=by rw[v.length];exact h1'
  have e2:j<ys.length:=by rw[v'.length];exact h2'
  have g1:xs[j]? = ac xs[j]:=by simp[e1]
  have g2:ys[j]? = ac ys[j]:=by simp[e2]
  obtain⟨w1,k1,r1⟩:=v.get g1;obtain⟨w2,k2,r2⟩:=v'.get g2;have t1:ax.toArray[j]=w1:=by obtain⟨_,k1⟩:=fe.mp k1;simpa using k1
  have t2:its'.toArray[j]=w2:=by obtain⟨_,k2⟩:=fe.mp k2;simpa using k2
  rw[t1,t2];have:=CY (ds:=ds) (j:=j);refine JK I 16 _ _ A.in1 (by omega) ?_ (q.get g1) (q'.get g2) r1 r2;show A.units+1+16<cLine;omega
 by_cases hdf:d.flat=true
 ·by_cases hef:e.flat=true
  ·exact PF hdf hef h h' r r'
  ·cases e with
   |lst es=>
    rw[L2.Rep]at h';obtain⟨a,xs,rfl,q,_⟩:=h';cases r';obtain⟨ax,_,p,_⟩:=I.list q;cases d with
    |non=>rw[L2.Rep]at h;subst h;cases r;exact⟨RcAt.none_list p.isList hu0,RcNeAt.none_list p.isList hu0⟩
    |bl b=>rw[L2.Rep]at h;subst h;cases r;exact⟨RcAt.bool_list b p.isList hu0,RcNeAt.bool_list b p.isList hu0⟩
    |int b=>rw[L2.Rep]at h;subst h;obtain⟨t,rfl⟩:=r;exact⟨RcAt.int_list b t p.isList hu0,RcNeAt.int_list b t p.isList hu0⟩
    |str b=>rw[L2.Rep]at h;subst h;obtain⟨t,rfl⟩:=r;exact⟨RcAt.str_list b t p.isList hu0,RcNeAt.str_list b t p.isList hu0⟩
    |_=>cases hdf
   |tup es=>
    rw[L2.Rep]at h';obtain⟨a,xs,rfl,q,_⟩:=h';cases r';obtain⟨ax,_,p,_⟩:=I.tuple q;cases d with
    |non=>rw[L2.Rep]at h;subst h;cases r;exact⟨RcAt.none_tuple p hu0,RcNeAt.none_tuple p hu0⟩
    |bl b=>rw[L2.Rep]at h;subst h;cases r;exact⟨RcAt.bool_tuple b p hu0,RcNeAt.bool_tuple b p hu0⟩
    |int b=>rw[L2.Rep]at h;subst h;obtain⟨t,rfl⟩:=r;exact⟨RcAt.int_tuple b t p hu0,RcNeAt.int_tuple b t p hu0⟩
    |str b=>rw[L2.Rep]at h;subst h;obtain⟨t,rfl⟩:=r;exact⟨RcAt.str_tuple b t p hu0,RcNeAt.str_tuple b t p hu0⟩
    |_=>cases hdf
   |_=>exact absurd rfl hef
 ·cases d with
  |lst ds=>
   rw[L2.Rep]at h;obtain⟨a,xs,rfl,q,rr⟩:=h;cases r;obtain⟨ax,v,p,_⟩:=I.list q;have hn:Mi.eJ ds<=16:=by rw[Mi.D.dep]at hd;omega
   cases e with
   |non=>rw[L2.Rep]at h';subst h';cases r';exact⟨RcAt.list_none p.isList hu0,RcNeAt.list_none p.isList hu0⟩
   |bl b=>rw[L2.Rep]at h';subst h';cases r';exact⟨RcAt.list_bool b p.isList hu0,RcNeAt.list_bool b p.isList hu0⟩
   |int b=>rw[L2.Rep]at h';subst h';obtain⟨t,rfl⟩:=r';exact⟨RcAt.list_int b t p.isList hu0,RcNeAt.list_int b t p.isList hu0⟩
   |str b=>rw[L2.Rep]at h';subst h';obtain⟨t,rfl⟩:=r';exact⟨RcAt.list_str b t p.isList hu0,RcNeAt.list_str b t p.isList hu0⟩
   |lst es=>
    rw[L2.Rep]at h';obtain⟨b,ys,rfl,q',rr'⟩:=h';cases r';obtain⟨its',v',p',_⟩:=I.list q';have l1:=rr.length;have l2:=rr'.length;have l3:=v.length;have l4:=v'.length;by_cases hl:ds.length=es.length
    ·rw[Mi.bM,vP hl];have e1:ax.toArray.size=ds.length:=by simp;omega
     have k1:=RcAt.lists p.isList p'.isList (by simp;omega) hu0 (item hn rr rr' v v');have k2:=RcNeAt.lists p.isList p'.isList (by simp;omega) hu0 (item hn rr rr' v v');rw[e1]at k1 k2;exact⟨k1,k2⟩
    ·rw[Mi.bM,uz hl];exact⟨RcAt.lists_lengths p.isList p'.isList (by simp;omega) hu0,RcNeAt.lists_lengths p.isList p'.isList (by simp;omega) hu0⟩
   |tup es=>
    rw[L2.Rep]at h';obtain⟨b,ys,rfl,q',_⟩:=h';cases r';obtain⟨its',_,p',_⟩:=I.tuple q';exact⟨RcAt.list_tuple p.isList p' hu0,RcNeAt.list_tuple p.isList p' hu0⟩
  |tup ds=>
   rw[L2.Rep]at h;obtain⟨a,xs,rfl,q,rr⟩:=h;cases r;obtain⟨ax,v,p,_⟩:=I.tuple q;have hn:Mi.eJ ds<=16:=by rw[Mi.D.dep]at hd;omega
   cases e with
   |non=>rw[L2.Rep]at h';subst h';cases r';exact⟨RcAt.tuple_none p hu0,RcNeAt.tuple_none p hu0⟩
   |bl b=>rw[L2.Rep]at h';subst h';cases r';exact⟨RcAt.tuple_bool b p hu0,RcNeAt.tuple_bool b p hu0⟩
   |int b=>rw[L2.Rep]at h';subst h';obtain⟨t,rfl⟩:=r';exact⟨RcAt.tuple_int b t p hu0,RcNeAt.tuple_int b t p hu0⟩
   |str b=>rw[L2.Rep]at h';subst h';obtain⟨t,rfl⟩:=r';exact⟨RcAt.tuple_str b t p hu0,RcNeAt.tuple_str b t p hu0⟩
   |tup es=>
    rw[L2.Rep]at h';obtain⟨b,ys,rfl,q',rr'⟩:=h';cases r';obtain⟨its',v',p',_⟩:=I.tuple q';have l1:=rr.length;have l2:=rr'.length;have l3:=v.length;have l4:=v'.length;have k1:=RcAt.tuples p p' hu0 (item hn rr rr' v v');have k2:=RcNeAt.tuples p p' hu0 (item hn rr rr' v v');have e1:ax.toArray.size=ds.length:=by simp;omega
    have e2:its'.toArray.size=es.length:=by simp;omega
    rw[e1,e2]at k1 k2;by_cases hl:ds.length=es.length
    ·rw[Mi.bM,vP hl];rw[hl,Nat.min_self,j3,Bool.and_true,<- hl]at k1 k2;exact⟨k1,k2⟩
    ·rw[Mi.bM,uz hl];have:(ds.length==es.length)=false:=by simpa using hl
     rw[this,tP]at k1 k2;exact⟨k1,k2⟩
   |lst es=>
    rw[L2.Rep]at h';obtain⟨b,ys,rfl,q',_⟩:=h';cases r';obtain⟨its',_,p',_⟩:=I.list q';exact⟨RcAt.tuple_list p p'.isList hu0,RcNeAt.tuple_list p p'.isList hu0⟩
  |_=>exact absurd rfl hdf
theorem fm(hu:X.A.units+64<cLine):dO X (compareOp .Eq) (wL X.K false):=by intro ah s σ H x y v u Q I rx ry h;obtain⟨d,e,r1,r2,hz,q⟩:=h;exact(KH I d e X.A hz (by omega) r1 r2 rx ry).1 _ _ _ _ ⟨.bl _,H,I,rfl,q⟩
theorem oM(hu:X.A.units+64<cLine):dO X (compareOp .NotEq) (wL X.K true):=by intro ah s σ H x y v u Q I rx ry h;obtain⟨d,e,r1,r2,hz,q⟩:=h;exact(KH I d e X.A hz (by omega) r1 r2 rx ry).2 _ _ _ _ ⟨.bl _,H,I,rfl,q⟩
end
section
variable{X:Cx}{K:aO}{M:Nat->Bool}{κ:Kd}{ta tb te:TE}{a b:Mi.E}
theorem UG{H Hv:Hp}(vw:Vw H Hv){d:D}{v:V}(r:RD H Hv d v):jO K H v (.type (Mi.GN d)):=by
 cases d with
 |non=>cases RD.non r;exact .non
 |bl b=>cases RD.bl r;exact .bl b
 |int b=>cases RD.int r;exact .int b
 |str b=>cases RD.str r;exact .str b
 |lst ds=>
  obtain⟨p,xs,rfl,l,_⟩:=RD.lst vw r;rcases l with l|⟨o,l⟩
  ·exact .lst l
  ·exact .frz l
 |tup ds=>
  obtain⟨p,xs,rfl,l,_⟩:=RD.tup vw r;exact .tup l
def vA(K:aO)(T:String):Prop:=∀d:D,og K (.type (Mi.GN d)) (.type T)=ac (Mi.yS T d)
theorem pP{T:String}(hT:vA K T)(ha:AE M qP ta a):AE M qV (sv (Ho K) (gm ta (gm (tC (.ty T)) ib))) (Mi.m1 (Mi.h9 [T]) a):=λe σ H Hv Q I h=>
 ha e σ H Hv _ I ((aD.mp h).mono λx hx v H1 Hv1 g1 rx=>⟨v,_,T,_,rfl,UG g1.vw rx,hT x,(Mi.mi hx) _ H1 Hv1 g1 (by
  have:([T].any λt=>Mi.yS t x)=Mi.yS T x:=by simp
  rw[this];exact f7)⟩)
theorem ty_bool(K:aO):vA K "bool" := λd=>by cases d<;>rfl
theorem ty_str(K:aO):vA K "str" := λd=>by cases d<;>rfl
theorem ty_list(K:aO):vA K "list" := λd=>by cases d<;>rfl
theorem ty_tuple(K:aO):vA K "tuple" := λd=>by cases d<;>rfl
end
end A
namespace A
open PySem L2 PyProof.Rows
open Mi (D W Rs Fin aD Out Tg)
variable[Tb:cp]
def Mo(l:List Nat):Nat->Bool:=λi=>l.contains i
theorem xi{M:Nat->Bool}{N:List Str}{k:Nat}{ws:List W}{vs:List V}{H Hv:Hp}(vw:Vw H Hv)(p:P2 (gX Hv) ws vs)(hk:ws.length=k)(hM:∀i,i<k->M i=false) :
 R1 M H Hv (ws.map ac++cu (N.length-ws.length) af) (start N vs) H Hv:=by
 have get:∀{i:Nat} {w:W},(ws.map ac++cu (N.length-ws.length) af)[i]? = ac (ac w)->ws[i]? = ac w/\i<k:=λ{i w} h=>by
  by_cases hi:i<ws.length
  ·rw[yX (by simpa using hi),gc]at h;cases e:ws[i]? with
   |none=>rw[e]at h;cases h
   |some a=>rw[e]at h;cases h;exact⟨rfl,by omega⟩
  ·rw[Ld (by simpa using hi),Lh]at h;split at h<;>cases h
 have no:∀{i:Nat} {w:W},(ws.map ac++cu (N.length-ws.length) af)[i]? = ac (ac w)->M i=true->False:=λ{i w} h m=>by
  rw[hM i (get h).2]at m;cases m
 refine⟨⟨vw,?_,λi w h m=>?_,λi w h m=>(no h m).elim⟩,.refl vw,λi w a h m=>(no h m).elim,λi j w w' a b _ h _ m=>(no h m).elim⟩
 ·unfold L2.start;rw[dz,dz,aP,aP,C3,C3,p.len]
 ·obtain⟨hw,hi⟩:=get h;obtain⟨v,hv,r⟩:=p.getL hw;refine⟨v,?_,r⟩;unfold L2.start;rw[yX (by rw[aP,<- p.len];omega),gc,hv];rfl
theorem P4{f:Mi.S}{k n:Nat}{vs:List V}{H:Hp}{Q:VK}{E:XK}(h:bW (Mi.dG k n f) vs H Q E):vs.length=k:=by obtain⟨Hv,ws,_,p,q⟩:=h;rw[<- p.len];exact(Mi.cR q).1
theorem B3{f:Mi.S}{k n:Nat}{vs:List V}{H:Hp}{Q:VK}{E:XK}(h:cI (Mi.gs k n f) vs H Q E):vs.length=k:=by obtain⟨Hv,ws,_,p,q⟩:=h;rw[<- p.len];exact(Mi.cR q).1
theorem Qg{N:List Str}{M:Nat->Bool}{k:Nat}{t:TS}{m:Mi.S}(hA:AS M qV t m)(hM:∀i,i<k->M i=false){vs:List V}{H:Hp}{Q:VK}{E:XK}(h:bW (Mi.dG k N.length m) vs H Q E) :
 t { nx:=λ_ H'=>Q .non H',rt:=Q } (start N vs) H:=by
 obtain⟨Hv,ws,vw,p,q⟩:=h;obtain⟨hk,q⟩:=Mi.cR q;refine hA H Hv _ _ H Hv _ (xi vw p hk hM) ((aD.mp q).mono λo ho=>?_);cases o with
 |nx e=>exactλσ H' Hv' I s=>ho _ H' Hv' I.gw u0
 |rt w=>exactλv H' Hv' g r=>ho v H' Hv' g r
 |bk e=>exact ho.elim
 |ct e=>exact ho.elim
theorem runN{N:List Str}{M:Nat->Bool}{k:Nat}{t:TS}{m:Mi.S}(hA:AS M qN t m)(hM:∀i,i<k->M i=false){vs:List V}{H:Hp}{Q:VK}{E:XK}(h:cI (Mi.gs k N.length m) vs H Q E) :
 t { nx:=λ_ H'=>Q .non H',rt:=Q } (start N vs) H:=by
 obtain⟨Hv,ws,vw,p,q⟩:=h;obtain⟨hk,q⟩:=Mi.cR q;refine hA H Hv _ _ H Hv _ (xi vw p hk hM) ((aD.mp q).mono λo ho=>?_);cases o with
 |rt w=>exactλv H' Hv' g r=>ho v H' Hv' g r
 |nx e=>exact ho.elim
 |bk e=>exact ho.elim
 |ct e=>exact ho.elim
def vJ:Sp:=λvs H Q _=>∃(a:ai) (ns:List Int),vs=[.ref a]/\Lst H a (ns.map V.int)/\ns.length<=63/\jq H/\∀H',Q (.bl true) H'
theorem ints_rep(H:Hp):∀ns:List Int,P2 (Rep H) (ns.map D.int) (ns.map V.int)
 |[]=>.nil
 |n::r=>.cons (rO.mpr rfl) (ints_rep H r)
theorem Qm{P:bH}{w:bt}{K:aO}{mg:Str->Option aj}{base:aY}{CX:iu}{k:Nat}{f:ai}{fd:bJ}{ps:List Str}{m:Mi.Fn}(F:bO P w K mg base CX k f fd ps (bW m))
 (h:∀ns:List Int,ns.length<=63->m [.d (.lst (ns.map D.int))]=.ok (.d (.bl true))):bO P w K mg base CX k f fd ps vJ:=
 F.imp λvs H Q E ⟨a,ns,e,l,hl,k,q⟩=>by
  subst e;have l':Lst (kA H) a (ns.map V.int):=by
   rcases l with l|⟨o,l⟩
   ·exact .inl (nL l trivial)
   ·exact .inr ⟨o,nL l trivial⟩
  refine⟨kA H,[.d (.lst (ns.map D.int))],.all k,.cons (lu.mpr ⟨a,_,rfl,l',ints_rep _ ns⟩) .nil,?_⟩;rw[h ns hl];intro v H' Hv' g r;cases(wU (H:=Hv')).mp r;exact q H'
theorem S5{X:Cx}{ah:List (ai×Obj)}{σ:L2.St}{H:Hp}{s:az}{fp:List ai}{T:ai}{o:HO}{h':aY}{t':Nat}(I:Inv X ah σ H s)(hf:∀b∈fp,gQ X ah H b)
 (k:∀b u,b∉fp->s.heap.get? b=ac u->h'.get? b=ac u) (hT:s.heap.objs.size<=T) (new:d5 X.prog X.w (upd H T o) h' T o):Inv X ah σ (upd H T o) { s with heap:=h',toks:=t' }:=by
 have hn:H T=af:=I.hok.fresh hT;have nfp:∀b u,H b=ac u->b∉fp:=λb u e z=>by rw[(hf b z).1]at e;cases e
 refine I.call' (s':={ s with heap:=h',toks:=t' }) (ch:=fp) rfl ⟨λb u e _ _ hb=>k b u hb e,λb u e _ _ hb=>⟨u.slots,k b u hb e⟩,λb u e hb _=>?_,λb u e hb=>⟨u,k b u hb e⟩,λb xs e=>?_,λb q u e=>?_,λb w ps e=>⟨#[],?_⟩⟩ ?_ I.bare
  λb hb=>⟨(hf b hb).2.2.2.1,(hf b hb).2.1,(hf b hb).2.2.2.2.1,(hf b hb).2.2.2.2.2⟩
 ·have:b≠T:=iO (iN (cY e) hT);rw[aX this];exact hb
 ·rw[aX (dX e hn)];exact e
 ·rw[aX (dX e hn)];exact e
 ·rw[aX (dX e hn),e];simp
 ·intro b u e;by_cases hb:b=T
  ·subst hb;rw[bS]at e;cases e;exact new
  ·rw[aX hb]at e;refine(I.hok b u e).stay (λc v hc q=>k c v ?_ q) (λc q=>by rw[aX (dX q hn)];exact q) λc xs q=>by rw[aX (dX q hn)];exact q
   rcases hc with z|z
   ·rw[z];exact nfp b u e
   ·exact nfp c _ z
theorem Ja{X:Cx}{ah:List (ai×Obj)}{σ:L2.St}{H:Hp}{s:az}{fp:List ai}{h':aY}{t':Nat}(I:Inv X ah σ H s)(hf:∀b∈fp,gQ X ah H b)
 (k:∀b u,b∉fp->s.heap.get? b=ac u->h'.get? b=ac u):Inv X ah σ H { s with heap:=h',toks:=t' }:=by
 have nfp:∀b u,H b=ac u->b∉fp:=λb u e z=>by rw[(hf b z).1]at e;cases e
 refine I.call' (s':={ s with heap:=h',toks:=t' }) (ch:=fp) rfl ⟨λb u e _ _ hb=>k b u hb e,λb u e _ _ hb=>⟨u.slots,k b u hb e⟩,λb u e hb _=>hb,λb u e hb=>⟨u,k b u hb e⟩,λb xs e=>e,λb q u e=>e,λb w ps e=>⟨#[],by rw[e];simp⟩⟩ ?_ I.bare
  λb hb=>⟨(hf b hb).2.2.2.1,(hf b hb).2.1,(hf b hb).2.2.2.2.1,(hf b hb).2.2.2.2.2⟩
 intro b u e;refine(I.hok b u e).stay (λc v hc q=>k c v ?_ q) (λc q=>q) λc xs q=>q;rcases hc with z|z
 ·rw[z];exact nfp b u e
 ·exact nfp c _ z
section
variable{X:Cx}{elts:List bj}{k1:Nat}{tpos:Pos}
theorem F5:∀{ds:List D} {k i:Nat} {d:D},ds[i]? = ac d->(Mi.mI k ds)[i]? = ac (.tup [.int ((k+i:Nat):Int),d])
 |[],_,_,_,h=>by simp at h
 |d::r,k,0,e,h=>by simp at h;subst h;rfl
 |d::r,k,i+1,e,h=>by
  have:=F5 (ds:=r) (k:=k+1) (i:=i) (d:=e) (by simpa using h);rw[Mi.mI,lK,this];rw[show k+1+i=k+(i+1)by omega]
theorem xk:∀(ds:List D) (k:Nat),(Mi.mI k ds).length=ds.length
 |[],_=>rfl
 |d::r,k=>by rw[Mi.mI,eG,eG,xk r]
end
end A
namespace A
open PySem L2 PyProof.Rows
open Mi (D W Rs Fin aD Out Tg)
variable[Tb:cp]
section
variable{X:Cx}{K:aO}{M:Nat->Bool}{κ:Kd}{ta tb te tk:TE}{a b k:Mi.E}
theorem yU{Hv:Hp}:∀{ds:List D} {xs:List V} {bs:List Str},Mi.ir ds=ac bs->P2 (Rep Hv) ds xs->xs=bs.map V.str
 |[],_,bs,e,r=>by cases e;cases r;rfl
 |.str b::ds,_,bs,e,r=>by
  cases r with
  |cons x t=>
   cases hb:Mi.ir ds with
   |none=>rw[Mi.ir,hb]at e;cases e
   |some cs=>
    rw[Mi.ir,hb]at e;cases e;rw[yU hb t,nH.mp x];rfl
 |.non::_,_,_,e,_=>by cases e
 |.int _::_,_,_,e,_=>by cases e
 |.bl _::_,_,_,e,_=>by cases e
 |.lst _::_,_,_,e,_=>by cases e
 |.tup _::_,_,_,e,_=>by cases e
theorem Jq(ha:AE M qP ta a)(hb:AE M qP tb b):AE M qV (qj K "str" (rJoin K) ta (gm tb ib)) (Mi.m2 Mi.xY a b):=λe σ H Hv Q I h=>by
 obtain⟨x,hx,h⟩:=kE (aD.mp h);obtain⟨y,hy,h⟩:=kE (aD.mp h);cases x with
 | str sep=>cases y with
  |lst ds=>
   obtain⟨ys,hs,h⟩:=jC (aD.mp h);obtain⟨hz,h⟩:=Mi.cR h;refine ha e σ H Hv _ I (by
    rw[hx];intro v H1 Hv1 g1 r1;cases RD.str r1;refine⟨rfl,hb e σ H1 Hv1 _ (I.grow g1) (by
     rw[hy];intro v2 H2 Hv2 g2 r2;obtain⟨p,xs,rfl,l,r⟩:=RD.lst g2.vw r2;have:=yU hs r;subst this;exact⟨sep,p,ys,rfl,rfl,l.sq,hz,(Mi.mi h) _ H2 Hv2 (g1.trans g2) ut⟩)⟩)
  |_=>exact h.elim
 |_=>cases y<;>exact h.elim
def GX:V->List V->Hp->VK->Prop:=λx vs H Q=>∃l b xs zs,x=.ref l/\vs=[.ref b]/\H l=ac (.lst xs)/\Lst H b zs/\xs.length+zs.length<=sizeLine/\Q .non (upd H l (.lst (xs++zs)))
theorem yf:rZ X "list.extend" GX:=by
 intro ah s σ H x vs v us Q I rx rv h;obtain⟨l,b,xs,zs,rfl,rfl,hH,hB,hz,q⟩:=h;cases rx;obtain⟨u,rfl,ru⟩:=rv.one;cases ru;obtain⟨z,ax,n,r,hl,e⟩:=I.sH hH;obtain⟨its2,n2,r2,z2,e2⟩:=rJ I hB;have hl2:=r2.length;have hsz:ax.toArray.size+its2.toArray.size<=sizeLine:=by rw[dg,dg];omega
 have zP:¬ (!ax.toArray.isEmpty&&DL (ax.toArray.size+its2.toArray.size))=true:=by rw[SQ hsz,tP];exact dJ
 refine qY F.slot_list_extend ⟨_,e,rfl⟩ F.entry_list_extend (F.args_list_extend_2 _ _)
  (AutoSeq1.list_extend_list_list_0 l ax.toArray n b its2.toArray n2 zP (by rw[dg];omega) (by omega)) ⟨e,e2,?_⟩
 refine⟨.non,_,I.rD (its':=ax++its2) hH e (by simp) (r.append r2) ?_,rfl,q⟩;rw[dz];omega
theorem yh(i:Nat)(hm:M i=true)(ha:AE M qV te a):AS M κ (nW (qj K "list" GX (fQ i) (gm te ib))) (Mi.k8 i a):=λH0 Hv0 e σ H Hv D I h=>by
 obtain⟨d,hd,h⟩:=kE (aD.mp h);obtain⟨ds,he,h⟩:=rL (aD.mp h);cases d with
 |lst es=>
  obtain⟨hz,h⟩:=Mi.cR h;obtain⟨p,xs,q,q1,n,c⟩:=I.list hm he;refine⟨.ref p,q,.inl ⟨rfl,xs,.inl (.inl q1)⟩,ha e σ H Hv _ I.toR0 (by
   rw[hd];intro v H1 Hv1 g1 r;have I1:=I.grow g1;obtain⟨b,ys,rfl,l,r⟩:=(lu (H:=Hv1)).mp r;refine⟨p,b,xs,ys,rfl,rfl,g1.old.at q1,l.same g1.vw.sub,by rw[<- c.len,<- r.len,er];exact hz,?_⟩;exact h σ _ Hv1 (I1.write hm he q (show fK Hv1 (.d (.lst (ds++es))) (.lst (xs++ys))from(f9 g1.vis c).append r)) g1.vis)⟩
 |_=>exact h.elim
theorem yH{H:Hp}{d:D}{v:V}{y:Mi.Ky}(h:Mi.oP d=ac y)(r:Rep H d v):v=kV y:=by
 cases d with
 |bl i=>cases h;exact wU.mp r
 |str i=>cases h;exact nH.mp r
 |_=>cases h
theorem w9{H:Hp}:∀{ds:List D} {vs:List V} {ys:List Mi.Ky},Mi.qr ds=ac ys->P2 (Rep H) ds vs->vs=ys.map kV
 |[],_,_,h,r=>by cases h;cases r;rfl
 |d::ds,_,ys,h,r=>by
  cases r with
  |cons x t=>
   unfold Mi.qr at h;cases h1:Mi.oP d with
   |none=>rw[h1]at h;cases h
   |some y=>
    cases h2:Mi.qr ds with
    |none=>rw[h1,h2]at h;cases h
    |some zs=>
     rw[h1,h2]at h;cases h;rw[yH h1 x,w9 h2 t];rfl
theorem Bg{H Hv:Hp}(vw:Vw H Hv){w:W}{x:V}{d:D}{v:V}{q:Option D->Prop}(hw:RB H Hv w x)(r:Rep Hv d v)(h:Fin (Mi.yE w d) q):∃a o o',x=.ref a/\jH H a v o/\q o'/\match o' with
 |some d'=>∃v',o=ac v'/\Rep Hv d' v'
 |none=>o=af:=by
 cases w with
 |d x=>exact h.elim
 |ex z=>exact h.elim
 |fn z=>exact h.elim
 |dk ay=>
  obtain⟨y,hy,h⟩:=jC (aD.mp h);have h:q (Mi.jJ ay y):=h;have:∃a kv,x=.ref a/\H a=ac (.dK kv)/\ii Hv ay kv:=by
   rcases hw with ⟨a,kv,e,z,c⟩|⟨a,o,e,z,c⟩
   ·exact⟨a,kv,e,vw.sub _ _ z,c⟩
   ·cases o with
    |dK kv=>exact⟨a,kv,e,z,c⟩
    |_=>exact c.elim
  obtain⟨a,kv,e,z,c⟩:=this;have hv:=yH hy r;subst hv;exact⟨a,_,_,e,jH.k z,h,Ag c⟩
 |dt ay=>
  cases d with
  |tup ds=>
   obtain⟨y,hy,h⟩:=jC (aD.mp h);have h:q (Mi.jJ ay y):=h;have:∃a kv,x=.ref a/\H a=ac (.dT kv)/\ii Hv ay kv:=by
    rcases hw with ⟨a,kv,e,z,c⟩|⟨a,o,e,z,c⟩
    ·exact⟨a,kv,e,vw.sub _ _ z,c⟩
    ·cases o with
     |dT kv=>exact⟨a,kv,e,z,c⟩
     |_=>exact c.elim
   obtain⟨a,kv,e,z,c⟩:=this;obtain⟨b,xs,rfl,l,r⟩:=j1.mp r;have hv:=w9 hy r;subst hv;exact⟨a,_,_,e,jH.t z (vw.sub _ _ l),h,Ag c⟩
  |_=>exact h.elim
 |df ay=>
  cases d with
  |tup ds=>
   obtain⟨y,hy,h⟩:=jC (aD.mp h);have h:q (Mi.jJ ay y):=h;have:∃a ob kv,x=.ref a/\H a=ac (.frz ob (.dT kv))/\ii Hv ay kv:=by
    rcases hw with ⟨a,ob,kv,e,z,c⟩|⟨a,o,e,z,c⟩
    ·exact⟨a,ob,kv,e,vw.sub _ _ z,c⟩
    ·exact c.elim
   obtain⟨a,ob,kv,e,z,c⟩:=this;obtain⟨b,xs,rfl,l,r⟩:=j1.mp r;have hv:=w9 hy r;subst hv;exact⟨a,_,_,e,.inr ⟨kv,y,b,.inr ⟨ob,z⟩,rfl,vw.sub _ _ l,rfl⟩,h,Ag c⟩
  |_=>exact h.elim
theorem To(i:Nat)(hk:AE M qV tk k):AE M qV (FK tk (fQ i)) (Mi.uY i k):=λe σ H Hv Q I h=>
 hk e σ H Hv _ I ((aD.mp h).mono λd hd v H1 Hv1 g1 r=>by
  obtain⟨w,he,hd⟩:=sG (aD.mp hd);have I1:=I.grow g1;obtain⟨x,q,z⟩:=I1.any he;obtain⟨a,o,o',e1,g,h2,m⟩:=Bg g1.vw z r (aD.mp hd);refine⟨x,q,a,o,e1,g,?_⟩;have:o.isSome=o'.isSome:=by
   cases o' with
   |none=>have m:o=af:=m;rw[m];rfl
   |some d'=>obtain⟨v',m,_⟩:=m;rw[m];rfl
  rw[this];exact h2 _ H1 Hv1 g1 f7)
theorem UH(i:Nat)(hk:AE M qV tk k):AE M qV (Il tk (fQ i)) (Mi.oK i k):=λe σ H Hv Q I h=>
 hk e σ H Hv _ I ((aD.mp h).mono λd hd v H1 Hv1 g1 r=>by
  obtain⟨w,he,hd⟩:=sG (aD.mp hd);have I1:=I.grow g1;obtain⟨x,q,z⟩:=I1.any he;obtain⟨a,o,o',e1,g,h2,m⟩:=Bg g1.vw z r (aD.mp hd);refine⟨x,q,a,o,e1,g,?_⟩;have:o.isSome=o'.isSome:=by
   cases o' with
   |none=>have m:o=af:=m;rw[m];rfl
   |some d'=>obtain⟨v',m,_⟩:=m;rw[m];rfl
  rw[this];exact h2 _ H1 Hv1 g1 f7)
theorem Jc(i:Nat)(hk:AE M qV tk k):AE M qV (KU (fQ i) tk) (Mi.mL i k):=λe σ H Hv Q I h=>by
 obtain⟨d,hd,h⟩:=kE (aD.mp h);obtain⟨w,he,h⟩:=sG (aD.mp h);obtain⟨x,q,z⟩:=I.any he;refine⟨x,q,hk e σ H Hv _ I (by
  rw[hd];intro v H1 Hv1 g1 r;obtain⟨a,o,o',e1,g,h2,m⟩:=Bg g1.vw (z.grow g1) r (aD.mp h);cases o' with
  |none=>exact h2.elim
  |some d'=>
   obtain⟨v',rfl,rv⟩:=m;exact⟨a,v',e1,g,h2 v' H1 Hv1 g1 rv⟩)⟩
theorem FD{tv:TE}{v:Mi.E}(i:Nat)(hm:M i=true)(hk:AE M qV tk k)(hv:AE M qV tv v):AS M κ (L2.jh (fQ i) tk tv) (Mi.jh i k v):=λH0 Hv0 e σ H Hv D I h=>by
 obtain⟨d,hd,h⟩:=kE (aD.mp h);obtain⟨y,hy,h⟩:=kE (aD.mp h);obtain⟨w,he,h⟩:=sG (aD.mp h);refine hv e σ H Hv _ I.toR0 (by
  rw[hd];intro x H1 Hv1 g1 rx;have I1:=I.grow g1;obtain⟨p,o,q,q1,n,h0,c⟩:=I1.cell hm he;refine⟨.ref p,q,hk e σ H1 Hv1 _ I1.toR0 (by
   rw[hy];intro u H2 Hv2 g2 ru;have I2:=I1.grow g2;have c2:=c.same g2.vis;have q2:=g2.old.at q1 c.nt;have g12:=g1.trans g2;have rx2:=oU g2.vis rx;cases w with
   |d x=>exact(show False from aD.mp h).elim
   |ex z=>exact(show False from aD.mp h).elim
   |fn z=>exact(show False from aD.mp h).elim
   |df z=>exact(show False from aD.mp h).elim
   |dk ay=>
    obtain⟨hz,h⟩:=Mi.cR (aD.mp h);obtain⟨ky,hky,h⟩:=jC (aD.mp h);cases o with
    |dK kv=>
     have c2:ii Hv2 ay kv:=c2;have hu:=yH hky ru;subst hu;refine⟨p,_,rfl,oE.k q2 (by rw[<- P2.len c2,er];exact hz),?_⟩;exact h σ _ Hv2 (I2.write hm he q (show fK Hv2 (.dk (Mi.putK ky d ay)) (.dK (L2.putK kv ky x))from Kc rx2 c2)) g12.vis
    |_=>exact c2.elim
   |dt ay=>
    cases y with
    |tup ds=>
     obtain⟨hz,h⟩:=Mi.cR (aD.mp h);obtain⟨ky,hky,h⟩:=jC (aD.mp h);cases o with
     |dT kv=>
      have c2:ii Hv2 ay kv:=c2;obtain⟨b,xs,rfl,l,r⟩:=(j1 (H:=Hv2)).mp ru;have hu:=w9 hky r;subst hu;refine⟨p,_,rfl,oE.t q2 (g2.vw.sub _ _ l) (by rw[<- P2.len c2,er];exact hz),?_⟩;exact h σ _ Hv2 (I2.write hm he q (show fK Hv2 (.dt (Mi.putK ky d ay)) (.dT (L2.putK kv ky x))from Kc rx2 c2)) g12.vis
     |_=>exact c2.elim
    |_=>exact(show False from aD.mp h).elim)⟩)
end
end A
namespace Zp
open PySem PySem.Spec PyProof.Rows L2
variable[Tb:A.cp]
section
variable{P:bH}{w:bt}{B:bT}{F:aj->az->Prop}{z:az}
theorem OP{c t:ai}{i:Nat}{us:Array aj}{u:aj}{R:aj->az->Prop}(hc:z.heap.IsTupleIter c t i)(ht:z.heap.IsTuple t us)(hu:us[i]? = ac u)
 (hR:∀h',h'.IsTupleIter c t (i+1)->wf c z.heap h'->R u { z with heap:=h' }):wpAny (model P w) B (tS (.ref c)) R F z:=by
 obtain⟨ob,gb,cb,db⟩:=id hc;obtain⟨ol,gl,_,nl,dl⟩:=ht;unfold tS;refine aV (LJ (name:=wr "__next__") hc.typeIs zA (zh zA hc.typeIs LN ?_ (LM _)));show wpAny _ _ (field (.ref c) 0 >>= _) _ _ z;refine aV (pJ gb db (x:=.ref t) rfl ?_);show wpAny _ _ (if(dP t==fi)=true then _ else _) _ _ z;rw[a7 (λq:(dP t==fi)=true=>nomatch q)];show wpAny _ _ (field (.ref c) 1 >>= _) _ _ z;refine aV (pJ gb db (x:=.int i 0) rfl ?_);show wpAny _ _ (seqItems? (.ref t) >>= _) _ _ z;refine aV (wpAny_seqItems gl dl ?_);simp only[iP,hu];refine aV (v9 gb db (by simp) (cE ⟨u,rfl,cE (hR _ ?_ (tU ..))⟩));refine⟨_,we _ gb (wz (re db _)),(Obj.cls_mapFields ..).trans cb,?_⟩;rw[re db];simp[rawInt]
theorem SH{c t:ai}{i:Nat}{us:Array aj}{R:aj->az->Prop}(hn:B.handled=af)(hc:z.heap.IsTupleIter c t i)(ht:z.heap.IsTuple t us)(hu:us[i]? = af)
 (hF:∀h' e,Heap.ExtBut c z.heap h'->(∃o,h'.get? e=ac o/\o.cls=.type "StopIteration")->F (.ref e) { z with heap:=h' }):wpAny (model P w) B (tS (.ref c)) R F z:=by
 obtain⟨ob,gb,cb,db⟩:=id hc;obtain⟨ol,gl,_,nl,dl⟩:=ht;unfold tS;refine aV (LJ (name:=wr "__next__") hc.typeIs zA (zh zA hc.typeIs LN ?_ (LM _)));show wpAny _ _ (field (.ref c) 0 >>= _) _ _ z;refine aV (pJ gb db (x:=.ref t) rfl ?_);show wpAny _ _ (if(dP t==fi)=true then _ else _) _ _ z;rw[a7 (λq:(dP t==fi)=true=>nomatch q)];show wpAny _ _ (field (.ref c) 1 >>= _) _ _ z;refine aV (pJ gb db (x:=.int i 0) rfl ?_);show wpAny _ _ (seqItems? (.ref t) >>= _) _ _ z;refine aV (wpAny_seqItems gl dl ?_);simp only[iP,hu];refine aV (wpAny_rule (aV (v9 gb db (by simp) ?_)));show wpAny _ _ (newExc (.type "StopIteration") [] >>= _) _ _ _;refine aV ?_;simp only[newExc,newTuple];refine aV (zg ?_ (by size_fits));refine aV (m:=firstArgMember _ _) (wpAny_of_eq (a:=fi) (by simp only[firstArgMember];rfl) (zg ?_ (by size_fits)));simp only[raiseNew];refine aV (wpAny_handled ?_)
 first|rw[show B.in1.handled=af from hn]|rw[hn]
 exact aV (cE (wpAny_throw (hF _ _ (((tU ..).extBut.push _).push _) ⟨_,ge _ rfl,rfl⟩)))
end
def nm:Bool->String|true => "list" | false => "tuple"
def Fu:Bool->String|true => "list_iterator" | false => "tuple_iterator"
def lQ(k:Bool)(h:aY)(l:ai)(us:Array aj):Prop:=∃o,h.get? l=ac o/\o.cls=.type (nm k)/\∃n,o.data=.seq us n
def k9(k:Bool)(h:aY)(c l:ai)(i:Nat):Prop:=∃o,h.get? c=ac o/\o.cls=.type (Fu k)/\o.data=.fields #[.ref l,.int i 0]
theorem lQ.at{k:Bool}{h h':aY}{l:ai}{us:Array aj}(x:lQ k h l us)(f:∀o,h.get? l=ac o->h'.get? l=ac o):lQ k h' l us:=let ⟨o,e,r⟩:=x;⟨o,f o e,r⟩
theorem k9.at{k:Bool}{h h':aY}{c l:ai}{i:Nat}(x:k9 k h c l i)(f:∀o,h.get? c=ac o->h'.get? c=ac o):k9 k h' c l i:=let ⟨o,e,r⟩:=x;⟨o,f o e,r⟩
theorem k9.cell{k:Bool}{h:aY}{c l:ai}{i:Nat}(x:k9 k h c l i):∃o,h.get? c=ac o/\∀v,o.data≠.cell v:=let ⟨o,e,_,d⟩:=x;⟨o,e,λv q=>by rw[d]at q;cases q⟩
section
variable{P:bH}{w:bt}{B:bT}{F:aj->az->Prop}{z:az}
theorem nx{k:Bool}{c t:ai}{i:Nat}{us:Array aj}{u:aj}{R:aj->az->Prop}(hc:k9 k z.heap c t i)(ht:lQ k z.heap t us)(hu:us[i]? = ac u)
 (hR:∀h',k9 k h' c t (i+1)->wf c z.heap h'->R u { z with heap:=h' }):wpAny (model P w) B (tS (.ref c)) R F z:=by
 cases k
 ·exact OP hc ht hu hR
 ·exact wpAny_nextOf_list_item hc ht hu hR
theorem TU{k:Bool}{c t:ai}{i:Nat}{us:Array aj}{R:aj->az->Prop}(hn:B.handled=af)(hc:k9 k z.heap c t i)(ht:lQ k z.heap t us)(hu:us[i]? = af)
 (hF:∀h' e,Heap.ExtBut c z.heap h'->(∃o,h'.get? e=ac o/\o.cls=.type "StopIteration")->F (.ref e) { z with heap:=h' }):wpAny (model P w) B (tS (.ref c)) R F z:=by
 cases k
 ·exact SH hn hc ht hu hF
 ·exact wpAny_nextOf_list_end hn hc ht hu hF
abbrev A2(k:Bool)(l:ai):Obj:={ cls:=.type (Fu k),data:=.fields #[.ref l,.int 0 0] }
theorem AF{k:Bool}{l:ai}{us:Array aj}{R:aj->az->Prop}(h:lQ k z.heap l us)(hR:R (.ref z.heap.objs.size) { z with heap:=z.heap.push (A2 k l) }):wpAny (model P w) B (pyIter (.ref l)) R F z:=by
 cases k
 ·exact wpAny_pyIter_tuple h hR
 ·exact wpAny_pyIter_list h hR
end
theorem Ie{P:bH}{w:bt}{B:bT}(hn:B.handled=af)(k:Bool)(c l:ai)(hne:l≠c)(us:Array aj) :
 Draws P w B c [c,l] us.size (λi v=>us[i]? = ac v) (λi h=>k9 k h c l i/\lQ k h l us) where
 live:=λ_ _ st=>let ⟨o,ho,_⟩:=st.1;⟨o,ho⟩
 frame:=λ_ _ _ st f=>⟨st.1.at λo e=>f c (by simp) o e,st.2.at λo e=>f l (by simp) o e⟩
 item:=λi s Q E hi st hQ=>nx st.1 st.2 (u:=us[i]) (by simp[hi]) λh' a b=>hQ _ h' s.toks (by simp[hi]) ⟨a,st.2.at λo e=>b.extBut _ _ hne e⟩ b
 done:=λs Q E st hE=>TU hn st.1 st.2 (by simp) hE
end Zp
namespace Zp
end Zp
namespace Zp
end Zp
namespace Zp
open PySem PySem.Spec PyProof.Rows L2 A
variable[Tb:A.cp]
def iw(H:Hp)(s:Bool×ai)(xs:List V):Prop:=match s.1 with
 |true=>Lst H s.2 xs
 |false=>H s.2=ac (.tup xs)
theorem iw.nn{H:Hp}{s:Bool×ai}{xs:List V}(h:iw H s xs):H s.2≠af:=by
 obtain⟨k,a⟩:=s;cases k
 ·have h:H a=_:=h;show H a≠af;rw[h];simp
 ·rcases(show Lst H a xs from h)with h|⟨o,h⟩
  ·show H a≠af;rw[h];simp
  ·show H a≠af;rw[h];simp
theorem iw.inj{H:Hp}{s:Bool×ai}{xs ys:List V}(h:iw H s xs)(h':iw H s ys):xs=ys:=by
 obtain⟨k,a⟩:=s;cases k
 ·have h:H a=ac (.tup xs):=h;have h':H a=ac (.tup ys):=h';rw[h]at h';cases h';rfl
 ·rcases(show Lst H a xs from h)with h|⟨o,h⟩<;>rcases(show Lst H a ys from h')with h'|⟨o',h'⟩<;>rw[h]at h'<;>cases h'<;>rfl
theorem iw.at{X:Cx}{ah:List (ai×Obj)}{σ:L2.St}{H:Hp}{s:az}{k:Bool}{a:ai}{xs:List V}(I:Inv X ah σ H s)(h:iw H (k,a) xs):∃ax:List aj,Vals xs ax/\lQ k s.heap a ax.toArray:=by
 cases k
 ·have h:H a=ac (.tup xs):=h;obtain⟨_,ax,rv,o,e,c,_,d⟩:=I.hok a _ h;exact⟨ax,rv,o,e,c,d⟩
 ·have h:Lst H a xs:=h;obtain⟨ax,rv,⟨o,n,e,c,_,d⟩,_⟩:=I.list h.sq;exact⟨ax,rv,o,e,c,n,d⟩
end Zp
namespace Mi
def EU:D->Rs (List D)
 |.lst ds=>.ok ds
 |.tup ds=>.ok ds
 |_=>.no
end Mi
namespace Zp
open PySem PySem.Spec PyProof.Rows L2 A
open Mi (D W Rs Fin aD)
variable[Tb:A.cp]
theorem iw.same{H H':Hp}{s:Bool×ai}{xs:List V}(h:dC H H')(q:iw H s xs):iw H' s xs:=by
 obtain⟨k,a⟩:=s;cases k
 ·exact h _ _ q
 ·exact Lst.same (a:=a) h q
theorem PK{x:D}{k:List D->Prop}(h:Fin (Mi.EU x) k):∃ds,(x=.lst ds\/x=.tup ds)/\k ds:=by
 cases x with
 |lst b=>exact⟨b,.inl rfl,h⟩
 |tup b=>exact⟨b,.inr rfl,h⟩
 |_=>exact h.elim
theorem TD{H:Hp}{x:D}{ds:List D}{v:V}(h:x=.lst ds\/x=.tup ds)(r:Rep H x v):∃k a xs,v=.ref a/\iw H (k,a) xs/\P2 (Rep H) ds xs:=by
 rcases h with rfl|rfl
 ·obtain⟨a,xs,e,l,r⟩:=lu.mp r;exact⟨true,a,xs,e,l,r⟩
 ·obtain⟨a,xs,e,l,r⟩:=j1.mp r;exact⟨false,a,xs,e,l,r⟩
end Zp
namespace Zp
end Zp
namespace Mi
def rj(a:E):I:=λe=>(a e).bind λx=>(EU x).bind λds=>.ok (mI 0 ds)
end Mi
namespace Zp
open PySem PySem.Spec PyProof.Rows L2 A
open Mi (D W Rs Fin aD)
open AutoSeq1 (wpAny_loadPart')
variable[Tb:A.cp]
abbrev eO(c:ai):Obj:={ cls:=.type "enumerate", data:=.fields #[.none,.bool false,.ref c,rawInt 0,.none,.none] }
theorem OY(l:ai)(us:Array aj)(n:Nat)(dd:Option ai)(sl:Array (Option aj)) :
 Meets (tM.«enumerate.__new__» ⟨[.type "enumerate",.ref l],[]⟩) (λ_ R s=>s.heap.get? l=ac { cls:=.type "tuple", dict:=dd,data:=.seq us n,slots:=sl } /\
  ∀h1:aY,h1=s.heap.push (A2 false l)->R (.ok (.ret (.ref h1.objs.size))) { s with heap:=h1.push (eO s.heap.objs.size) }):=
 .of_wp λprog w A R s h=>by
  obtain⟨hp,g,d,tk,os⟩:=s;obtain⟨ht,h⟩:=h;have hsub:=sub_enumerate;have hQ:lQ false (Shared.heap ⟨hp,g,d,tk,os⟩) l us:=⟨_,ht,rfl,n,rfl⟩
  wp_walk using zi ht
  refine wpAny_stack_any λst=>cE ?_;split
  ·rename_i c _ _ _ _ _;cases(c==wq "enumerate")
   ·wp_walk using zi ht,AF hQ
    exact⟨_,rfl,h _ rfl⟩
   ·wp_walk using zi ht,AF hQ
    exact⟨_,rfl,h _ rfl⟩
  ·wp_walk using zi ht,AF hQ
   exact⟨_,rfl,h _ rfl⟩
theorem Ru{P:bH}{w:bt}{B:bT}{E':aj->az->Prop}{s:az}{k:Bool}{l:ai}{us:Array aj}{R:aj->az->Prop}(hQ:lQ k s.heap l us)
 (h:∀h',IsEnum h' (s.heap.objs.size+1) s.heap.objs.size 0 .none->k9 k h' s.heap.objs.size l 0->(∀b o,s.heap.get? b=ac o->h'.get? b=ac o)->R (.ref (s.heap.objs.size+1)) { s with heap:=h' }) :
 wpAny (model P w) B (call (.type "enumerate") [.ref l]) R E' s:=by
 cases k
 ·obtain⟨⟨c,dd,dt,sl⟩,hl,hc,n,hd⟩:=hQ;replace hc:c=.type "tuple" := hc;replace hd:dt=.seq us n:=hd;subst hc hd;refine callType_new F.called_enumerate (by decide) (F.typeCall_enumerate_1 _) (F.newCall_enumerate_1 _) (λobj=>F.args_object_init_2 obj _) F.entry_enumerate_new (OY l us n dd sl) ⟨hl,?_⟩;intro h1 e1;have z1:h1.objs.size=s.heap.objs.size+1:=by rw[e1];exact zl ..
  have g1:h1.get? s.heap.objs.size=ac (A2 false l):=by rw[e1];exact ge _ rfl
  have g2:(h1.push (eO s.heap.objs.size)).get? h1.objs.size=ac (eO s.heap.objs.size):=ge _ rfl;show _/\_;refine⟨⟨_,g2,rfl⟩,?_⟩;rw[z1]at g2 ⊢;exact h _ g2 ⟨_,dI _ g1,rfl,rfl⟩ λb o x=>dI _ (by rw[e1];exact dI _ x)
 ·exact call_enumerate_list hQ λh' a b _ d=>h h' a b d
def ve(q:Bool×ai):It:=⟨λi H=>∃xs x,iw H q xs/\xs[i]? = ac x,λi H v H'=>∃p x,(∀xs,iw H q xs->xs[i]? = ac x)/\H p=af/\v=.ref p/\H'=upd H p (.tup [.int i,x]),λi H=>∃xs,iw H q xs/\xs.length=i⟩
theorem Rh{P:bH}{w:bt}{K:aO}{elts:List bj}{k1:Nat}{pos:Pos}(k:Bool)(a e it:ai)(hne:e≠it):Turn P w K (.Tuple elts k1 pos) (ve (k,a)) [e,it] e (λi h=>(∃old,IsEnum h e it i old)/\k9 k h it a i) where
 mem:=by simp
 obj:=λi h st b hb=>by
  obtain⟨⟨old,he⟩,hi⟩:=st;rcases bZ.mp hb with rfl|hb
  ·exact⟨_,he,λv z=>by cases z⟩
  ·have e1:b=it:=by simpa using hb
   subst e1;exact hi.cell
 keep:=λi h h' st kk=>⟨let ⟨old,he⟩:=st.1;⟨old,kk e (by simp) _ he⟩,st.2.at λo q=>kk it (by simp) o q⟩
 item:=by
  intro X hP hw hK hc i ah s σ H E I hf st hg;subst hP hw hK;obtain⟨xs,x,hq,hx⟩:=hg;obtain⟨ax,rv,p⟩:=hq.at I;obtain⟨u,hu,ru⟩:=rv.get hx;obtain⟨⟨old,he⟩,hli⟩:=st;have hlt:i<ax.toArray.size:=by rw[dg];exact(fe.mp hu).1
  have hai:a≠it:=λz=>hq.nn (by show H a=af;rw[z];exact(hf it (by simp)).1);have hea:e≠a:=λz=>hq.nn (by show H a=af;rw[<- z];exact(hf e (by simp)).1);refine wpAny_pyNext_enum_itemD (Ie (by first|exact I.ok.hd hc|(simp;exact I.ok.hd hc)) k it a hai ax.toArray) he ⟨hli,p⟩ hlt hne (by simp[hne,hea]) λy h' tk hy ho hs' hT hsz hk=>?_;have hy:y=u:=by
   have hu':ax.toArray[i]? = ac u:=by simpa using hu
   rw[hu']at hy;exact(jQ hy).symm
  subst hy;refine⟨_,rfl,wpAny_letOwnedTupleGo_enum ho λh2 he2 hs2=>?_⟩;have kk:∀b o,b∉[e,it]->s.heap.get? b=ac o->h2.get? b=ac o:=λb o hb q=>by
   simp at hb;exact(hs2.2 b hb.1).trans (hk b o hb.1 hb.2 q)
  have hTn:s.heap.objs.size≠e:=λz=>absurd (cY he) (by rw[z];exact m6 _);refine⟨.ref s.heap.objs.size,upd H s.heap.objs.size (.tup [.int i,x]),S5 (s:=s) (t':=tk+1) I hf kk (bU _) ?_,rfl,⟨_,x,λys hy=>by rw[hy.inj hq];exact hx,I.hok.fresh (bU _),rfl,rfl⟩,⟨⟨_,he2⟩,?_⟩,λb hb=>?_⟩
  ·exact⟨by simp only[eG,iz];rw[er];decide,[.int i tk,y],.cons ⟨_,rfl⟩ (.cons ru .nil),⟨_,(hs2.2 _ hTn).trans hT,rfl,rfl,_,rfl⟩⟩
  ·exact hs'.1.at λo q=>(hs2.2 it (dW hne)).trans q
  ·have:b≠s.heap.objs.size:=λz=>by
    subst z;rcases bZ.mp hb with z|z
    ·exact hTn z
    ·have z:s.heap.objs.size=it:=by simpa using z
     obtain⟨o,ho,_⟩:=hli;exact absurd (cY ho) (by rw[<- z];exact m6 _)
   rw[aX this];exact(hf b hb).1
 done:=by
  intro X hP hw hK hc i ah s σ H E I hf st hg;subst hP hw hK;obtain⟨xs,hq,hx⟩:=hg;obtain⟨ax,rv,p⟩:=hq.at I;obtain⟨⟨old,he⟩,hli⟩:=st;have hl:=rv.length;have hai:a≠it:=λz=>hq.nn (by show H a=af;rw[z];exact(hf it (by simp)).1);subst hx;have D:=Ie (P:=X.prog) (w:=X.w) (B:=X.A.in1) (by first|exact I.ok.hd hc|(simp;exact I.ok.hd hc)) k it a hai ax.toArray;have hn:ax.toArray.size=xs.length:=by simp;omega
  rw[hn]at D;exact wpAny_pyNext_enum_endD D he ⟨hli,p⟩ λh' hx=>⟨rfl,Ja (s:=s) (t':=s.toks) I hf λb o hb q=>hx b o (λz=>hb (by simp[z])) q⟩
 self:=λ_ i s Q E st h=>let ⟨⟨old,he⟩,_⟩:=st;wpAny_pyIter_enum he h
section
variable{X:Cx}{elts:List bj}{k1:Nat}{tpos:Pos}{M:Nat->Bool}
def HG(tl:TE):TI:=λσ H R=>tl σ H λx H1=>∃k a,[x]=[V.ref a]/\(∃xs,iw H1 (k,a) xs)/\R (ve (k,a)) H1
theorem Ga{a:bj}{ta:TE}{p pos:Pos}(hg:Gl X "enumerate")(hm:X.mg "enumerate" = af)(ha:PE X a ta)(hs:starEach [a] X.env=[(false,eval a X.env)]:=by rfl)(hs0:starEach [a] X.env=(false,eval a X.env)::starEach [] X.env:=by rfl) :
 PI X (.Tuple elts k1 tpos) (.Call (.Name "enumerate" p) [a] [] pos) (HG ta):=by
 intro ah s σ H R I h;refine Call_ (ql I hg hm boot_enumerate (zG (bn (av ha aR hs0 pos ah s σ H (λvs H1=>∃k l,vs=[.ref l]/\(∃xs,iw H1 (k,l) xs)/\R (ve (k,l)) H1) I ?_) λus s1 ⟨vs,H1,I1,r1,q1⟩=>?_) hs rfl))
 ·exact h
 ·obtain⟨k,l,e,⟨xs,hq⟩,q⟩:=q1;subst e;obtain⟨u,rfl,ru⟩:=vals1 r1;cases ru;obtain⟨ax,rv,pl⟩:=hq.at I1;refine Ru pl λh' hE hI hk=>?_;refine wpAny_pyIter_enum hE ?_;have I2:Inv X ah σ H1 { s1 with heap:=h' }:=I1.kept (t':=s1.toks) λb o e=>hk b o e;refine⟨_,[s1.heap.objs.size+1,s1.heap.objs.size],_,_,H1,rfl,I2,Rh k l (s1.heap.objs.size+1) s1.heap.objs.size (zw (Nat.lt_succ_self _)),⟨⟨_,hE⟩,hI⟩,λb hb=>?_,q⟩;have hb:s1.heap.objs.size<=b:=by
   rcases bZ.mp hb with z|z
   ·rw[z];exact zz _
   ·have z:b=s1.heap.objs.size:=by simpa using z
    rw[z];exact bU _
  exact I1.jP hb (I1.hok.fresh hb)
theorem Ny{q:Bool×ai}{ds:List D}{P:Hp->Hp->Prop}(ok:∀H Hv,P H Hv->Vw H Hv->∃xs,iw H q xs/\P2 (Rep Hv) ds xs):uo (ve q) P (Mi.mI 0 ds):=by
 refine⟨λi H Hv p v hi=>?_,λi H Hv x H' p v hi y=>?_,λH Hv p v=>?_⟩
 ·obtain⟨xs,l,r⟩:=ok H Hv p v;rw[xk]at hi;obtain⟨x,hx,_⟩:=r.getL (i:=i) (a:=ds[i]) (by simp[hi]);exact⟨xs,x,l,hx⟩
 ·obtain⟨xs,l,r⟩:=ok H Hv p v;rw[xk]at hi;obtain⟨q,z,hz,hq,rfl,rfl⟩:=y;obtain⟨x,hx,rx⟩:=r.getL (i:=i) (a:=ds[i]) (by simp[hi]);rw[hz xs l]at hx;cases hx;obtain⟨g,k⟩:=BP v (ds:=[.int i,ds[i]]) (xs:=[.int i,z]) (.cons (rO.mpr rfl) (.cons rx .nil)) hq;refine⟨_,.tup [.int i,ds[i]],g,?_,k⟩;rw[F5 (i:=i) (d:=ds[i]) (by simp[hi])];simp
 ·obtain⟨xs,l,r⟩:=ok H Hv p v;exact⟨xs,l,by rw[xk,r.len]⟩
theorem JC{ta:TE}{a:Mi.E}(ha:AE M qV ta a):jS M (HG ta) (Mi.rj a):=λe σ H Hv R I h=>
 ha e σ H Hv _ I ((aD.mp h).mono λx hx v H1 Hv1 g1 rx=>by
  obtain⟨ds,hd,hk⟩:=PK (aD.mp hx);obtain⟨k,p,xs,rfl,l,r⟩:=TD hd (show Rep Hv1 x v from rx);exact⟨k,p,rfl,⟨xs,l.same g1.vw.sub⟩,hk (ve (k,p)) H1 Hv1 (λH Hv=>iw Hv (k,p) xs/\P2 (Rep Hv) ds xs) g1 (Ny λH Hv z v=>⟨xs,z.1.same v.sub,z.2⟩) ⟨l,r⟩ λH1 Hv1 H2 Hv2 z s v=>⟨z.1.same s,f9 s z.2⟩⟩)
end
end Zp
namespace Mi
def Jo(k v:E):EW:=λe=>(k e).bind λd=>(v e).bind λx=>(cy (oP d)).bind λy=>.ok (.dk [(y,x)])
end Mi
namespace Zp
open PySem PySem.Spec PyProof.Rows L2 A
open Mi (D W Rs Fin aD)
variable[Tb:A.cp]
section
variable{X:Cx}{M:Nat->Bool}{κ:Kd}
theorem Pz{k v:bj}{tk tv:TE}{pos:Pos}(hk:PE X k tk)(hv:PE X v tv):PE X (.Dict [ac k] [v] pos) (BB [(tk,tv)]):=RK (Q0 hk hv OI) rfl rfl (by simp) (by simp)
theorem T9{tk tv:TE}{k v:Mi.E}(hk:AE M qV tk k)(hv:AE M qV tv v):AW M qN (BB [(tk,tv)]) (Mi.Jo k v):=λe σ H Hv Q I h p hp=>by
 have g0:bx H Hv (upd H p (.dK [])) Hv:=.um I.vw trivial hp;refine hk e σ _ Hv _ (I.grow g0) ((aD.mp h).mono λd hd x H1 Hv1 g1 rx=>hv e σ H1 Hv1 _ ((I.grow g0).grow g1) ((aD.mp hd).mono λc hc y H2 Hv2 g2 ry=>?_));obtain⟨z,hz,hq⟩:=jC (aD.mp hc);have hx:=yH hz (show Rep Hv1 d x from rx);subst hx;have hp2:H2 p=ac (.dK []):=g2.old.at (g1.old.at bS);have n1:Hv1 p=af:=g1.hid p _ bS (rK I.vw hp);have n2:Hv2 p=af:=g2.hid p _ (g1.old.at bS) n1;have G:=g0.trans (g1.trans g2);refine⟨hp2,[(z,y)],rfl,by simp,hq (.ref p) (upd H2 p (.dK [(z,y)])) Hv2 ⟨G.old.put hp hp2,g1.vis.trans g2.vis,⟨λb u q=>?_,λb xs q=>?_,λb o u q=>?_,g2.vw.cd.put hp2 trivial trivial,g2.vw.nv⟩,G.hid⟩ ⟨p,.dK [(z,y)],rfl,hp,bS,n2,.cons ⟨rfl,show Rep Hv2 c y from ry⟩ .nil⟩⟩
 ·have hb:b≠p:=dX q n2;rw[aX hb];exact g2.vw.sub _ _ q
 ·by_cases hb:b=p
  ·subst hb;rw[bS]at q;cases q
  ·rw[aX hb]at q;exact g2.vw.tup _ _ q
 ·by_cases hb:b=p
  ·subst hb;rw[bS]at q;cases q
  ·rw[aX hb]at q;exact g2.vw.frz _ _ _ q
end
end Zp
namespace Mi
abbrev SN:=List D->List D->Env->Rs Out
end Mi
namespace Zp
open PySem PySem.Spec PyProof.Rows L2 A
open Mi (D W Rs Fin aD Out)
variable[Tb:A.cp]
end Zp
namespace A
end A
namespace A
end A
namespace Mi
open PySem
def lA(x:D)(lo hi:Option Int):Rs D:=match x with
 |.lst ds=>.ok (.lst (eP ds lo hi))
 | .tup ds=>match lo,hi with
  |some a,af=>bp (1<=a/\a<=(ds.length:Int)/\ds.length<=16777216) (.ok (.tup (ds.drop a.toNat)))
  |_,_=>.no
 |_=>.no
def oC(xs ys:List Str):Bool:=xs.all (λx=>decide (x∈ys))&&ys.all (λy=>decide (y∈xs))
end Mi
namespace A
end A
namespace A
open PySem L2 PyProof.Rows
open Mi (D W Rs Fin aD Out Tg met)
variable[Tb:cp]
section
variable{X:Cx}{K:aO}{M:Nat->Bool}{te ta tb:TE}{a b:Mi.E}
def Jb(K:aO):V->Option Int->Option Int->Hp->VK->Prop:=λx lo hi H Q=>∃p xs a,x=.ref p/\gu K H p xs/\lo=ac a/\hi=af/\1<=a/\a<=(xs.length:Int)/\xs.length<=sizeLine/\∀q,H q=af->Q (.ref q) (upd H q (.tup (xs.drop a.toNat)))
theorem S3:lS X (Jb X.K):=by
 intro ah s σ H x v vl vu lo hi sl Q I rx hs pl pu h;obtain⟨p,xs,a,rfl,hx,rfl,rfl,h1,h2,hz,q⟩:=h;cases rx;obtain⟨ax,r,ht,_⟩:=I.tuple hx;have hl:=r.length;refine⟨"tuple", _,slot_tuple_getitem.lookup,ht.typeIs,?_⟩;cases pl with
 |int _ t=>
 cases pu;obtain⟨n,rfl⟩ : ∃n:Nat,a=n:=⟨a.toNat,by omega⟩;refine getItem_tuple_from ht hs (by omega) (by rw[dg];omega) ?_ (by rw[dg];omega);rw[show(ax.toArray.toList.drop n)=ax.drop n by simp];have q:=q _ (I.hok.fresh (bU _));rw[iP]at q;exact⟨.ref s.heap.objs.size,_,I.laid (t':=s.toks) (o:=.tup (xs.drop n)) (λb ob q=>dI _ q) (bU _) ⟨by rw[iy];omega,_,r.drop n,⟨_,ge _ rfl,rfl,rfl,0,rfl⟩⟩,rfl,q⟩
def JZ(K:aO):V->Option Int->Option Int->Hp->VK->Prop:=λx lo hi H Q=>Aq K x lo hi H Q\/Jb K x lo hi H Q
theorem Bq:lS X (JZ X.K):=Jf.or S3
theorem Bf:BS qV (JZ K) Mi.lA:=λx lo hi v H Hv Q vw rx h=>by
 cases x with
 |lst ds=>
  obtain⟨p,xs,rfl,l1,r1⟩:=RD.lst vw rx;refine .inl ⟨p,xs,rfl,l1.sq,λa ha=>?_⟩;obtain⟨g,k⟩:=AV vw (JU r1 lo hi) ha;exact h _ _ _ g k
 |tup ds=>
  obtain⟨p,xs,rfl,l1,_,r1⟩:=RD.tup vw rx;cases lo with
  |none=>exact h.elim
  | some a=>cases hi with
   |some c=>exact h.elim
   |none=>
    obtain⟨⟨z1,z2,z3⟩,h⟩:=Mi.cR h;refine .inr ⟨p,xs,a,rfl,.inl (.inl l1),rfl,rfl,z1,by rw[<- r1.len];exact z2,by rw[<- r1.len,er];exact z3,λc hc=>?_⟩;obtain⟨g,k⟩:=BP vw (r1.drop a.toNat) hc;exact h _ _ _ g k
 |_=>exact h.elim
end
end A
namespace So
open PySem PySem.W PyProof.Rows
def jg{α:Type}(n:Nat)(lt:Nat->Nat->Bool):KasT α->(α->Prop)->Prop
 |.ret a,Q=>Q a
 |.ask i j k,Q=>i<n/\j<n/\jg n lt (k (lt i j)) Q
theorem rp{α β:Type}{n:Nat}{lt:Nat->Nat->Bool}{f:α->KasT β}{Q:β->Prop}:∀{t:KasT α},jg n lt t (λa=>jg n lt (f a) Q)->jg n lt (t.bind f) Q
 |.ret _,h=>h
 |.ask _ _ k,h=>⟨h.1,h.2.1,rp (t:=k _) h.2.2⟩
theorem lU{α:Type}{n:Nat}{lt:Nat->Nat->Bool}{Q Q':α->Prop}(m:∀a,Q a->Q' a):∀{t:KasT α},jg n lt t Q->jg n lt t Q'
 |.ret _,h=>m _ h
 |.ask _ _ k,h=>⟨h.1,h.2.1,lU m (t:=k _) h.2.2⟩
theorem Fp{α:Type}{n:Nat}{lt:Nat->Nat->Bool}{cmp:Nat->Nat->(Bool->az->Prop)->az->Prop}{s:az}(hc:∀i j C,i<n->j<n->C (lt i j) s->cmp i j C s){Q:α->Prop}:∀{t:KasT α},jg n lt t Q->t.kasWp cmp (λa s'=>s'=s/\Q a) s
 |.ret _,h=>⟨rfl,h⟩
 |.ask i j k,h=>hc i j _ h.1 h.2.1 (Fp hc (t:=k _) h.2.2)
section
variable{n:Nat}{lt:Nat->Nat->Bool}
structure uI(n:Nat)(lt:Nat->Nat->Bool):Prop where
 tot:∀i j,i<n->j<n->i≠j->lt i j=true\/lt j i=true
 asy:∀i j,i<n->j<n->lt i j=true->lt j i=false
 tr:∀i j k,i<n->j<n->k<n->lt i j=true->lt j k=true->lt i k=true
abbrev at'(p:Array Nat)(i:Nat):Nat:=p.getD i 0
structure Pm(n:Nat)(p:Array Nat):Prop where
 pm:p.Perm (fH (bP n))
theorem Pm.size{p:Array Nat}(h:Pm n p):p.size=n:=by have:=h.pm.size_eq;simpa using this
theorem vE{p:Array Nat}{i:Nat}(h:i<p.size):at' p i=p[i]:=by simp[at',Array.getD,h]
theorem Pm.bd{p:Array Nat}(h:Pm n p){i:Nat}(hi:i<n):at' p i<n:=by
 have hs:i<p.size:=by rw[h.size];exact hi
 rw[vE hs];have:p[i]∈(fH (bP n)).toList:=(ww.mp h.pm).mem_iff.mp (by simp);simpa using this
theorem Pm.inj{p:Array Nat}(h:Pm n p){i j:Nat}(hi:i<n)(hj:j<n)(e:at' p i=at' p j):i=j:=by
 have si:i<p.size:=by rw[h.size];exact hi
 have sj:j<p.size:=by rw[h.size];exact hj
 rw[vE si,vE sj]at e;have nd:p.toList.Nodup:=(ww.mp h.pm).nodup_iff.mpr (by simpa using y9);have e2:p.toList[i]'(by simpa using si)=p.toList[j]'(by simpa using sj):=by simpa using e
 exact(tE nd).mp e2
def Sd(lt:Nat->Nat->Bool)(p:Array Nat)(k:Nat):Prop:=∀i j,i<j->j<k->lt (at' p i) (at' p j)=true
def Dd(lt:Nat->Nat->Bool)(p:Array Nat)(k:Nat):Prop:=∀i j,i<j->j<k->lt (at' p j) (at' p i)=true
variable(O:uI n lt)
include O
theorem not_lt{p:Array Nat}(h:Pm n p){i j:Nat}(hi:i<n)(hj:j<n)(ne:i≠j)(e:lt (at' p i) (at' p j)=false):lt (at' p j) (at' p i)=true:=by
 rcases O.tot _ _ (h.bd hi) (h.bd hj) (λz=>ne (h.inj hi hj z))with z|z
 ·rw[e]at z;cases z
 ·exact z
theorem Sd.more{p:Array Nat}(h:Pm n p){k:Nat}(s:Sd lt p k)(hk:1<=k)(hkn:k<n)(e:lt (at' p (k-1)) (at' p k)=true):Sd lt p (k+1):=λi j hij hj=>by
 by_cases hjk:j<k
 ·exact s i j hij hjk
 ·obtain rfl:j=k:=by omega
  by_cases hi:i=j-1
  ·subst hi;exact e
  ·exact O.tr _ _ _ (h.bd (by omega)) (h.bd (by omega)) (h.bd hkn) (s i (j-1) (by omega) (by omega)) e
theorem Dd.more{p:Array Nat}(h:Pm n p){k:Nat}(s:Dd lt p k)(hk:1<=k)(hkn:k<n)(e:lt (at' p k) (at' p (k-1))=true):Dd lt p (k+1):=λi j hij hj=>by
 by_cases hjk:j<k
 ·exact s i j hij hjk
 ·obtain rfl:j=k:=by omega
  by_cases hi:i=j-1
  ·subst hi;exact e
  ·exact O.tr _ _ _ (h.bd hkn) (h.bd (by omega)) (h.bd (by omega)) e (s i (j-1) (by omega) (by omega))
theorem CI{p:Array Nat}(h:Pm n p):∀(f k:Nat),1<=k->k+f<=n->Sd lt p k->jg n lt (kas_asc p f k) λm=>k<=m/\m<=k+f/\Sd lt p m/\(m=k+f\/lt (at' p m) (at' p (m-1))=true)
 |0,k,_,_,s=>⟨bU _,bU _,s,.inl rfl⟩
 |f+1,k,h1,h2,s=>by
  refine⟨h.bd (by omega),h.bd (by omega),?_⟩;cases e:lt (p.getD k 0) (p.getD (k-1) 0)with
  |true=>exact⟨bU _,by omega,s,.inr e⟩
  |false=>
   dsimp only;rw[a7 dJ];refine lU (λm hm=>?_) (CI h f (k+1) (by omega) (by omega) (Sd.more O h s h1 (by omega) (not_lt O h (by omega) (by omega) (by omega) e)));refine⟨by omega,by omega,hm.2.2.1,?_⟩;rcases hm.2.2.2 with z|z
   ·exact .inl (by omega)
   ·exact .inr z
theorem ER{p:Array Nat}(h:Pm n p):∀(f k:Nat),1<=k->k+f<=n->Dd lt p k->jg n lt (kas_desc f p k 0) λr=>r.1=p/\k<=r.2.1/\r.2.1<=k+f/\r.2.2=0/\Dd lt p r.2.1
 |0,k,_,_,s=>⟨rfl,bU _,bU _,rfl,s⟩
 |f+1,k,h1,h2,s=>by
  refine⟨h.bd (by omega),h.bd (by omega),?_⟩;cases e:lt (p.getD k 0) (p.getD (k-1) 0)with
  |true=>
   dsimp only;rw[a8 rfl,a7 (by omega)];refine lU (λr hr=>⟨hr.1,by omega,by omega,hr.2.2.2⟩) (ER h f (k+1) (by omega) (by omega) (Dd.more O h s h1 (by omega) e))
  |false=>
   dsimp only;rw[a7 dJ];refine⟨h.bd (by omega),h.bd (by omega),?_⟩;dsimp only;rw[show lt (p.getD (k-1) 0) (p.getD k 0)=true from not_lt O h (by omega) (by omega) (by omega) e,a8 rfl];exact⟨rfl,bU _,by show k<=_;omega,rfl,s⟩
theorem Fe{p:Array Nat}{k:Nat}(hk:k<=p.size)(i:Nat):at' (kas_rev p 0 k) i=if i<k then at' p (k-1-i)else at' p i:=by
 have e:=getElem?_mirror_all (xs:=p) (i:=0) (j:=k) hk i;show(kas_rev p 0 k).getD i 0=_;have g:∀(q:Array Nat) (j:Nat),q.getD j 0=(q[j]?).getD 0:=λq j=>by simp
 rw[g];unfold kas_rev;rw[e];by_cases hi:i<k
 ·rw[a8 ⟨iC _,hi⟩,a8 hi,<- g,show 0+k-1-i=k-1-i by omega]
 ·rw[a7 (by omega),a7 hi,<- g]
theorem Gu{p:Array Nat}(h:Pm n p)(k:Nat):Pm n (kas_rev p 0 k):=⟨(mirror_perm _ _ _ _).trans h.pm⟩
theorem CL{p:Array Nat}(h:Pm n p){k:Nat}(h1:1<=k)(h2:k<=n)(s:Dd lt p k):jg n lt (kas_tail3 k n p) λr=>Pm n r.2/\1<=r.1/\r.1<=n/\Sd lt r.2 r.1:=by
 have sz:k<=p.size:=by rw[h.size];exact h2
 have s':Sd lt (kas_rev p 0 k) k:=λi j hij hj=>by
  rw[Fe O sz,Fe O sz,a8 (by omega),a8 hj];exact s _ _ (by omega) (by omega)
 refine rp (lU (λm hm=>?_) (CI O (Gu O h k) (n-k) k h1 (by omega) s'));exact⟨Gu O h k,by omega,by omega,hm.2.2.1⟩
theorem Tl{p:Array Nat}(h:Pm n p){k:Nat}(h2:k+1<=n)(s:Dd lt p (k+1)):jg n lt (kas_descPart k n p) λr=>Pm n r.2/\1<=r.1/\r.1<=n/\Sd lt r.2 r.1:=by refine rp (lU (λr hr=>?_) (ER O h (n-(k+1)) (k+1) (by omega) (by omega) s));obtain⟨e1,l1,l2,e2,d⟩:=hr;rw[e2,a7 (by omega),e1];exact CL O h (by omega) (by omega) d
theorem J1{p:Array Nat}(h:Pm n p)(h1:1<=n):jg n lt (kas_count n p) λr=>Pm n r.2/\1<=r.1/\r.1<=n/\Sd lt r.2 r.1:=by
 refine rp (lU (λm hm=>?_) (CI O h (n-1) 1 (bU _) (by omega) (λi j hij hj=>by omega)));obtain⟨m1,m2,s,e⟩:=hm;by_cases hn:m=n
 ·rw[a8 (by simpa using hn)];exact⟨h,m1,by omega,s⟩
 ·rw[a7 (by simpa using hn)];have e:=e.resolve_left (by omega);by_cases hg:m>1
  ·rw[a8 hg];refine⟨h.bd (by omega),h.bd (by omega),?_⟩;dsimp only;rw[show lt (p.getD 0 0) (p.getD (m-1) 0)=true from s 0 (m-1) (by omega) (by omega),a8 rfl];exact⟨h,m1,by omega,s⟩
  ·rw[a7 hg];obtain rfl:m=1:=by omega
   refine Tl O h (by omega) λi j hij hj=>?_;obtain rfl:i=0:=by omega
   obtain rfl:j=1:=by omega
   exact e
theorem B8{p:Array Nat}(h:Pm n p){k:Nat}(hk:k<n)(s:Sd lt p k):∀(f l r:Nat),l<=r->r<=k->r-l<=f->(∀i,i<l->lt (at' p i) (at' p k)=true)->(∀i,r<=i->i<k->lt (at' p k) (at' p i)=true) ->
 jg n lt (kas_place p k f l r) λm=>m<=k/\(∀i,i<m->lt (at' p i) (at' p k)=true)/\(∀i,m<=i->i<k->lt (at' p k) (at' p i)=true)
 |0,l,r,h1,h2,h3,a,b=>by
  obtain rfl:l=r:=by omega
  exact⟨h2,a,b⟩
 |f+1,l,r,h1,h2,h3,a,b=>by
  unfold kas_place;by_cases g:l >= r
  ·rw[a8 g];obtain rfl:l=r:=by omega
   exact⟨h2,a,b⟩
  ·rw[a7 g];refine⟨h.bd hk,h.bd (by omega),?_⟩;cases e:lt (p.getD k 0) (p.getD ((l+r)/2) 0)with
   |true=>
    dsimp only;rw[a8 rfl];refine B8 h hk s f l ((l+r)/2) (by omega) (by omega) (by omega) a λi hi hk'=>?_;by_cases z:i=(l+r)/2
    ·subst z;exact e
    ·exact O.tr _ _ _ (h.bd hk) (h.bd (by omega)) (h.bd (by omega)) e (s _ _ (by omega) hk')
   |false=>
    dsimp only;rw[a7 dJ];have e':=not_lt O h hk (by omega) (by omega) e;refine B8 h hk s f ((l+r)/2+1) r (by omega) h2 (by omega) (λi hi=>?_) b;by_cases z:i=(l+r)/2
    ·subst z;exact e'
    ·exact O.tr _ _ _ (h.bd (by omega)) (h.bd (by omega)) (h.bd hk) (s _ _ (by omega) (by omega)) e'
theorem FM{p:Array Nat}{k d:Nat}(hk:k<p.size)(hd:d<=k)(i:Nat):at' (bubble p k d) i=if i=k-d then at' p k else if k-d<i/\i<=k then at' p (i-1)else at' p i:=by
 have e:=getElem?_bubble hk d hd i;have g:∀(q:Array Nat) (j:Nat),q.getD j 0=(q[j]?).getD 0:=λq j=>by simp
 show(bubble p k d).getD i 0=_;rw[g,e];by_cases h1:i=k-d
 ·rw[a8 h1,a8 h1,<- g]
 ·rw[a7 h1,a7 h1];by_cases h2:k-d<i/\i<=k
  ·rw[a8 h2,a8 h2,<- g]
  ·rw[a7 h2,a7 h2,<- g]
theorem GV:∀(f:Nat) (p:Array Nat) (k:Nat),Pm n p->k+f<=n->Sd lt p k->jg n lt (kas_bin f p k) λq=>Pm n q/\Sd lt q (k+f)
 |0,p,k,h,_,s=>⟨h,s⟩
 |f+1,p,k,h,hk,s=>by
  have sz:k<p.size:=by rw[h.size];omega
  refine rp (lU (λl hl=>?_) (B8 O h (by omega) s k 0 k (by omega) (bU _) (by omega) (λi hi=>by omega) (λi h1 h2=>by omega)));obtain⟨l1,lo,hi⟩:=hl;have s':Sd lt (bubble p k (k-l)) (k+1):=λi j hij hj=>by
   rw[FM O sz (d:=k-l) (by omega),FM O sz (d:=k-l) (by omega),show k-(k-l)=l by omega];by_cases c1:i=l
   ·rw[a8 c1,a7 (by omega),a8 (by omega)];exact hi _ (by omega) (by omega)
   ·rw[a7 c1];by_cases c2:l<i/\i<=k
    ·rw[a8 c2,a7 (by omega),a8 (by omega)];exact s _ _ (by omega) (by omega)
    ·rw[a7 c2];by_cases c3:j=l
     ·rw[a8 c3];exact lo _ (by omega)
     ·rw[a7 c3];by_cases c4:l<j/\j<=k
      ·rw[a8 c4];exact s _ _ (by omega) (by omega)
      ·rw[a7 c4];exact s _ _ (by omega) (by omega)
  refine lU (λq hq=>⟨hq.1,?_⟩) (GV f (bubble p k (k-l)) (k+1) ⟨(bubble_perm _ _ _).trans h.pm⟩ (by omega) s');rw[show k+(f+1)=k+1+f by omega];exact hq.2
theorem Sr(h1:1<=n):jg n lt (kas_sort n) λq=>Pm n q/\Sd lt q n:=by
 refine rp (lU (λr hr=>?_) (J1 O ⟨Mg _⟩ h1));obtain⟨pm,r1,r2,s⟩:=hr;by_cases hl:r.1<n
 ·rw[a8 hl];refine lU (λq hq=>⟨hq.1,?_⟩) (GV O (n-max r.1 1) r.2 (max r.1 1) pm (by omega) (by rw[show max r.1 1=r.1 by omega];exact s));rw[show n=max r.1 1+(n-max r.1 1)by omega];exact hq.2
 ·rw[a7 hl];exact⟨pm,by rw[show n=r.1 by omega];exact s⟩
end
end So
namespace So
open PySem PySem.W PyProof.Rows PySem.MeetsSeq3
def eg:List Int->List Int->Bool
 |[],[]=>false
 |[],_::_=>true
 |_::_,[]=>false
 |a::r,b::t=>if a==b then eg r t else decide (a<b)
section
variable{prog:bH}{w:bt}{Ar:bT}
theorem FP{vs:List aj}{ns:List Int}(h:kR vs ns):∀{i:Nat} {n:Int},ns[i]? = ac n->∃t,vs[i]? = ac (.int n t):=by
 induction h with
 |nil=>intro i n e;simp at e
 |cons a t h ih=>
  intro i n e;cases i with
  |zero=>simp at e;subst e;exact⟨t,rfl⟩
  |succ i=>exact ih (by simpa using e)
theorem Ot{R:Result->az->Prop}{s:az}{l b:ai}{us vs:List aj}{xs ys:List Int}{o o2:Obj}{n n2:Nat}(ho:s.heap.get? l=ac o)(hd:o.data=.seq us.toArray n)(ho2:s.heap.get? b=ac o2)(hd2:o2.data=.seq vs.toArray n2)(hu:kR us xs)(hv:kR vs ys) :
 ∀(k i:Nat),xs.length-i<=k->i<=xs.length->i<=ys.length->R (.ok (.ret (.bool (eg (xs.drop i) (ys.drop i))))) s->codeAny (model prog w) Ar (.builtin "list.__eq__.loop" ⟨[.ref l,.ref b,rawInt i,rawInt 0],[]⟩) R s:=by
 have l1:=hu.length;have l2:=hv.length;have gx:∀i,i<xs.length->∃t,us.toArray[i]? = ac (.int (xs.getD i 0) t):=λi hi=>by
  obtain⟨t,e⟩:=FP hu (i:=i) (n:=xs.getD i 0) (by simp[hi]);exact⟨t,by simpa using e⟩
 have gy:∀i,i<ys.length->∃t,vs.toArray[i]? = ac (.int (ys.getD i 0) t):=λi hi=>by
  obtain⟨t,e⟩:=FP hv (i:=i) (n:=ys.getD i 0) (by simp[hi]);exact⟨t,by simpa using e⟩
 have nx:∀i,¬ i<xs.length->us.toArray[i]? = af:=λi hi=>by simp;omega
 have ny:∀i,¬ i<ys.length->vs.toArray[i]? = af:=λi hi=>by simp;omega
 have Mm:∀i,i=xs.length->i<=ys.length->decide (us.toArray.size<vs.toArray.size)=eg (xs.drop i) (ys.drop i):=λi hi hj=>by
  rw[vZ (by omega:xs.length<=i),dg,dg,l1,l2];by_cases h:i<ys.length
  ·rw[qO h];simp[eg];omega
  ·rw[vZ (by omega:ys.length<=i)];simp[eg];omega
 have Vi:∀i,i<xs.length->i=ys.length->decide (us.toArray.size<vs.toArray.size)=eg (xs.drop i) (ys.drop i):=λi hi hj=>by
  rw[vZ (by omega:ys.length<=i),qO hi,dg,dg,l1,l2];simp[eg];omega
 have fin:∀(i:Nat),(us.toArray[i]? = af\/vs.toArray[i]? = af)->R (.ok (.ret (.bool (decide (us.toArray.size<vs.toArray.size))))) s->codeAny (model prog w) Ar (.builtin "list.__eq__.loop" ⟨[.ref l,.ref b,rawInt i,rawInt 0],[]⟩) R s:=λi hn h=>by
  refine codeAny_builtin entry_eq_loop (by
   rw[L8 zN _];unfold tM.«list.__eq__.loop»;show wpAny _ _ (L7 (.ref l) >>= _) _ _ _;refine aV (kQ ho hd (aV (kQ ho2 hd2 ?_)));simp only[iP];rcases hn with e|e
   ·rw[e];dsimp only;refine aV (kQ ho hd (aV (kQ ho2 hd2 ?_)));exact cE h
   ·rw[e];cases us.toArray[i]? <;>
    ·dsimp only;refine aV (kQ ho hd (aV (kQ ho2 hd2 ?_)));exact cE h)
 intro k
 induction k with
 |zero=>
  intro i hk h1 h2 h;refine fin i (.inl (nx i (by omega))) ?_;rw[Mm i (by omega) h2];exact h
 |succ k ih=>
  intro i hk h1 h2 h;by_cases hi:i<xs.length
  ·by_cases hj:i<ys.length
   ·obtain⟨t,e1⟩:=gx i hi;obtain⟨u,e2⟩:=gy i hj;have dx:xs.drop i=xs.getD i 0::xs.drop (i+1):=by rw[qO hi];simp[hi]
    have dy:ys.drop i=ys.getD i 0::ys.drop (i+1):=by rw[qO hj];simp[hj]
    rw[dx,dy]at h;refine codeAny_builtin entry_eq_loop (by
     rw[L8 zN _];unfold tM.«list.__eq__.loop»;show wpAny _ _ (L7 (.ref l) >>= _) _ _ _;refine aV (kQ ho hd (aV (kQ ho2 hd2 ?_)));simp only[iP];rw[e1,e2];dsimp only;refine aV (wpAny_eqBool_int ?_);cases hb:(xs.getD i 0==ys.getD i 0)with
     |true=>
      rw[a8 rfl];rw[eg,hb,a8 rfl]at h;refine cE ⟨plainId_quiet zN _,?_⟩;have:=ih (i+1) (by omega) hi hj h;rw[show rawInt ((i+1:Nat):Int)=rawInt ((i:Int)+1)from by rw[show((i+1:Nat):Int)=(i:Int)+1 by omega]]at this;exact this
     |false=>
      rw[a7 dJ];rw[eg,hb,a7 dJ]at h;refine aV (kQ ho hd (aV (kQ ho2 hd2 ?_)));rw[e1,e2];show wpAny _ _ (richCompare .Lt _ _ >>= _) _ _ _;exact aV (show wpAny _ _ (compareOp .Lt _ _) _ _ _ from wpAny_lt_int (cE h)))
   ·refine fin i (.inr (ny i hj)) ?_;rw[Vi i hi (by omega)];exact h
  ·refine fin i (.inl (nx i hi)) ?_;rw[Mm i (by omega) h2];exact h
theorem UE{E:aj->az->Prop}{s:az}{l b:ai}{us vs:List aj}{xs ys:List Int}{o o2:Obj}{n n2:Nat}{Q:Bool->az->Prop}(ho:s.heap.get? l=ac o)(hc:o.cls=.type "list")(hd:o.data=.seq us.toArray n)(ho2:s.heap.get? b=ac o2)(hc2:o2.cls=.type "list")(hd2:o2.data=.seq vs.toArray n2)(hu:kR us xs)(hv:kR vs ys)
 (hun:Ar.units<cLine) (h:Q (eg xs ys) s):wpAny (model prog w) Ar (keyLt' oneType' (.ref l) (.ref b)) Q E s:=by
 have t1:s.TypeIs (.ref l) "list" := ⟨_,ho,hc⟩;have t2:s.TypeIs (.ref b) "list" := ⟨_,ho2,hc2⟩;rw[keyLt'_oneType,oneLt'_eq];simp only[jX];refine aV (wpAny_cRoomFor hun ?_);refine aV (wpAny_callSpecialIfBound?_slot t1 DB (wb (codeAny_call_builtin DB.plain PySem.F.entry_list_lt (DB.check _ _ _ _ _ _ _ _ t1 (PySem.F.args_list_lt_2 _ _) ?_))));unfold tM.«list.__lt__»;have sub:isSubtype (.type "list") (.type "list")=pure true:=by rw[isSubtype_type];kernel_rfl
 show wpAny _ _ (isInstance (.ref b) (.type "list") >>= _) _ _ _;refine aV (wpAny_isInstance t2 sub ?_);refine cE ⟨plainId_quiet zN _,?_⟩;refine Ot ho hd ho2 hd2 hu hv xs.length 0 (by omega) (iC _) (iC _) ?_;exact pI h
end
end So
namespace So
open PySem PySem.W PyProof.Rows
section
variable{prog:bH}{w:bt}{A:bT}{E:aj->az->Prop}{s:az}
def tm(n:Nat):List ai:=[n,n+1,n+2,n+3]
def qi(lt:Nat->Nat->Bool)(vs out:List aj):Prop:=∃p:Array Nat,Pm vs.length p/\Sd lt p vs.length/\out=p.toList.map λi=>vs.getD i fi
theorem qi.len{lt:Nat->Nat->Bool}{vs out:List aj}(h:qi lt vs out):out.length=vs.length:=by obtain⟨p,pm,_,rfl⟩:=h;rw[aP,wx,pm.size]
theorem Hf{a kS:ai}{e e1:Nat}{ks out:List aj}{st:SortSt}{P:qZ->az->Prop}(hk:s.heap.get? kS=ac (seqObj "list" (fH ks) e))(ha:s.heap.get? a=ac (seqObj "list" #[] e1))(ne:a≠kS)
 (hks:ks.length<64) (ho:out.length<64) (hout:(arrOf st).map (·.2)=fH out) (hf:failedOf st=af)
 (h:∀h' c,(∀b o,b≠a->b≠kS->s.heap.get? b=ac o->h'.get? b=ac o)->(∃o,h'.get? kS=ac o)->h'.get? a=ac (seqObj "list" (fH out) c)->P (.done (.ret .none)) { s with heap:=h' }) :
 wpAny (model prog w) A (ksk_tail a false e1 (.ref kS) st) P E s:=by
 have s1:=tU s.heap kS (jR λ_=>(#[]:Array aj));have ha1:=(s1.2 a ne).trans ha;have s2:=tU (s.heap.update kS (jR λ_=>(#[]:Array aj))) a (jR λ_=>fH out);obtain⟨c,hc⟩ : ∃c,((s.heap.update kS (jR λ_=>(#[]:Array aj))).update a (jR λ_=>fH out)).get? a=ac (seqObj "list" (fH out) c):=⟨_,wt ha1 λ_=>fH out⟩;unfold ksk_tail;dsimp only;rw[hout];refine aV (zH hk rfl ?_ (by rw[dg,er];omega) (iC _));refine aV (wpAny_letGo (aV (seqEpoch_at ha1 rfl ?_)));refine aV (zH ha1 rfl ?_ (iC _) (by show(fH out).size<=_;rw[dg,er];omega));rw[hf];simp only[bne_self_eq_false,wg,jB];exact cE (h _ c (λb o n1 n2 q=>(s2.2 b n1).trans ((s1.2 b n2).trans q)) ⟨_,(s2.2 kS (dW ne)).trans (wt hk λ_=>#[])⟩ hc)
theorem Uh{a kS f:ai}{e1:Nat}{P:qZ->az->Prop}(J:List aj->az->Prop){vs:List aj}(h64:vs.length<64)
 (jk:∀ks s1 h',J ks s1->(∀b o,b≠kS->s1.heap.get? b=ac o->h'.get? b=ac o)->(∃o,h'.get? kS=ac o)->J ks { s1 with heap:=h' })
 (jc:∀i x ks s1,vs[i]? = ac x->ks.length=i->J ks s1->wpAny (model prog w) A (call (.ref f) [x]) (λk s2=>J (ks++[k]) s2/\∀b o,(b=a\/b=kS)->s1.heap.get? b=ac o->s2.heap.get? b=ac o) (λ_ _=>False) s1)
 (ne:a≠kS) (hk:s.heap.get? kS=ac (seqObj "list" #[] 0)) (ha:s.heap.get? a=ac (seqObj "list" #[] e1)) (j0:J [] s)
 (fin:∀ks e s1,ks.length=vs.length->J ks s1->s1.heap.get? kS=ac (seqObj "list" (fH ks) e)->s1.heap.get? a=ac (seqObj "list" #[] e1)->wpAny (model prog w) A (ksk_end a false vs.toArray e1 (.ref kS) (fH ks)) P E s1) :
 wpAny (model prog w) A (ksk_rest a (.ref f) false vs.toArray e1 (.ref kS)) P E s:=by
 unfold ksk_rest;refine aV (wpAny_rule ?_);rw[List.forIn_toArray];refine aV (ksk_fold (I:=λi s1=>∃ks e,ks.length=i/\J ks s1/\s1.heap.get? kS=ac (seqObj "list" (fH ks) e)/\s1.heap.get? a=ac (seqObj "list" #[] e1)) vs 0 s ⟨[],0,rfl,j0,hk,ha⟩ (λj x s1 hx hI=>?_) λs1 hI=>?_)
 ·obtain⟨ks,e,hl,hJ,hk1,ha1⟩:=hI;rw[fJ]at hl ⊢;have hlt:j<vs.length:=(fe.mp hx).1;refine aV (wpAny_attempt (h7 (jc j x ks s1 hx hl hJ) (λk s2 h2=>?_) λ_ _ z=>z.elim));obtain⟨hJ2,kp⟩:=h2;have hk2:=kp kS _ (.inr rfl) hk1;have ha2:=kp a _ (.inl rfl) ha1;have su:=tU s2.heap kS (jR (·.push k));have ea:(fH ks).push k=fH (ks++[k]):=by simp
  obtain⟨c2,hc2⟩ : ∃c2,(s2.heap.update kS (jR (·.push k))).get? kS=ac (seqObj "list" (fH (ks++[k])) c2):=⟨_,by rw[<- ea];exact wt hk2 (·.push k)⟩;dsimp only;refine aV (zH hk2 rfl ?_ (by rw[dg,er];omega) (c7 (zx (Array.size_push ..)) (by rw[dg,er];omega)));exact cE ⟨rfl,ks++[k],c2,by rw[dz,hl];rfl,jk _ _ _ hJ2 (λb o n q=>(su.2 b n).trans q) ⟨_,hc2⟩,hc2,(su.2 a ne).trans ha2⟩
 ·obtain⟨ks,e,hl,hJ,hk1,ha1⟩:=hI;refine aV (kQ hk1 rfl ?_);exact fin ks e s1 (by simpa using hl) hJ hk1 ha1
theorem SS{a kS:ai}{e e1:Nat}{ks vs:List aj}{lt:Nat->Nat->Bool}{P:qZ->az->Prop}(hl:ks.length=vs.length)(h64:vs.length<64)(O:uI vs.length lt)
 (hkk:2<=vs.length->∀(Q:SortKind->az->Prop),Q oneType' s->wpAny (model prog w) A (keyKind' (fH ks)) Q (λ_ _=>False) s)
 (hcmp:∀i j C,i<vs.length->j<vs.length->C (lt i j) s->kas_ask prog w A oneType' ks i j C s)
 (hk:s.heap.get? kS=ac (seqObj "list" (fH ks) e)) (ha:s.heap.get? a=ac (seqObj "list" #[] e1)) (ne:a≠kS)
 (h:∀out h' c,qi lt vs out->(∀b o,b≠a->b≠kS->s.heap.get? b=ac o->h'.get? b=ac o)->(∃o,h'.get? kS=ac o)->h'.get? a=ac (seqObj "list" (fH out) c)->P (.done (.ret .none)) { s with heap:=h' }) :
 wpAny (model prog w) A (ksk_end a false vs.toArray e1 (.ref kS) (fH ks)) P E s:=by
 have Vj:∀{n:Nat},Pm n (fH (bP n)):=⟨Mg _⟩;unfold ksk_end;dsimp only;rw[a7 dJ,a7 dJ];by_cases h2:vs.toArray.size<2
 ·rw[a8 h2,a8 h2];rw[dg]at h2;refine aV (cE ?_);rw[StateT.run_pure];refine aV (cE ?_);dsimp only;have hout:qi lt vs vs:=⟨fH (bP vs.length),Vj,λi j hij hj=>by omega,by
   apply List.ext_getElem (by simp);intro i h1 h2;simp[h1]⟩
  refine Hf (out:=vs) hk ha ne (by omega) h64 ?_ rfl λh' c kp ex hc=>h vs h' c hout kp ex hc;show((fH ks).zip vs.toArray).map (·.2)=vs.toArray;apply wy.mp;rw[Array.toList_map,Array.toList_zip];simp only[];rw[List.map_snd_zip (by omega)]
 ·rw[a7 h2,a7 h2];rw[dg]at h2;refine aV (h7 (hkk (by omega) (λκ s'=>κ = oneType'/\s'=s) ⟨rfl,rfl⟩) (λκ s' hh=>?_) λ_ _ z=>z.elim);obtain⟨rfl,rfl⟩:=hh;have wp:=Fp (cmp:=kas_ask prog w A oneType' ks) (s:=s') hcmp (Sr O (by omega));refine aV (h7 (kat_run (E:=E) (Q:=λst' s2=>s2=s'/\∃p:Array Nat,Pm vs.length p/\Sd lt p vs.length/\arrOf st'=p.map (kas_item (ks.toArray.zip vs.toArray))/\failedOf st'=af) hl (by omega) h64 (λp st' s2 _ a2 a3 a4=>⟨a4.1,p,a4.2.1,a4.2.2,a2,a3⟩) wp) ?_ λ_ _ z=>z);rintro⟨⟨⟩,st'⟩ s2 ⟨rfl,p,pm,sd,har,hf⟩;dsimp only;have hout:qi lt vs (p.toList.map λi=>vs.getD i fi):=⟨p,pm,sd,rfl⟩;exact Hf hk ha ne (by omega) (by rw[hout.len];exact h64) (kat_snds hl har) hf λh' c kp ex hc=>h _ h' c hout kp ex hc
theorem S2{f l:ai}{vs:List aj}{Q:aj->az->Prop}(J:List aj->az->Prop)(hl:s.heap.IsList l vs.toArray)(h64:vs.length<64)
 (j0:∀h':aY,(∀b o,s.heap.get? b=ac o->h'.get? b=ac o)->(∀b∈tm s.heap.objs.size,∃o,h'.get? b=ac o)->J [] { s with heap:=h' })
 (jk:∀ks s1 h',J ks s1->(∀b o,b∉tm s.heap.objs.size->s1.heap.get? b=ac o->h'.get? b=ac o)->(∀b o,s1.heap.get? b=ac o->∃o',h'.get? b=ac o')->J ks { s1 with heap:=h' })
 (jc:∀i x ks s1,vs[i]? = ac x->ks.length=i->J ks s1->wpAny (model prog w) A.in1.in1 (call (.ref f) [x]) (λk s2=>J (ks++[k]) s2/\∀b o,b∈tm s.heap.objs.size->s1.heap.get? b=ac o->s2.heap.get? b=ac o) (λ_ _=>False) s1)
 (je:∀ks s1,ks.length=vs.length->J ks s1->∃lt,uI vs.length lt/\(2<=vs.length->∀(Q:SortKind->az->Prop),Q oneType' s1->wpAny (model prog w) A.in1.in1 (keyKind' (fH ks)) Q (λ_ _=>False) s1) /\
  (∀i j C,i<vs.length->j<vs.length->C (lt i j) s1->kas_ask prog w A.in1.in1 oneType' ks i j C s1) /\
  ∀out h' c,qi lt vs out->(∀b o,b∉tm s.heap.objs.size->s1.heap.get? b=ac o->h'.get? b=ac o)->(∀b o,s1.heap.get? b=ac o->∃o',h'.get? b=ac o')->h'.get? (s.heap.objs.size+1)=ac (seqObj "list" (fH out) c)->Q (.ref (s.heap.objs.size+1)) { s1 with heap:=h' }) :
 wpAny (model prog w) A (call (.builtin "sorted") [.ref l] [(wr "key", .ref f)]) Q E s:=by
 refine call_function_entry_kw kind_sorted plain_sorted entry_sorted (ksk_s1 _ _) ?_;unfold tM.«sorted»;refine aV (m:=checkCount "sorted" 1 1 _) (cE ?_);refine aV (collect_list hl ?_ (by rw[er];omega));refine aV (Du ?_ (by rw[er];omega));generalize hn:s.heap.objs.size=n at *;generalize hh1:((s.heap.push (seqObj "list" #[] 0)).update n (jR (· ++ vs.toArray)))=h1;have hsz:h1.objs.size=n+1:=by rw[<- hh1,Heap.size_update,size_push',hn]
 have k1:∀b o,s.heap.get? b=ac o->h1.get? b=ac o:=λb o q=>by
  have hlt:b<n:=by rw[<- hn];exact cY q
  rw[<- hh1,Heap.get?_update_ne _ _ _ _ (iO hlt),Heap.get?_push_ne _ _ _ (by rw[hn];exact iO hlt)];exact q
 have hoL:(h1.push (seqObj "list" vs.toArray 0)).get? (n+1)=ac (seqObj "list" vs.toArray 0):=by rw[<- hsz];exact ge _ rfl
 show wpAny _ _ _ _ _ { s with heap:=h1.push (seqObj "list" vs.toArray 0) };rw[hsz];refine aV (Dv (wpAny_call_entry_kw slot_list_sort ⟨_,hoL,rfl⟩ entry_list_sort ?_ (ksk_l1 _ _)));show wpAny (model prog w) A.in1.in1 (tM.«list.sort» ⟨[.ref (n+1)],[(wr "key",.ref f)]⟩) _ _ _;rw[ksk_t1];generalize hh2:h1.push (seqObj "list" vs.toArray 0)=h2 at hoL ⊢;have k2:∀b o,s.heap.get? b=ac o->h2.get? b=ac o:=λb o q=>by rw[<- hh2];exact dI _ (k1 b o q)
 have z2:h2.objs.size=n+2:=by rw[<- hh2,zl,hsz]
 obtain⟨e1,ho1⟩ : ∃e1,(h2.update (n+1) (jR λ_=>(#[]:Array aj))).get? (n+1)=ac (seqObj "list" #[] e1):=⟨_,wt hoL λ_=>#[]⟩;have su:=tU h2 (n+1) (jR λ_=>(#[]:Array aj));unfold ksk_tree;refine aV (kQ (s:={ s with heap:=h2 }) hoL rfl ?_);refine aV (zH (s:={ s with heap:=h2 }) hoL rfl ?_ (by rw[dg,er];omega) (iC _));refine aV (seqEpoch_at (s:={ s with heap:=h2.update (n+1) (jR λ_=>(#[]:Array aj)) }) ho1 rfl ?_);refine aV (wpAny_newTuple ?_ (by show vs.length<=_;rw[er];omega));refine aV (Du ?_ (iC _));refine Dv ?_;generalize hh3:h2.update (n+1) (jR λ_=>(#[]:Array aj))=h3 at ho1 su ⊢;have z3:h3.objs.size=n+2:=by rw[<- hh3,Heap.size_update,z2]
 have z4:(h3.push (seqObj "tuple" vs.toArray 0)).objs.size=n+3:=by rw[zl,z3]
 show wpAny (model prog w) A.in1.in1 (ksk_rest (n+1) (.ref f) false vs.toArray e1 (.ref (h3.push (seqObj "tuple" vs.toArray 0)).objs.size)) _ _ { s with heap:=(h3.push (seqObj "tuple" vs.toArray 0)).push (seqObj "list" #[] 0) };rw[z4];have Vk:∀b o,s.heap.get? b=ac o->((h3.push (seqObj "tuple" vs.toArray 0)).push (seqObj "list" #[] 0)).get? b=ac o:=λb o q=>by
  have hlt:b<n:=by rw[<- hn];exact cY q
  exact dI _ (dI _ ((su.2 b (iO (Nat.lt_succ_of_lt hlt))).trans (k2 b o q)))
 refine Uh (kS:=n+3) (a:=n+1) J h64 (λks s1 h' hJ kp ex=>jk ks s1 h' hJ (λb o hb q=>kp b o (λz=>hb (by simp[tm,z])) q) λb o q=>by
  by_cases z:b=n+3
  ·rw[z];exact ex
  ·exact⟨o,kp b o z q⟩)
  (λi x ks s1 hx hl' hJ=>h7 (jc i x ks s1 hx hl' hJ) (λk s2 h2=>⟨h2.1,λb o hb q=>h2.2 b o (by rcases hb with z|z<;>simp[tm,z]) q⟩) λ_ _ z=>z) (show(n+1:Nat)≠n+3 by omega)
  (by rw[<- z4];exact ge _ rfl) (dI _ (dI _ ho1)) (j0 _ Vk λb hb=>?ex) λks e s1 hlk hJ hk1 ha1=>?_
 case ex=>
  have e0:∃o,h3.get? n=ac o:=by
   have q0:(s.heap.push (seqObj "list" #[] 0)).get? n=ac (seqObj "list" #[] 0):=by rw[<- hn];exact ge _ rfl
   obtain⟨o1,q1⟩ : ∃o1,h1.get? n=ac o1:=by rw[<- hh1];exact⟨_,wt q0 (· ++ vs.toArray)⟩
   exact⟨_,(su.2 n (show(n:Nat)≠n+1 by omega)).trans (by rw[<- hh2];exact dI _ q1)⟩
  simp only[tm,bZ,mU,mS]at hb;rcases hb with rfl|rfl|rfl|rfl
  ·obtain⟨o,q⟩:=e0;exact⟨o,dI _ (dI _ q)⟩
  ·exact⟨_,dI _ (dI _ ho1)⟩
  ·exact⟨_,dI _ (by rw[<- z3];exact ge _ rfl)⟩
  ·exact⟨_,by rw[<- z4];exact ge _ rfl⟩
 obtain⟨lt,O,hkk,hcmp,fin⟩:=je ks s1 hlk hJ;refine SS hlk h64 O hkk hcmp hk1 ha1 (show(n+1:Nat)≠n+3 by omega) λout h' c so kp ex hc=>?_;exact⟨_,rfl,cE ⟨_,rfl,fin out h' c so (λb o hb q=>kp b o (λz=>hb (by simp[tm,z])) (λz=>hb (by simp[tm,z])) q) (λb o q=>by
  by_cases y1:b=n+1
  ·rw[y1];exact⟨_,hc⟩
  ·by_cases y2:b=n+3
   ·rw[y2];exact ex
   ·exact⟨o,kp b o y1 y2 q⟩) hc⟩⟩
end
end So
namespace L2
open PySem PySem.Spec PyProof.Rows
def Bm(X:Cx)(A:bT)(N':List Str)(env:Env)(s:az)(H:Hp):Cx:={ X with A:=A.deeper env,N:=N',s₀:=s,H₀:=H,env:=env,outer:=X.stack,stack:=env::X.stack,ex:=[],fn:=λ_=>false,calm:=true,pn:=[],xe:=λ_ _=>False }
abbrev yM(qual:Str)(scope:fh)(s:az)(f c':ai)(cl:List (Str×ai)):Env:=PySem.W.envX qual scope s.heap.objs.size f (.ref c') cl
structure sF(X:Cx)(x:Str)(ρ:List Nat)(N':List Str)(sc:fh)(cl:List (Str×ai)):Prop where
 kind:sc.kind=.function
 co:sc.isCoroutine=false
 gen:sc.isGenerator=false
 wC:∀y∈sc.names,y.2≠.cell
 par:sc.names.lookup x=ac .local
 clo:∀y c,cl.lookup y=ac c->X.env.cells.lookup y=ac c
 has:∀y,sc.names.lookup y=ac .free->∃c,cl.lookup y=ac c
 N:∃ys,N'=x::ys/\ys.length = ρ.length/\∀(i j:Nat) y,ρ[i]? = ac j->ys[i]? = ac y->X.N[j]? = ac y/\sc.names.lookup y=ac .free/\(X.env.kindOf y=ac .cell\/X.env.kindOf y=ac .free)
section
variable{X:Cx}{ah:List (ai×Obj)}{σ:St}{H:Hp}{s:az}{A:bT}{k:Nat}{qual x:Str}{ps:tK}{body:bj}{sc:fh}{cl:List (Str×ai)}{pm ctv:aj}{f c':ai}{ρ:List Nat}{N':List Str}
def jI(ρ:List Nat)(σ:St)(v:V):St:=ac v :: ρ.map λj=>(σ[j]?).join
theorem Tu{h1:aY}{tk:Nat}{v:V}{u:aj}(I:Inv X ah σ H s)(hA:A.frames=ac X.stack)(hd:A.handled=af)(S:sF X x ρ N' sc cl)(rv:RelV v u)
 (hns:h1.Ns s.heap.objs.size λy=>[(x,u)].reverse.lookup y) (hk:∀b o,s.heap.get? b=ac o->h1.get? b=ac o) :
 Inv (Bm X A N' (yM qual sc s f c' cl) s H) [] (jI ρ σ v) H { s with heap:=h1,toks:=tk }:=by
 obtain⟨ys,eN,el,ix⟩:=S.N;have noA:∀b:ai,b∉([]:List ai):=λb z=>absurd z (by simp);refine⟨⟨I.mod,S.kind,rfl,rfl,bU _,λy z c h1 h2=>I.ok.inj y z c (S.clo y c h1) (S.clo z c h2),λy hy=>?_,λy c z=>(nomatch z),λ_=>hd,DM hA,.inr ⟨rfl,rfl⟩,λb z=>absurd z (noA b),I.bs,c7 I.ok.bsz I.sz,λb _ _=>noA b,λb z=>absurd z (noA b),I.stack,I.vq⟩,
  rfl,I.bare,Un.kept hk,⟨_,hns,λi y w h2 h3 h4=>?_⟩,λy c e=>?_,I.hok.fresh (bU _),λy c e=>I.i9 y c (S.clo y c e),λp hp=>absurd (show p∈([]:List (ai×Obj))from hp) (by simp),I.hok.kept hk,?_⟩
 ·have hy:sc.names.lookup y=ac .cell\/sc.names.lookup y=ac .free:=hy;rcases hy with hy|hy
  ·exact absurd rfl (S.wC _ (tH hy))
  ·exact S.has y hy
 ·have h2:N'[i]? = ac y:=h2;subst eN;cases i with
  |zero=>
   have e:x=y:=by simpa using h2
   subst e;have e2:v=w:=by simpa [jI]using h3
   subst e2;exact⟨u,rv,.inl ⟨S.par,by simp⟩⟩
  |succ i=>
   have hy:ys[i]? = ac y:=by simpa using h2
   have h3:(ρ.map λj=>(σ[j]?).join)[i]? = ac (ac w):=by simpa [jI]using h3
   rw[gc]at h3;obtain⟨j,hj,e⟩:=pN.mp h3;have e2:σ[j]? = ac (ac w):=by
    cases q:σ[j]? with
    |none=>rw[q]at e;cases e
    |some z=>rw[q]at e;exact congrArg ac e
   obtain⟨n1,n2,n3⟩:=ix i j y hj hy;obtain⟨m,hm,hl⟩:=I.loc;have vis:uh X.env.scope y:=by
    rcases n3 with z|z
    ·exact .inr (.inl z)
    ·exact .inr (.inr z)
   obtain⟨u2,r2,lk⟩:=hl j y w n1 e2 vis;refine⟨u2,r2,.inr ⟨.inr n2,?_⟩⟩;obtain⟨c,hc⟩:=S.has y n2;refine⟨c,hc,?_⟩;have hX:=S.clo y c hc;rcases lk with ⟨z,_⟩|⟨_,c2,e3,ic⟩
   ·rcases n3 with y1|y1
    ·rw[z]at y1;cases y1
    ·rw[z]at y1;cases y1
   ·rw[hX]at e3;cases e3;obtain⟨o,ho,hd⟩:=ic;exact⟨o,hk _ _ ho,hd⟩
 ·obtain⟨v2,o,ho,hd⟩:=I.cell y c (S.clo y c e);exact⟨v2,o,hk _ _ ho,hd⟩
 ·subst eN;show(jI ρ σ v).length=(x::ys).length;simp[jI,el]
theorem Sb{u:aj}{v:V}{tb:TE}{Q:VK}(I:Inv X ah σ H s)(hA:A.frames=ac X.stack)(hr:ee (k+1) A)(S:sF X x ρ N' sc cl)
 (ho:s.heap.get? f=ac (v7 "<lambda>" qual ps body sc cl pm c' ctv)) (hcd:s.heap.CodeRec (.ref c') qual)
 (hbind:bindArgs (LH "<lambda>" qual ps body sc cl pm (.ref c') ctv) ⟨[u],[]⟩=pure [(x,u)]) (rv:RelV v u)
 (hb:∀env:Env,ee k (A.deeper env)->env=yM qual sc s f c' cl->PE (Bm X A N' env s H) body tb) (h:tb (jI ρ σ v) H Q) :
 wpAny (model X.prog X.w) A (call (.ref f) [u]) (CE X.stack X.prog X.w H s Q) (λ_ _=>False) s:=by
 refine wb (PySem.W.kla_callFunE hr.depth ho rfl S.co S.gen rfl hcd ?_);rw[hbind];refine cE (wpAny_newFunctionEnv S.wC (λy hy=>by
  have e:y=(x,u):=by simpa using hy
  rw[e];exact S.par) (λh1 hns hsb=>⟨(I.nolimit).fresh _ hsb,?_⟩) S.kind)
 show codeAny _ _ (.expr body (yM qual sc s f c' cl)) _ _;have hk:∀b o,s.heap.get? b=ac o->h1.get? b=ac o:=λb o e=>hsb.extBut b o (iO (cY e)) (dI _ e);have J:=Tu (tk:=s.toks+[(x,u)].length) (qual:=qual) (f:=f) (c':=c') I hA hr.hd S rv hns hk;refine PySem.W.kla_codeExpr (h7 (hb _ (hr.deeper _) rfl [] _ (jI ρ σ v) H Q J h) (λk' s' hq=>?_) λ_ _ z=>z.elim);obtain⟨v2,H2,I2,r2,q⟩:=hq;exact⟨v2,H2,I2.os,I2.bare,I2.base,I2.hok,r2,q⟩
end
end L2
namespace So
theorem Hw:∀{a b:List Int},a≠b->eg a b=true\/eg b a=true
 |[],[],h=>absurd rfl h
 |[],_::_,_=>.inl rfl
 |_::_,[],_=>.inr rfl
 |a::r,b::t,h=>by
  rw[eg,eg];by_cases e:a=b
  ·subst e;simp only[j3,jX];exact Hw λz=>h (by rw[z])
  ·have e':¬ b=a:=λz=>e z.symm;simp only[jF,e,e',jB,jm];omega
theorem Io:∀{a b:List Int},eg a b=true->eg b a=false
 |[],[],h=>by simp[eg]at h
 |[],_::_,_=>rfl
 |_::_,[],h=>by simp[eg]at h
 |a::r,b::t,h=>by
  rw[eg]at h ⊢;by_cases e:a=b
  ·subst e;simp only[j3,jX]at h ⊢;exact Io h
  ·have e':¬ b=a:=λz=>e z.symm;simp only[jF,e,e',jB,jm,sQ]at h ⊢;omega
theorem GZ:∀{a b c:List Int},eg a b=true->eg b c=true->eg a c=true
 |[],[],_,h,_=>by simp[eg]at h
 |[],_::_,[],_,h=>by simp[eg]at h
 |[],_::_,_::_,_,_=>rfl
 |_::_,[],_,h,_=>by simp[eg]at h
 |_::_,_::_,[],_,h=>by simp[eg]at h
 |a::r,b::t,c::u,h,k=>by
  rw[eg]at h k ⊢;by_cases e:a=b
  ·subst e;simp only[j3,jX]at h;by_cases f:a=c
   ·subst f;simp only[j3,jX]at k ⊢;exact GZ h k
   ·simp only[jF,f,jB]at k ⊢;exact k
  ·simp only[jF,e,jB,jm]at h;by_cases f:b=c
   ·subst f;simp only[jF,e,jB,jm];exact h
   ·simp only[jF,f,jB,jm]at k;have:¬ a=c:=by omega
    simp only[jF,this,jB,jm];omega
def nE(kz:List (List Int))(i j:Nat):Bool:=eg (kz.getD i []) (kz.getD j [])
theorem Bu{kz:List (List Int)}(nd:kz.Nodup):uI kz.length (nE kz):=by
 have inj:∀i j,i<kz.length->j<kz.length->i≠j->kz.getD i []≠kz.getD j []:=λi j hi hj ne e=>by
  rw[fB,fE hi,fB,fE hj]at e;exact ne ((tE nd).mp e)
 exact⟨λi j hi hj ne=>Hw (inj i j hi hj ne),λi j _ _ h=>Io h,λi j k _ _ _ h g=>GZ h g⟩
def BH{α:Type}(d:α)(kz:List (List Int))(xs ys:List α):Prop:=∃p:Array Nat,Pm xs.length p/\Sd (nE kz) p xs.length/\ys=p.toList.map λi=>xs.getD i d
end So
namespace L2
open PySem PySem.Spec PyProof.Rows A So
variable[Tb:cp]
def Tab(T:ai)(q:Str)(H H':Hp):Prop:=H'=H\/∃ps ps' c,H T=ac (.tbl q ps)/\H c=af/\c≠T/\H'=upd (upd H T (.tbl q ps')) c (.ext (jr c q))/\jq H'
theorem Uk{c:aj}{p:Pos}:∀{l:List aj},tL l->tL (l++[rawInt p.line,rawInt p.col,c]):=λ{l} h=>by
 fun_induction tL l with
 |case1=>exact trivial
 |case2 a b c' d e rest ih=>exact ih h
 |case3 _ _=>exact h.elim
theorem RO{c v:aj}{p p2:Pos}:∀{l:List aj},tL l->codeAmong p2 (l++[rawInt p.line,rawInt p.col,c])=ac v->codeAmong p2 l=ac v\/v=c:=λ{l} h e=>by
 fun_induction tL l with
 |case1=>
  simp only[ki,codeAmong,rawInt]at e;split at e
  ·exact .inr (by cases e;rfl)
  ·cases e
 |case2 a b c' d e' rest ih=>
  simp only[qS,codeAmong]at e ⊢;split at e
  ·rename_i q;rw[a8 q];exact .inl e
  ·rename_i q;rw[a7 q];exact ih h e
 |case3 _ _=>exact h.elim
def BM(mg:Str->Option aj)(base:aY):Prop:=∃bm o,mg "__builtins__" = ac (.ref bm)/\bm≠builtinsNs/\bm≠mainGlobals/\base.get? bm=ac o/\o.cls=.type "module" /\ o.dict=ac builtinsNs/\o.data=.plain
section
variable{X:Cx}{ah:List (ai×Obj)}{σ:St}{H:Hp}{s:az}{qual x:Str}{ps:tK}{body:bj}{sc:fh}{cl:List (Str×ai)}{c T:ai}{pos:Pos}
theorem Si(c:ai)(q:Str):∀h1 h2:aY,jr c q h1->(∀o,h1.get? c=ac o->h2.get? c=ac o)->jr c q h2:=λh1 h2 ⟨o,vs,t,e,d,r⟩ k=>⟨o,vs,t,k o e,d,r⟩
theorem QT{Q:aj->az->Prop}{E:aj->az->Prop}(I:Inv X ah σ H s)(hc:X.env.code=.ref c)(C:kO X.base c T)(k:jq H){tps:Array aj}(hT:H T=ac (.tbl qual tps))(hB:BM X.mg X.base)
 (hdef:defaultsOf ps X.env=([],[])) (hq:X.env.qual ++ "<lambda>" = qual) (hcl:closureFor sc X.env=pure cl)
 (h:∀f c' ctv pm s' H',Tab T qual H H'->H' c'=ac (.ext (jr c' qual))->s'.heap.get? f=ac (v7 "<lambda>" qual ps body sc cl pm c' ctv)->Inv X ah σ H' s'->gQ X ah H' f->Q (.ref f) s') :
 wpAny (model X.prog X.w) X.A (eval (.Lambda ps body sc pos) X.env) Q E s:=by
 obtain⟨ok1,ok2⟩:=k.cd T qual tps hT;have hP:s.heap.get? T=ac (zd tps):=I.hok T _ hT;have hg:s.heap.Ns mainGlobals X.mg:=I.mod.glob.keeps I.bk;have C':kO s.heap c T:=C.keeps I.bk;obtain⟨bm,bo,b1,b2,b3,b4,b5,b6,b7⟩:=hB;have nT:∀b o,X.base.get? b=ac o->b≠T:=λb o e z=>by
  have:=(I.bs b o e).2;rw[z,hT]at this;cases this
 have hb:s.heap.BuiltinsAt X.mg T:=⟨bm,bo,b1,b2,b3,nT _ _ b4,I.bk _ _ b4,b5,b6,b7⟩;have hgT:mainGlobals≠T:=by obtain⟨o,es,ep,e,_⟩:=I.mod.glob;exact nT _ _ e
 refine PySem.W.kla_eval hdef ?_;rw[hq];cases hf:codeAmong pos tps.toList with
 |some v=>
  obtain⟨c',rfl,hc'⟩:=ok2 pos v hf;refine PySem.W.kla_makeFunctionHit hcl I.ok.glob hg hc C' hP ok1 hf hb λctv h' tk kp sz=>?_;have I':Inv X ah σ H { s with heap:=h'.push _,toks:=tk }:=I.kept (h':=h'.push (v7 "<lambda>" qual ps body sc cl ((X.mg "__name__").getD .none) c' ctv)) λb o e=>dI _ (kp b o e);exact h _ c' ctv _ _ H (.inl rfl) hc' (ge _ rfl) I' (I.jP sz (I.hok.fresh sz))
 |none=>
  refine PySem.W.kla_makeFunction hcl I.ok.glob hg hc C' hP ok1 hf hgT hb λc' ctv h' tk kp h1 h2 hrec htb=>?_;have nc:H c'=af:=I.hok.fresh h1;have cT:c'≠T:=λz=>by rw[z,hT]at nc;cases nc
  have hx:jr c' qual h':=by obtain⟨c2,o,vs,t,e,r⟩:=hrec;cases e;exact⟨o,vs,t,r⟩
  obtain⟨oc,hoc⟩ : ∃o,h'.get? c'=ac o:=let ⟨o,_,_,e,_⟩:=hx;⟨o,e⟩;have u1:Un X.fs [] H (upd H T (.tbl qual (tps ++ #[rawInt pos.line,rawInt pos.col,.ref c']))) s.heap h':=by
   have nn:∀b,H b=af->b≠T:=λb n z=>by rw[z,hT]at n;cases n
   refine⟨λb o e n _ _=>kp b o (nn b n) e,λb o e n _ _=>⟨o.slots,kp b o (nn b n) e⟩,λb o e n _=>by rw[aX (nn b n)];exact n,λb o e _=>?_,λb xs e=>?_,λb o u e=>?_,λb w ps e=>?_⟩
   ·by_cases z:b=T
    ·rw[z];exact⟨_,htb⟩
    ·exact⟨o,kp b o z e⟩
   ·rw[aX (λz=>by rw[z,hT]at e;cases e)];exact e
   ·rw[aX (λz=>by rw[z,hT]at e;cases e)];exact e
   ·by_cases z:b=T
    ·subst z;rw[hT]at e;cases e;exact⟨_,bS⟩
    ·exact⟨#[],by rw[aX z,e];simp⟩
  have Vl:du X.prog X.w (upd H T (.tbl qual (tps ++ #[rawInt pos.line,rawInt pos.col,.ref c']))) h':=λb u e=>by
   by_cases z:b=T
   ·subst z;rw[bS]at e;cases e;exact htb
   ·rw[aX z]at e;refine(I.hok b u e).stay (λy v hy q=>kp y v ?_ q) (λy q=>by rw[aX (λw=>by rw[w,hT]at q;cases q)];exact q) λy xs q=>by rw[aX (λw=>by rw[w,hT]at q;cases q)];exact q
    rcases hy with w|w
    ·rw[w];exact z
    ·exactλw2=>by rw[w2,hT]at w;cases w
  have I1:Inv X ah σ (upd H T (.tbl qual (tps ++ #[rawInt pos.line,rawInt pos.col,.ref c']))) { s with heap:=h',toks:=tk }:=I.un u1 Vl;have nc1:upd H T (.tbl qual (tps ++ #[rawInt pos.line,rawInt pos.col,.ref c'])) c'=af:=by rw[aX cT];exact nc
  have I2:Inv X ah σ (upd (upd H T (.tbl qual (tps ++ #[rawInt pos.line,rawInt pos.col,.ref c']))) c' (.ext (jr c' qual))) { s with heap:=h',toks:=tk }:=by
   have F:gQ X ah (upd H T (.tbl qual (tps ++ #[rawInt pos.line,rawInt pos.col,.ref c']))) c':=⟨nc1,(I.jP (H':=H) h1 nc).2⟩;have wE:∀b u,(upd H T (.tbl qual (tps ++ #[rawInt pos.line,rawInt pos.col,.ref c']))) b=ac u->b≠c':=λb u e=>dX e nc1;refine I1.call' (s':={ s with heap:=h',toks:=tk }) (ch:=[c']) rfl ⟨λb u e _ _ _=>e,λb u e _ _ _=>⟨u.slots,e⟩,λb u e n hb=>?_,λb u e hb=>⟨u,e⟩,λb xs e=>by rw[aX (wE _ _ e)];exact e,λb q u e=>by rw[aX (wE _ _ e)];exact e,λb w ps e=>⟨#[],by rw[aX (wE _ _ e),e];simp⟩⟩ ?_ I.bare
    λb hb=>by
     obtain rfl:b=c':=by simpa using hb
     exact⟨F.2.2.2.1,F.2.1,F.2.2.2.2.1,F.2.2.2.2.2⟩
   ·rw[aX (λz=>hb (by simp[z]))];exact n
   ·intro b u e;by_cases z:b=c'
    ·subst z;rw[bS]at e;cases e;exact⟨hx,⟨oc,hoc⟩,Si b qual⟩
    ·rw[aX z]at e;exact(I1.hok b u e).stay (λy v hy q=>q) (λy q=>by rw[aX (wE _ _ q)];exact q) λy xs q=>by rw[aX (wE _ _ q)];exact q
  have Vm:∀b o,h'.get? b=ac o->(h'.push (v7 "<lambda>" qual ps body sc cl ((X.mg "__name__").getD .none) c' ctv)).get? b=ac o:=λb o e=>dI _ e;have I3:=I2.kept (t':=tk) Vm;have szs:s.heap.objs.size<=h'.objs.size:=c7 h1 (zv h2);have ck:jq (upd (upd H T (.tbl qual (tps ++ #[rawInt pos.line,rawInt pos.col,.ref c']))) c' (.ext (jr c' qual))):=by
   have nT':∀{b:ai} {o:HO},H b=ac o->NT o->upd (upd H T (.tbl qual (tps ++ #[rawInt pos.line,rawInt pos.col,.ref c']))) c' (.ext (jr c' qual)) b=ac o:=λ{b o} e n=>by
    rw[aX (dX e nc),aX (λz=>by rw[z,hT]at e;cases e;exact n)];exact e
   refine⟨λr hr=>?_,λT2 q2 ps2 e=>?_,λa2 q2 xs2 e=>?_⟩
   rotate_left 2
   ·by_cases z:a2=c'
    ·subst z;rw[bS]at e;cases e
    ·rw[aX z]at e;by_cases z2:a2=T
     ·subst z2;rw[bS]at e;cases e
     ·rw[aX z2]at e;exact k.fz a2 q2 xs2 e
   ·obtain⟨p0,e0⟩:=k.has r hr;by_cases z:r.1=T
    ·rw[z,hT]at e0;have:qual=r.2:=by injection e0 with e0;injection e0
     exact⟨_,by rw[aX (by rw[z];exact dW cT),z,bS,this]⟩
    ·exact⟨p0,by rw[aX (dX e0 nc),aX z];exact e0⟩
   ·by_cases z:T2=c'
    ·subst z;rw[bS]at e;cases e
    ·rw[aX z]at e;by_cases z2:T2=T
     ·subst z2;rw[bS]at e;have e1:qual=q2:=by injection e with e;injection e
      have e2:tps ++ #[rawInt pos.line,rawInt pos.col,.ref c']=ps2:=by injection e with e;injection e
      subst e1 e2;refine⟨by rw[zJ];exact Uk ok1,λp2 v hv=>?_⟩;rw[zJ]at hv;rcases RO ok1 hv with q|q
      ·obtain⟨y,y1,y2⟩:=ok2 p2 v q;exact⟨y,y1,nT' y2 trivial⟩
      ·exact⟨c',q,bS⟩
     ·rw[aX z2]at e;obtain⟨t1,t2⟩:=k.cd T2 q2 ps2 e;refine⟨t1,λp2 v hv=>?_⟩;obtain⟨y,y1,y2⟩:=t2 p2 v hv;exact⟨y,y1,nT' y2 trivial⟩
  refine h h'.objs.size c' ctv _ _ _ (.inr ⟨tps,_,c',hT,nc,cT,rfl,ck⟩) bS (ge _ rfl) I3 ?_;refine I.jP szs ?_;rw[aX (zw h2),aX (λz=>?_)]
  ·exact I.hok.fresh szs
  ·have:=I.hok.fresh szs;rw[z,hT]at this;cases this
end
end L2
namespace L2
open PySem PySem.Spec PyProof.Rows A So
variable[Tb:cp]
section
variable{X:Cx}{ah:List (ai×Obj)}{σ:St}{H:Hp}{s:az}
theorem adopt{fp:List ai}{D:ai}{o:HO}{h':aY}{t':Nat}(I:Inv X ah σ H s)(hf:∀b∈fp,gQ X ah H b)(hD:D∈fp)(k:∀b u,b∉fp->s.heap.get? b=ac u->h'.get? b=ac u)
 (new:d5 X.prog X.w (upd H D o) h' D o):Inv X ah σ (upd H D o) { s with heap:=h',toks:=t' }:=by
 have hn:H D=af:=(hf D hD).1;have nfp:∀b u,H b=ac u->b∉fp:=λb u e z=>by rw[(hf b z).1]at e;cases e
 refine I.call' (s':={ s with heap:=h',toks:=t' }) (ch:=fp) rfl ⟨λb u e _ _ hb=>k b u hb e,λb u e _ _ hb=>⟨u.slots,k b u hb e⟩,λb u e hb hx=>?_,λb u e hb=>⟨u,k b u hb e⟩,λb xs e=>?_,λb q u e=>?_,λb w ps e=>⟨#[],?_⟩⟩ ?_ I.bare
  λb hb=>⟨(hf b hb).2.2.2.1,(hf b hb).2.1,(hf b hb).2.2.2.2.1,(hf b hb).2.2.2.2.2⟩
 ·rw[aX (λz=>hx (by rw[z];exact hD))];exact hb
 ·rw[aX (dX e hn)];exact e
 ·rw[aX (dX e hn)];exact e
 ·rw[aX (dX e hn),e];simp
 ·intro b u e;by_cases hb:b=D
  ·subst hb;rw[bS]at e;cases e;exact new
  ·rw[aX hb]at e;refine(I.hok b u e).stay (λc v hc q=>k c v ?_ q) (λc q=>by rw[aX (dX q hn)];exact q) λc xs q=>by rw[aX (dX q hn)];exact q
   rcases hc with z|z
   ·rw[z];exact nfp b u e
   ·exact nfp c _ z
theorem GJ:∀{ns:List Int} {ax:List aj},Vals (ns.map V.int) ax->kR ax ns
 |[],_,.nil=>.nil
 |n::r,_,.cons h t=>by
  obtain⟨t1,rfl⟩:=h;exact .cons n t1 (GJ t)
end
def yL(c':ai)(q:Str)(tk:V->Hp->VK->Prop):List V->Hp->(List V->Hp->Prop)->Prop
 |[],H,R=>R [] H
 |x::xs,H,R=>tk x H λk H1=>H1 c'=ac (.ext (jr c' q))/\yL c' q tk xs H1 λks H2=>R (k::ks) H2
def KeysAre(H:Hp)(kz:List (List Int))(ks:List V):Prop:=P2 (λz k=>∃p,k=V.ref p/\H p=ac (.lst (z.map V.int))) kz ks
def PN(T:ai)(q:Str)(ρ:List Nat)(σ:St)(tb:TE)(Q:VK):VK:=λx H1=>∃a xs tps,x=.ref a/\xs.length<64/\H1 T=ac (.tbl q tps)/\jq H1 /\
 ∀H2 c',Tab T q H1 H2->H2 c'=ac (.ext (jr c' q))->Lst H2 a xs/\yL c' q (λv H K=>tb (jI ρ σ v) H K) xs H2 λks H3=>∃kz:List (List Int),kz.length=xs.length/\kz.Nodup/\KeysAre H3 kz ks /\
  ∀p ys,H3 p=af->BH .non kz xs ys->Q (.ref p) (upd H3 p (.lst ys))
def Kp(T:ai)(q:Str)(ρ:List Nat)(te tb:TE):TE:=λσ H Q=>te σ H (PN T q ρ σ tb Q)
theorem PV{kz:List (List Int)}{xs:List V}{ax out:List aj}(r:Vals xs ax)(hz:kz.length=xs.length)(h:qi (nE kz) ax out):∃ys,BH .non kz xs ys/\Vals ys out:=by
 obtain⟨p,pm,sd,rfl⟩:=h;have hl:=r.length;rw[<- hl]at pm sd;refine⟨p.toList.map λi=>xs.getD i .non,⟨p,pm,sd,rfl⟩,?_⟩;have key:∀l:List Nat,(∀i∈l,i<xs.length)->Vals (l.map λi=>xs.getD i .non) (l.map λi=>ax.getD i fi):=λl hl'=>by
  induction l with
  |nil=>exact .nil
  |cons i t ih=>
   have hi:=hl' i cW;refine .cons ?_ (ih λj hj=>hl' j (eL _ hj));have e1:xs[i]? = ac (xs.getD i .non):=by simp[hi]
   obtain⟨u,e2,r2⟩:=r.get e1;have:ax.getD i fi=u:=by simp[e2]
   show RelV (xs.getD i .non) (ax.getD i fi);rw[this];exact r2
 refine key _ λi hi=>?_;have:=(ww.mp pm.pm).mem_iff.mp hi;simpa using this
section
variable{X:Cx}{x qual:Str}{e:bj}{ps:tK}{body:bj}{sc:fh}{cl:List (Str×ai)}{c T:ai}{p pos Mn Vn:Pos}{k:Nat}{ρ:List Nat}{N':List Str}{te tb:TE}
theorem TY(hg:Gl X "sorted")(hm:X.mg "sorted" = af)(he:PE X e te)(hr:ee (k+3) X.A)(hc:X.env.code=.ref c)(C:kO X.base c T)(hB:BM X.mg X.base)(hdef:defaultsOf ps X.env=([],[]))(hq:X.env.qual ++ "<lambda>" = qual)(hcl:closureFor sc X.env=pure cl)
 (S:sF X x ρ N' sc cl) (hbind:∀(pm:aj) (c':ai) (ctv u:aj),bindArgs (LH "<lambda>" qual ps body sc cl pm (.ref c') ctv) ⟨[u],[]⟩=pure [(x,u)])
 (hb:∀(A:bT) (f c':ai) (s:az) (H:Hp) (env:Env),ee k (A.deeper env)->env=yM qual sc s f c' cl->PE (Bm X A N' env s H) body tb)
 (hs:starEach [e] X.env=(false,eval e X.env)::starEach [] X.env:=by rfl) (hpl:(backTo pos (starEach [e] X.env)).any (·.1)=false:=by rfl) :
 PE X (.Call (.Name "sorted" p) [e] [⟨ac "key", .Lambda ps body sc Mn,Vn⟩] pos) (Kp T qual ρ te tb):=by
 intro ah s σ H Q I h;have hboot:bootBuiltins "sorted" = ac (.builtin "sorted"):=by kernel_rfl
 refine tI (ql I hg hm hboot ?_);refine callWith_kw ?_ (by rw[hs];rfl) hpl rfl rfl;rw[hs];show wpAny _ _ (spliced ((false,eval e X.env)::backTo pos (starEach [] X.env))) _ _ s;refine DH (bn (he ah s σ H _ I h) λu s1 ⟨x1,H1,I1,r1,q1⟩=>DI ?_);obtain⟨a,xs,tps,rfl,h64,hT,ck,q2⟩:=q1;cases r1;show wpAny _ _ (evalAll ((do let v <- eval (.Lambda ps body sc Mn) X.env;standAt pos;pure v)::((backToKw pos (keywordEach [] X.env)).map (·.2)))) _ _ s1;refine wpAny_evalAll_cons (aV (QT I1 hc C ck hT hB hdef hq hcl λf c' ctv pm s2 H2 tab hc' hf I2 fpf=>aV (zj (cE (wpAny_evalAll_nil ?_)))));obtain⟨hl2,kr⟩:=q2 H2 c' tab hc';show wpAny (model X.prog X.w) X.A (call (.builtin "sorted") [.ref a] [(wr "key", .ref f)]) (EP X ah σ Q) X.xe s2;obtain⟨ax,n0,rv,hz,ho⟩:=rJ I2 hl2;have hli:=rv.length;let Fn:List V->Hp->Prop:=λks H3=>∃kz:List (List Int),kz.length=xs.length/\kz.Nodup/\KeysAre H3 kz ks/\∀p ys,H3 p=af->BH .non kz xs ys->Q (.ref p) (upd H3 p (.lst ys));have flt:f<s2.heap.objs.size:=cY hf;have fnt:f∉tm s2.heap.objs.size:=λz=>by
  simp only[tm,bZ,mU,mS]at z;have:(f:Nat)<s2.heap.objs.size:=flt;rcases z with z|z|z|z
  ·exact absurd this (by rw[z];exact m6 _)
  ·exact absurd this (by rw[z];exact tQ.mpr (zp _ _))
  ·exact absurd this (by rw[z];exact tQ.mpr (zp _ _))
  ·exact absurd this (by rw[z];exact tQ.mpr (zp _ _))
 refine S2 (vs:=ax) (J:=λks s3=>∃Hc kv,Inv X ah σ Hc s3/\Vals kv ks/\s3.heap.get? f=ac (v7 "<lambda>" qual ps body sc cl pm c' ctv)/\gQ X ah Hc f/\(∀b∈tm s2.heap.objs.size,gQ X ah Hc b/\∃o,s3.heap.get? b=ac o) /\
  Hc c'=ac (.ext (jr c' qual))/\yL c' qual (λv H K=>tb (jI ρ σ v) H K) (xs.drop ks.length) Hc λks' H3=>Fn (kv++ks') H3) ⟨_,ho,rfl,_,rfl⟩ (by omega) ?j0 ?jk ?jc ?je
 case j0=>
  intro h' kp ex;refine⟨H2,[],I2.kept kp,.nil,kp _ _ hf,fpf,λb hb=>⟨I2.jP ?_ (I2.hok.fresh ?_),ex b hb⟩,hc',kr⟩
  all_goals (simp only[tm,bZ,mU,mS]at hb;rcases hb with z|z|z|z<;>rw[z]<;>first|exact bU _|exact zp _ _)
 case jk=>
  rintro ks s3 h' ⟨Hc,kv,I3,rk,hf3,fp3,tm3,hc3,kr3⟩ kp ex;refine⟨Hc,kv,Ja (t':=s3.toks) I3 (fp:=tm s2.heap.objs.size) (λb hb=>(tm3 b hb).1) (λb u hb q=>kp b u hb q),rk,kp _ _ fnt hf3,fp3,λb hb=>⟨(tm3 b hb).1,?_⟩,hc3,kr3⟩;obtain⟨o,q⟩:=(tm3 b hb).2;exact ex b o q
 case jc=>
  rintro i u ks s3 hu hks ⟨Hc,kv,I3,rk,hf3,fp3,tm3,hc3,kr3⟩;obtain⟨v,hv,ruv⟩ : ∃v,xs[i]? = ac v/\RelV v u:=by
   have hi:i<xs.length:=by rw[hli];exact(fe.mp hu).1
   have e1:xs[i]? = ac xs[i]:=by simp[hi]
   obtain⟨u2,e2,r2⟩:=rv.get e1;rw[hu]at e2;cases e2;exact⟨_,e1,r2⟩
  have hd:xs.drop ks.length=v::xs.drop (ks.length+1):=by obtain⟨hi,e⟩:=fe.mp hv;rw[hks,qO hi,e]
  rw[hd]at kr3;have hrec:s3.heap.CodeRec (.ref c') qual:=by obtain⟨⟨o,vs,t,e1,e2,e3⟩,_⟩:=I3.hok c' _ hc3;exact⟨c',o,vs,t,rfl,e1,e2,e3⟩
  have hA:X.A.in1.in1.frames=ac X.stack:=I3.ok.frames;refine h7 (Sb (k:=k) I3 hA hr.in1.in1 S hf3 hrec (hbind pm c' ctv u) ruv (λenv h1 h2=>hb _ f c' s3 Hc env h1 h2) kr3) (λkk s4 hce=>?_) λ_ _ z=>z;have Wp:=hce;obtain⟨kvv,H4,os4,Vo,un4,Vq,rk4,hc4,kr4⟩:=hce;have noF:∀b,gQ X ah Hc b->b∉frs X.stack:=λb hb z=>by
   rcases bZ.mp (I3.yG b z)with y|y
   ·exact hb.2.1 y
   ·exact hb.2.2.1 y
  have I4:Inv X ah σ H4 s4:=I3.call' os4 (ch:=[]) un4 Vq Vo (λb z=>absurd z (by simp));have fpk:∀b,gQ X ah Hc b->(∃o,s3.heap.get? b=ac o)->gQ X ah H4 b:=λb hb ⟨o,q⟩=>⟨un4.free b o q hb.1 (by simp),hb.2⟩;refine⟨⟨H4,kv++[kvv],I4,rk.append (.cons rk4 .nil),un4.keep _ _ hf3 fp3.1 (noF _ fp3) (by simp),fpk f fp3 ⟨_,hf3⟩,λb hb=>⟨fpk b (tm3 b hb).1 (tm3 b hb).2,?_⟩,hc4,?_⟩,λb o hb q=>un4.keep b o q (tm3 b hb).1.1 (noF _ (tm3 b hb).1) (by simp)⟩
  ·obtain⟨o,q⟩:=(tm3 b hb).2;exact un4.there b o q (by simp)
  ·rw[dz];simp only[tD,Ln];exact kr4
 case je=>
  rintro ks s3 hks ⟨Hc,kv,I3,rk,hf3,fp3,tm3,hc3,kr3⟩;rw[vZ (by omega)]at kr3;obtain⟨kz,hz1,nd,ka,fin⟩:=kr3;rw[i8]at ka;have lk:=rk.length;have at_:∀i,i<ax.length->∃pp o us nn,ks.getD i fi=.ref pp/\s3.heap.get? pp=ac o/\o.cls=.type "list" /\ o.data=.seq (fH us) nn/\kR us (kz.getD i []):=λi hi=>by
   have hzi:i<kz.length:=by omega
   have e1:kz[i]? = ac (kz.getD i []):=by simp[hzi]
   obtain⟨kvi,e2,pp,rfl,hp⟩:=P2.getL ka e1;obtain⟨u,e3,r3⟩:=rk.get e2;cases r3;obtain⟨_,us,nn,vu,ho⟩:=I3.hok pp _ hp;exact⟨pp,_,us,nn,by simp[e3],ho,rfl,rfl,GJ vu⟩
  have hord:=Bu nd;rw[hz1,hli]at hord;refine⟨nE kz,hord,λh2 Q' hq'=>?_,λi j C hi hj hC=>?_,λout h' cc so kp ex hD=>?_⟩
  ·refine PySem.W.kas_kind (T:=wq "list") (by omega) (λv hv=>?_) (by decide) (by decide) hq';obtain⟨i,hi⟩:=sZ hv;have hil:=(fe.mp hi).1;obtain⟨pp,o,us,nn,e1,e2,e3,_⟩:=at_ i (by omega);have:v=.ref pp:=by
    rw[<- e1];simp[hi]
   rw[this,<- e3];exact(Me e2).andThen .now
  ·obtain⟨p1,o1,us1,n1,a1,a2,a3,a4,a5⟩:=at_ i hi;obtain⟨p2,o2,us2,n2,b1,b2,b3,b4,b5⟩:=at_ j hj;unfold PySem.W.kas_ask;rw[a1,b1];exact UE a2 a3 a4 b2 b3 b4 a5 b5 (by have:=hr.un;show X.A.units+1+1<cLine;omega) hC
  ·obtain⟨ys,sy,vy⟩:=PV rv hz1 so;have hD':s2.heap.objs.size+1∈tm s2.heap.objs.size:=by simp[tm]
   have ly:ys.length=xs.length:=by rw[vy.length,so.len,hli]
   have nD:Hc (s2.heap.objs.size+1)=af:=(tm3 _ hD').1.1;refine⟨.ref (s2.heap.objs.size+1),_,adopt (t':=s3.toks) (o:=.lst ys) I3 (λb hb=>(tm3 b hb).1) hD' (λb u hb q=>kp b u hb q) ⟨by rw[ly];exact hz,out,cc,vy,hD⟩,rfl,fin _ ys nD sy⟩
end
end L2
namespace Mi
open PySem
def yy:D->Option (List Str)
 |.tup ds=>ir ds
 |.lst ds=>ir ds
 |_=>af
def u9(x y:D):Rs D:=match y with
 |.str z=>(cy (yy x)).bind λys=>bp (z∈ys/\ys.length<=1000) (.ok (.int (ys.idxOf z:Nat)))
 |_=>.no
def gI:List Int->List Int->Bool
 |[],[]=>false
 |[],_::_=>true
 |_::_,[]=>false
 |a::r,b::t=>if a==b then gI r t else decide (a<b)
def lB:List D->Option (List Int)
 |[]=>ac []
 |.int i::r=>(lB r).map (i :: ·)
 |_=>af
def uk:D->Rs (List Int)
 |.lst ds=>cy (lB ds)
 |_=>.no
def insI(lt:Nat->Nat->Bool)(i:Nat):List Nat->List Nat
 |[]=>[i]
 |j::r=>if lt i j=true then i::j::r else j::insI lt i r
def sortI(lt:Nat->Nat->Bool):List Nat->List Nat
 |[]=>[]
 |i::r=>insI lt i (sortI lt r)
def kG(kz:List (List Int))(n:Nat):List Nat:=sortI (λi j=>gI (kz.getD i []) (kz.getD j [])) (bP n)
def sortBy(kz:List (List Int))(ds:List D):List D:=(kG kz ds.length).map λi=>ds.getD i .non
def nY(ρ:List Nat)(e:Env)(d:D):Env:=ac (.d d) :: ρ.map λj=>(e[j]?).join
def jV(ρ:List Nat)(kf:E)(e:Env):List D->Rs (List (List Int))
 |[]=>.ok []
 |d::r=>(kf (nY ρ e d)).bind λk=>(uk k).bind λz=>(jV ρ kf e r).bind λzs=>.ok (z::zs)
def xN(ρ:List Nat)(a kf:E):E:=λe=>(a e).bind λx=>(F8 x).bind λds=>bp (ds.length<64) ((jV ρ kf e ds).bind λkz=>bp kz.Nodup (.ok (.lst (sortBy kz ds))))
end Mi
namespace A
open PySem L2 PyProof.Rows
open Mi (D W Rs Fin aD Out Tg)
variable[Tb:cp]
section
variable{prog:bH}{w:bt}{Ar:bT}
theorem AI(x y:Str)(t u:Tok):Ma (.str x t) (.str y u) (x.cps.toList==y.cps.toList):=Vd x y t u
theorem xB{ys:List Str}{us:List aj}(r:Vals (ys.map V.str) us){i:Nat}(h:i<ys.length):∃t,us[i]? = ac (.str (ys.getD i eQ) t):=by
 have e:(ys.map V.str)[i]? = ac (.str (ys.getD i eQ)):=by simp[h]
 obtain⟨u,e2,r2⟩:=r.get e;obtain⟨t,rfl⟩:=r2;exact⟨t,e2⟩
theorem Gj{ys:List Str}{z:Str}(h:z∈ys):ys.idxOf z<ys.length/\ys.getD (ys.idxOf z) eQ=z/\∀m,m<ys.idxOf z->ys.getD m eQ≠z:=by
 have hl:=Lc h;refine⟨hl,by simp[hl],λm hm e=>?_⟩;have:m<ys.length:=Nat.lt_trans hm hl;have e2:ys[m]=z:=by simpa [this]using e
 have:=List.not_of_lt_findIdx (p:=(· == z)) (xs:=ys) (i:=m) hm;simp[e2]at this
theorem Uu{E:aj->az->Prop}{s:az}{t:ai}{us:List aj}{ys:List Str}{z:Str}{tz:Tok}{Q:aj->az->Prop}(ht:IsTup s.heap t us.toArray)(r:Vals (ys.map V.str) us)(hz:z∈ys)
 (h:Q (.int (ys.idxOf z:Nat) s.toks) { s with toks:=s.toks+1 }):wpAny (model prog w) Ar (call (.builtin "tuple.index") [.ref t,.str z tz]) Q E s:=by
 obtain⟨h1,h2,h3⟩:=Gj hz;have hl:=r.length;rw[aP]at hl;refine zh LO ht.typeIs PySem.F.entry_tuple_index ?_ (PySem.F.args_tuple_index_2 _ _);show wpAny _ _ (Builtin.Tuple.tupleItemsOf (.ref t) >>= _) _ _ s;refine aV (tupleItemsOf_ ht ?_);refine aV (cE (aV (cE ?_)));dsimp only;rw[Std.Legacy.Range.forIn_eq_forIn_range'];have hsz:([0:min us.toArray.size us.toArray.size]:Std.Legacy.Range).size=us.length:=by simp[Std.Legacy.Range.size]
 rw[hsz];show wpAny _ _ (forIn (List.range' 0 us.length 1) _ _ >>= _) _ _ _;have go:∀(k i:Nat),ys.idxOf z=i+k->∀(G:Option qZ×Unit->az->Prop),G (ac (.done (.ret (.int (ys.idxOf z:Nat) s.toks))),()) { s with toks:=s.toks+1 } ->
  wpAny (model prog w) Ar.in1 (forIn (List.range' i (us.length - i) 1) ((af, ()) : Option qZ × Unit) fun (i : Nat) (__s : Option qZ × Unit) => (match us.toArray[i]? with
          | some y=>do
           let b <- eqBool y (pL z tz)
           if b=true then do
            let r <- retInt (i:Int)
            pure (ForInStep.done (ac r,()))
            else pure (m9 (af,()))
          |x=>pure (m9 (af,())):Sem (ForInStep (Option qZ×Unit)))) G E s:=by
  intro k
  induction k with
  |zero=>
   intro i hi G hG;have hlt:i<us.length:=by omega
   obtain⟨t1,e1⟩:=xB r (i:=i) (by omega);rw[show us.length-i=(us.length-i-1)+1 by omega,List.range'_succ,zb];have e2:us.toArray[i]? = ac (.str (ys.getD i eQ) t1):=by simpa using e1
   rw[e2];have hz2:ys.getD i eQ=z:=by rw[<- h2,hi];rfl
   rw[hz2];refine aV (aV (AI z z t1 tz prog w _ _ _ _ ?_));simp only[j3,jX];refine aV (aV (wpAny_mkInt (cE (cE ?_))));rw[show(i:Nat)=ys.idxOf z from hi.symm];exact cE hG
  |succ k ih=>
   intro i hi G hG;have hlt:i<us.length:=by omega
   obtain⟨t1,e1⟩:=xB r (i:=i) (by omega);rw[show us.length-i=(us.length-(i+1))+1 by omega,List.range'_succ,zb];have e2:us.toArray[i]? = ac (.str (ys.getD i eQ) t1):=by simpa using e1
   rw[e2];have hz2:=h3 i (by omega);refine aV (aV (AI _ z t1 tz prog w _ _ _ _ ?_));have:((ys.getD i eQ).cps.toList==z.cps.toList)=false:=by
    rw[yV];intro e;apply hz2;cases hq:ys.getD i eQ with
    | mk c=>cases z with
     |mk d=>
      rw[hq]at e;have:c=d:=wy.mp e;rw[this]
   rw[this];simp only[wg,jB];exact cE (ih (i+1) (by omega) G hG)
 refine aV (go (ys.idxOf z) 0 (by omega) _ ?_);exact cE ⟨_,rfl,h⟩
theorem Nz{E:aj->az->Prop}{s:az}{t:ai}{us:List aj}{ys:List Str}{z:Str}{tz:Tok}{n:Nat}{Q:aj->az->Prop}(ht:s.heap.get? t=ac { cls:=.type "list", data:=.seq us.toArray n })(r:Vals (ys.map V.str) us)(hz:z∈ys)(hl:ys.length<=1000)
 (h:Q (.int (ys.idxOf z:Nat) s.toks) { s with toks:=s.toks+1 }):wpAny (model prog w) Ar (call (.builtin "list.index") [.ref t,.str z tz]) Q E s:=by
 obtain⟨h1,h2,h3⟩:=Gj hz;have hlu:=r.length;rw[aP]at hlu;let e:aj->Bool:=λy=>match y with
  |.str a _=>a.cps.toList==z.cps.toList
  |_=>false
 have he:∀y,y∈us.toArray->Ma y (.str z tz) (e y):=λy hy=>by
  obtain⟨i,hi⟩:=sZ (by simpa using hy:y∈us);have hil:=(fe.mp hi).1;obtain⟨t1,e1⟩:=xB r (i:=i) (by omega);rw[e1]at hi;cases hi;exact AI _ z t1 tz
 have ei:∀i (hi:i<us.toArray.size),e us.toArray[i]=decide (ys.getD i eQ=z):=λi hi=>by
  have hi':i<us.length:=by simpa using hi
  obtain⟨t1,e1⟩:=xB r (i:=i) (by omega);have:us.toArray[i]=.str (ys.getD i eQ) t1:=by have:=(fe.mp e1).2;simpa using this
  rw[this];show((ys.getD i eQ).cps.toList==z.cps.toList)=_;by_cases q:ys.getD i eQ=z
  ·rw[q];simp
  ·rw[d6 q,yV];intro y;apply q;cases hq:ys.getD i eQ with
   | mk c=>cases z with
    |mk d=>
     rw[hq]at y;have:c=d:=wy.mp y;rw[this]
 refine qY LP ⟨_,ht,rfl⟩ PySem.F.entry_list_index (PySem.F.args_list_index_2 _ _) (PySem.MeetsSeq.list_index t us.toArray n (.str z tz) e he (ys.idxOf z) (by simp;omega) (by omega) (by rw[ei];simp only[h2];simp) (λm hm hj=>by rw[ei];simp only[h3 m hj];simp)) ⟨ht,h⟩
end
section
variable{X:Cx}{K:aO}{M:Nat->Bool}{to ta tb:TE}{t:TA}{o e:bj}{es:List bj}{apos cpos:Pos}{a b:Mi.E}
theorem T5:n5 X "tuple.index" (λx xs H Q=>∃(p:ai) (ys:List Str) (z:Str),x=.ref p/\xs=[.str z]/\z∈ys/\H p=ac (.tup (ys.map V.str))/\Q (.int (ys.idxOf z:Nat)) H):=by intro ah s σ H x xs v us Q I rx rv h;obtain⟨p,ys,z,rfl,rfl,hz,hp,q⟩:=h;cases rx;obtain⟨u,rfl,ru⟩:=vals1 rv;obtain⟨tz,rfl⟩:=ru;obtain⟨ax,r,pt,_⟩:=I.tuple (.inl (.inl hp));exact Uu pt r hz ⟨.int _,H,I.tok _,⟨_,rfl⟩,q⟩
theorem Sg:n5 X "list.index" (λx xs H Q=>∃(p:ai) (ys:List Str) (z:Str),x=.ref p/\xs=[.str z]/\z∈ys/\ys.length<=1000/\Lst H p (ys.map V.str)/\Q (.int (ys.idxOf z:Nat)) H):=by intro ah s σ H x xs v us Q I rx rv h;obtain⟨p,ys,z,rfl,rfl,hz,hl,hp,q⟩:=h;cases rx;obtain⟨u,rfl,ru⟩:=vals1 rv;obtain⟨tz,rfl⟩:=ru;obtain⟨ax,n,r,_,ho⟩:=rJ I hp;exact Nz ho r hz hl ⟨.int _,H,I.tok _,⟨_,rfl⟩,q⟩
def JL(K:aO)(T2:String)(r1 r2:V->List V->Hp->VK->Prop)(to:TE)(t:TA):TE:=λσ H Q=>to σ H λx H1=>((∃p xs,x=V.ref p/\H1 p=ac (.tup xs))/\t σ H1 λxs H2=>r1 x xs H2 Q)\/(yl K T2 x H1/\t σ H1 λxs H2=>r2 x xs H2 Q)
theorem Tp{T2 id1 id2:String}{r1 r2:V->List V->Hp->VK->Prop}{name:Str}(aQ:zk "tuple")(slot1:Slot "tuple" name id1)(Vr:typeOf (.builtin id1)=pure (.type "method_descriptor"))(hm1:n5 X id1 r1)
 (pa2:zk T2) (Vs:Slot T2 name id2) (Vt:typeOf (.builtin id2)=pure (.type "method_descriptor")) (hm2:n5 X id2 r2) (ho:PE X o to) (ha:PA X (e::es) t)
 (hbase:attributeBase o name X.env (eval o X.env)=eval o X.env:=by rfl)
 (hfew:((backTo cpos (starEach (e::es) X.env)).all (λx=>!x.1)&&(backToKw cpos (keywordEach [] X.env)).all (λx=>x.1.isSome)
  && decide ((e::es).length+([]:List Keyword).length+(if([]:List Keyword).isEmpty then 0 else 1)<30))=true:=by rfl)
 (hline:(apos.endLine==cpos.line)=true:=by rfl) (hs:starEach (e::es) X.env=(false,eval e X.env)::starEach es X.env:=by rfl) (hplain:(backTo cpos (starEach es X.env)).any (·.1)=false:=by rfl) :
 PE X (.Call (.Attribute o name apos) (e::es) [] cpos) (JL X.K T2 r1 r2 to t):=by
 intro ah s σ H Q I h;refine LK hbase hfew hline rfl (bn (ho ah s σ H _ I h) λv s1 ⟨x,H1,I1,rx,q⟩=>?_);rcases q with ⟨ty,q1⟩|⟨ty,q1⟩
 ·obtain⟨p,xs,rfl,hp⟩:=ty;cases rx;have h12:s1.TypeIs (.ref p) "tuple" /\ ∀a,dP p=.ref a->∃ob,s1.heap.get? a=ac ob/\ob.dict=af:=by
   obtain⟨_,ax,_,ob,e1,e2,e3,_⟩:=(show d5 X.prog X.w H1 s1.heap p (.tup xs)from I1.hok p _ hp);exact⟨⟨ob,e1,e2⟩,λa z=>by cases z;exact⟨ob,e1,e3⟩⟩
  obtain⟨h1,h2⟩:=h12;have rx:RelV (.ref p) (dP p):=rfl;refine⟨"tuple", id1,aQ,slot1,Vr,h1,h2,?_⟩;have hA:=ha cpos ah s1 σ H1 _ I1 q1;rw[hs]at hA ⊢;refine zK (by show(false||(backTo cpos (starEach es X.env)).any (·.1))=false;rw[hplain]<;>rfl) (zL ?_);exact bn hA λus s2 ⟨vs,H2,I2,r2',q2⟩=>hm1 ah s2 σ H2 _ vs _ us Q I2 rx r2' q2
 ·obtain⟨h1,h2⟩:=CK I1 rx ty;refine⟨T2,id2,pa2,Vs,Vt,h1,h2,?_⟩;have hA:=ha cpos ah s1 σ H1 _ I1 q1;rw[hs]at hA ⊢;refine zK (by show(false||(backTo cpos (starEach es X.env)).any (·.1))=false;rw[hplain]<;>rfl) (zL ?_);exact bn hA λus s2 ⟨vs,H2,I2,r2',q2⟩=>hm2 ah s2 σ H2 x vs v us Q I2 rx r2' q2
end
end A
namespace So
open PySem
theorem xA:∀a b:List Int,eg a b=Mi.gI a b
 |[],[]=>rfl
 |[],_::_=>rfl
 |_::_,[]=>rfl
 |a::r,b::t=>by rw[eg,Mi.gI,xA r t]
theorem CP(lt:Nat->Nat->Bool)(i:Nat):∀l:List Nat,(Mi.insI lt i l).Perm (i::l)
 |[]=>DN _
 |j::r=>by
  unfold Mi.insI;split
  ·exact DN _
  ·exact((CP lt i r).cons j).trans (List.Perm.swap i j r)
theorem uE(lt:Nat->Nat->Bool):∀l:List Nat,(Mi.sortI lt l).Perm l
 |[]=>DN _
 |i::r=>(CP lt i _).trans ((uE lt r).cons i)
section
variable{n:Nat}{lt:Nat->Nat->Bool}(O:uI n lt)
include O
theorem J0{i:Nat}(hi:i<n):∀{l:List Nat},(∀x∈l,x<n)->i∉l->l.Pairwise (λa b=>lt a b=true)->(Mi.insI lt i l).Pairwise (λa b=>lt a b=true)
 |[],_,_,_=>C2 _ _
 |j::r,hl,hn,hp=>by
  have hp':=jw.mp hp;have hj:=hl j cW;unfold Mi.insI;split
  ·rename_i h;refine jw.mpr ⟨λx hx=>?_,hp⟩;rcases bZ.mp hx with rfl|hx
   ·exact h
   ·exact O.tr _ _ _ hi hj (hl x (eL _ hx)) h (hp'.1 x hx)
  ·rename_i h;have hji:lt j i=true:=(O.tot i j hi hj λz=>hn (by rw[z];exact cW)).resolve_left h;refine jw.mpr ⟨λx hx=>?_,J0 hi (λx hx=>hl x (eL _ hx)) (λz=>hn (eL _ z)) hp'.2⟩;rcases bZ.mp ((CP lt i r).mem_iff.mp hx)with rfl|hx
   ·exact hji
   ·exact hp'.1 x hx
theorem BC:∀{l:List Nat},(∀x∈l,x<n)->l.Nodup->(Mi.sortI lt l).Pairwise (λa b=>lt a b=true)
 |[],_,_=>.nil
 |i::r,hl,nd=>by
  have nd:=kg.mp nd;have hr:∀x∈r,x<n:=λx hx=>hl x (eL _ hx);exact J0 O (hl i cW) (λx hx=>hr x ((uE lt r).mem_iff.mp hx)) (λz=>nd.1 ((uE lt r).mem_iff.mp z)) (BC hr nd.2)
theorem FH:∀{a b:List Nat},(∀x∈a,x<n)->a.Perm b->a.Pairwise (λx y=>lt x y=true)->b.Pairwise (λx y=>lt x y=true)->a=b
 |[],b,_,p,_,_=>p.nil_eq
 |x::r,b,hl,p,ha,hb=>by
  cases b with
  |nil=>exact absurd p.length_eq (by simp)
  |cons y t=>
   have hx:x∈y::t:=p.mem_iff.mp cW;have hy:y∈x::r:=p.mem_iff.mpr cW;have e:x=y:=by
    rcases bZ.mp hx with h|h
    ·exact h
    ·rcases bZ.mp hy with h'|h'
     ·exact h'.symm
     ·have a1:=(jw.mp ha).1 y h';have a2:=(jw.mp hb).1 x h;rw[O.asy _ _ (hl x cW) (hl y hy) a1]at a2;cases a2
   subst e;rw[FH (λz hz=>hl z (eL _ hz)) (List.Perm.cons_inv p) (jw.mp ha).2 (jw.mp hb).2]
end
theorem TX{kz:List (List Int)}(nd:kz.Nodup){p:Array Nat}(pm:Pm kz.length p)(sd:Sd (nE kz) p kz.length):p.toList=Mi.kG kz kz.length:=by
 have O:=Bu nd;have e:Mi.kG kz kz.length=Mi.sortI (nE kz) (bP kz.length):=by
  unfold Mi.kG nE
  congr 1
  funext i j;exact(xA _ _).symm
 have hp:p.toList.Perm (bP kz.length):=by have:=ww.mp pm.pm;simpa using this
 have hb:∀x∈p.toList,x<kz.length:=λx hx=>by simpa using hp.mem_iff.mp hx
 rw[e];refine FH O hb (hp.trans (uE _ _).symm) ?_ (BC O (λx hx=>by simpa using hx) y9);rw[Le];intro i j hi hj hij;have hi':i<p.size:=by simpa using hi
 have hj':j<p.size:=by simpa using hj
 have:=sd i j hij (by rw[<- pm.size];exact hj');rw[vE hi',vE hj']at this;simpa using this
end So
namespace A
open PySem L2 PyProof.Rows So
open Mi (D W Rs Fin aD Out Tg)
variable[Tb:cp]
theorem Pb{T:ai}{q:Str}{H H' Hv:Hp}(v:Vw H Hv)(t:Tab T q H H'):bx H Hv H' Hv:=by
 rcases t with rfl|⟨ps,ps',c,hT,hc,ne,rfl,ck⟩
 ·exact .refl v
 ·have get:∀{a o},H a=ac o->NT o->upd (upd H T (.tbl q ps')) c (.ext (jr c q)) a=ac o:=λ{a o} e n=>by
   rw[aX (dX e hc),aX (λz=>by rw[z,hT]at e;cases e;exact n)];exact e
  have back:∀{a o},upd (upd H T (.tbl q ps')) c (.ext (jr c q)) a=ac o->(∀w ps,o≠.tbl w ps)->(∀φ,o≠.ext φ)->H a=ac o:=λ{a o} e n1 n2=>by
   by_cases z:a=c
   ·subst z;rw[bS]at e;cases e;exact absurd rfl (n2 _)
   ·rw[aX z]at e;by_cases z2:a=T
    ·subst z2;rw[bS]at e;cases e;exact absurd rfl (n1 _ _)
    ·rw[aX z2]at e;exact e
  refine⟨⟨λa o e n=>get e n,λa e=>?_,λa w p0 e=>?_⟩,dC.refl _,⟨λa o e=>get (v.sub a o e) (v.nv a o e),λa xs e=>v.tup a xs (back e (λ_ _ z=>by cases z) (λ_ z=>by cases z)),λa o u e=>v.frz a o u (back e (λ_ _ z=>by cases z) (λ_ z=>by cases z)),ck,v.nv⟩,λ_ _ _ n=>n⟩
  ·by_cases z:a=c
   ·subst z;exact hc
   ·rw[aX z]at e;by_cases z2:a=T
    ·subst z2;rw[bS]at e;cases e
    ·rw[aX z2]at e;exact e
  ·by_cases z2:a=T
   ·subst z2;rw[hT]at e;cases e;exact⟨ps',by rw[aX (dW ne),bS]⟩
   ·exact⟨p0,by rw[aX (dX e hc),aX z2];exact e⟩
theorem JS{Hv:Hp}:∀{ds:List D} {xs:List V} {bs:List Int},Mi.lB ds=ac bs->P2 (Rep Hv) ds xs->xs=bs.map V.int
 |[],_,bs,e,r=>by cases e;cases r;rfl
 |.int b::ds,_,bs,e,r=>by
  cases r with
  |cons x t=>
   cases hb:Mi.lB ds with
   |none=>rw[Mi.lB,hb]at e;cases e
   |some cs=>
    rw[Mi.lB,hb]at e;cases e;rw[JS hb t,rO.mp x];rfl
section
variable{X:Cx}{K:aO}{M:Nat->Bool}{te tb ta:TE}{a b kf:Mi.E}{T:ai}{q:Str}{ρ:List Nat}
theorem Ux{e:Mi.Env}{σ:L2.St}{H Hv:Hp}(I:R0 M e σ H Hv)(hM:∀j∈ρ,M j=false){d:D}{v:V}(r:Rep Hv d v):R0 (λ_=>false) (Mi.nY ρ e d) (jI ρ σ v) H Hv:=by
 refine⟨I.vw,by simp[Mi.nY,jI],λi w h _=>?_,λi w h m=>by cases m⟩;cases i with
 |zero=>
  have:W.d d=w:=by simpa [Mi.nY]using h
  subst this;exact⟨v,rfl,r⟩
 |succ i=>
  have h:(ρ.map λj=>(e[j]?).join)[i]? = ac (ac w):=by simpa [Mi.nY]using h
  rw[gc]at h;obtain⟨j,hj,e2⟩:=pN.mp h;have e3:e[j]? = ac (ac w):=by
   cases z:e[j]? with
   |none=>rw[z]at e2;cases e2
   |some y=>rw[z]at e2;exact congrArg ac e2
  obtain⟨u,hu,ru⟩:=I.nob j w e3 (hM j (sY hj));exact⟨u,by simp[jI,gc,hj,hu],ru⟩
theorem E5{c':ai}(hk:AE (λ_=>false) qN tb kf)(hM:∀j∈ρ,M j=false){e:Mi.Env}{σ:L2.St}:∀{ds:List D} {xs:List V} {kz:List (List Int)} {H Hv:Hp} {R:List V->Hp->Prop},R0 M e σ H Hv->P2 (Rep Hv) ds xs->H c'=ac (.ext (jr c' q))->Mi.jV ρ kf e ds=.ok kz ->
 (∀ks H3 Hv3,bx H Hv H3 Hv3->KeysAre H3 kz ks->R ks H3)->yL c' q (λv H K=>tb (jI ρ σ v) H K) xs H R
 |[],_,kz,H,Hv,R,I,.nil,_,hz,h=>by
  have:kz=[]:=by rw[Mi.jV]at hz;cases hz;rfl
  subst this;exact h [] H Hv (.refl I.vw) .nil
 |d::ds,_,kz,H,Hv,R,I,.cons (b:=v) (m:=xs) r t,hc,hz,h=>by
  rw[Mi.jV]at hz;show tb (jI ρ σ v) H _;cases hkd:kf (Mi.nY ρ e d)with
  |no=>rw[hkd]at hz;cases hz
  |ex z=>rw[hkd]at hz;cases hz
  |ok kd=>
   rw[hkd,Mi.aK]at hz;cases kd with
   |lst es=>
    cases hes:Mi.lB es with
    |none=>rw[show Mi.uk (.lst es)=.no from by show Mi.cy (Mi.lB es)=_;rw[hes];rfl]at hz;cases hz
    |some z=>
     rw[show Mi.uk (.lst es)=.ok z from by show Mi.cy (Mi.lB es)=_;rw[hes];rfl,Mi.aK]at hz;cases hzs:Mi.jV ρ kf e ds with
     |no=>rw[hzs]at hz;cases hz
     |ex y=>rw[hzs]at hz;cases hz
     |ok zs=>
      rw[hzs]at hz;have hz:kz=z::zs:=by cases hz;rfl
      subst hz;refine hk _ _ H Hv _ (Ux I hM r) ?_;rw[hkd];intro kv H1 Hv1 g1 kq;obtain⟨p,o,rfl,n0,hp,nv,ci⟩:=kq;cases o with
      |lst vs=>
       have hv:vs=z.map V.int:=JS hes ci;subst hv;refine⟨g1.old.at hc,E5 hk hM (I.grow g1) (f9 g1.vis t) (g1.old.at hc) hzs λks H3 Hv3 g3 ka=>h _ H3 Hv3 (g1.trans g3) (.cons ⟨p,rfl,g3.old.at hp⟩ ka)⟩
      |_=>exact ci.elim
   |_=>cases hz
theorem FG{F:D->V->Prop}{ds:List D}{xs:List V}(h:P2 F ds xs):∀l:List Nat,(∀i∈l,i<ds.length)->P2 F (l.map λi=>ds.getD i .non) (l.map λi=>xs.getD i .non)
 |[],_=>.nil
 |i::r,hl=>by
  have hi:=hl i cW;have e1:ds[i]? = ac (ds.getD i .non):=by simp[hi]
  obtain⟨y,e2,f⟩:=h.getL e1;have:xs.getD i .non=y:=by simp[e2]
  refine .cons ?_ (FG h r λj hj=>hl j (eL _ hj));show F (ds.getD i .non) (xs.getD i .non);rw[this];exact f
theorem Ub(hT:(T,q)∈Tb.l)(hM:∀j∈ρ,M j=false)(ha:AE M qP te a)(hk:AE (λ_=>false) qN tb kf):AE M qN (Kp T q ρ te tb) (Mi.xN ρ a kf):=λe σ H Hv Q I h=>
 ha e σ H Hv _ I ((aD.mp h).mono λx hx v H1 Hv1 g1 rx=>by
  cases x with
  |lst ds=>
   obtain⟨h64,hx⟩:=Mi.cR (show Fin (Mi.bp (ds.length<64) _) _ from hx);obtain⟨kz,hkz,hx⟩:=kE (aD.mp hx);obtain⟨nd,hx⟩:=Mi.cR hx;have hx:=Mi.mi hx;obtain⟨p,xs,rfl,l,r⟩:=RD.lst g1.vw rx;have lx:=r.len;have I1:=I.grow g1;obtain⟨tps,ht⟩:=g1.vw.cd.has _ hT;refine⟨p,xs,tps,rfl,by omega,ht,g1.vw.cd,λH2 c' tab hc'=>?_⟩;have g2:=Pb g1.vw tab;refine⟨l.old g2.old,E5 hk hM (I1.grow g2) r hc' hkz λks H3 Hv3 g3 ka=>?_⟩;have lk:kz.length=ds.length:=by
    have:∀(ds:List D) (kz:List (List Int)),Mi.jV ρ kf e ds=.ok kz->kz.length=ds.length:=λds=>by
     induction ds with
     |nil=>intro kz h;rw[Mi.jV]at h;cases h;rfl
     |cons d ds ih=>
      intro kz h;rw[Mi.jV]at h;cases h1:kf (Mi.nY ρ e d)with
      |no=>rw[h1]at h;cases h
      |ex z=>rw[h1]at h;cases h
      |ok kd=>
       rw[h1,Mi.aK]at h;cases h2:Mi.uk kd with
       |no=>rw[h2]at h;cases h
       |ex z=>rw[h2]at h;cases h
       |ok z=>
        rw[h2,Mi.aK]at h;cases h3:Mi.jV ρ kf e ds with
        |no=>rw[h3]at h;cases h
        |ex y=>rw[h3]at h;cases h
        |ok zs=>rw[h3]at h;cases h;rw[eG,eG,ih zs h3]
    exact this ds kz hkz
   refine⟨kz,by omega,nd,ka,λp2 ys hp2 so=>?_⟩;obtain⟨pa,pm,sd,rfl⟩:=so;have e0:pa.toList=Mi.kG kz ds.length:=by rw[<- lk];exact TX nd (by rw[lk,lx];exact pm) (by rw[lk,lx];exact sd)
   have rr:P2 (Rep Hv3) (Mi.sortBy kz ds) (pa.toList.map λi=>xs.getD i .non):=by unfold Mi.sortBy;rw[<- e0];refine FG (f9 (g2.vis.trans g3.vis) r) _ λi hi=>?_;have:=(ww.mp pm.pm).mem_iff.mp hi;rw[lx];simpa using this
   obtain⟨g4,kk⟩:=yz g3.vw rr hp2;have gg:=g1.trans (g2.trans (g3.trans g4));exact hx _ _ _ gg (KM.mono (κ:=qN) (g1.old.trans (g2.old.trans g3.old)) kk)
  |_=>exact hx.elim)
end
end A
namespace L2
open PySem PySem.Spec PyProof.Rows A So
structure vT(K:aO)(x qual:Str)(st:bz)(c f:ai)(fd:bJ):Prop where
 ex:∃(oc:aj) (od:Option ai) (kV doc pm:aj) (an:Option ai) (ct:aj) (osl:Array (Option aj)),
  fd=kj x qual (nV st) (js st) (bF st) .none kV doc pm an (.ref c) ct/\K.lookup f=ac ⟨oc,od,.func fd,osl⟩/\qW K (.ref c) qual=true
section
variable{P:bH}{w:bt}{K:aO}{mg:Str->Option aj}{base:aY}
theorem vT.ok{x qual:Str}{st:bz}{c f:ai}{fd:bJ}{N ps:List Str}{k:Nat}{sp:Sp}(F:vT K x qual st c f fd)(S:cz N ps (bF st))(len:∀vs H Q E,sp vs H Q E->vs.length=ps.length)
 (hbody:∀(A:bT) (outer:List Env) (s:az) (H:Hp) (vs:List V) (Q:VK) (E:XK),ee k (A.deeper (envOfC qual (bF st) s.heap.objs.size f (.ref c)))->sp vs H Q E ->
  ∃t,gN (f6 aI P w K mg base N qual (bF st) f (.ref c) A outer s H E).pD (js st) t/\t { nx:=λ_ H'=>Q .non H',rt:=Q } (start N vs) H):bO P w K mg base aI (k+1) f fd ps sp:=by
 obtain⟨oc,od,kV,doc,pm,an,ct,osl,rfl,lk,hcd⟩:=F.ex;refine Bl lk hcd S len λA outer s H vs Q E hr hsp=>?_;obtain⟨t,h,q⟩:=hbody A outer s H vs Q E hr hsp;exact⟨t,h.pD,q⟩
end
structure wT(K:aO)(mg:Str->Option aj)(x:Str)(st:bz)(ps:List Str)(c:ai):Prop where
 ex:∃(f:ai) (fd:bJ),mg x=ac (.ref f)/\oh K (.ref f)=true/\Binds K fd ps []/\vT K x x st c f fd
theorem Qv{K:aO}{h:aY}{mg:Str->Option aj}{x:Str}{st:bz}{ps:List Str}{f c:ai}{oc:aj}{od an:Option ai}{osl:Array (Option aj)}{kV doc pm ct:aj}(X:K.In h)(G:h.Ns mainGlobals mg)
 (hb:∀(kV doc pm:aj) (an:Option ai) (cdv ct:aj) (us:List aj),us.length=ps.length->bindArgs (kj x x (nV st) (js st) (bF st) .none kV doc pm an cdv ct) ⟨us,[]⟩=pure (ps.zip us))
 (a:dU K mainGlobals x=ac (ac (.ref f))) (l:K.lookup f=ac ⟨oc,od,.func (kj x x (nV st) (js st) (bF st) .none kV doc pm an (.ref c) ct),osl⟩)
 (cc:qW K (.ref c) x=true) (k:oh K (.ref f)=true):wT K mg x st ps c:=by
 have F:=HF (st:=st) l cc k;exact⟨f,_,iB X G a,k,F.binds hb,⟨oc,od,kV,doc,pm,an,ct,osl,rfl,l,cc⟩⟩
theorem wT.cal{P:bH}{w:bt}{K:aO}{mg:Str->Option aj}{base:aY}{CX:iu}{k:Nat}{x:Str}{st:bz}{ps:List Str}{c:ai}{sp:Sp}(F:wT K mg x st ps c)(h:∀f fd,vT K x x st c f fd->bO P w K mg base CX k f fd ps sp) :
 bI P w K mg base CX k x ps sp:=by
 obtain⟨f,fd,h1,h2,h3,h4⟩:=F.ex;exact⟨f,fd,h1,h2,h3,h f fd h4⟩
theorem sF.one{X:Cx}{x y:Str}{j:Nat}{sc:fh}{c:ai}(hn:sc.names=[(x,.local),(y,.free)])(hxy:(y==x)=false)(hk:sc.kind=.function)(co:sc.isCoroutine=false)(gen:sc.isGenerator=false)(hc:X.env.cells=[(y,c)])(hN:X.N[j]? = ac y)(hy:X.env.kindOf y=ac .cell) :
 sF X x [j] [x,y] sc [(y,c)]:=by
 have hl:sc.names.lookup y=ac .free:=by rw[hn,mZ,hxy];show mZ y [(y,ng)]=_;rw[mZ,j3]
 refine⟨hk,co,gen,λz hz=>?_,by rw[hn,mZ,j3],λz d h=>by rw[hc];exact h,λz h=>?_,[y],rfl,rfl,λi k z h1 h2=>?_⟩
 ·rw[hn]at hz;rcases bZ.mp hz with rfl|hz
  ·exactλq=>by cases q
  ·rw[fg.mp hz];exactλq=>by cases q
 ·rw[hn,mZ]at h;split at h
  ·cases h
  ·rw[mZ]at h;split at h
   ·rename_i q;exact⟨c,by rw[mZ,q]⟩
   ·cases h
 ·cases i with
  |zero=>
   have e1:j=k:=by simpa using h1
   have e2:y=z:=by simpa using h2
   subst e1 e2;exact⟨hN,hl,.inl hy⟩
  |succ i=>simp at h1
section
variable[Tb:cp]
theorem S1{P:bH}{w:bt}{K:aO}{mg mb:Str->Option aj}{k:Nat}{fa a c T:ai}{q:Str}{fd:bJ}{x:Str}{s₁:az}{vs:List aj}{ns:List Int}(hTb:Tb.l=[(T,q)])
 (KX:K.In s₁.heap) (hns:s₁.heap.Ns mainGlobals mg) (hb:s₁.heap.Ns builtinsNs mb) (hbb:∀x:Str,x ≠ "__name__" -> mb x=bootBuiltins x) (hlim:s₁.heap.NoLimit) (hg:s₁.gens = #[])
 (ha:s₁.heap.get? a=ac { cls:=.type "list", data:=.seq vs.toArray }) (hi:kR vs ns) (hl:ns.length<=63) (hr:ee k callerA)
 (hKa:K.lookup a=af) (hKT:K.lookup T=af) (C:kO s₁.heap c T) (hT:s₁.heap.get? T=ac (zd #[])) (hB:BM mg s₁.heap)
 (F:∀base:aY,K.In base->base.Ns mainGlobals mg->BM mg base->kO base c T->bO P w K mg base aI k fa fd [x] vJ) (hbind:∀(s:az) (u:aj),oi s fd ⟨[u],[]⟩ [(x,u)]) :
 codeAny (model P w) callerA (.call (.ref fa) ⟨[.ref a],[]⟩) (λr s'=>r=.ok (.ret (.bool true))/\OldK s₁.heap s'.heap/\s'.os=s₁.os/\m8 s'.gens) s₁:=by
 have rv:=HB hi;have lenV:=hi.length;have aT:a≠T:=λz=>by rw[z,hT]at ha;cases ha
 let H:Hp:=λb=>if b=a then ac (.frz { cls:=.type "list",data:=.seq vs.toArray } (.lst (ns.map V.int)))else if b=T then ac (.tbl q #[])else af;have Ha:H a=ac (.frz { cls:=.type "list", data:=.seq vs.toArray } (.lst (ns.map V.int))):=a8 rfl;have HT:H T=ac (.tbl q #[]):=by show(if T=a then _ else _)=_;rw[a7 (dW aT),a8 rfl]
 have Hn:∀b,b≠a->b≠T->H b=af:=λb h1 h2=>by show(if b=a then _ else _)=_;rw[a7 h1,a7 h2]
 have Hd:∀{b u},H b=ac u->(b=a/\u=.frz { cls:=.type "list", data:=.seq vs.toArray } (.lst (ns.map V.int)))\/(b=T/\u=.tbl q #[]):=λ{b u} e=>by
  by_cases h1:b=a
  ·subst h1;rw[Ha]at e;cases e;exact .inl ⟨rfl,rfl⟩
  ·by_cases h2:b=T
   ·subst h2;rw[HT]at e;cases e;exact .inr ⟨rfl,rfl⟩
   ·rw[Hn b h1 h2]at e;cases e
 have hok:du P w H s₁.heap:=λb u e=>by
  rcases Hd e with ⟨rfl,rfl⟩|⟨rfl,rfl⟩
  ·exact⟨ha,by rw[aP,er];omega,vs,_,rv,ha⟩
  ·exact hT
 have free:∀{b:ai} {o:Obj},s₁.heap.get? b=ac o->o.cls≠.type "list" -> o≠zd #[]->H b=af:=λ{b o} e h1 h2=>by
  refine Hn b (λz=>?_) λz=>?_
  ·rw[z,ha]at e;cases e;exact h1 rfl
  ·rw[z,hT]at e;cases e;exact h2 rfl
 have zQ:∀{b:ai} {o:Obj},s₁.heap.get? b=ac o->H b=af->(kZ s₁.heap H).get? b=ac o:=λe n=>Nw e n;have nsK:∀{b:ai} {m:Str->Option aj},s₁.heap.Ns b m->(kZ s₁.heap H).Ns b m:=λ{b m} ⟨o,es,ep,e,d,r⟩=>⟨o,es,ep,zQ e (Hn b (λz=>by rw[z,ha]at e;cases e;cases d) λz=>by rw[z,hT]at e;cases e;cases d),d,r⟩;have hKb:K.In (kZ s₁.heap H):=λb o e=>zQ (KX b o e) (Hn b (λz=>by rw[z,hKa]at e;cases e) λz=>by rw[z,hKT]at e;cases e);have hM:Mod K mg (kZ s₁.heap H):=⟨hKb,nsK hns,⟨mb,nsK hb,hbb⟩,let ⟨mc,h1,h2⟩:=hlim;⟨mc,nsK h1,h2⟩⟩;have e0:sg P w K mg (kZ s₁.heap H) callerA [] s₁ H:=⟨rfl,hM,λb o e=>P1 e,zx (OS _ _),trivial,λb hb=>absurd (show b∈([]:List ai)from hb) (by simp),hok,.of_eq hg⟩;have hB':BM mg (kZ s₁.heap H):=by obtain⟨bm,bo,b1,b2,b3,b4,b5,b6,b7⟩:=hB;exact⟨bm,bo,b1,b2,b3,zQ b4 (free b4 (by rw[b5];decide) (λz=>by rw[z]at b5;cases b5)),b5,b6,b7⟩
 have C':kO (kZ s₁.heap H) c T:=by obtain⟨o,vs2,file,tf,flags,tg,inF,text,tt,e,h1,r⟩:=C;exact⟨o,vs2,file,tf,flags,tg,inF,text,tt,zQ e (free e (by rw[h1];decide) (λz=>by rw[z]at h1;cases h1)),h1,r⟩
 have ck:jq H:=⟨λr hr=>by
  rw[hTb]at hr;obtain rfl:r=(T,q):=by simpa using hr
  exact⟨#[],HT⟩,λT2 q2 ps e=>by
  rcases Hd e with ⟨_,z⟩|⟨_,z⟩
  ·cases z
  ·cases z;exact⟨trivial,λpos v hv=>by cases hv⟩,λb o xs e=>by
  rcases Hd e with ⟨_,z⟩|⟨_,z⟩
  ·cases z;intro x hx;obtain⟨i,_,rfl⟩:=cX.mp hx;exact⟨i,rfl⟩
  ·cases z⟩
 refine wa ((F _ hKb (nsK hns) hB' C').run callerA [] s₁ H ⟨[.ref a],[]⟩ [.ref a] [.ref a] (λv _=>v=.bl true) (λ_ _ _=>False) hr e0 (hbind s₁ (.ref a)) (.cons rfl .nil) ⟨a,ns,rfl,.inr ⟨_,Ha⟩,hl,ck,λ_=>rfl⟩) λr s' h=>?_;cases r with
 |error e=>exact h.elim
 |ok fl=>
  cases fl with
  |next=>exact iD h
  |brk=>exact iD h
  |cont=>exact iD h
  |ret u=>
   obtain⟨v,H',os,bare,un,hok',r',q'⟩:=h;have q':v=.bl true:=q';subst q';obtain rfl:u=tR true:=r';have old:∀b o,s₁.heap.get? b=ac o->asItWas s₁.heap s'.heap b o:=λb o e=>by
    by_cases h1:b=a
    ·subst h1;have z2:=un.ku b _ _ Ha;obtain⟨e2,_⟩:=hok' b _ z2;rw[ha]at e;cases e;exact .inl e2
    ·by_cases h2:b=T
     ·subst h2;obtain⟨more,z2⟩:=un.kw b _ _ HT;have e2:s'.heap.get? b=ac (zd (#[]++more)):=hok' b _ z2;rw[hT]at e;cases e;obtain⟨oc,vs2,_,_,_,_,_,_,_,f1,f2,f3,f4,_⟩:=C;exact .inr (.inl ⟨⟨c,oc,vs2,f1,f2,f3,f4⟩,rfl,#[],more,rfl,e2⟩)
     ·exact .inl (un.keep b o e (Hn b h1 h2) (by intro z;exact absurd (show b∈([]:List ai)from z) (by simp)) (by simp))
   exact⟨rfl,⟨old,λb o e=>un.there b o e (by simp)⟩,os,bare⟩
theorem Ug{l:Dj}{k:Nat}{q:bH}{loose:List Str}{XP:(Str->Option aj)->aY->Prop}{YP:bt->aY->Prop}{d:DefRec}{K:Params->aO}{x dn:Str}{c T:ai}{qn:Str}(hTb:Tb.l=[(T,qn)])
 (hn:l.most=ac 63) (hdf:d.params.defaults=[]) (hr:ee k callerA)
 (hY:∀(w:bt) (h:aY),YP w h->(K w.params).In h) (hL:∀w:bt,∀a o,(K w.params).lookup a=ac o->o.cls≠.type "list") (hK:∀w:bt,(K w.params).lookup T=af)
 (hrec:∃d,(recsOf q).find? (λe=>e.name==dn)=ac d) (htab:∀w:bt,PySem.W.tabIn (K w.params) dn=ac (c,T))
 (F:∀(w:bt) (mg:Str->Option aj) (fa:ai) (h:aY),(K w.params).In h->h.Ns mainGlobals mg->mg d.name=ac (.ref fa) ->
  ∃fd:bJ,(∀(s:az) (u:aj),oi s fd ⟨[u],[]⟩ [(x,u)]) /\
   ∀base:aY,(K w.params).In base->base.Ns mainGlobals mg->BM mg base->kO base c T->bO l.prog w (K w.params) mg base aI k fa fd [x] vJ) :
 PySem.W.WalkO q loose XP YP l.row.toRowW d [] (λf vs=>Dt f vs):=by
 refine Att.Um hn hdf λw s₀ s₁ mg mb fa o pm cd doc a vs ns G Y ho hd hcd hmg hobj hints hlen hg=>?_;have KX:=hY w _ Y;obtain⟨fd,hb,hF⟩:=F w mg fa _ KX G.T.g hmg;obtain⟨dd,hdd⟩:=hrec;obtain⟨C,hT⟩:=PySem.W.tab_of G.T KX hdd (htab w);have hB:BM mg s₁.heap:=by obtain⟨bm,ob,b1,b2,b3,b4,b5,b6⟩:=G.T.bmain;refine⟨bm,ob,b1,b2,λz=>?_,b3,b4,b5,b6⟩;obtain⟨o2,es,ep,e,d2,_⟩:=G.T.g;rw[z,e]at b3;cases b3;rw[d2]at b6;cases b6
 have hKa:(K w.params).lookup a=af:=by
  cases z:(K w.params).lookup a with
  |none=>rfl
  |some o2=>
   have e:=KX a o2 z;rw[hobj]at e;cases e;exact absurd rfl (hL w a _ z)
 exact S1 hTb KX G.T.g G.T.b G.T.builtins G.T.nolimit hg hobj hints hlen hr hKa (hK w) C hT hB hF hb
end
end L2
namespace A
open PySem L2 PyProof.Rows So
open Mi (D W Rs Fin aD Out Tg)
variable[Tb:cp]
section
variable{K:aO}{M:Nat->Bool}{ta tb:TE}{a b:Mi.E}
def Ig:V->List V->Hp->VK->Prop:=λx xs H Q=>∃(p:ai) (ys:List Str) (z:Str),x=.ref p/\xs=[.str z]/\z∈ys/\H p=ac (.tup (ys.map V.str))/\Q (.int (ys.idxOf z:Nat)) H
def GD:V->List V->Hp->VK->Prop:=λx xs H Q=>∃(p:ai) (ys:List Str) (z:Str),x=.ref p/\xs=[.str z]/\z∈ys/\ys.length<=1000/\Lst H p (ys.map V.str)/\Q (.int (ys.idxOf z:Nat)) H
theorem NZ{X:Cx}:n5 X "tuple.index" Ig:=T5
theorem NJ{X:Cx}:n5 X "list.index" GD:=Sg
theorem UD(ha:AE M qP ta a)(hb:AE M qP tb b):AE M qV (JL K "list" Ig GD ta (gm tb ib)) (Mi.m2 Mi.u9 a b):=λe σ H Hv Q I h=>
 ha e σ H Hv _ I ((aD.mp h).mono λx hx v H1 Hv1 g1 rx=>by
  obtain⟨y,hy,hk⟩:=kE (aD.mp hx);cases y with
  |str z=>
   obtain⟨ys,ey,q1⟩:=jC (aD.mp hk);obtain⟨⟨hz,hl⟩,q2⟩:=Mi.cR q1;have q3:=Mi.mi q2;clear hk q1 q2 hx;cases x with
   |tup ds=>
    obtain⟨p,us,rfl,l,_,r⟩:=RD.tup g1.vw rx;have:=yU ey r;subst this;refine .inl ⟨⟨p,_,rfl,l⟩,hb e σ H1 Hv1 _ (I.grow g1) ?_⟩;rw[hy];intro v2 H2 Hv2 g2 ry;cases RD.str ry;exact⟨p,ys,z,rfl,rfl,hz,g2.old.at l,q3 _ _ _ (g1.trans g2) iV⟩
   |lst ds=>
    obtain⟨p,us,rfl,l,r⟩:=RD.lst g1.vw rx;have:=yU ey r;subst this;refine .inr ⟨.inl ⟨rfl,_,l.sq⟩,hb e σ H1 Hv1 _ (I.grow g1) ?_⟩;rw[hy];intro v2 H2 Hv2 g2 ry;cases RD.str ry;exact⟨p,ys,z,rfl,rfl,hz,hl,l.old g2.old,q3 _ _ _ (g1.trans g2) iV⟩
   |_=>cases ey
  |_=>exact hk.elim)
end
end A
namespace Mi
end Mi
namespace A
open PySem L2 PyProof.Rows So
open Mi (D W Rs Fin aD Out Tg)
variable[Tb:cp]
section
variable{K:aO}{M:Nat->Bool}{t:TE}{m:Mi.E}{w:Mi.EW}
theorem Ta(y:Nat)(hy:M y=true)(ha:AW (λj=>M j && !(j==y)) qN t w):AS M qN (nQ t) (Mi.br w):=λH0 Hv0 e σ H Hv D I h=>by
 have nb:∀{j:Nat},(M j && !(j==y))=false->M j=false\/j=y:=λ{j} z=>by
  cases q:M j with
  |false=>exact .inl rfl
  |true=>rw[q]at z;exact .inr (by simpa using z)
 have nt:∀{j:Nat},(M j && !(j==y))=true->M j=true/\j≠y:=λ{j} z=>by simpa using z
 have fin:∀Hv',bx H0 Hv0 H Hv'->R0 (λj=>M j && !(j==y)) e σ H Hv'->nQ t D σ H:=λHv' gw R=>
  ha e σ H Hv' _ R ((aD.mp h).mono λd hd v H1 Hv1 g1 r=>hd v H1 Hv1 (gw.trans g1) (KM.mono (κ:=qN) gw.old r))
 have other:(∀w0,e[y]?≠ac (ac w0))->nQ t D σ H:=λaf=>fin Hv I.gw ⟨I.vw,I.len,λj w' z q=>by
  rcases nb q with q|rfl
  ·exact I.nob j w' z q
  ·exact absurd z (af w'),λj w' z q=>I.own j w' z (nt q).1⟩
 cases he:e[y]? with
 |none=>exact other λw0 z=>by rw[he]at z;cases z
 |some ow=>
  cases ow with
  |none=>exact other λw0 z=>by rw[he]at z;cases z
  |some w0=>
   obtain⟨p,Hv',q,I',s,r⟩:=I.Jl hy he;refine fin Hv' I'.gw ⟨I'.vw,I.len,λj w' z q2=>?_,λj w' z q2=>?_⟩
   ·by_cases hj:j=y
    ·subst hj;rw[he]at z;cases z;exact⟨_,q,r⟩
    ·exact I'.nob j w' (by rw[fF (dW hj)];exact z) ((nb q2).resolve_right hj)
   ·obtain⟨m1,hj⟩:=nt q2;exact I'.own j w' (by rw[fF (dW hj)];exact z) m1
end
end A
namespace L2
open PySem PySem.Spec PyProof.Rows
def ExcAt(h:aY)(e T:ai)(cls fl:aj):Prop:=∃oe vs oT ts,h.get? e=ac oe/\(oe.cls=cls/\oe.dict=af)/\oe.data=.fields vs/\vs[1]? = ac (.ref T)/\T≠e/\h.get? T=ac oT/\oT.data=.fields ts/\ts[3]? = ac fl
def ExcNew(h:aY)(e:ai)(cls:aj):Prop:=∃oe vs,h.get? e=ac oe/\(oe.cls=cls/\oe.dict=af)/\oe.data=.fields vs/\vs[1]? = ac .none
structure fu(fs no:List ai)(h h':aY):Prop where
 keep:∀b o,h.get? b=ac o->b∉fs->b∉no->h'.get? b=ac o
 slot:∀b o,h.get? b=ac o->b∉no->∃sl,h'.get? b=ac { o with slots:=sl }
 there:∀b o,h.get? b=ac o->∃o',h'.get? b=ac o'
theorem fu.trans{fs no no':List ai}{h h1 h2:aY}(a:fu fs no h h1)(b:fu fs no' h1 h2):fu fs (no++no') h h2:=by
 refine⟨λx o e f n=>?_,λx o e n=>?_,λx o e=>?_⟩
 ·have n1:x∉no:=λz=>n (jv _ z);have n2:x∉no':=λz=>n (gv _ z);exact b.keep x o (a.keep x o e f n1) f n2
 ·have n1:x∉no:=λz=>n (jv _ z);have n2:x∉no':=λz=>n (gv _ z);obtain⟨sl,e1⟩:=a.slot x o e n1;obtain⟨sl2,e2⟩:=b.slot x _ e1 n2;exact⟨sl2,e2⟩
 ·obtain⟨o1,e1⟩:=a.there x o e;exact b.there x o1 e1
theorem fu.of_keeps{fs:List ai}{h h':aY}(k:∀b o,h.get? b=ac o->h'.get? b=ac o):fu fs [] h h':=⟨λb o e _ _=>k b o e,λb o e _=>⟨o.slots,k b o e⟩,λb o e=>⟨o,k b o e⟩⟩
theorem fu.more{fs no no':List ai}{h h':aY}(a:fu fs no h h')(s:∀b∈no,b∈no'):fu fs no' h h':=⟨λx o e f n=>a.keep x o e f λz=>n (s x z),λx o e n=>a.slot x o e λz=>n (s x z),a.there⟩
theorem fu.iF{fs no:List ai}{h h' base:aY}{l:List Env}(a:fu fs no h h')(hl:h.FunFrames base l)(hn:∀b∈no,∀o,h.get? b=ac o->∃vs,o.data=.fields vs):h'.FunFrames base l:=
 hl.of_keeps λb o hb hnf=>by
  obtain⟨sl,e⟩:=a.slot b o hb λz=>by
   obtain⟨vs,q⟩:=hn b z o hb;exact hnf vs q
  exact⟨_,e,rfl⟩
theorem TK(f:Array aj->Array aj)(o:Obj):(nh f o).dict=o.dict:=by obtain⟨c,d,dt,sl⟩:=o;cases dt<;>rfl
section
variable{M:Model}{A:bT}{E:aj->az->Prop}{s:az}
theorem Iw{base:aY}{env:Env}{outer:List Env}{L e:ai}{oe:Obj}{vs:Array aj}{head:aj}{hadNext:Bool}{Q:Unit->az->Prop}
 (hfr:A.frames=ac (env::outer)) (hl:s.heap.FunFrames base (env::outer)) (hf:env.frame=ac L) (he:s.heap.get? e=ac oe) (hdc:oe.dict=af) (hd:oe.data=.fields vs) (hsz:1<vs.size)
 (h:∀h' T,s.heap.objs.size<=T->fu (frs (env::outer)) [e] s.heap h'->ExcAt h' e T oe.cls (rawInt L)->Q () { s with heap:=h' }) :
 wpAny M A (do let a <- frameOf env;let pl <- entryPlaceOf L hadNext;let b <- Mf head a .none (rawInt L) .none pl;setField (.ref e) 1 b) Q E s:=by
 have hene:e∉(env::outer).filterMap (·.frame):=λhm=>by
  obtain⟨_,o,ho,hnf⟩:=hl.mem hm;rw[he]at ho;injection ho with ho;subst ho;exact hnf vs hd
 refine aV (wpAny_frameOf_fun hfr hl hf λh₁ hs₁=>?_);refine aV (wpAny_entryPlaceOf λpl hpl=>?_);unfold Mf newFields;refine aV (zg ?_ (hpl.sizeOk5 _ _ _ _ _));have he₁:h₁.get? e=ac oe:=(hs₁.2.1 e hene).trans he;have he₂:=dI (h:=h₁) { cls:=.type "traceback", dict:=af,data:=.fields ([head,.ref L,.none,rawInt L,.none]++(if pl.isEmpty then cu 6 fi else pl)).toArray } he₁;refine v9 he₂ hd hsz (h _ h₁.objs.size (zx hs₁.1.symm) ?_ ?_)
 ·have keep:∀b o,b≠e->h₁.get? b=ac o ->
   ((h₁.push { cls:=.type "traceback", dict:=af,data:=.fields ([head,.ref L,.none,rawInt L,.none]++(if pl.isEmpty then cu 6 fi else pl)).toArray }).update e (nh (·.setIfInBounds 1 (dP h₁.objs.size)))).get? b=ac o:=
   λb o hbe hb=>by
    rw[wc _ _ (dW hbe)];exact dI _ hb
  have hd₃:=re hd (·.setIfInBounds 1 (dP h₁.objs.size));refine⟨λb o hb n1 n2=>keep b o (λz=>n2 (by rw[z];exact fg.mpr rfl)) ((hs₁.2.1 b n1).trans hb),λb o hb n2=>?_,λb o hb=>?_⟩
  ·obtain⟨sl,q⟩:=hs₁.2.2 b o hb;exact⟨sl,keep b _ (λz=>n2 (by rw[z];exact fg.mpr rfl)) q⟩
  ·by_cases z:b=e
   ·subst z;exact⟨_,we (nh (·.setIfInBounds 1 (dP h₁.objs.size))) he₂ (wz hd₃)⟩
   ·obtain⟨sl,q⟩:=hs₁.2.2 b o hb;exact⟨_,keep b _ z q⟩
 ·have hTe:h₁.objs.size≠e:=zw (cY he₁);have hd₃:=re hd (·.setIfInBounds 1 (dP h₁.objs.size));have he₃:=we (nh (·.setIfInBounds 1 (dP h₁.objs.size))) he₂ (wz hd₃);have hT₃:=(wc (h₁.push { cls:=.type "traceback", dict:=af,data:=.fields ([head,.ref L,.none,rawInt L,.none]++(if pl.isEmpty then cu 6 fi else pl)).toArray })
   (nh (·.setIfInBounds 1 (dP h₁.objs.size))) (dW hTe)).trans (ge h₁ rfl)
  exact⟨_,_,_,_,he₃,⟨Obj.cls_mapFields _ _,(TK _ _).trans hdc⟩,hd₃,by simp[hsz],hTe,hT₃,rfl,by first|(simp;done)|(rcases hpl with rfl|⟨_,_,_,_,_,_,_,rfl⟩<;>simp)⟩
theorem NM{base:aY}{env:Env}{outer:List Env}{L e:ai}{cls:aj}{Q:Unit->az->Prop}
 (hfr:A.frames=ac (env::outer)) (hl:s.heap.FunFrames base (env::outer)) (hf:env.frame=ac L) (hx:ExcNew s.heap e cls)
 (h:∀h' T,s.heap.objs.size<=T->fu (frs (env::outer)) [e] s.heap h'->ExcAt h' e T cls (rawInt L)->Q () { s with heap:=h' }):wpAny M A (noteFrame (.ref e) env) Q E s:=by
 obtain⟨oe,vs,he,⟨rfl,hdc⟩,hd,h1⟩:=hx;unfold noteFrame;simp only[hf];refine aV (pJ he hd h1 ?_);rw[a7 (by decide)];exact Iw hfr hl hf he hdc hd (zI.mp h1).1 h
theorem F2{base:aY}{env:Env}{outer:List Env}{L e T:ai}{cls:aj}{Q:Unit->az->Prop}
 (hfr:A.frames=ac (env::outer)) (hl:s.heap.FunFrames base (env::outer)) (hf:env.frame=ac L) (hx:ExcAt s.heap e T cls .none)
 (h:∀h' T',s.heap.objs.size<=T'->fu (frs (env::outer)) [e,T] s.heap h'->ExcAt h' e T' cls (rawInt L)->Q () { s with heap:=h' }):wpAny M A (noteFrame (.ref e) env) Q E s:=by
 obtain⟨oe,vs,oT,ts,he,⟨rfl,hdc⟩,hd,h1,hTe,hT,hdT,h3⟩:=hx;unfold noteFrame;simp only[hf];refine aV (pJ he hd h1 ?_);rw[a8 (show(dP T != fi)=true from by simp)];refine aV (pJ hT hdT h3 ?_);rw[a7 (show¬ ((fi==rawInt L)=true)from by simp[rawInt])];refine aV (v9 hT hdT (zI.mp h3).1 ?_);have other:∀b,b≠T->(s.heap.update T (nh (·.setIfInBounds 3 fi))).get? b=s.heap.get? b:=λb hb=>wc _ _ (dW hb);have hself:=we (nh (·.setIfInBounds 3 fi)) hT (wz (re hdT _));have n0:fu (frs (env::outer)) [T] s.heap (s.heap.update T (nh (·.setIfInBounds 3 fi))):=by
  refine⟨λb o q _ n=>(other b λz=>n (by rw[z];exact fg.mpr rfl)).trans q,λb o q n=>⟨o.slots,(other b λz=>n (by rw[z];exact fg.mpr rfl)).trans q⟩,λb o q=>?_⟩;by_cases z:b=T
  ·subst z;exact⟨_,hself⟩
  ·exact⟨o,(other b z).trans q⟩
 refine Iw hfr (n0.iF hl λb z o q=>?_) hf ((other e (dW hTe)).trans he) hdc hd (zI.mp h1).1 λh' T' hT' n x=>h h' T' (c7 (zx (by simp[Heap.update])) hT') ((n0.trans n).more λb hb=>?_) x
 ·rw[fg.mp z,hT]at q;cases q;exact⟨ts,hdT⟩
 ·simp only[Ln,bZ,mU,mS]at hb ⊢;exact hb.symm
theorem xU{e T:ai}{cls fl:aj}{Q:Unit->az->Prop}(hx:ExcAt s.heap e T cls fl)(h:∀h',fu [] [T] s.heap h'->s.heap.objs.size=h'.objs.size->ExcAt h' e T cls .none->Q () { s with heap:=h' }):wpAny M A (setFlight (.ref e) af) Q E s:=by
 obtain⟨oe,vs,oT,ts,he,hc,hd,h1,hTe,hT,hdT,h3⟩:=hx;have hsz3:3<ts.size:=(zI.mp h3).1;have other:∀b,b≠T->(s.heap.update T (nh (·.setIfInBounds 3 ((af:Option ai).elim fi λf=>rawInt f)))).get? b=s.heap.get? b:=λb hb=>wc _ _ (dW hb);have hself:=we (nh (·.setIfInBounds 3 ((af:Option ai).elim fi λf=>rawInt f))) hT (wz (re hdT _));unfold setFlight;refine aV (pJ he hd h1 ?_);rw[a8 (show(dP T != fi)=true from by simp)];refine v9 hT hdT hsz3 (h _ ?_ (by simp[Heap.update]) ?_)
 ·refine⟨λb o q _ n=>(other b λz=>n (by rw[z];exact fg.mpr rfl)).trans q,λb o q n=>⟨o.slots,(other b λz=>n (by rw[z];exact fg.mpr rfl)).trans q⟩,λb o q=>?_⟩;by_cases z:b=T
  ·subst z;exact⟨_,hself⟩
  ·exact⟨o,(other b z).trans q⟩
 ·exact⟨oe,vs,_,_,(other e (dW hTe)).trans he,hc,hd,h1,hTe,hself,re hdT _,by simp[hsz3]⟩
theorem Om{base:aY}{env:Env}{outer:List Env}{L e:ai}{cls:aj}{Q:Unit->az->Prop}
 (hfr:A.frames=ac (env::outer)) (hl:s.heap.FunFrames base (env::outer)) (hf:env.frame=ac L) (hx:ExcNew s.heap e cls)
 (h:∀h' T,s.heap.objs.size<=T->fu (frs (env::outer)) [e,T] s.heap h'->ExcAt h' e T cls .none->Q () { s with heap:=h' }):wpAny M A (leaving env (.ref e)) Q E s:=by
 unfold leaving;refine aV (NM hfr hl hf hx λh1 T hT n x=>?_);refine xU x λh2 n2 _ x2=>h h2 T hT ((n.trans (no':=[T]) ⟨λb o q _=>n2.keep b o q (by simp),n2.slot,n2.there⟩).more λb hb=>by simpa using hb) x2
theorem Rp{base:aY}{env:Env}{outer:List Env}{L e T:ai}{cls:aj}{Q:Unit->az->Prop}
 (hfr:A.frames=ac (env::outer)) (hl:s.heap.FunFrames base (env::outer)) (hf:env.frame=ac L) (hx:ExcAt s.heap e T cls .none)
 (h:∀h' T',s.heap.objs.size<=T'->fu (frs (env::outer)) [e,T,T'] s.heap h'->ExcAt h' e T' cls .none->Q () { s with heap:=h' }):wpAny M A (leaving env (.ref e)) Q E s:=by
 unfold leaving;refine aV (F2 hfr hl hf hx λh1 T' hT n x=>?_);refine xU x λh2 n2 _ x2=>h h2 T' hT ((n.trans (no':=[T']) ⟨λb o q _=>n2.keep b o q (by simp),n2.slot,n2.there⟩).more λb hb=>by simpa [or_assoc]using hb) x2
end
end L2
namespace L2
open PySem PySem.Spec PyProof.Rows
def fL(P:bH)(w:bt):iu:=λouter H s E e s'=>
 ∃ea T C H',e=.ref ea/\s'.os=s.os/\m8 s'.gens/\Un (frs outer) [] H H' s.heap s'.heap/\du P w H' s'.heap/\s.heap.get? ea=af/\s.heap.get? T=af/\H' ea=af/\H' T=af/\ExcAt s'.heap ea T (.ref C) .none/\E (.ref C) (ac ea) H'
theorem d5.there{P:bH}{w:bt}{H:Hp}{h:aY}{a:ai}{o:HO}(x:d5 P w H h a o):∃ob,h.get? a=ac ob:=by
 have hlt:=x.stay (h':=h) (H':=H) (λ_ _ _ q=>q) (λ_ q=>q) λ_ _ q=>q;cases o with
 |lst xs=>obtain⟨z,ax,n,r,e⟩:=x;exact⟨_,e⟩
 |tup xs=>obtain⟨z,ax,r,ob,e,c⟩:=x;exact⟨_,e⟩
 |dK ay=>obtain⟨_,_,_,_,ob,es,ep,e,c⟩:=x;exact⟨_,e⟩
 |dT ay=>obtain⟨_,_,_,_,ob,es,ep,e,c⟩:=x;exact⟨_,e⟩
 |set S n=>obtain⟨ob,es,ep,t,e,c⟩:=x;exact⟨_,e⟩
 |ins C dx fs=>obtain⟨d,z,ne,e,_⟩:=x;exact⟨_,e⟩
 |own y=>exact x
 |xd fs=>obtain⟨mA,⟨od,es,ep,e,c⟩,r⟩:=x;exact⟨_,e⟩
 |rng lo hi=>obtain⟨t,u,v,e⟩:=x;exact⟨_,e⟩
 |frz ob u=>exact⟨_,x.1⟩
 |tbl w ps=>exact⟨_,x⟩
 |met f y=>exact⟨_,x⟩
 |ext φ=>exact x.2.1
theorem du.none_of{P:bH}{w:bt}{H:Hp}{h:aY}(k:du P w H h){a:ai}(e:h.get? a=af):H a=af:=by
 cases q:H a with
 |none=>rfl
 |some o=>
  obtain⟨ob,z⟩:=(k a o q).there;rw[e]at z;cases z
section
variable{CX:iu}{P:bH}{w:bt}{K:aO}{mg:Str->Option aj}{base:aY}{N:List Str}{qual:Str}{scope:fh}{f:ai}{cd:aj}{A:bT}{outer:List Env}{s:az}{H:Hp}{E:XK}
theorem Im{ah:List (ai×Obj)}{σ:St}{H1:Hp}{s1:az}{h2:aY}{no:List ai}(I:Inv (f6 CX P w K mg base N qual scope f cd A outer s H E) ah σ H1 s1)
 (n:fu (frs (envOfC qual scope s.heap.objs.size f cd::outer)) no s1.heap h2) (hn:∀b∈no,s.heap.get? b=af/\H1 b=af):Un (frs outer) [] H H1 s.heap h2/\du P w H1 h2:=by
 have B:Un (frs outer) [] H H1 s.heap s1.heap:=I.base;have hL:∀b o,s.heap.get? b=ac o->b∉frs outer->b∉frs (envOfC qual scope s.heap.objs.size f cd::outer):=λb o e nf z=>by
  have hz:frs (envOfC qual scope s.heap.objs.size f cd::outer)=s.heap.objs.size::frs outer:=rfl;rw[hz]at z;rcases bZ.mp z with q|q
  ·have:=cY e;rw[q]at this;exact absurd this (m6 _)
  ·exact nf q
 have hno:∀b o,s.heap.get? b=ac o->b∉no:=λb o e z=>by rw[(hn b z).1]at e;cases e
 refine⟨⟨λb o e z nf nx=>n.keep b o (B.keep b o e z nf nx) (hL b o e nf) (hno b o e),λb o e z nf nx=>?_,B.free,λb o e nx=>?_,B.tups,B.ku,B.kw⟩,λa o e=>?_⟩
 ·obtain⟨sl,q⟩:=B.slot b o e z nf nx;obtain⟨sl2,q2⟩:=n.slot b _ q (hno b o e);exact⟨sl2,q2⟩
 ·obtain⟨o1,q⟩:=B.there b o e nx;exact n.there b o1 q
 ·have hok:du P w H1 s1.heap:=I.hok;refine(hok a o e).stay (λb u hb q=>?_) (λ_ q=>q) λ_ _ q=>q;have tr:∃ob,H1 b=ac ob:=by
   rcases hb with rfl|hb
   ·exact⟨_,e⟩
   ·exact⟨_,hb⟩
  obtain⟨ob,tr⟩:=tr;refine n.keep b u q (λz=>?_) λz=>?_
  ·have:=I.vq b z;rw[tr]at this;cases this
  ·rw[(hn b z).2]at tr;cases tr
theorem Tv{ah:List (ai×Obj)}{σ:St}{H1:Hp}{s1:az}{h1:aY}{e C:ai}{vs:List aj}(I:Inv (f6 (fL P w) P w K mg base N qual scope f cd A outer s H E) ah σ H1 s1)
 (m:Heap.MadeExcOf s1.heap h1 e (.ref C) vs) (q:E (.ref C) (ac e) H1):(f6 (fL P w) P w K mg base N qual scope f cd A outer s H E).xe (.ref e) { s1 with heap:=h1 }:=by
 have hfr:=I.ok.frames;have hl:s1.heap.FunFrames base (envOfC qual scope s.heap.objs.size f cd::outer):=I.stack;have nk:fu (frs (envOfC qual scope s.heap.objs.size f cd::outer)) [] s1.heap h1:=.of_keeps m.keeps;have x:ExcNew h1 e (.ref C):=by obtain⟨t,he,_⟩:=m.there;exact⟨_,_,he,⟨rfl,rfl⟩,rfl,rfl⟩
 have B:Un (frs outer) [] H H1 s.heap s1.heap:=I.base;have new:∀{b:ai},s1.heap.get? b=af->s.heap.get? b=af/\H1 b=af:=λ{b} z=>by
  refine⟨?_,I.hok.none_of z⟩;cases q:s.heap.get? b with
  |none=>rfl
  |some o=>
   obtain⟨o',z2⟩:=B.there b o q (by simp);rw[z]at z2;cases z2
 refine Om (base:=base) (s:={ s1 with heap:=h1 }) hfr (nk.iF hl λb z=>absurd z (by simp)) rfl x λh2 T hT n2 x2=>?_;have hTn:s1.heap.get? T=af:=by
  cases q2:s1.heap.get? T with
  |none=>rfl
  |some o=>exact absurd (cY (m.keeps T o q2)) (tQ.mpr hT)
 have nn:∀b∈[]++[e,T],s.heap.get? b=af/\H1 b=af:=λb hb=>by
  simp only[ki,bZ,mU,mS]at hb;rcases hb with rfl|rfl
  ·exact new m.new
  ·exact new hTn
 obtain⟨u1,u2⟩:=Im I (nk.trans n2) nn;exact⟨e,T,C,H1,rfl,I.os,I.bare,u1,u2,(nn e (by simp)).1,(nn T (by simp)).1,(nn e (by simp)).2,(nn T (by simp)).2,x2,q⟩
theorem JQ:u6 (fL P w) (f6 (fL P w) P w K mg base N qual scope f cd A outer s H E) E:=by
 rintro ah σ H1 s1 e s2 I ⟨ea,T,C,H2,rfl,os2,Mp,un2,ok2,n1,n2,n3,n4,x,q⟩;have Vu:Un (frs (envOfC qual scope s.heap.objs.size f cd::outer)) [] H1 H2 s1.heap s2.heap:=un2;have I2:Inv (f6 (fL P w) P w K mg base N qual scope f cd A outer s H E) ah σ H2 s2:=I.call' os2 (ch:=[]) un2 ok2 Mp (λb z=>absurd z (by simp));have hfr:=I2.ok.frames;have hl:s2.heap.FunFrames base (envOfC qual scope s.heap.objs.size f cd::outer):=I2.stack;have B:Un (frs outer) [] H H1 s.heap s1.heap:=I.base;have old:∀{b:ai},s1.heap.get? b=af->s.heap.get? b=af:=λ{b} z=>by
  cases q:s.heap.get? b with
  |none=>rfl
  |some o=>
   obtain⟨o',z2⟩:=B.there b o q (by simp);rw[z]at z2;cases z2
 refine Rp (base:=base) (s:=s2) hfr hl rfl x λh3 T' hT' n x3=>?_;have hTn:s2.heap.get? T'=af:=by
  cases q2:s2.heap.get? T' with
  |none=>rfl
  |some o=>exact absurd (cY q2) (tQ.mpr hT')
 have hTs:s1.heap.get? T'=af:=by
  cases q2:s1.heap.get? T' with
  |none=>rfl
  |some o=>
   obtain⟨o',z2⟩:=Vu.there T' o q2 (by simp);rw[hTn]at z2;cases z2
 have nn:∀b∈[ea,T,T'],s.heap.get? b=af/\H2 b=af:=λb hb=>by
  simp only[bZ,mU,mS]at hb;rcases hb with rfl|rfl|rfl
  ·exact⟨old n1,n3⟩
  ·exact⟨old n2,n4⟩
  ·exact⟨old hTs,ok2.none_of hTn⟩
 obtain⟨u1,u2⟩:=Im I2 n nn;exact⟨ea,T',C,H2,rfl,I2.os,Mp,u1,u2,(nn ea (by simp)).1,(nn T' (by simp)).1,(nn ea (by simp)).2,(nn T' (by simp)).2,x3,q⟩
end
end L2
namespace L2
open PySem PySem.Spec PyProof.Rows
section
variable{P:bH}{w:bt}{K:aO}{mg:Str->Option aj}{base:aY}{N:List Str}{qual:Str}{scope:fh}{f:ai}{cd:aj}{A:bT}{outer:List Env}{s:az}{H:Hp}{E:XK}
theorem Q3{x:Str}{C:ai}{bm:List aj}{B newId initId:String}{e:bj}{te:TE}{np cpos pos:Pos}(FB:ExcBaseFacts B newId initId bm)(O:OwnCls x C bm newId mg base)
 (he:PE (f6 (fL P w) P w K mg base N qual scope f cd A outer s H E) e te) (hg:Gl (f6 (fL P w) P w K mg base N qual scope f cd A outer s H E) x) (hd:(x==("__debug__" : Str))=false:=by decide)
 (hs:starEach [e] (f6 (fL P w) P w K mg base N qual scope f cd A outer s H E).env=(false,eval e (f6 (fL P w) P w K mg base N qual scope f cd A outer s H E).env)::starEach [] (f6 (fL P w) P w K mg base N qual scope f cd A outer s H E).env:=by rfl) :
 PS (f6 (fL P w) P w K mg base N qual scope f cd A outer s H E) (.Raise (ac (.Call (.Name x np) [e] [] cpos)) af pos) (λ_ σ H1=>te σ H1 λ_ H2=>∀ea,H2 ea=af->E (.ref C) (ac ea) H2):=by
 intro ah s1 σ H1 D I h;obtain⟨tl,N',nm,q,bs,hdct,sn,sub,ab,col,dd,k0,k1,k2,k3,k5,mN,hC,hN,hni,T⟩:=O.obj;refine wpAny_Raise_call_subT (C:=C) (nm:=nm) (q:=q) (N:=N') (bs:=bs) (bm:=tl) (hdct:=hdct) (sn:=sn) (sub:=sub) (ab:=ab) (col:=col) (dd:=dd) (k0:=k0) (k1:=k1) (k2:=k2) (k3:=k3) (k5:=k5)
  FB (mN:=mN) (T.hasType FB.hasBase) (I.ok.hd rfl) (by rw[hs];rfl) hni (rm I hg O.bound ⟨rfl,?_⟩ hd)
 rw[hs];refine zL (DH (bn (he ah s1 σ H1 _ I h) λv s2 ⟨v',H2,I2,r,q2⟩=>DI ?_));exact⟨rfl,by rw[er];simp,I2.bk _ _ hC,hN.keeps I2.bk,T.keeps I2.bk,λh' e' m=>Tv I2 m (q2 e' (I2.hok.none_of m.new))⟩
end
end L2
namespace Mi
open PySem
def gD{α:Type}(r:Rs α)(k:α->Prop)(x:hW->Prop):Prop:=match r with
 |.ok a=>k a
 |.ex z=>x z
 |.no=>False
theorem kH{α β:Type}{r:Rs α}{f:α->Rs β}{k:β->Prop}{x:hW->Prop}:gD (r.bind f) k x↔gD r (λa=>gD (f a) k x) x:=by cases r<;>exact Iff.rfl
theorem gD.mono{α:Type}{r:Rs α}{k k':α->Prop}{x x':hW->Prop}(h:gD r k x)(m:∀a,k a->k' a)(n:∀z,x z->x' z):gD r k' x':=by
 cases r with
 |ok a=>exact m a h
 |ex z=>exact n z h
 |no=>exact h
theorem F9{α:Type}{c:Prop}[Decidable c]{r:Rs α}{k:α->Prop}{x:hW->Prop}(h:gD (bp c r) k x):c/\gD r k x:=by
 unfold bp at h;split at h
 ·exact⟨‹_›,h⟩
 ·exact h.elim
theorem Kl{α:Type}{r s:Rs α}{k:α->Prop}{x:hW->Prop}(h:gD (if true=true then r else s) k x):gD r k x:=by simpa using h
theorem Jt{α:Type}{r s:Rs α}{k:α->Prop}{x:hW->Prop}(h:gD (if false=true then r else s) k x):gD s k x:=by simpa using h
def still{α:Type}:Rs α->Rs α
 |.ex _=>.no
 |r=>r
theorem uV{α:Type}{r:Rs α}{k:α->Prop}{x:hW->Prop}(h:gD (still r) k x):Fin r k:=by cases r<;>exact h
theorem QS{α:Type}{r:Rs α}{a:α}(h:r=.ok a):still r=.ok a:=by rw[h];rfl
def sP(m:S):S:=λe=>still (m e)
def cP(c:C):C:=λe=>still (c e)
def mj(f:Fn)(ws:List EW):S:=λe=>(still (cG ws e)).bind λvs=>(f vs).bind λ_=>.ok (.nx e)
end Mi
namespace A
open PySem L2 PyProof.Rows So
open Mi (D W Rs Fin gD aD kH Out Tg hW)
variable[Tb:cp]
def wish(cl:String->ai)(E:XK):hW->Hp->Prop:=λz H'=>∀ea,H' ea=af->E (.ref (cl z.cls)) (ac ea) H'
def mz(M:Nat->Bool)(κ:Kd)(x:hW->Hp->Prop)(t:TS)(m:Mi.S):Prop:=∀H0 Hv0 e σ H Hv D,R1 M H0 Hv0 e σ H Hv->gD (m e) (hO M κ H0 Hv0 D Hv) (λz=>∀H' Hv',bx H0 Hv0 H' Hv'->x z H')->t D σ H
section
variable{M:Nat->Bool}{κ:Kd}{x:hW->Hp->Prop}{t u:TS}{m n:Mi.S}{cl:String->ai}{E:XK}
theorem oW(h:AS M κ t m):mz M κ x t (Mi.sP m):=λH0 Hv0 e σ H Hv D I f=>h H0 Hv0 e σ H Hv D I (Mi.uV f)
theorem qd(h1:mz M κ x t m)(h2:mz M κ x u n):mz M κ x (pz t u) (Mi.aE m n):=λH0 Hv0 e σ H Hv D I h=>
 h1 H0 Hv0 e σ H Hv _ I ((kH.mp h).mono (λo ho=>by
  cases o with
  |nx e'=>exactλσ' H' Hv' I' s=>h2 H0 Hv0 e' σ' H' Hv' D I' (gD.mono ho (λo z=>z.up s) λ_ z=>z)
  |rt w=>exact ho
  |bk e'=>exact ho
  |ct e'=>exact ho) λ_ z=>z)
theorem Qe{tt:TT}{c:Mi.C}(hc:AT M tt c)(h1:mz M κ x t m)(h2:mz M κ x u n):mz M κ x (sT tt t u) (Mi.bq (Mi.cP c) m n):=λH0 Hv0 e σ H Hv D I h=>
 hc e σ H Hv _ I.toR0 ((Mi.uV (kH.mp h)).mono λb hb H1 Hv1 g1=>by
  cases b with
  |true=>exact mJ (h1 H0 Hv0 e σ H1 Hv1 D (I.grow g1) ((Mi.Kl hb).mono (λo z=>z.up g1.vis) λ_ z=>z))
  |false=>exact mO (h2 H0 Hv0 e σ H1 Hv1 D (I.grow g1) ((Mi.Jt hb).mono (λo z=>z.up g1.vis) λ_ z=>z)))
def lC(cl:String->ai)(f:Mi.Fn):Sp:=λvs H Q E=>∃Hv ws,Vw H Hv/\P2 (gX Hv) ws vs/\gD (f ws) (λw=>∀v H' Hv',bx H Hv H' Hv'->qV H H' Hv' w v->Q v H') (λz=>∀H' Hv',bx H Hv H' Hv'->wish cl E z H')
theorem Ju{f:Mi.Fn}{ws:List Mi.EW}{tr:TA}(ha:AAW M qV tr (Mi.cG ws)):mz M κ (wish cl E) (nW (lm (lC cl f) [] E tr)) (Mi.mj f ws):=λH0 Hv0 e σ H Hv D I h=>
 ha e σ H Hv _ I.toR0 ((Mi.uV (kH.mp h)).mono λds hx vs H1 Hv1 g1 rx=>by
  rw[i8];refine⟨Hv1,ds,g1.vw,rx,(kH.mp hx).mono (λw hw v H3 Hv3 g3 r=>?_) λz hz H3 Hv3 g3=>?_⟩
  ·exact hw σ H3 Hv3 (I.grow (g1.trans g3)) (g1.trans g3).vis
  ·exact hz H3 Hv3 (I.gw.trans (g1.trans g3)))
theorem BI{f:Mi.S}{k n:Nat}{vs:List V}{H:Hp}{Q:VK}{E:XK}(h:lC cl (Mi.dG k n f) vs H Q E):vs.length=k:=by obtain⟨Hv,ws,_,p,q⟩:=h;rw[<- p.len];exact(Mi.F9 q).1
theorem Bk{N:List Str}{k:Nat}{vs:List V}{H:Hp}{Q:VK}(hA:mz M qV (wish cl E) t m)(hM:∀i,i<k->M i=false)(h:lC cl (Mi.dG k N.length m) vs H Q E):t { nx:=λ_ H'=>Q .non H',rt:=Q } (start N vs) H:=by
 obtain⟨Hv,ws,vw,p,q⟩:=h;obtain⟨hk,q⟩:=Mi.F9 q;refine hA H Hv _ _ H Hv _ (xi vw p hk hM) ((kH.mp q).mono (λo ho=>?_) λz hz=>hz);cases o with
 |nx e=>exactλσ H' Hv' I s=>ho _ H' Hv' I.gw u0
 |rt w=>exactλv H' Hv' g r=>ho v H' Hv' g r
 |bk e=>exact ho.elim
 |ct e=>exact ho.elim
end
theorem _root_.L2.bY.BZ{P:bH}{w:bt}{K:aO}{mg:Str->Option aj}{base:aY}{x qual:Str}{st:bz}{f:ai}{fd:bJ}{N ps:List Str}{k:Nat}{sp:Sp}(F:bY K x qual st f fd)(S:cz N ps (bF st))(len:∀vs H Q E,sp vs H Q E->vs.length=ps.length)
 (hbody:∀(cdv:aj) (A:bT) (outer:List Env) (s:az) (H:Hp) (vs:List V) (Q:VK) (E:XK),ee k (A.deeper (envOfC qual (bF st) s.heap.objs.size f cdv))->sp vs H Q E ->
  ∃t,gN (f6 (fL P w) P w K mg base N qual (bF st) f cdv A outer s H E) (js st) t/\t { nx:=λ_ H'=>Q .non H',rt:=Q } (start N vs) H):bO P w K mg base (fL P w) (k+1) f fd ps sp:=by
 obtain⟨oc,od,kV,doc,pm,an,cdv,ct,osl,rfl,lk,hcd⟩:=F.ex;exact Bl lk hcd S len λA outer s H vs Q E hr hsp=>hbody cdv A outer s H vs Q E hr hsp
end A
namespace L2
open PySem PySem.Spec PyProof.Rows
abbrev XF:=ai->ai->St->Hp->Prop
abbrev l9:=Ends->XF->St->Hp->Prop
def XP(X:Cx)(ah:List (ai×Obj))(F:XF)(e:aj)(s':az):Prop:=∃σ H1 s1,Inv X ah σ H1 s1/\fL X.prog X.w X.stack H1 s1 (λc oa H2=>∃C ea,c=.ref C/\oa=ac ea/\F C ea σ H2) e s'
def Ca(X:Cx)(st:bz)(t:l9):Prop:=∀(ah:List (ai×Obj)) (s:az) (σ:St) (H:Hp) (D:Ends) (F:XF),Inv X ah σ H s->t D F σ H->wpAny (model X.prog X.w) X.A (exec st X.env) (SP X ah D) (XP X ah F) s
def xZ(X:Cx)(st:List bz)(t:l9):Prop:=∀(ah:List (ai×Obj)) (s:az) (σ:St) (H:Hp) (D:Ends) (F:XF),Inv X ah σ H s->t D F σ H->wpAny (model X.prog X.w) X.A (execs st X.env) (SP X ah D) (XP X ah F) s
section
variable{X:Cx}{st:bz}{t u:l9}
theorem A1(h:Ca X st t):xZ X [st] t:=by
 intro ah s σ H D F I q;refine Dq (h7 (h ah s σ H D F I q) (λf s1 q=>?_) λ_ _ z=>z);cases f with
 |next=>exact tJ q
 |ret v=>exact q
 |brk=>exact q
 |cont=>exact q
def IL(tc:TT)(t u:l9):l9:=λD F σ H=>tc σ H λk H1=>match k with
 |true=>t D F σ H1
 |false=>u D F σ H1
theorem OV{c:bj}{a b:List bz}{tc:TT}{pos:Pos}(hx:X.xe=λ_ _=>False)(hc:PT X c tc)(ha:xZ X a t)(hb:xZ X b u):Ca X (.If c a b pos) (IL tc t u):=by
 intro ah s σ H D F I h;refine wpAny_If (h7 (hc ah s σ H _ I h) (λd s1 ⟨H1,I1,q1⟩=>?_) λ_ _ z=>by rw[hx]at z;exact z.elim);cases d with
 |true=>exact ha ah s1 σ H1 D F I1 q1
 |false=>exact hb ah s1 σ H1 D F I1 q1
def IH(sp:Sp)(t:TA):l9:=λD F σ H=>t σ H λvs H1=>sp vs H1 (λ_ H2=>D.nx σ H2) (λc oa H2=>∃C ea,c=.ref C/\oa=ac ea/\F C ea σ H2)
theorem HR{k:Nat}{x:Str}{ps:List Str}{sp:Sp}{e:bj}{es:List bj}{t:TA}{p cpos pos:Pos}(hx:X.xe=λ_ _=>False)(C:bI X.prog X.w X.K X.mg X.base (fL X.prog X.w) k x ps sp)(hr:ee k X.A)(hg:Gl X x)
 (ha:PA X (e::es) t) (hdb:(x==("__debug__" : Str))=false:=by decide) (he:starEach (e::es) X.env=(false,eval e X.env)::starEach es X.env:=by rfl) (hpl:(backTo cpos (starEach es X.env)).any (·.1)=false:=by rfl)
 (hs:swapsWith (.Call (.Name x p) (e::es) [] cpos) af pos.line X.env=pure false:=by rfl):Ca X (.Expr (.Call (.Name x p) (e::es) [] cpos) pos) (IH sp t):=by
 intro ah s σ H D F I h;obtain⟨f,fd,hm,hk,hb,Fo⟩:=C.ex;refine wpAny_Expr_any ?_ I.quiet hs;refine tI (rm I hg hm ?_ hdb);refine Dg (h₀:=X.base) I.ok.mod.kin hk (h7 (ha cpos ah s σ H _ I h) (λus s1 ⟨vs,H1,I1,r,q⟩=>⟨I1.fR,?_⟩) λ_ _ z=>by rw[hx]at z;exact z.elim) he hpl;have hl:us.length=ps.length:=by rw[<- r.length];exact Fo.len _ _ _ _ q
 refine wb (wa (Fo.run X.A X.stack s1 H1 ⟨us,[]⟩ us vs _ _ hr I1.env0 (by have:=hb s1 us I1.fR (by rw[i8];exact hl);rwa [i8]at this) r q) λres s' hq=>?_);cases res with
 |error e'=>exact⟨σ,H1,s1,I1,hq⟩
 |ok fl=>
  cases fl with
  |ret v=>
   obtain⟨v',H2,I2,_,q2⟩:=I1.after hq;exact⟨σ,H2,I2,q2⟩
  |next=>exact iD hq
  |brk=>exact iD hq
  |cont=>exact iD hq
end
def Cx.aB(X:Cx)(e:aj):Cx:={ X with A:=X.A.mark (ac e),calm:=false,xe:=λ_ _=>False }
section
variable{X:Cx}{ah:List (ai×Obj)}{σ:St}{H:Hp}{s:az}
theorem Inv.aB(I:Inv X ah σ H s)(e:aj):Inv (X.aB e) ah σ H s:=⟨⟨I.ok.mod,I.ok.kind,I.ok.glob,I.ok.blt,I.ok.above,I.ok.inj,I.ok.has,I.ok.cab,λz=>(nomatch z),I.ok.frames,I.ok.stk,I.ok.exf,I.ok.bs,I.ok.bsz,I.ok.rh,I.ok.tV,I.ok.iF,I.ok.frf⟩,I.os,I.bare,I.base,I.loc,I.cell,I.free,I.i9,I.pin,I.hok,I.len⟩
theorem Inv.wS{e:aj}(J:X.Ok)(I:Inv (X.aB e) ah σ H s):Inv X ah σ H s:=⟨J,I.os,I.bare,I.base,I.loc,I.cell,I.free,I.i9,I.pin,I.hok,I.len⟩
end
end L2
namespace L2
open PySem PySem.Spec PyProof.Rows
open A (j4)
section
variable{X:Cx}{ah:List (ai×Obj)}{σ:St}{H:Hp}{s:az}
theorem yi{M:Model}{A:bT}{E:aj->az->Prop}{i:Nat}{n:Str}{pos:Pos}{Q:Unit->az->Prop}(I:Inv X ah σ H s)(hN:X.N.Nodup)(hi:X.N[i]? = ac n)(hk:X.env.scope.names.lookup n=ac .local)
 (h:∀s',Inv X ah (σ.set i af) H s'->Q () s'):wpAny M A (do bindName X.env n .none;unbindBehindTheSuite X.env n pos) Q E s:=by
 have hcls:(X.env.scope.kind==.class||(X.env.scope.kind==.module&&X.env.locals != X.env.globals))=false:=by rw[I.ok.kind];rfl
 have hiσ:i < σ.length:=by rw[I.len];exact(fe.mp hi).1
 refine aV (Ds (r6 (v:=.non) (u:=.none) I hN hi (.inl hk) rfl (λs1 I1=>?_) (.inr hk)));obtain⟨m,hn,hl⟩:=id I1.loc;have hsome:(m n).isSome=true:=by
  obtain⟨u,_,q⟩:=hl i n .non hi (mT hiσ) (.inl hk);rcases q with ⟨_,e⟩|⟨k,_⟩
  ·rw[e];rfl
  ·have hk':X.env.kindOf n=ac .local:=hk;rcases k with k|k<;>(rw[hk']at k;cases k)
 have hk':X.env.kindOf n=ac .local:=hk;unfold unbindBehindTheSuite;refine wpAny_onRaise ?_;unfold unbindName;refine aV (wpAny_point (aV ?_));unfold deleteName;simp only[hk',hcls];rw[a7 (by decide)];refine aV (wpAny_nsDel_keeps hn λh2 v hn2 hs2=>?_);rw[hsome];simp only[jX,Bool.not_true,wg,jB];refine cE (wpAny_point (h _ ?_));obtain⟨oL,_,_,hoL,_⟩:=id hn;have ne:∀{b o},X.s₀.heap.get? b=ac o->b≠X.env.locals:=λ{b o} e=>iO (iN (cY e) I1.ok.above);refine⟨I1.ok,I1.os,I1.bare,⟨λb o e z hb hx=>(hs2.2 b (ne e)).trans (I1.base.keep b o e z hb hx),λb o e z hb hx=>?_,I1.base.free,λb o e hx=>?_,I1.base.tups,I1.base.ku,I1.base.kw⟩,⟨_,hn2,λj y v' e1 e2 e3=>?_⟩,λy c e=>?_,I1.free,I1.i9,λp hp=>?_,?_,by simpa using I1.len⟩
 ·obtain⟨sl,e1⟩:=I1.base.slot b o e z hb hx;exact⟨sl,(hs2.2 b (ne e)).trans e1⟩
 ·obtain⟨o',e1⟩:=I1.base.there b o e hx;exact⟨o',(hs2.2 b (ne e)).trans e1⟩
 ·by_cases hj:j=i
  ·subst hj;rw[mT hiσ]at e2;cases e2
  ·have e2':(σ.set i (ac V.non))[j]? = ac (ac v'):=by
    rw[fF (dW hj)]at e2 ⊢;exact e2
   obtain⟨u',r',q⟩:=hl j y v' e1 e2' e3;refine⟨u',r',?_⟩;rcases q with ⟨k,e⟩|⟨k,c,e,z⟩
   ·refine .inl ⟨k,?_⟩;have:y≠n:=λe=>hj (Af hN e1 (e ▸ hi));simp[this,e]
   ·refine .inr ⟨k,c,e,?_⟩;obtain⟨o,ho,hd⟩:=z;exact⟨o,(hs2.2 c (I1.nZ y c e)).trans ho,hd⟩
 ·obtain⟨v2,o,ho,hd⟩:=I1.cell y c e;exact⟨v2,o,(hs2.2 c (I1.nZ y c e)).trans ho,hd⟩
 ·obtain⟨q1,q2,q3,q4⟩:=I1.pin p hp;exact⟨(hs2.2 _ q3).trans q1,q2,q3,q4⟩
 ·intro b ob e;refine(I1.hok b ob e).stay (λc w' hc q=>(hs2.2 c ?_).trans q) (λ_ q=>q) λ_ _ q=>q;rintro rfl;rcases hc with rfl|hc
  ·rw[I1.free]at e;cases e
  ·rw[I1.free]at hc;cases hc
theorem Inv.caught{H1 H2:Hp}{s1 s':az}{h4:aY}{ea C:ai}{no:List ai}{oe:Obj}(I1:Inv X ah σ H1 s1)(os:s'.os=s1.os)(bare:m8 s'.gens)(un:Un (frs X.stack) [] H1 H2 s1.heap s'.heap)(ok2:du X.prog X.w H2 s'.heap)
 (n:fu (frs X.stack) no s'.heap h4) (hno:∀b∈no,s1.heap.get? b=af/\H2 b=af) (he:ea∈no) (hx:h4.get? ea=ac oe) (hc:oe.cls=.ref C) (hcd:oe.dict=af) (hcf:∃vs,oe.data=.fields vs):Inv X ah σ (upd H2 ea (.ext (j4 ea C))) { s' with heap:=h4 }:=by
 have I2:Inv X ah σ H2 s':=I1.call' os (ch:=[]) un ok2 bare (λb z=>absurd z (by simp));have old:∀{b o},s1.heap.get? b=ac o->b∉no:=λ{b o} e z=>by rw[(hno b z).1]at e;cases e
 have nee:∀{b o},H2 b=ac o->b≠ea:=λ{b o} e z=>by rw[z,(hno ea he).2]at e;cases e
 refine I1.call' (s':={ s' with heap:=h4 }) os (ch:=[]) ⟨λb o e z nf nx=>n.keep b o (un.keep b o e z nf nx) nf (old e),λb o e z nf nx=>?_,λb o e z nx=>?_,λb o e nx=>?_,λb xs e=>?_,λb o u e=>?_,λb w ps e=>?_⟩ ?_ bare (λb z=>absurd z (by simp))
 ·obtain⟨sl,q⟩:=un.slot b o e z nf nx;obtain⟨sl2,q2⟩:=n.slot b _ q (old e);exact⟨sl2,q2⟩
 ·rw[aX (λy:b=ea=>old e (by rw[y];exact he))];exact un.free b o e z nx
 ·obtain⟨o1,q⟩:=un.there b o e nx;exact n.there b o1 q
 ·have q:=un.tups b xs e;rw[aX (nee q)];exact q
 ·have q:=un.ku b o u e;rw[aX (nee q)];exact q
 ·obtain⟨more,q⟩:=un.kw b w ps e;exact⟨more,by rw[aX (nee q)];exact q⟩
 ·intro a o e;by_cases ha:a=ea
  ·subst ha;rw[bS]at e;cases e;refine⟨⟨oe,hx,hc,hcd,hcf⟩,⟨oe,hx⟩,λk1 k2 ⟨o,q1,q2⟩ kk=>⟨o,kk o q1,q2⟩⟩
  ·rw[aX ha]at e;refine(ok2 a o e).stay (λb u hb q=>?_) (λb q=>by rw[aX (nee q)];exact q) λb xs q=>by rw[aX (nee q)];exact q
   have tr:∃ob,H2 b=ac ob:=by
    rcases hb with rfl|hb
    ·exact⟨_,e⟩
    ·exact⟨_,hb⟩
   obtain⟨ob,tr⟩:=tr;refine n.keep b u q (λz=>?_) λz=>?_
   ·have:=I2.vq b z;rw[tr]at this;cases this
   ·rw[(hno b z).2]at tr;cases tr
def U2(i:Nat)(D:Ends):Ends:={ nx:=λσ H=>D.nx (σ.set i af) H,rt:=D.rt,bk:=λσ H=>D.bk (σ.set i af) H,ct:=λσ H=>D.ct (σ.set i af) H }
def Fd(i:Nat)(okC:ai->Prop)(tb:l9)(th:TS):TS:=λD σ H=>tb D (λC ea σ' H2=>okC C/\th (U2 i D) (σ'.set i (ac (.ref ea))) (upd H2 ea (.ext (j4 ea C)))) σ H
theorem Sc{body suite:List bz}{b0:bz}{tb:l9}{th:TS}{x n:Str}{i:Nat}{C0:ai}{np hpos pos:Pos}{okC:ai->Prop}(hx:X.xe=λ_ _=>False)(hst:X.stack=X.env::X.outer)(hfr:X.env.frame=ac X.env.locals)
 (hN:X.N.Nodup) (hi:X.N[i]? = ac n) (hk:X.env.scope.names.lookup n=ac .local) (hg:Gl X x) (hm:X.mg x=ac (.ref C0)) (Vv:∀C,okC C->Dl X.K (.ref C) (.ref C0)=ac true)
 (hb:xZ X body tb) (hh:∀ea,gN (X.aB (.ref ea)) (b0::suite) th) (hdb:(x==("__debug__" : Str))=false:=by decide) :
 PS X (.Try body [.ExceptHandler (ac (.Name x np)) (ac n) (b0::suite) hpos] [] [] pos) (Fd i okC tb th):=by
 intro ah s σ0 H0 D I h;refine wpAny_Try_except (h7 (hb ah s σ0 H0 D _ I h) (λf s1 q=>?_) λe s' xp=>?_)
 ·cases f with
  |next=>exact tJ q
  |ret v=>exact q
  |brk=>exact q
  |cont=>exact q
 obtain⟨σ,H1,s1,I1,ea,T,C,H2,rfl,os,bare,un,ok2,n1,n2,n3,n4,xx,C',ea',eC,eE,okc,ht⟩:=xp;cases eC;cases eE;have I2:Inv X ah σ H2 s':=I1.call' os (ch:=[]) un ok2 bare (λb z=>absurd z (by simp));have Vx:X.A.frames=ac (X.env::X.outer):=by rw[<- hst];exact I2.ok.frames
 have hl:s'.heap.FunFrames X.base (X.env::X.outer):=by rw[<- hst];exact I2.stack
 refine F2 (base:=X.base) Vx hl hfr xx λh3 T' hT' n x3=>?_;refine xU (s:={ s' with heap:=h3 }) x3 λh4 m4 _ x4=>?_;have Vy:s1.heap.get? T'=af/\H2 T'=af:=by
  have hTn:s'.heap.get? T'=af:=by
   cases q2:s'.heap.get? T' with
   |none=>rfl
   |some o=>exact absurd (cY q2) (tQ.mpr hT')
  refine⟨?_,ok2.none_of hTn⟩;cases q2:s1.heap.get? T' with
  |none=>rfl
  |some o=>
   obtain⟨o',z2⟩:=un.there T' o q2 (by simp);rw[hTn]at z2;cases z2
 have nn:∀b∈[ea,T,T'],s1.heap.get? b=af/\H2 b=af:=λb hb=>by
  simp only[bZ,mU,mS]at hb;rcases hb with rfl|rfl|rfl
  ·exact⟨n1,n3⟩
  ·exact⟨n2,n4⟩
  ·exact Vy
 have wide:∀{k k':aY},fu [] [T'] k k'->fu (frs X.stack) [T'] k k':=λz=>⟨λb o q _=>z.keep b o q (by simp),z.slot,z.there⟩;have n':fu (frs X.stack) [ea,T] s'.heap h3:=by rw[hst];exact n
 have N4:fu (frs X.stack) [ea,T,T'] s'.heap h4:=(n'.trans (wide m4)).more λb hb=>by simpa [or_assoc]using hb
 have x4':=x4;obtain⟨oe,vs,oT,ts,he,⟨hc,hcd⟩,hcf,_⟩:=x4';have I4:=I1.caught os bare un ok2 N4 nn (by simp) he hc hcd ⟨vs,hcf⟩;refine wpAny_handleBy_cons (codeAny_handlers_test ?_) (by intro q;cases q);refine rm (X:=X.aB (.ref ea)) (I4.aB _) hg hm ?_ hdb;have LT:PySem.W.Looks (model X.prog X.w) h4 (typeOf (.ref ea)) (.ref C):=by rw[<- hc];exact(Me he).andThen .now
 refine PySem.W.exm_one (K:=X.K) I4.fR LT (Vv C okc) _ _ _ { s' with heap:=h4 } (λ_ _ q=>q) ?_;refine codeAny_handlers_suite_as ?_;refine xU (s:={ s' with heap:=h4 }) x4 λh5 m5 _ x5=>?_;have N5:fu (frs X.stack) [ea,T,T'] s'.heap h5:=(N4.trans (wide m5)).more λb hb=>by
  simp only[qS,ki,bZ,mU,mS]at hb ⊢;rcases hb with z|z|z|z
  ·exact .inl z
  ·exact .inr (.inl z)
  ·exact .inr (.inr z)
  ·exact .inr (.inr z)
 obtain⟨oe5,vs5,_,_,he5,⟨hc5,Vz⟩,VA,_⟩:=x5;have I5:=I1.caught os bare un ok2 N5 nn (by simp) he5 hc5 Vz ⟨vs5,VA⟩;refine r6 (X:=X.aB (.ref ea)) (i:=i) (v:=.ref ea) (I5.aB _) hN hi (.inl hk) rfl (λs6 I6=>?_) (.inr hk);refine h7 (hh ea ah s6 _ _ _ I6 ht) (λf s7 q=>?_) λ_ _ z=>z.elim;have J:=I.ok;cases f with
 |next=>
  obtain⟨σ',H',I7,q⟩:=q;exact yi (I7.wS J) hN hi hk λs8 I8=>⟨_,_,I8,q⟩
 |brk=>
  obtain⟨σ',H',I7,q⟩:=q;exact yi (I7.wS J) hN hi hk λs8 I8=>⟨_,_,I8,q⟩
 |cont=>
  obtain⟨σ',H',I7,q⟩:=q;exact yi (I7.wS J) hN hi hk λs8 I8=>⟨_,_,I8,q⟩
 |ret v=>
  obtain⟨v',σ',H',I7,r,q⟩:=q;exact yi (I7.wS J) hN hi hk λs8 I8=>⟨v',_,_,I8,r,q⟩
end
end L2
namespace L2
open PySem PySem.Spec PyProof.Rows
structure kD(k:Nat)(A:bT):Prop where
 dp:A.depth+3*k+5<recursionLimit
 un:A.units+16*k+200<cLine
theorem ee.Py{k:Nat}{A:bT}(r:ee k A)(e:aj):kD k (A.mark (ac e)):=⟨r.dp,r.un⟩
theorem kD.deeper{k:Nat}{A:bT}(r:kD (k+1) A)(env:Env):kD k (A.deeper env):=⟨by have:=r.dp;show A.depth+1+3*k+5<_;omega,by have:=r.un;show A.units+3+16*k+200<_;omega⟩
theorem kD.depth{k:Nat}{A:bT}(r:kD k A):A.depth<recursionLimit:=by have:=r.dp;omega
theorem kD.units{k:Nat}{A:bT}(r:kD k A):A.units+64<cLine:=by have:=r.un;omega
structure uM(P:bH)(w:bt)(K:aO)(mg:Str->Option aj)(base:aY)(k:Nat)(f:ai)(fd:bJ)(ps:List Str)(sp:Sp):Prop where
 len:∀vs H Q E,sp vs H Q E->vs.length=ps.length
 run:∀(A:bT) (outer:List Env) (s:az) (H:Hp) (args:Args) (us:List aj) (vs:List V) (Q:VK) (E:XK),kD k A->sg P w K mg base A outer s H->oi s fd args (ps.zip us)->Vals vs us->sp vs H Q E ->
  codeAny (model P w) A (.call (.ref f) args) (CR aI outer P w H s Q E) s
def xD(P:bH)(w:bt)(K:aO)(mg:Str->Option aj)(base:aY)(N:List Str)(qual:Str)(scope:fh)(f:ai)(cd:aj)(A:bT)(outer:List Env)(s:az)(H:Hp)(E:XK):Cx:={ f6 aI P w K mg base N qual scope f cd A outer s H E with calm:=false,xe:=λ_ _=>False }
theorem UJ{P:bH}{w:bt}{K:aO}{mg:Str->Option aj}{base:aY}{k:Nat}{f:ai}{name qual:Str}{params:tK}{body:List bz}{scope:fh}{dV kV doc pm cdv ct oc:aj}{an od:Option ai}
 {osl:Array (Option aj)} {N ps:List Str} {sp:Sp} (lk:K.lookup f=ac ⟨oc,od,.func (kj name qual params body scope dV kV doc pm an cdv ct),osl⟩) (hcd:qW K cdv qual=true) (S:cz N ps scope)
 (len:∀vs H Q E,sp vs H Q E->vs.length=ps.length)
 (hbody:∀(A:bT) (outer:List Env) (s:az) (H:Hp) (vs:List V) (Q:VK) (E:XK),kD k (A.deeper (envOfC qual scope s.heap.objs.size f cdv))->sp vs H Q E ->
  ∃t,gN (xD P w K mg base N qual scope f cdv A outer s H E) body t/\t { nx:=λ_ H'=>Q .non H',rt:=Q } (start N vs) H) :
 uM P w K mg base (k+1) f (kj name qual params body scope dV kV doc pm an cdv ct) ps sp:=by
 refine⟨len,λA outer s H args us vs Q E hr e0 hb r hsp=>?_⟩;have hl:=len _ _ _ _ hsp;have KX:K.In s.heap:=e0.mod.kin.keeps λb o e=>(e0.bs b o e).1;have lim:s.heap.NoLimit:=e0.mod.nolimit.keeps λb o e=>(e0.bs b o e).1;have hkind:∀y∈ps.zip us,scope.names.lookup y.1=ac .local\/(scope.names.lookup y.1=ac .cell/\((cellsFrom (s.heap.objs.size+1) scope.names []).lookup y.1).isSome=true):=λ⟨n,v⟩ hy=>by
  rcases S.par n (za hy).1 with q|q
  ·exact .inl q
  ·exact .inr ⟨q,Df _ _ _ (.inl q)⟩
 refine codeAny_call_function hr.depth (KX _ _ lk) rfl S.co S.gen rfl (Lz KX hcd) (hb _ _ _ _ ?_);refine LI S.kind hkind λenv he s1 x=>?_;subst he;refine⟨lim.keeps x.toInCall.keep,codeAny_func ?_⟩;obtain⟨t,ht,hq⟩:=hbody A outer s H vs Q E (hr.deeper _) hsp;have e1:sg P w K mg base { A with handled:=af } outer s H:=⟨e0.frames,e0.mod,e0.bs,e0.bsz,e0.iF,e0.frf,e0.hok,e0.bare⟩;have I1:Inv (f6 aI P w K mg base N qual scope f cdv { A with handled:=af } outer s H E) [] (start N vs) H s1:=Iy S rfl e1 hl r x;have I:Inv (xD P w K mg base N qual scope f cdv A outer s H E) [] (start N vs) H s1:=
  ⟨⟨I1.ok.mod,I1.ok.kind,I1.ok.glob,I1.ok.blt,I1.ok.above,I1.ok.inj,I1.ok.has,I1.ok.cab,λz=>(nomatch z),DM e0.frames,I1.ok.stk,I1.ok.exf,I1.ok.bs,I1.ok.bsz,I1.ok.rh,I1.ok.tV,I1.ok.iF,I1.ok.frf⟩,I1.os,I1.bare,I1.base,I1.loc,I1.cell,I1.free,I1.i9,I1.pin,I1.hok,I1.len⟩
 refine h7 (ht [] s1 (start N vs) H _ I hq) (λfl s' hs=>?_) λe s' hs=>hs.elim;have fin:∀{σ':St} {H':Hp} {v:V} {u:aj},Inv (xD P w K mg base N qual scope f cdv A outer s H E) [] σ' H' s'->RelV v u->Q v H'->CE outer P w H s Q u s':=
  λ{σ' H' v u} J rv q=>⟨v,H',J.os,J.bare,J.base,J.hok,rv,q⟩
 cases fl with
 |ret u=>
  obtain⟨v,σ',H',J,rv,q⟩:=hs;exact fin J rv q
 |next=>
  obtain⟨σ',H',J,q⟩:=hs;exact fin (v:=V.non) (u:=fi) J rfl q
 |brk=>
  obtain⟨_,_,_,q⟩:=hs;exact iD q
 |cont=>
  obtain⟨_,_,_,q⟩:=hs;exact iD q
theorem bY.PX{P:bH}{w:bt}{K:aO}{mg:Str->Option aj}{base:aY}{x qual:Str}{st:bz}{f:ai}{fd:bJ}{N ps:List Str}{k:Nat}{sp:Sp}(F:bY K x qual st f fd)(S:cz N ps (bF st))(len:∀vs H Q E,sp vs H Q E->vs.length=ps.length)
 (hbody:∀(cdv:aj) (A:bT) (outer:List Env) (s:az) (H:Hp) (vs:List V) (Q:VK) (E:XK),kD k (A.deeper (envOfC qual (bF st) s.heap.objs.size f cdv))->sp vs H Q E ->
  ∃t,gN (xD P w K mg base N qual (bF st) f cdv A outer s H E) (js st) t/\t { nx:=λ_ H'=>Q .non H',rt:=Q } (start N vs) H):uM P w K mg base (k+1) f fd ps sp:=by
 obtain⟨oc,od,kV,doc,pm,an,cdv,ct,osl,rfl,lk,hcd⟩:=F.ex;exact UJ lk hcd S len λA outer s H vs Q E hr hsp=>hbody cdv A outer s H vs Q E hr hsp
structure z9(P:bH)(w:bt)(K:aO)(mg:Str->Option aj)(base:aY)(k:Nat)(x:Str)(ps:List Str)(sp:Sp):Prop where
 ex:∃(f:ai) (fd:bJ),mg x=ac (.ref f)/\oh K (.ref f)=true/\Binds K fd ps []/\uM P w K mg base k f fd ps sp
theorem cO.Tq{P:bH}{w:bt}{K:aO}{mg:Str->Option aj}{base:aY}{k:Nat}{x:Str}{st:bz}{ps:List Str}{sp:Sp}(F:cO K mg x st ps)(h:∀f fd,bY K x x st f fd->uM P w K mg base k f fd ps sp):z9 P w K mg base k x ps sp:=by obtain⟨f,fd,h1,h2,h3,_,h4⟩:=F.ex;exact⟨f,fd,h1,h2,h3,h f fd h4⟩
theorem Ob{X:Cx}{k:Nat}{x:Str}{ps:List Str}{sp:Sp}{E:XK}{e:bj}{es:List bj}{t:TA}{p pos:Pos}(C:z9 X.prog X.w X.K X.mg X.base k x ps sp)(hr:kD k X.A)(hg:Gl X x)(ha:PA X (e::es) t)
 (hdb:(x==("__debug__" : Str))=false:=by decide) (he:starEach (e::es) X.env=(false,eval e X.env)::starEach es X.env:=by rfl) (hpl:(backTo pos (starEach es X.env)).any (·.1)=false:=by rfl) :
 PE X (.Call (.Name x p) (e::es) [] pos) (lm sp [] E t):=by
 obtain⟨f,fd,hm,hk,hb,F⟩:=C.ex;intro ah s σ H Q I h;refine tI (rm I hg hm ?_ hdb);refine Dg (h₀:=X.base) I.ok.mod.kin hk (bn (ha pos ah s σ H _ I h) λus s1 ⟨vs,H1,I1,r,q⟩=>⟨I1.fR,?_⟩) he hpl;have q:sp (vs++[]) H1 Q E:=q;rw[i8]at q;have hl:us.length=ps.length:=by rw[<- r.length];exact F.len _ _ _ _ q
 refine wb (wa (F.run X.A X.stack s1 H1 ⟨us,[]⟩ us vs _ _ hr I1.env0 (by have:=hb s1 us I1.fR (by rw[i8];exact hl);rwa [i8]at this) r q) λres s' hq=>?_);cases res with
 |error e'=>exact hq.elim
 |ok fl=>
  cases fl with
  |ret u=>exact I1.after hq
  |next=>exact iD hq
  |brk=>exact iD hq
  |cont=>exact iD hq
end L2
namespace Mi
open PySem
def G4(i:Nat):Out->Out
 |.nx e=>.nx (e.set i af)
 |.rt w=>.rt w
 |.bk e=>.bk (e.set i af)
 |.ct e=>.ct (e.set i af)
def uG(i:Nat)(cs:List String)(body hb:S):S:=λe=>match body e with
 |.ok o=>.ok o
 |.ex z=>bp (z.cls∈cs) ((still (hb (e.set i (ac (.ex z.cls))))).bind λo=>.ok (G4 i o))
 |.no=>.no
end Mi
namespace A
open PySem L2 PyProof.Rows So
open Mi (D W Rs Fin gD aD kH Out Tg hW)
variable[Tb:cp]
def AX(M:Nat->Bool)(κ:Kd)(t:l9)(m:Mi.S):Prop:=∀H0 Hv0 e σ H Hv D F,R1 M H0 Hv0 e σ H Hv->gD (m e) (hO M κ H0 Hv0 D Hv) (λz=>∀ea H' Hv',R1 M H0 Hv0 e σ H' Hv'->dC Hv Hv'->H' ea=af->F (Tb.cl z.cls) ea σ H')->t D F σ H
section
variable{M:Nat->Bool}{κ:Kd}{t u:l9}{m n:Mi.S}
theorem Oe{tt:TT}{c:Mi.C}(hc:AT M tt c)(h1:AX M κ t m)(h2:AX M κ u n):AX M κ (IL tt t u) (Mi.bq (Mi.cP c) m n):=λH0 Hv0 e σ H Hv D F I h=>
 hc e σ H Hv _ I.toR0 ((Mi.uV (kH.mp h)).mono λb hb H1 Hv1 g1=>by
  cases b with
  |true=>exact h1 H0 Hv0 e σ H1 Hv1 D F (I.grow g1) ((Mi.Kl hb).mono (λo z=>z.up g1.vis) λ_ z ea H' Hv' I' s'=>z ea H' Hv' I' (g1.vis.trans s'))
  |false=>exact h2 H0 Hv0 e σ H1 Hv1 D F (I.grow g1) ((Mi.Jt hb).mono (λo z=>z.up g1.vis) λ_ z ea H' Hv' I' s'=>z ea H' Hv' I' (g1.vis.trans s')))
theorem Gy{f:Mi.Fn}{ws:List Mi.EW}{tr:TA}(ha:AAW M qV tr (Mi.cG ws)):AX M κ (IH (lC Tb.cl f) tr) (Mi.mj f ws):=λH0 Hv0 e σ H Hv D F I h=>
 ha e σ H Hv _ I.toR0 ((Mi.uV (kH.mp h)).mono λds hx vs H1 Hv1 g1 rx=>by
  refine⟨Hv1,ds,g1.vw,rx,(kH.mp hx).mono (λw hw v H3 Hv3 g3 r=>?_) λz hz H3 Hv3 g3 ea hea=>?_⟩
  ·exact hw σ H3 Hv3 (I.grow (g1.trans g3)) (g1.trans g3).vis
  ·exact⟨_,_,rfl,rfl,hz ea H3 Hv3 (I.grow (g1.trans g3)) (g1.trans g3).vis hea⟩)
theorem R1.off{H0 Hv0:Hp}{e:Mi.Env}{σ:L2.St}{H Hv:Hp}(I:R1 M H0 Hv0 e σ H Hv)(i:Nat):R1 M H0 Hv0 (e.set i af) (σ.set i af) H Hv:=by
 have get:∀{j:Nat} {w:W},(e.set i af)[j]? = ac (ac w)->i≠j/\e[j]? = ac (ac w):=λ{j w} h=>by
  rcases kB h with ⟨_,h,_⟩|z
  ·cases h
  ·exact z
 have st:∀{j:Nat} {v:V},i≠j->σ[j]? = ac (ac v)->(σ.set i af)[j]? = ac (ac v):=λ{j v} n h=>by rw[fF n];exact h
 have ts:∀{j:Nat} {v:V},i≠j->(σ.set i af)[j]? = ac (ac v)->σ[j]? = ac (ac v):=λ{j v} n h=>by rw[fF n]at h;exact h
 refine⟨⟨I.vw,by rw[kh,kh];exact I.len,λj w h mm=>?_,λj w h mm=>?_⟩,I.gw,λj w a h mm q=>?_,λj k w w' a b hjk h1 h2 m1 m2 q1 q2=>?_⟩
 ·obtain⟨nj,h⟩:=get h;obtain⟨v,hv,r⟩:=I.nob j w h mm;exact⟨v,st nj hv,r⟩
 ·obtain⟨nj,h⟩:=get h;obtain⟨v,hv,r⟩:=I.own j w h mm;exact⟨v,st nj hv,r⟩
 ·obtain⟨nj,h⟩:=get h;exact I.fresh j w a h mm (ts nj q)
 ·obtain⟨nj,h1⟩:=get h1;obtain⟨nk,h2⟩:=get h2;exact I.sep j k w w' a b hjk h1 h2 m1 m2 (ts nj q1) (ts nk q2)
theorem Sh{i:Nat}{cs:List String}{th:TS}{hb:Mi.S}(hi:M i=false)(h1:AX M κ t m)(h2:AS M κ th hb):AS M κ (Fd i (λC=>∃c∈cs,C=Tb.cl c) t th) (Mi.uG i cs m hb):=λH0 Hv0 e σ H Hv D I h=>by
 refine h1 H0 Hv0 e σ H Hv D _ I ?_;unfold Mi.uG at h;cases hm:m e with
 |ok o=>rw[hm]at h;exact h
 |no=>rw[hm]at h;exact h.elim
 |ex z=>
  rw[hm]at h;obtain⟨hz,h⟩:=Mi.cR h;intro ea H' Hv' I' s' hea;have g:bx H' Hv' (upd H' ea (.ext (j4 ea (Tb.cl z.cls)))) (upd Hv' ea (.ext (j4 ea (Tb.cl z.cls)))):=.new I'.vw hea;have r:gX (upd Hv' ea (.ext (j4 ea (Tb.cl z.cls)))) (.ex z.cls) (.ref ea):=⟨ea,rfl,bS⟩;refine⟨⟨z.cls,hz,rfl⟩,h2 H0 Hv0 _ _ _ _ _ ((I'.grow g).set hi r) ?_⟩;have h:=aD.mp h;cases hh:hb (e.set i (ac (.ex z.cls)))with
  |no=>rw[hh]at h;exact h.elim
  |ex y=>rw[hh]at h;exact h.elim
  |ok o=>
   rw[hh]at h;have sm:dC Hv (upd Hv' ea (.ext (j4 ea (Tb.cl z.cls)))):=s'.trans g.vis;cases o with
   |nx e2=>exactλσ2 H2 Hv2 I2 s2=>h (σ2.set i af) H2 Hv2 (I2.off i) (sm.trans s2)
   |rt w=>exact h
   |bk e2=>exactλσ2 H2 Hv2 I2 s2=>h (σ2.set i af) H2 Hv2 (I2.off i) (sm.trans s2)
   |ct e2=>exactλσ2 H2 Hv2 I2 s2=>h (σ2.set i af) H2 Hv2 (I2.off i) (sm.trans s2)
end
end A
namespace PySem.W
open PySem PySem.Spec PySem.Calls PyProof.Rows
section
variable{prog:bH}{w:bt}{A:bT}{E:aj->az->Prop}{s:az}{K:Frag}{x D:ai}{ox:Obj}
variable(hga:findIn K (.ref D) "__getattribute__" = ac (ac (.builtin "BaseException.__getattribute__")))(hgt:findIn K (.ref D) "__getattr__" = ac af)(hcd:(clsIn K D).isSome=true)
 (ha:findIn K (.ref D) "__class__" = ac (ac (.builtin "object.__class__"))) (hn:specialIn K (.builtin "object.__class__") "__get__" = ac (ac (.builtin "getset_descriptor.__get__"))) (htk:takesIn K (.builtin "object.__class__")=ac true)
 (hm:mroIn K D (.type "object")=ac true) (hb:mroIn K D (.type "BaseException")=ac true)
include hga hgt hcd ha hn htk hm hb
theorem Pp{tk:Tok}{R:Result->az->Prop}(X:K.In s.heap)(I:InstAt s.heap x ox D af)(h:R (.ok (.ret (.ref D))) s) :
 codeAny (model prog w) A (.call (.builtin "BaseException.__getattribute__") ⟨[.ref x,.str "__class__" tk],[]⟩) R s:=by
 obtain⟨hh,g,d,t,os⟩:=s;have hf:findObj K D af "__class__" = ac (.bind (.builtin "getset_descriptor.__get__") (.builtin "object.__class__")):=by obtain⟨cd,hc⟩:=zF.mp hcd;unfold findObj;rw[hc,LY,ha,LY];simp[hn,htk]
 have L0:=I.type (M:=model prog w);have L1:=looks_find (M:=model prog w) X I hf;have L2:=looks_mroIn (M:=model prog w) X hb;have hk:builtinKind "BaseException.__getattribute__" = ac .slot:=by decide +kernel
 have hsplit:splitId "BaseException.__getattribute__" = ac ("BaseException","__getattribute__"):=by decide +kernel
 have hargs:=F.args_bexc_ga (.ref x) (.str "__class__" tk);refine codeAny_call_builtin (LW).ga.plain F.entry_bexc_ga ?_;simp only[checkBuiltinCall,hk,hsplit];refine aV ?_;unfold isInstance;refine aV (L0.at ?_);refine L2.at ?_
 repeat (any_goals (first|assumption|(refine aV (L0.at ?_))|(refine aV (L1.at ?_))|wp_step))
 refine class_get (s:=⟨hh,g,d,t,os⟩) X I hm ?_;exact cE h
theorem TR{Q:Option aj->az->Prop}(X:K.In s.heap)(I:InstAt s.heap x ox D af)(h:Q (ac (.ref D)) { s with toks:=s.toks+1 }):wpAny (model prog w) A (getAttr? (.ref x) "__class__") Q E s:=by
 obtain⟨hh,g,d,t,os⟩:=s;have L0:=I.type (M:=model prog w);have L1:=looks_findIn (M:=model prog w) X hga;have L2:=looks_findIn (M:=model prog w) X hgt;have f3:=(LW).ga.bind (.ref x);have hx2:(wm "BaseException.__getattribute__" == wm "object.__getattribute__")=false:=by decide +kernel
 have hx1:(onTheHeap (dP D)&&wm "BaseException.__getattribute__" == wm "object.__getattribute__")=false:=by rw[hx2,tP]
 unfold getAttr? getAttrBy? getAttrBy;refine aV (wpAny_mkText (aV (wpAny_attempt (Dv (aV (L0.at (aV (L1.at ?_))))))));dsimp only;rw[a7 (by rw[hx1];exact dJ)];unfold getAttrByItsOwn
 repeat (any_goals (first|assumption|(refine aV (L2.at ?_))|(refine L2.at ?_)|wp_step))
 refine Pp (s:=⟨hh,g,d,t+1,os⟩) hga hgt hcd ha hn htk hm hb X I ?_;exact handed_on rfl (cE h)
theorem FR:KitX K (.ref x) (.ref D) (λh=>∃ox,InstAt h x ox D af) where
 ty:=λ_ _ _ ⟨_,I⟩=>I.type
 it:=λ_ _ X _=>by
  obtain⟨cd,hc⟩:=zF.mp hcd;unfold clsIn at hc;split at hc
  ·rename_i c' d' cd' sl' ho;intro A' Q' E' s' k q;unfold isType loadHead;exact aV (wpAny_loadPart (k _ _ (X _ _ ho)) (cE q))
  ·cases hc
 ne:=λh tp dd ax n sl X htp=>by
  obtain⟨cd,hc⟩:=zF.mp hcd;refine Dw.mpr λq=>?_;have e:D=tp:=Value.ref.inj (jF.mp q);subst e;unfold clsIn at hc;split at hc
  ·rename_i c' d' cd' sl' ho;have z:=(X _ _ ho).symm.trans htp;cases z
  ·cases hc
 ca:=λX ⟨_,I⟩ k=>TR hga hgt hcd ha hn htk hm hb X I k
end
end PySem.W
namespace L2
open PySem PySem.Spec PyProof.Rows
open A (j4)
structure nM(K:aO)(D:ai):Prop where
 ga:v8 K (.ref D) "__getattribute__" = ac (ac (.builtin "BaseException.__getattribute__"))
 gt:v8 K (.ref D) "__getattr__" = ac af
 cd:(PySem.W.clsIn K D).isSome=true
 at_:v8 K (.ref D) "__class__" = ac (ac (.builtin "object.__class__"))
 gn:LA K (.builtin "object.__class__") "__get__" = ac (ac (.builtin "getset_descriptor.__get__"))
 tk:LF K (.builtin "object.__class__")=ac true
 mo:Do K D (.type "object")=ac true
 mb:Do K D (.type "BaseException")=ac true
section
variable{X:Cx}{ah:List (ai×Obj)}{σ:St}{H:Hp}{s:az}
theorem Inv.instX(I:Inv X ah σ H s){ea C:ai}(h:H ea=ac (.ext (j4 ea C))):∃ox,LG s.heap ea ox C af:=by obtain⟨⟨o,h1,h2,h3,vs,h4⟩,_⟩:=(show d5 X.prog X.w H s.heap ea (.ext (j4 ea C))from I.hok ea _ h);refine⟨o,h1,h2,?_,by rw[h3];trivial⟩;unfold PySem.W.notCls;rw[h4]
inductive wJ:V->aj->Prop
 |own (C:ai):wJ (.ref C) (.ref C)
 |blt (T:String):wJ (.ty T) (.type T)
def G3(K:aO):List V->Hp->VK->Prop:=λxs H Q=>∃ea C c c' b,xs=[.ref ea,c]/\H ea=ac (.ext (j4 ea C))/\nM K C/\wJ c c'/\og K (.ref C) c'=ac b/\Q (.bl b) H
theorem Fi:gT X (.builtin "isinstance") (G3 X.K):=by
 intro ah s σ H xs us Q I r h;obtain⟨ea,C,c,c',b,rfl,he,k,hc,e,q⟩:=h;obtain⟨u,w',rfl,rx,rt⟩:=vals2 r;cases(show u=dP ea from rx);have hw:w'=c':=by
  cases hc with
  |own C=>exact(show w'=dP C from rt)
  |blt T=>exact(show w'=wq T from rt)
 subst hw;exact kN (PySem.W.FR k.ga k.gt k.cd k.at_ k.gn k.tk k.mo k.mb) I.fR (I.instX he) e (λz=>nomatch z) λtk=>⟨.bl b,H,I.tok tk,rfl,q⟩
theorem Hz:∀{Cs:List ai} {us:List aj},Vals (Cs.map V.ref) us->us=Cs.map .ref
 |[],_,.nil=>rfl
 |T::r,_,.cons a t=>by
  have a:_=dP T:=a;rw[a,Hz t];rfl
def Jp(K:aO):List V->Hp->VK->Prop:=λxs H Q=>∃(ea C tp:ai) (Cs:List ai) (b:Bool),xs=[.ref ea,.ref tp]/\H tp=ac (.tup (Cs.map V.ref))/\H ea=ac (.ext (j4 ea C))/\nM K C/\tG K (.ref C) (Cs.map .ref)=ac b/\Q (.bl b) H
theorem HK:gT X (.builtin "isinstance") (Jp X.K):=by intro ah s σ H xs us Q I r h;obtain⟨ea,C,tp,Cs,b,rfl,ht,he,k,e,q⟩:=h;obtain⟨u,w',rfl,rx,rt⟩:=vals2 r;cases(show u=dP ea from rx);cases(show w'=dP tp from rt);obtain⟨_,ax,rv,o,h1,h2,_,n,h3⟩:=(show d5 X.prog X.w H s.heap tp (.tup (Cs.map V.ref))from I.hok tp _ ht);obtain rfl:=Hz rv;obtain⟨c,d,dt,sl⟩:=o;simp only at h2 h3;subst h2 h3;exact PySem.W.kia_tup (PySem.W.FR k.ga k.gt k.cd k.at_ k.gn k.tk k.mo k.mb) I.fR (I.instX he) h1 e (λz=>nomatch z) λtk=>⟨.bl b,H,I.tok tk,rfl,q⟩
end
end L2
namespace Mi
open PySem
def oQ(i:Nat)(b:String->Option Bool):E:=λe=>match e[i]? with
 | some (ac (.ex c))=>match b c with
  |some k=>.ok (.bl k)
  |none=>.no
 |_=>.no
end Mi
namespace A
open PySem L2 PyProof.Rows So
open Mi (D W Rs Fin gD aD kH Out Tg hW)
variable[Tb:cp]
section
variable{K:aO}{M:Nat->Bool}{b:String->Option Bool}
theorem HP{i:Nat}{e:Mi.Env}{k:D->Prop}(h:Fin (Mi.oQ i b e) k):∃c q,e[i]? = ac (ac (.ex c))/\b c=ac q/\k (.bl q):=by
 unfold Mi.oQ at h;split at h
 ·rename_i c hc;split at h
  ·rename_i q hq;exact⟨c,q,hc,hq,h⟩
  ·exact h.elim
 ·exact h.elim
theorem Fb{i:Nat}{c:V}{c':aj}(hm:M i=false)(hc:wJ c c')(hb:∀x k,b x=ac k->nM K (Tb.cl x)/\og K (.ref (Tb.cl x)) c'=ac k):AE M qV (sv (G3 K) (gm (fQ i) (gm (tC c) ib))) (Mi.oQ i b):=λe σ H Hv Q I h=>by
 obtain⟨x,k,he,hk,q⟩:=HP h;obtain⟨v,hv,a,rfl,ha⟩:=I.nob i _ he hm;obtain⟨h1,h2⟩:=hb x k hk;exact⟨_,hv,a,_,c,c',k,rfl,I.vw.sub _ _ ha,h1,hc,h2,q _ H Hv (.refl I.vw) f7⟩
def Ab:List ai->TA
 |[]=>ib
 |C::r=>gm (tC (.ref C)) (Ab r)
theorem He:∀(Cs:List ai) (σ:L2.St) (H:Hp) (Q:List V->Hp->Prop),Q (Cs.map V.ref) H->Ab Cs σ H Q
 |[],_,_,_,h=>h
 |C::r,σ,H,Q,h=>He r σ H _ h
theorem E6{i:Nat}{Cs:List ai}(hm:M i=false)(hl:Cs.length<=100)(hb:∀x k,b x=ac k->nM K (Tb.cl x)/\tG K (.ref (Tb.cl x)) (Cs.map .ref)=ac k):AE M qV (sv (Jp K) (gm (fQ i) (gm (xq (Ab Cs)) ib))) (Mi.oQ i b):=λe σ H Hv Q I h=>by
 obtain⟨x,k,he,hk,q⟩:=HP h;obtain⟨v,hv,a,rfl,ha⟩:=I.nob i _ he hm;obtain⟨h1,h2⟩:=hb x k hk;refine⟨_,hv,He Cs σ H _ ⟨by rw[aP,er];omega,λp hp=>?_⟩⟩;have g:bx H Hv (upd H p (.tup (Cs.map V.ref))) (upd Hv p (.tup (Cs.map V.ref))):=.new I.vw hp;exact⟨a,_,p,Cs,k,rfl,bS,g.old.at (I.vw.sub _ _ ha) trivial,h1,h2,q _ _ _ g f7⟩
end
end A
namespace Mi
open PySem
end Mi
namespace L2
open PySem PySem.Spec PyProof.Rows
end L2
namespace A
open PySem L2 PyProof.Rows So
open Mi (D W Rs Fin aD)
variable[Tb:cp]
end A
namespace Mi
def rV(m:S):S:=λe=>match m e with
 |.ok (.rt w)=>.ok (.rt w)
 |_=>.no
end Mi
namespace A
open PySem L2 PyProof.Rows So
open Mi (D W Rs Fin aD Out Tg)
variable[Tb:cp]
section
variable{M:Nat->Bool}{κ:Kd}{t:TS}{m:Mi.S}
theorem Sq(y:Nat)(hy:M y=true)(h:AS (λj=>M j && !(j==y)) κ t m):AS M κ t (Mi.rV m):=λH0 Hv0 e σ H Hv D I f=>by
 have nb:∀{j:Nat},(M j && !(j==y))=false->M j=false\/j=y:=λ{j} z=>by
  cases q:M j with
  |false=>exact .inl rfl
  |true=>rw[q]at z;exact .inr (by simpa using z)
 have nt:∀{j:Nat},(M j && !(j==y))=true->M j=true/\j≠y:=λ{j} z=>by simpa using z
 have fin:∀Hv',bx H0 Hv0 H Hv'->R0 (λj=>M j && !(j==y)) e σ H Hv'->t D σ H:=λHv' gw R=>by
  refine h H0 Hv0 e σ H Hv' D ⟨R,gw,λi w a q1 q2 q3=>I.fresh i w a q1 (nt q2).1 q3,λi j w w' a b hij q1 q2 q3 q4 q5 q6=>I.sep i j w w' a b hij q1 q2 (nt q3).1 (nt q4).1 q5 q6⟩ ?_;unfold Mi.rV at f;cases hm:m e with
  |no=>rw[hm]at f;exact f.elim
  |ex z=>rw[hm]at f;exact f.elim
  |ok o=>
   rw[hm]at f;cases o with
   |rt w=>exact f
   |nx e2=>exact f.elim
   |bk e2=>exact f.elim
   |ct e2=>exact f.elim
 have other:(∀w0,e[y]?≠ac (ac w0))->t D σ H:=λaf=>fin Hv I.gw ⟨I.vw,I.len,λj w' z q=>by
  rcases nb q with q|rfl
  ·exact I.nob j w' z q
  ·exact absurd z (af w'),λj w' z q=>I.own j w' z (nt q).1⟩
 cases he:e[y]? with
 |none=>exact other λw0 z=>by rw[he]at z;cases z
 |some ow=>
  cases ow with
  |none=>exact other λw0 z=>by rw[he]at z;cases z
  |some w0=>
   obtain⟨p,Hv',q,I',s,r⟩:=I.Jl hy he;refine fin Hv' I'.gw ⟨I'.vw,I.len,λj w' z q2=>?_,λj w' z q2=>?_⟩
   ·by_cases hj:j=y
    ·subst hj;rw[he]at z;cases z;exact⟨_,q,r⟩
    ·exact I'.nob j w' (by rw[fF (dW hj)];exact z) ((nb q2).resolve_right hj)
   ·obtain⟨m1,hj⟩:=nt q2;exact I'.own j w' (by rw[fF (dW hj)];exact z) m1
end
end A
namespace Mi
open PySem
def iW(a b:Str):Bool:=decide (¬ b.cps.toList<a.cps.toList)
def jM(xs:List Str):List Str:=xs.mergeSort iW
def pf:List D->Rs D
 |[.lst ds]=>(cy (ir ds)).bind λss=>bp (ss.length<64) (.ok (.lst ((jM ss).map D.str)))
 |_=>.no
theorem JY{α:Type}{le:α->α->Prop}(Mq:∀a b,le a b->le b a->a=b):∀(l m:List α),l.Perm m->l.Pairwise le->m.Pairwise le->l=m
 |[],m,h,_,_=>h.symm.eq_nil.symm
 |a::r,[],h,_,_=>nomatch h.eq_nil
 |a::r,b::t,h,hl,hm=>by
  have l1:=jw.mp hl;have m1:=jw.mp hm;have e:a=b:=by
   rcases bZ.mp (h.mem_iff.mp (cW ..))with z|z
   ·exact z
   ·rcases bZ.mp (h.mem_iff.mpr (cW ..))with y|y
    ·exact y.symm
    ·exact Mq _ _ (l1.1 b y) (m1.1 a z)
  subst e;rw[JY Mq r t ((List.perm_cons a).mp h) l1.2 m1.2]
theorem pU{a b:Str}:iW a b=true↔a.cps.toList<=b.cps.toList:=by unfold iW;rw[j6];exact Iff.rfl
theorem NP{x y:Str}(h:x.cps.toList=y.cps.toList):x=y:=by obtain⟨x⟩:=x;obtain⟨y⟩:=y;exact congrArg Str.mk (wy.mp h)
theorem RE(a b:Str)(h:iW a b=true)(k:iW b a=true):a=b:=NP (List.le_antisymm (pU.mp h) (pU.mp k))
theorem IG(a b c:Str)(h:iW a b=true)(k:iW b c=true):iW a c=true:=pU.mpr (List.le_trans (pU.mp h) (pU.mp k))
theorem Nq(a b:Str):(iW a b||iW b a)=true:=by rw[zo,pU,pU];exact List.le_total _ _
theorem vf(xs:List Str):(jM xs).Perm xs:=List.mergeSort_perm xs _
theorem K4(xs:List Str):(jM xs).Pairwise λa b=>iW a b=true:=List.pairwise_mergeSort (λa b c=>IG a b c) (λa b=>Nq a b) xs
theorem E9{xs ys:List Str}(hp:ys.Perm xs)(hs:ys.Pairwise λa b=>iW a b=true):ys=jM xs:=JY RE _ _ (hp.trans (vf xs).symm) hs (K4 xs)
theorem G0{xs ys:List Str}:jM xs=jM ys↔xs.Perm ys:=⟨λh=>(vf xs).symm.trans (h ▸ vf ys),λh=>E9 ((vf xs).trans h) (K4 xs)⟩
theorem EG:∀(l:List Str) (x:Str),L3 x l=true->(x::l).Pairwise λa b=>iW a b=true
 |[],x,_=>C2 ..
 |y::r,x,h=>by
  have h:(!PySem.Spec.ltCps y.cps.toList x.cps.toList&&L3 y r)=true:=h;rw[km,PyProof.Rows.ltCps_eq]at h;have k:iW x y=true:=by unfold iW;have:=h.1;simpa using this
  have t:=EG r y h.2;refine jw.mpr ⟨λz hz=>?_,t⟩;rcases bZ.mp hz with rfl|hz
  ·exact k
  ·exact IG _ _ _ k ((jw.mp t).1 z hz)
theorem OT:∀l:List Str,PyProof.Rows.sortedS l=true->l.Pairwise λa b=>iW a b=true
 |[],_=>DK
 |x::r,h=>EG r x h
end Mi
namespace L2
open PySem PySem.Spec PyProof.Rows
section
variable{X:Cx}
theorem F3:∀{ss:List Str} {ax:List aj},Vals (ss.map V.str) ax->StrsAre ax ss
 |[],_,.nil=>.nil
 |n::r,_,.cons h t=>by
  obtain⟨t1,rfl⟩:=h;exact .cons n t1 (F3 t)
theorem Ff:∀{ss:List Str} {ax:List aj},StrsAre ax ss->Vals (ss.map V.str) ax
 |[],_,.nil=>.nil
 |_::_,_,.cons y t r=>.cons ⟨t,rfl⟩ (Ff r)
end
end L2
namespace A
open PySem L2 PyProof.Rows So
open Mi (D W Rs Fin aD)
variable[Tb:cp]
section
variable{X:Cx}
def GF:List V->Hp->VK->Prop:=λvs H Q=>∃(a:ai) (ss:List Str),vs=[.ref a]/\Lst H a (ss.map V.str)/\ss.length<64/\∀p,H p=af->Q (.ref p) (upd H p (.lst ((Mi.jM ss).map V.str)))
theorem FZ:gT X (.builtin "sorted") GF:=by
 intro ah s σ H xs us Q I r h;obtain⟨a,ss,rfl,hl,h64,q⟩:=h;obtain⟨u,rfl,ru⟩:=vals1 r;cases(show u=dP a from ru);obtain⟨ax,n0,rv,hz,ho⟩:=rJ I hl;have hli:=rv.length;rw[aP]at hli;refine sorted_strs (vs:=ax) (ss:=ss) ⟨_,ho,rfl,_,rfl⟩ (F3 rv) (by omega) λout ss' a1 a2 a3=>?_;obtain⟨e1,he⟩:=sortedAll_at s.heap ax out;have e:=Mi.E9 a2 (Mi.OT ss' a3);subst e;have fr:H (s.heap.objs.size+1)=af:=I.hok.fresh (zz _);refine⟨.ref (s.heap.objs.size+1),_,adopt (fp:=[s.heap.objs.size+1]) (D:=s.heap.objs.size+1) (o:=.lst ((Mi.jM ss).map V.str)) (t':=s.toks) I (λb hb=>?_) (fg.mpr rfl) (λb u _ q=>sortedAll_old q) ⟨?_,out.toList,e1,Ff a1,he⟩,rfl,q _ fr⟩
 ·rw[fg.mp hb];exact I.jP (zz _) fr
 ·rw[aP,(Mi.vf ss).length_eq,er];omega
end
theorem Ii{Hv:Hp}:∀{ds:List D} {ss:List Str} {xs:List V},Mi.ir ds=ac ss->P2 (Rep Hv) ds xs->ds=ss.map D.str/\xs=ss.map V.str
 |[],ss,_,h,.nil=>by cases h;exact⟨rfl,rfl⟩
 |d::r,ss,_,h,.cons k t=>by
  cases d with
  |str z=>
   rw[Mi.ir]at h;cases e:Mi.ir r with
   |none=>rw[e]at h;cases h
   |some q=>
    rw[e]at h;cases h;obtain⟨h1,h2⟩:=Ii e t;rw[nH.mp k,h1,h2];exact⟨rfl,rfl⟩
  |_=>simp[Mi.ir]at h
theorem KY:BN qN GF Mi.pf:=λds vs H Hv Q vw r h=>by
 match ds,r,h with
 |[.lst ds],r,h=>
  obtain⟨v,ev,rr⟩:=mP r;subst ev;obtain⟨p,xs,rfl,l1,r1⟩:=RD.lst vw rr;have h:=aD.mp h;cases e:Mi.ir ds with
  |none=>rw[e]at h;exact h.elim
  |some ss=>
   rw[e]at h;obtain⟨h64,h⟩:=Mi.cR (show Fin (Mi.bp (ss.length<64) _) _ from h);obtain⟨e1,e2⟩:=Ii e r1;subst e2;refine⟨p,ss,rfl,l1,h64,λa ha=>?_⟩;have r2:P2 (Rep Hv) ((Mi.jM ss).map D.str) ((Mi.jM ss).map V.str):=by
    generalize Mi.jM ss=l
    induction l with
    |nil=>exact .nil
    |cons a r ih=>exact .cons (nH.mpr rfl) ih
   obtain⟨g,k⟩:=yz vw r2 ha;exact(Mi.mi h) _ _ _ g k
 |[],_,h=>exact h.elim
 |[.non],_,h=>exact h.elim
 |[.bl _],_,h=>exact h.elim
 |[.int _],_,h=>exact h.elim
 |[.str _],_,h=>exact h.elim
 |[.tup _],_,h=>exact h.elim
 |d::_::_,_,h=>cases d<;>exact(show False from h).elim
end A
namespace Mi
open PySem
def JM(cls:String):S:=λ_=>.ex ⟨cls,[]⟩
end Mi
namespace A
open PySem L2 PyProof.Rows So
open Mi (D W Rs Fin gD aD kH Out Tg hW)
variable[Tb:cp]
section
variable{M:Nat->Bool}{κ:Kd}{t u:TS}{m n:Mi.S}{cl:String->ai}{E:XK}
theorem NS{cls:String}{z:Str}:mz M κ (wish cl E) (λ_ σ H1=>tC (.str z) σ H1 λ_ H2=>∀ea,H2 ea=af->E (.ref (cl cls)) (ac ea) H2) (Mi.JM cls):=λH0 Hv0 e σ H Hv D I h=>
 λea hea=>(show∀H' Hv',bx H0 Hv0 H' Hv'->wish cl E ⟨cls,[]⟩ H' from h) H Hv I.gw ea hea
end
end A
namespace L2
open PySem PySem.Spec PyProof.Rows
end L2
namespace Mi
open PySem
end Mi
namespace A
open PySem L2 PyProof.Rows So
open Mi (D W Rs Fin aD Out Tg)
variable[Tb:cp]
end A
namespace Mi
open PySem
end Mi
namespace L2
open PySem PySem.Spec PyProof.Rows
end L2
namespace A
open PySem L2 PyProof.Rows
open Mi (D W Rs Fin aD)
variable[Tb:cp]
end A
namespace Mi
open PySem
end Mi
namespace L2
open PySem PySem.Spec PyProof.Rows
end L2
namespace A
open PySem L2 PyProof.Rows
open Mi (D W Rs Fin aD)
variable[Tb:cp]
end A
namespace Mi
open PySem
end Mi
namespace A
open PySem L2 PyProof.Rows So
open Mi (D W Rs Fin aD Out Tg)
variable[Tb:cp]
end A
namespace L2
end L2
namespace So
end So
namespace Mi
open PySem
end Mi
namespace L2
end L2
namespace A
end A
namespace L2
end L2
namespace A
end A
namespace L2
end L2
namespace Rv
end Rv
namespace L2
end L2
namespace A
end A
namespace So
end So
namespace L2
end L2
namespace A
end A
namespace Mi
open PySem
end Mi
namespace L2
open PySem PySem.Spec PyProof.Rows
open PySem.Builtin PySem.Builtin.Str
end L2
namespace A
open PySem L2 PyProof.Rows So
open Mi (D W Rs Fin aD)
variable[Tb:cp]
end A
namespace Mi
open PySem
def OD(ys:List Str):Str:=ys.foldl (· ++ ·) eQ
end Mi
namespace L2
open PySem PySem.Spec PyProof.Rows
end L2
namespace A
open PySem L2 PyProof.Rows So
open Mi (D W Rs Fin aD)
variable[Tb:cp]
end A
namespace Mi
end Mi
namespace A
open PySem L2 PyProof.Rows
open Mi (D W Rs Fin aD)
variable[Tb:cp]
end A
namespace Mi
def ur(i j:Nat)(a b:E):S:=λe=>(eX [a,b] e).bind λds=>match ds with
 |[x,y]=>.ok (.nx ((e.set i (ac (.d x))).set j (ac (.d y))))
 |_=>.no
end Mi
namespace A
open PySem L2 PyProof.Rows
open Mi (D W Rs Fin aD)
variable[Tb:cp]{M:Nat->Bool}{κ:Kd}{tr:TA}{a b:Mi.E}
theorem Q8{α β:Type}{F:α->β->Prop}{x y:α}{vs:List β}(r:P2 F [x,y] vs):∃v w,vs=[v,w]/\F x v/\F y w:=by
 cases r with
 |cons rx r=>
  cases r with
  |cons ry r=>
   cases r;exact⟨_,_,rfl,rx,ry⟩
theorem JA(i j:Nat)(hi:M i=false)(hj:M j=false)(ha:AA M qV tr (Mi.eX [a,b])):AS M κ (Iv i j tr) (Mi.ur i j a b):=λH0 Hv0 e σ H Hv D I h=>
 ha e σ H Hv _ I.toR0 ((aD.mp h).mono λds hd vs H1 Hv1 g1 r=>by
  have key:(∃x y,ds=[x,y])\/¬ ∃x y,ds=[x,y]:=Classical.em _;rcases key with ⟨x,y,rfl⟩|no
  ·obtain⟨v,w,rfl,rx,ry⟩:=Q8 r;exact⟨v,w,rfl,hd _ H1 Hv1 (((I.grow g1).set hi rx).set hj ry) g1.vis⟩
  ·exfalso
   match ds,no,hd with
   |[],_,hd=>exact hd
   |[_],_,hd=>exact hd
   |[x,y],no,_=>exact no ⟨x,y,rfl⟩
   |_::_::_::_,_,hd=>exact hd)
end A
namespace A
open PySem L2 PyProof.Rows
section
variable[Tb:cp]
def tv(Hv:Hp):Hp:=λa=>match Hv a with
 |some (.tup xs)=>ac (.tup xs)
 |some (.frz o u)=>ac (.frz o u)
 |_=>af
theorem xh{Hv:Hp}{a:ai}{o:HO}(h:tv Hv a=ac o):Hv a=ac o:=by
 unfold tv at h;cases q:Hv a with
 |none=>rw[q]at h;cases h
 |some u=>
  rw[q]at h;cases u<;>first|exact h|cases h
theorem Ck{Hv:Hp}{a:ai}{xs:List V}(h:Hv a=ac (.tup xs)):tv Hv a=ac (.tup xs):=by unfold tv;rw[h]
theorem Go{Hv:Hp}{a:ai}{o:Obj}{u:HO}(h:Hv a=ac (.frz o u)):tv Hv a=ac (.frz o u):=by unfold tv;rw[h]
theorem CA{Hv:Hp}{a:ai}{o:HO}(h:tv Hv a=ac o):(∃xs,o=.tup xs)\/∃b u,o=.frz b u:=by
 unfold tv at h;cases q:Hv a with
 |none=>rw[q]at h;cases h
 |some u=>
  rw[q]at h;cases u<;>first|(cases h;exact .inl ⟨_,rfl⟩)|(cases h;exact .inr ⟨_,_,rfl⟩)|cases h
theorem Vw.tv{H Hv:Hp}(v:Vw H Hv):Vw H (tv Hv):=⟨λa o h=>v.sub a o (xh h),λa xs h=>Ck (v.tup a xs h),λa o u h=>Go (v.frz a o u h),v.cd,λa o h=>v.nv a o (xh h)⟩
def jn(Hv Hv':Hp):Hp:=λa=>match Hv a with
 |some o=>ac o
 |none=>Hv' a
theorem sM{Hv Hv':Hp}{a:ai}{o:HO}(h:Hv a=ac o):jn Hv Hv' a=ac o:=by unfold jn;rw[h]
theorem rF{Hv Hv':Hp}{a:ai}(h:Hv a=af):jn Hv Hv' a=Hv' a:=by unfold jn;rw[h]
theorem bx.join{H Hv H' Hv':Hp}(v:Vw H Hv)(g:bx H (A.tv Hv) H' Hv'):bx H Hv H' (jn Hv Hv'):=by
 have up:∀{a o},Hv a=ac o->H' a=ac o:=λ{a o} h=>g.old.nt a o (v.sub a o h) (v.nv a o h);refine⟨g.old,λa o h=>sM h,⟨λa o h=>?_,λa xs h=>?_,λa o u h=>?_,g.vw.cd,λa o h=>?_⟩,λa o h n=>?_⟩
 ·cases q:Hv a with
  |none=>rw[rF q]at h;exact g.vw.sub a o h
  |some u=>rw[sM q]at h;cases h;exact up q
 ·cases q:Hv a with
  |none=>rw[rF q];exact g.vw.tup a xs h
  |some u=>rw[sM q];have:=up q;rw[h]at this;exact this.symm
 ·cases q:Hv a with
  |none=>rw[rF q];exact g.vw.frz a o u h
  |some w=>rw[sM q];have:=up q;rw[h]at this;exact this.symm
 ·cases q:Hv a with
  |none=>rw[rF q]at h;exact g.vw.nv a o h
  |some u=>rw[sM q]at h;cases h;exact v.nv a o q
 ·rw[rF n];refine g.hid a o h ?_;unfold A.tv;rw[n]
theorem bx.lists{H Hv H' Hv':Hp}(g:bx H (A.tv Hv) H' Hv'){a:ai}{xs:List V}(h:Hv' a=ac (.lst xs)):H a=af:=by
 cases q:H a with
 |none=>rfl
 |some o=>
  cases z:A.tv Hv a with
  |none=>rw[g.hid a o q z]at h;cases h
  |some u=>
   have e:=g.vis a u z;rw[h]at e;cases e;rcases CA z with ⟨_,k⟩|⟨_,_,k⟩<;>cases k
theorem Px{H Hv H' Hv':Hp}(v:Vw H Hv)(g:bx H (A.tv Hv) H' Hv'):dC Hv' (jn Hv Hv'):=λa o h=>by
 cases q:Hv a with
 |none=>rw[rF q];exact h
 |some u=>
  rw[sM q];have:=g.old.nt a u (v.sub a u q) (v.nv a u q);rw[g.vw.sub a o h]at this;exact this.symm
end
end A
namespace A
open PySem L2 PyProof.Rows
open Mi (D)
mutual
def mG:D->Bool
 |.lst _=>false
 |.tup ds=>mM ds
 |_=>true
def mM:List D->Bool
 |[]=>true
 |d::r=>mG d&&mM r
end
section
variable[Tb:cp]
mutual
theorem Gv{Hv:Hp}:∀{d:D} {v:V},mG d=true->Rep Hv d v->Rep (tv Hv) d v
 |.non,v,_,h=>by rw[Rep]at h ⊢;exact h
 |.bl b,v,_,h=>by rw[Rep]at h ⊢;exact h
 |.int i,v,_,h=>by rw[Rep]at h ⊢;exact h
 |.str x,v,_,h=>by rw[Rep]at h ⊢;exact h
 |.lst ds,v,n,h=>by rw[mG]at n;cases n
 |.tup ds,v,n,h=>by
  rw[Rep]at h ⊢;rw[mG]at n;obtain⟨a,xs,e,q,r⟩:=h;exact⟨a,xs,e,Ck q,K8 n r⟩
theorem K8{Hv:Hp}:∀{ds:List D} {vs:List V},mM ds=true->bE Hv ds vs->bE (tv Hv) ds vs
 |[],vs,_,h=>by rw[bE]at h ⊢;exact h
 |d::ds,vs,n,h=>by
  rw[bE]at h ⊢;rw[mM,km]at n;obtain⟨v,r,e,p,q⟩:=h;exact⟨v,r,e,Gv n.1 p,K8 n.2 q⟩
end
def kp(Hv H:Hp):Hp:=λa=>match Hv a with
 |some o=>ac o
 |none=>tv H a
theorem uX{Hv H:Hp}{a:ai}{o:HO}(h:Hv a=ac o):kp Hv H a=ac o:=by unfold kp;rw[h]
theorem uA{Hv H:Hp}{a:ai}(h:Hv a=af):kp Hv H a=tv H a:=by unfold kp;rw[h]
def oO(H H1 H2:Hp):Prop:=∀a,H2 a=H1 a\/(H a=af/\(∃xs,H1 a=ac (.lst xs))/\∃ys,H2 a=ac (.lst ys))
theorem oO.refl{H H1:Hp}:oO H H1 H1:=λ_=>.inl rfl
theorem oO.put{H H1 H2:Hp}(e:oO H H1 H2){p:ai}{xs ys:List V}(h:H p=af)(q:H2 p=ac (.lst xs)):oO H H1 (upd H2 p (.lst ys)):=λa=>by
 by_cases z:a=p
 ·subst z;refine .inr ⟨h,?_,_,bS⟩;rcases e a with k|⟨_,k,_⟩
  ·exact⟨xs,by rw[<- k];exact q⟩
  ·exact k
 ·rw[aX z];exact e a
theorem bx.emptied{H Hv H1 Hv1 H2:Hp}(v:Vw H Hv)(g:bx H Hv H1 Hv1)(e:oO H H1 H2):bx H Hv H2 (kp Hv H2):=by
 have keep:∀{a o},H a=ac o->H2 a=H1 a:=λ{a o} h=>by
  rcases e a with k|⟨k,_⟩
  ·exact k
  ·rw[h]at k;cases k
 have same:∀{a o},H1 a=ac o->(∀xs,o≠.lst xs)->H2 a=ac o:=λ{a o} h n=>by
  rcases e a with k|⟨_,⟨xs,k⟩,_⟩
  ·rw[k];exact h
  ·rw[h]at k;cases k;exact absurd rfl (n xs)
 have back:∀{a o},H2 a=ac o->(∀xs,o≠.lst xs)->H1 a=ac o:=λ{a o} h n=>by
  rcases e a with k|⟨_,_,ys,k⟩
  ·rw[<- k];exact h
  ·rw[h]at k;cases k;exact absurd rfl (n ys)
 have up:∀{a o},Hv a=ac o->H2 a=ac o:=λ{a o} h=>by
  rw[keep (v.sub a o h)];exact g.old.nt a o (v.sub a o h) (v.nv a o h)
 refine⟨⟨λa o h n=>?_,λa h=>?_,λa w ps h=>?_⟩,λa o h=>uX h,⟨λa o h=>?_,λa xs h=>?_,λa o u h=>?_,⟨λr hr=>?_,λT q ps h=>?_,λa o xs h=>?_⟩,λa o h=>?_⟩,λa o h n=>?_⟩
 ·rw[keep h];exact g.old.nt a o h n
 ·rcases e a with k|⟨k,_⟩
  ·rw[k]at h;exact g.old.dom a h
  ·exact k
 ·rw[keep h];exact g.old.tb a w ps h
 ·cases q:Hv a with
  |none=>rw[uA q]at h;exact xh h
  |some u=>rw[uX q]at h;cases h;exact up q
 ·cases q:Hv a with
  |none=>rw[uA q];exact Ck h
  |some u=>rw[uX q];have:=up q;rw[h]at this;exact this.symm
 ·cases q:Hv a with
  |none=>rw[uA q];exact Go h
  |some w=>rw[uX q];have:=up q;rw[h]at this;exact this.symm
 ·obtain⟨ps,k⟩:=g.vw.cd.has r hr;exact⟨ps,same k (λ_ z=>by cases z)⟩
 ·obtain⟨t,k⟩:=g.vw.cd.cd T q ps (back h (λ_ z=>by cases z));refine⟨t,λpos x z=>?_⟩;obtain⟨c,c1,c2⟩:=k pos x z;exact⟨c,c1,same c2 (λ_ z=>by cases z)⟩
 ·exact g.vw.cd.fz a o xs (back h (λ_ z=>by cases z))
 ·cases q:Hv a with
  |none=>
   rw[uA q]at h;rcases CA h with ⟨_,k⟩|⟨_,_,k⟩<;>subst k<;>trivial
  |some u=>rw[uX q]at h;cases h;exact v.nv a o q
 ·rw[uA n];cases z:tv H2 a with
  |none=>rfl
  |some u=>
   exfalso;have e1:=xh z;rw[keep h]at e1;rcases CA z with ⟨xs,k⟩|⟨b,w,k⟩
   ·subst k;by_cases t:NT o
    ·have:=g.old.nt a o h t;rw[e1]at this;cases this;rw[v.tup a xs h]at n;cases n
    ·cases o<;>first|exact t trivial|skip
     obtain⟨_,y⟩:=g.old.tb a _ _ h;rw[e1]at y;cases y
   ·subst k;by_cases t:NT o
    ·have:=g.old.nt a o h t;rw[e1]at this;cases this;rw[v.frz a b w h]at n;cases n
    ·cases o<;>first|exact t trivial|skip
     obtain⟨_,y⟩:=g.old.tb a _ _ h;rw[e1]at y;cases y
end
end A
namespace A
end A
namespace Mi
end Mi
namespace A
open PySem L2 PyProof.Rows
open Mi (D W Rs Fin aD Out)
section
variable[Tb:cp]{M:Nat->Bool}{κ:Kd}
theorem u4{e:Mi.Env}{i j k:Nat}{w:W}(h:((e.set i af).set j af)[k]? = ac (ac w)):k≠i/\k≠j/\e[k]? = ac (ac w):=by
 have a:k≠j:=λz=>by
  subst z;rw[Db]at h;rw[a8 rfl]at h;split at h<;>cases h
 rw[fF (dW a)]at h;have b:k≠i:=λz=>by
  subst z;rw[Db]at h;rw[a8 rfl]at h;split at h<;>cases h
 rw[fF (dW b)]at h;exact⟨b,a,h⟩
theorem R1.Oc{H0 Hv0:Hp}{e:Mi.Env}{σ σ':L2.St}{H Hv:Hp}{i j:Nat}(I:R1 M H0 Hv0 e σ H Hv)(hl:σ'.length = σ.length)(h:∀k,k≠i->k≠j->σ'[k]? = σ[k]?):R1 M H0 Hv0 ((e.set i af).set j af) σ' H Hv:=by
 refine⟨⟨I.vw,by rw[hl,I.len,kh,kh],λk w q m=>?_,λk w q m=>?_⟩,I.gw,λk w a q m z=>?_,λk k' w w' a b n q q' m m' z z'=>?_⟩
 ·obtain⟨n1,n2,q⟩:=u4 q;rw[h k n1 n2];exact I.nob k w q m
 ·obtain⟨n1,n2,q⟩:=u4 q;rw[h k n1 n2];exact I.own k w q m
 ·obtain⟨n1,n2,q⟩:=u4 q;rw[h k n1 n2]at z;exact I.fresh k w a q m z
 ·obtain⟨n1,n2,q⟩:=u4 q;obtain⟨n3,n4,q'⟩:=u4 q';rw[h k n1 n2]at z;rw[h k' n3 n4]at z';exact I.sep k k' w w' a b n q q' m m' z z'
end
end A
namespace A
end A
namespace A
open PySem L2 PyProof.Rows
open Mi (D W Rs Fin aD Out)
section
variable[Tb:cp]{M:Nat->Bool}
def qT(j:Nat):Kd:=λH H' Hv' w v=>qV H H' Hv' w v/\∀ds,w=.d (.tup ds)->∃p vs a xs,v=.ref p/\Hv' p=ac (.tup vs)/\vs[j]? = ac (.ref a)/\Hv' a=ac (.lst xs)/\H a=af
def spT(j:Nat)(f:Mi.Fn):Sp:=λvs H Q _=>∃Hv ws,Vw H Hv/\P2 (gX Hv) ws vs/\Fin (f ws) (λw=>∀v H' Hv',bx H Hv H' Hv'->qT j H H' Hv' w v->Q v H')
theorem SE{j:Nat}{f:Mi.Fn}{vs:List V}{H:Hp}{Q:VK}{E:XK}(h:bW f vs H Q E):spT j f vs H Q E:=by obtain⟨Hv,ws,v,p,q⟩:=h;exact⟨Hv,ws,v,p,q.mono λw z v H' Hv' g k=>z v H' Hv' g k.1⟩
theorem _root_.L2.bI.td{P:bH}{w:bt}{K:aO}{mg:Str->Option aj}{base:aY}{CX:iu}{k j:Nat}{x:Str}{ps:List Str}{f:Mi.Fn}(C:bI P w K mg base CX k x ps (spT j f)):bI P w K mg base CX k x ps (bW f):=by obtain⟨a,fd,h1,h2,h3,h4⟩:=C.ex;exact⟨a,fd,h1,h2,h3,h4.imp λvs H Q E z=>SE z⟩
theorem Va{j:Nat}{f:Mi.S}{k n:Nat}{vs:List V}{H:Hp}{Q:VK}{E:XK}(h:spT j (Mi.dG k n f) vs H Q E):vs.length=k:=by obtain⟨Hv,ws,_,p,q⟩:=h;rw[<- p.len];exact(Mi.cR q).1
theorem Ur{j:Nat}{N:List Str}{k:Nat}{t:TS}{m:Mi.S}(hA:AS M (qT j) t m)(hM:∀i,i<k->M i=false){vs:List V}{H:Hp}{Q:VK}{E:XK}(h:spT j (Mi.dG k N.length m) vs H Q E) :
 t { nx:=λ_ H'=>Q .non H',rt:=Q } (start N vs) H:=by
 obtain⟨Hv,ws,vw,p,q⟩:=h;obtain⟨hk,q⟩:=Mi.cR q;refine hA H Hv _ _ H Hv _ (xi vw p hk hM) ((aD.mp q).mono λo ho=>?_);cases o with
 |nx e=>exactλσ H' Hv' I s=>ho _ H' Hv' I.gw ⟨u0,λds z=>by cases z⟩
 |rt w=>exactλv H' Hv' g r=>ho v H' Hv' g r
 |bk e=>exact ho.elim
 |ct e=>exact ho.elim
theorem K1{j:Nat}:AS M (qT j) (nQ (tC .non)) (Mi.br (Mi.wD (Mi.mC .non))):=λH0 Hv0 e σ H Hv D I h=>h _ H Hv I.gw ⟨u0,λds z=>by cases z⟩
def Cj:List Nat->TA
 |[]=>ib
 |k::r=>gm (fQ k) (Cj r)
theorem Fm{σ:L2.St}{H:Hp}:∀{ks:List Nat} {vs:List V} {Q:List V->Hp->Prop},P2 (λk v=>σ[k]? = ac (ac v)) ks vs->Q vs H->Cj ks σ H Q
 |[],vs,Q,h,q=>by cases h;exact q
 |k::r,vs,Q,h,q=>by
  cases h with
  |cons x t=>exact⟨_,x,Fm (Q:=λl H=>Q (_::l) H) t q⟩
theorem Hl{j:Nat}(ks:List Nat)(y:Nat)(hy:M y=true)(hk:∀k∈ks,k=y\/M k=false)(hj:ks[j]? = ac y):AS M (qT j) (nQ (xq (Cj ks))) (Mi.br (Mi.wD (Mi.mN Mi.dTup (ks.map Mi.mV)))):=λH0 Hv0 e σ H Hv Dn I h=>by
 obtain⟨ds,hds,h⟩ : ∃ds,P2 (λk d=>e[k]? = ac (ac (W.d d))) ks ds/\Fin (Mi.dTup ds) (λd=>hO M (qT j) H0 Hv0 Dn Hv (.rt (.d d))):=by
  have h:=aD.mp (aD.mp (aD.mp h));have go:∀(ks:List Nat) {Q:List D->Prop},Fin (Mi.eX (ks.map Mi.mV) e) Q->∃ds,P2 (λk d=>e[k]? = ac (ac (W.d d))) ks ds/\Q ds:=λks=>by
   induction ks with
   |nil=>intro Q q;exact⟨[],.nil,q⟩
   |cons k r ih=>
    intro Q q;have q:=aD.mp q;obtain⟨d,hd,q⟩ : ∃d,e[k]? = ac (ac (W.d d))/\Fin ((Mi.eX (r.map Mi.mV) e).bind λxs=>.ok (d::xs)) Q:=by
     unfold Mi.mV at q;cases hk:e[k]? with
     |none=>rw[hk]at q;exact q.elim
     |some o=>
      cases o with
      |none=>rw[hk]at q;exact q.elim
      |some w=>
       cases w with
       |d x=>rw[hk]at q;exact⟨x,rfl,q⟩
       |_=>rw[hk]at q;exact q.elim
    obtain⟨ds,h1,h2⟩:=ih (aD.mp q);exact⟨d::ds,.cons hd h1,h2⟩
  obtain⟨ds,h1,h2⟩:=go ks h;exact⟨ds,h1,h2.mono λd z=>z⟩
 obtain⟨hz,h⟩:=Mi.cR h;obtain⟨dy,hdy,ey⟩:=hds.getL hj;obtain⟨vy,qy,a,o,rfl,ha,hn,hc⟩:=I.own y _ ey hy;have hfr:=I.fresh y _ a ey hy qy;cases dy with
 |lst dl=>
  cases o with
  |lst xs=>
   have hc:P2 (Rep Hv) dl xs:=hc;obtain⟨vw2,sm⟩:=I.vw.show ha hn trivial;have gw2:bx H0 Hv0 H (upd Hv a (.lst xs)):=⟨I.gw.old,I.gw.vis.trans sm,vw2,λb o q n=>by
    by_cases hb:b=a
    ·subst hb;rw[hfr]at q;cases q
    ·rw[aX hb];exact I.gw.hid b o q n⟩
   obtain⟨vs,hvs,hr⟩ : ∃vs,P2 (λk v=>σ[k]? = ac (ac v)) ks vs/\P2 (Rep (upd Hv a (.lst xs))) ds vs:=by
    have go:∀{ks:List Nat} {ds:List D},(∀k∈ks,k=y\/M k=false)->P2 (λk d=>e[k]? = ac (ac (W.d d))) ks ds->∃vs,P2 (λk v=>σ[k]? = ac (ac v)) ks vs/\P2 (Rep (upd Hv a (.lst xs))) ds vs:=λ{ks ds} hk h=>by
     induction h with
     |nil=>exact⟨[],.nil,.nil⟩
     | @cons k d l m x t ih=>
      obtain⟨vs,h1,h2⟩:=ih λk hk'=>hk k (eL _ hk');rcases hk k cW with rfl|mk
      ·rw[ey]at x;cases x;exact⟨.ref a::vs,.cons qy h1,.cons (lu.mpr ⟨a,xs,rfl,.inl bS,f9 sm hc⟩) h2⟩
      ·obtain⟨v,q,z⟩:=I.nob k _ x mk;exact⟨v::vs,.cons q h1,.cons (oU sm z) h2⟩
    exact go hk hds
   have hvl:vs.length<=sizeLine:=by rw[<- hr.len,er];exact hz
   have vj:vs[j]? = ac (.ref a):=by obtain⟨v,h1,h2⟩:=hvs.getL hj;rw[qy]at h2;cases h2;exact h1
   refine Fm hvs ⟨hvl,λp hp=>?_⟩;have g2:bx H (upd Hv a (.lst xs)) (upd H p (.tup vs)) (upd (upd Hv a (.lst xs)) p (.tup vs)):=.new vw2 hp;have np:a≠p:=λz=>by subst z;rw[ha]at hp;cases hp
   exact h (.ref p) _ _ (gw2.trans g2) ⟨j1.mpr ⟨p,vs,rfl,bS,f9 g2.vis hr⟩,λ_ _=>⟨p,vs,a,xs,rfl,bS,vj,by rw[aX np,bS],hfr⟩⟩
  |_=>exact(show False from hc).elim
 |_=>cases o<;>exact(show False from hc).elim
end
end A
namespace Mi
def nG:List W->Bool
 |[]=>true
 |.d d::r=>A.mG d&&nG r
 |_=>false
def uZ:D->Bool
 |.non=>true
 |.tup [_,_,.lst hs,_,.lst (.str _::_)]=>decide (hs.length<16777216)
 |_=>false
def xc:D->Bool
 |.tup _=>true
 |_=>false
def x9:Out->Rs Out
 |.rt w=>.ok (.rt w)
 |_=>.no
def qK(i:Nat)(fn:Fn)(ws:List EW)(c1:C)(f1:S)(c2 c3:C)(f3 r:S):S:=λe=>
 (cG ws e).bind λvs=>bp (nG vs=true) ((fn vs).bind λw=>(uR w).bind λd=>bp (uZ d=true/\i<e.length)
  ((c1 (e.set i (ac (.d d)))).bind λb1=>if b1=true then(f1 (e.set i (ac (.d d)))).bind x9 else
   (c2 (e.set i (ac (.d d)))).bind λb2=>if b2=true then bp (xc d=true) ((c3 (e.set i (ac (.d d)))).bind λb3=>if b3=true then(f3 (e.set i (ac (.d d)))).bind x9 else r ((e.set i af).set i af))
    else r ((e.set i af).set i af)))
end Mi
namespace A
open PySem L2 PyProof.Rows
open Mi (D W Rs Fin aD Out)
section
variable[Tb:cp]{M:Nat->Bool}{κ:Kd}
theorem EV{Hv:Hp}:∀{ws:List W} {vs:List V},Mi.nG ws=true->P2 (gX Hv) ws vs->P2 (gX (tv Hv)) ws vs
 |[],_,_,h=>by cases h;exact .nil
 |w::r,_,n,h=>by
  cases h with
  |cons x t=>
   cases w with
   |d d=>
    have n:(mG d&&Mi.nG r)=true:=n;rw[km]at n;exact .cons (Gv n.1 x) (EV n.2 t)
   |_=>cases n
theorem Ht{H0 Hv0:Hp}{Dn Dm:Ends}{Hv Hv':Hp}{r:Rs Out}(h:Fin (r.bind Mi.x9) (hO M κ H0 Hv0 Dn Hv))(e:Dm.rt=Dn.rt):Fin r (hO M κ H0 Hv0 Dm Hv'):=(aD.mp h).mono λo ho=>by
 cases o with
 |rt w=>exactλv H' Hv' g q=>by rw[e];exact ho v H' Hv' g q
 |_=>exact ho.elim
theorem Tf{K:aO}{z:Str}{fn:Mi.Fn}{E:XK}{tr:TA}{ws:List Mi.EW}{tc1 tc2 tc3:TT}{c1 c2 c3:Mi.C}{tf1 tf3 tt:TS}{f1 f3 r:Mi.S}(i:Nat)(hmi:M i=false)
 (ha:AAW M qV tr (Mi.cG ws)) (h1:AT M tc1 c1) (hf1:AS M κ tf1 f1) (h2:AT M tc2 c2) (h3:AT M tc3 c3) (hf3:AS M κ tf3 f3) (hr:AS M κ tt r) :
 AS M κ (pz (l5 (lm (spT 2 fn) [] E tr) (i3 i)) (pz (sT tc1 tf1 vB) (pz (sT tc2 (pz (sT tc3 tf3 vB) (pz (nW (qj K "list" xy (oD (vO K) (fQ i) (tC (.int 2))) (gm (tC (.str z)) ib))) (nW (wY K "list" Ko (oD (vO K) (fQ i) (tC (.int 4))))))) vB) tt))) (Mi.qK i fn ws c1 f1 c2 c3 f3 r):=λH0 Hv0 e σ H Hv Dn I h=>by
 refine ha e σ H Hv _ I.toR0 ((aD.mp h).mono λwv hw vs H1 Hv1 g1 rx=>?_);obtain⟨nw,hw⟩:=Mi.cR hw;rw[i8];refine⟨tv Hv1,wv,g1.vw.tv,EV nw rx,(aD.mp hw).mono λw hw v H2 Hv2 g k=>?_⟩;obtain⟨d,rfl,hw⟩:=E7 (aD.mp hw);obtain⟨⟨hs,hi⟩,hw⟩:=Mi.cR hw;have gj:=bx.join g1.vw g;have I1:=((I.grow g1).grow gj).set hmi (qm (Px g1.vw g) k.1);have upg:∀{Hx:Hp} {o:Out},dC Hv Hx->hO M κ H0 Hv0 Dn Hv o->hO M κ H0 Hv0 Dn Hx o:=λs q=>q.up s;have out:∀{σ':L2.St} {H3 Hv3:Hp},bx H1 Hv1 H3 Hv3->σ'.length = σ.length->(∀k,k≠i->k≠i->σ'[k]? = σ[k]?)->Fin (r ((e.set i af).set i af)) (hO M κ H0 Hv0 Dn Hv)->tt Dn σ' H3:=λ{σ' H3 Hv3} g3 hl hk q=>
  hr H0 Hv0 _ σ' H3 Hv3 Dn (((I.grow g1).grow g3).Oc hl hk) (Fin.mono q λo y=>y.up (g1.vis.trans g3.vis))
 have sl:(σ.set i (ac v)).length = σ.length:=kh;have sk:∀k,k≠i->k≠i->(σ.set i (ac v))[k]? = σ[k]?:=λk n _=>fF (dW n);refine h1 _ _ _ _ _ I1.toR0 ((aD.mp hw).mono λb1 hb H3 Hv3 g3=>?_);have g13:=gj.trans g3;cases b1 with
 |true=>exact hf1 H0 Hv0 _ _ H3 Hv3 _ (I1.grow g3) (Ht (Dn:=Dn) (Mi.lZ hb) rfl)
 |false=>
  have hb:Fin ((c2 (e.set i (ac (.d d)))).bind λb2=>if b2=true then Mi.bp (Mi.xc d=true) ((c3 (e.set i (ac (.d d)))).bind λb3=>if b3=true then(f3 (e.set i (ac (.d d)))).bind Mi.x9 else r ((e.set i af).set i af))else r ((e.set i af).set i af)) (hO M κ H0 Hv0 Dn Hv):=hb;refine h2 _ _ _ _ _ (I1.grow g3).toR0 ((aD.mp hb).mono λb2 hb2 H4 Hv4 g4=>?_);have g14:=g13.trans g4;cases b2 with
  |false=>exact out g14 sl sk hb2
  |true=>
   obtain⟨ht,hb2⟩:=Mi.cR (show Fin (Mi.bp (Mi.xc d=true) _) _ from hb2);refine h3 _ _ _ _ _ ((I1.grow g3).grow g4).toR0 ((aD.mp hb2).mono λb3 hb3 H5 Hv5 g5=>?_);have g15:=g14.trans g5;cases b3 with
   |true=>exact hf3 H0 Hv0 _ _ H5 Hv5 _ (((I1.grow g3).grow g4).grow g5) (Ht (Dn:=Dn) (Mi.lZ hb3) rfl)
   |false=>
    cases d with
    |tup ds=>
     obtain⟨p,vt,a,xs,rfl,hp,hj,hax,han⟩:=k.2 ds rfl;obtain⟨p',vt',e1,hp',rd⟩:=j1.mp (show Rep Hv2 (.tup ds) (.ref p)from k.1);cases e1;rw[hp]at hp';cases hp';obtain⟨d0,d1,hs2,d3,s0,rs,rfl,hl2⟩ : ∃d0 d1 hs2 d3 s0 rs,ds=[d0,d1,.lst hs2,d3,.lst (.str s0::rs)]/\hs2.length<16777216:=by
      revert hs
      unfold Mi.uZ;split
      ·rename_i q;intro _;cases q
      ·rename_i q;intro hs;cases q;exact⟨_,_,_,_,_,_,rfl,uw hs⟩
      ·intro hs;cases hs
     obtain⟨v4,hv4,r4⟩:=rd.getL (i:=4) rfl;obtain⟨v2,hv2,r2⟩:=rd.getL (i:=2) rfl;rw[hj]at hv2;cases hv2;have xl:xs.length=hs2.length:=by
      obtain⟨a',xs',e2,l2,p2⟩:=lu.mp r2;cases e2;rcases l2 with l2|⟨ob,l2⟩
      ·rw[hax]at l2;cases l2;exact p2.len.symm
      ·rw[hax]at l2;cases l2
     obtain⟨b,ys,rfl,lb,pb⟩:=lu.mp r4;have hb2:Hv2 b=ac (.lst ys):=by
      rcases lb with lb|⟨ob,lb⟩
      ·exact lb
      ·exfalso;cases pb with
       |cons q1 q2=>
        rw[nH]at q1;subst q1;obtain⟨t,ht⟩:=g.vw.cd.fz b ob _ (g.vw.sub _ _ lb) _ (cW ..);cases ht
     have hbn:H1 b=af:=g.lists hb2;have at5:∀{x:ai} {o:HO},Hv2 x=ac o->NT o->H5 x=ac o:=λ{x o} q n=>g5.old.at (g4.old.at (g3.old.at (g.vw.sub _ _ q) n) n) n;have p5:=at5 hp trivial;have a5:=at5 hax trivial;have b5:=at5 hb2 trivial;have si:(σ.set i (ac (.ref p)))[i]? = ac (ac (.ref p)):=mT (by rw[I.len];exact hi);have npa:p≠a:=λq=>by rw[q,a5]at p5;cases p5
     have xz:xs.length<sizeLine:=by rw[er,xl];exact hl2
     have i2:cC vt 2=ac (.ref a):=by
      have hl:=rd.len;have hl:vt.length=5:=hl.symm;show(L2.cC vt 2:Option V)=_;simp only[L2.cC]
      first|(simpa [hl]using hj)|(simp[hl];exact hj)
     have i4:cC vt 4=ac (.ref b):=by
      have hl:=rd.len;have hl:vt.length=5:=hl.symm;show(L2.cC vt 4:Option V)=_;simp only[L2.cC]
      first|(simpa [hl]using hv4)|(simp[hl];exact hv4)
     obtain⟨ys',b6⟩ : ∃ys',upd H5 a (.lst (xs++[.str z])) b=ac (.lst ys'):=by
      by_cases q:b=a
      ·subst q;exact⟨_,bS⟩
      ·exact⟨ys,by rw[aX q];exact b5⟩
     have em:oO H1 H5 (upd (upd H5 a (.lst (xs++[.str z]))) b (.lst [])):=(oO.refl.put han a5).put hbn b6;refine⟨.ref p,si,.inr (.inl ⟨p,vt,2,.ref a,rfl,rfl,.inl (.inl p5),i2,?_⟩)⟩;refine⟨.inl ⟨rfl,xs,.inl (.inl a5)⟩,a,xs,.str z,rfl,rfl,a5,xz,?_⟩;refine⟨.ref p,si,.inr (.inl ⟨p,vt,4,.ref b,rfl,rfl,.inl (.inl (by rw[aX npa];exact p5)),i4,?_⟩)⟩;refine⟨.inl ⟨rfl,ys',.inl (.inl b6)⟩,b,ys',rfl,rfl,b6,?_⟩;exact out (bx.emptied g1.vw g15 em) sl sk hb3
    |_=>cases ht
end
end A
namespace Mi
def Cq:D->D->Rs D
 |.bl a,.bl b=>.ok (.bl (a==b))
 |_,_=>.no
end Mi
namespace L2
open PySem PySem.Spec PyProof.Rows
variable{X:Cx}
def Jm:R2:=λx y H Q=>∃a b,x=.bl a/\y=.bl b/\Q (.bl (a==b)) H
theorem Ql:dO X (compareOp .Is) Jm:=by intro ah s σ H x y v u Q I rx ry h;obtain⟨a,b,rfl,rfl,q⟩:=h;cases rx;cases ry;show wpAny _ _ (compareOp .Is (.bool a) (.bool b)) _ _ s;unfold compareOp isSame;exact cE (sC I q (by cases a<;>cases b<;>rfl))
end L2
namespace A
open PySem L2 PyProof.Rows
variable[Tb:cp]
theorem Sj:B2 qV Jm Mi.Cq:=λx y v u H Hv Q vw rx ry h=>by
 cases x with
 | bl a=>cases y with
  |bl b=>
   cases RD.bl rx;cases RD.bl ry;exact⟨a,b,rfl,rfl,h _ H Hv (.refl vw) f7⟩
  |_=>exact h.elim
 |_=>cases y<;>exact h.elim
end A
namespace Mi
end Mi
namespace L2
open PySem PySem.Spec PyProof.Rows
end L2
namespace A
open PySem L2 PyProof.Rows
open Mi (D W Rs Fin aD Tg)
variable[Tb:cp]{M:Nat->Bool}{κ:Kd}{K:aO}
end A
namespace Mr
open PySem Mi
def Hj:S:=
 (cU (bA (mV 1)) (.n 2)
 (bq (cB (m2 cQ (mV 2) (mV 0)))
 wM
 bw))
def lh:Fn:=dG 2 3 Hj
def Gn:S:=
 (aE (mn (aN lh [(wD (m2 au (mV 0) (mC (.int 0)))),(wD (mN b9 [(mV 1)]))]))
 (br (wD (mN pe [(cq [ac 1,af,af] (bA (m2 au (mV 0) (mC (.int 1)))) (.t [1,2]) (cB (m2 bK (mV 2) (mV 0))) (mV 1))]))))
def sI:Fn:=dG 2 2 Gn
def JP:S:=
 (aE (bf 2 (mC (.str "etaoinshrdlucmfwypvbgkqjxz")))
 (aE (bq (cB (m2 gR (m2 bG (mV 0) (mC (.int 4))) (mC (.int 2))))
 (aE (bf 3 (m2 xY (mC (.str "")) (cq [ac 2,ac 0,af] (fo (mC (.int 8))) (.n 2) eK (m2 au (mV 0) (m2 bG (m2 c5 (mV 1) (m2 bc (mC (.int 4)) (m2 dM (mC (.int 3)) (mV 2)))) (mC (.int 26)))))))
 (aE (bq (cB (m2 bK (m2 bG (mV 0) (mC (.int 4))) (mC (.int 0))))
 (br (wD (cq [ac 3,af] (fo (mV 1)) (.n 1) eK (bV cx (mV 0) af (ac (m2 bc (mV 1) (mC (.int 1))))))))
 bw)
 (br (wD (cq [ac 3,af] (fo (mV 1)) (.n 1) eK (bV cx (mV 0) (ac (m2 gW (mC (.int 7)) (mV 1))) af))))))
 bw)
 (aE (bf 4 (m2 bG (m2 c5 (mV 0) (mC (.int 4))) (mC (.int 8))))
 (aE (bf 5 (m2 xY (mC (.str "")) (cq [ac 2,ac 0,af] (fo (mV 4)) (.n 2) eK (m2 au (mV 0) (m2 bG (m2 bc (m2 bc (m2 c5 (mV 1) (mC (.int 32))) (m2 dM (mC (.int 5)) (mV 2))) (m2 dM (mV 2) (mV 2))) (mC (.int 26)))))))
 (aE (bf 6 (m2 bG (m2 c5 (mV 0) (mC (.int 256))) (m2 bc (mV 4) (mC (.int 1)))))
 (br (wD (cq [ac 5,ac 2,ac 6,ac 0,af] (fo (mV 1)) (.n 4) eK (m2 bc (m2 bc (bV cx (mV 0) af (ac (mV 2))) (m2 au (mV 1) (m2 bG (m2 bc (m2 c5 (mV 3) (mC (.int 7))) (m2 dM (mC (.int 5)) (mV 4))) (mC (.int 26))))) (bV cx (mV 0) (ac (mV 2)) af))))))))))
def vQ:Fn:=gs 2 7 JP
def Ez:S:=
 (aE (Az 3 (Jo (mV 2) (mC (.bl true))))
 (aE (bf 4 (mN b9 [(mV 2)]))
 (aE (Al 20 (iY (mV 4))
 (aE (yp 5 4)
 (cU (bA (mV 1)) (.t [6,7])
 (bq (cJ (cB (m2 bK (mV 6) (mV 5))) (cB (oK 3 (mV 7))))
 (aE (jh 3 (mV 7) (mC (.bl true)))
 (ek 4 (mV 7)))
 bw))))
 (br (wD (cq [ac 3,af] (bA (mV 0)) (.n 1) (cB (uY 0 (mV 1))) (mV 1)))))))
def vH:Fn:=gs 3 8 Ez
def Kk:S:=
 (aE (mn (aN lh [(wD (m2 au (mV 0) (mC (.int 0)))),(wD (mN b9 [(mV 1)]))]))
 (br (wD (aN vH [(wD (m2 au (mV 0) (mC (.int 0)))),(wD (m2 au (mV 0) (mC (.int 1)))),(wD (mV 1))]))))
def qb:Fn:=gs 2 2 Kk
def EY:S:=
 (aE (bq (cB (m2 gR (mV 1) (mN bR [(mV 0)])))
 (br (wD (m2 au (mV 0) (mV 1))))
 bw)
 (aE (bf 2 (m2 bc (mC (.int 30011)) (m2 dM (m2 dM (mC (.int 709)) (mV 1)) (mV 1))))
 (aE (bq (cB (m2 gV (mN bR [(mV 0)]) (mC (.int 0))))
 (bf 2 (m2 bc (mV 2) (m2 dM (m2 bG (m2 au (mV 0) (mC (.int 0))) (mC (.int 99991))) (m2 bc (m2 bc (m2 dM (mV 1) (mV 1)) (m2 dM (mC (.int 2)) (mV 1))) (mC (.int 5))))))
 bw)
 (br (wD (mV 2))))))
def ia:Fn:=dG 2 3 EY
def EL:S:=
 (aE (bf 2 (cq [af] (fo (mV 1)) (.n 0) eK (mV 0)))
 (aE (bf 3 (mN b9 []))
 (aE (bf 4 (m2 bG (mV 0) (mC (.int 2147483647))))
 (aE (cU (fo (mV 1)) (.n 5)
 (aE (bf 4 (m2 bG (m2 bc (m2 bc (m2 dM (mV 4) (mC (.int 48271))) (m2 dM (mC (.int 7)) (mV 5))) (mC (.int 1))) (mC (.int 2147483647))))
 (wZ 3 2 (m2 bG (m2 c5 (mV 4) (mC (.int 32))) (mN bR [(mV 2)])))))
 (br (wV 3))))))
def uF:Fn:=gs 2 6 EL
def Fk:S:=
 (aE (bf 2 (m2 bc (mC (.int 1)) (m2 bG (aN ia [(wD (mV 0)),(wD (mC (.int 0)))]) (mV 1))))
 (aE (bf 3 (aN vQ [(wD (aN ia [(wD (mV 0)),(wD (mC (.int 1)))])),(wD (mV 2))]))
 (aE (bf 4 (aN uF [(wD (aN ia [(wD (mV 0)),(wD (mC (.int 2)))])),(wD (mV 2))]))
 (aE (bf 5 (m2 au (mN b9 [(mC (.int 4)),(mC (.int 1)),(mC (.int 2)),(mC (.int 3)),(mC (.int 2)),(mC (.int 3))]) (m2 bG (aN ia [(wD (mV 0)),(wD (mC (.int 3)))]) (mC (.int 6)))))
 (aE (bf 6 (mN b9 []))
 (aE (cU (fo (mV 2)) (.n 7)
 (cU (fo (mV 2)) (.n 8)
 (aE (bf 9 (aN ia [(wD (mV 0)),(wD (m2 bc (m2 bc (mC (.int 4)) (m2 c5 (m2 dM (mN j8 [(mV 7),(mV 8)]) (m2 gW (mN j8 [(mV 7),(mV 8)]) (mC (.int 1)))) (mC (.int 2)))) (mN ma [(mV 7),(mV 8)])))]))
 (bq (cJ (cB (m2 gR (m2 au (mV 4) (mV 7)) (m2 au (mV 4) (mV 8)))) (cB (m2 gR (m2 bG (m2 c5 (m2 bG (m2 dM (mV 9) (mC (.int 48271))) (mC (.int 2147483647))) (mC (.int 16))) (mC (.int 4))) (mV 5))))
 (ek 6 (mN dTup [(m2 au (mV 3) (mV 7)),(m2 au (mV 3) (mV 8))]))
 bw))))
 (br (wD (mN dTup [(mN pe [(mV 3)]),(mN pe [(mV 6)])])))))))))
def vi:Fn:=dG 2 10 Fk
def Km:S:=(br (wD (oZ (m2 bC (mN dTup [(mV 1),(mV 2)]) (m2 au (mV 0) (mC (.int 1)))) (m2 bC (mN dTup [(mV 2),(mV 1)]) (m2 au (mV 0) (mC (.int 1)))))))
def iK:Fn:=dG 3 3 Km
def HV:S:=(br (wD (cq [ac 1,af] (bA (mV 0)) (.n 1) eK (m2 au (mN b9 [(mV 1),(mN dTup [(m2 au (mV 1) (mC (.int 1))),(m2 au (mV 1) (mC (.int 0)))])]) (mN qI [(m2 bK (mV 1) (mV 0))])))))
def oS:Fn:=gs 2 2 HV
def GH:S:=
 (aE (bf 2 (mN j9 [(mV 0)]))
 (aE (cU (fo (mN bR [(mV 0)])) (.n 3)
 (aE (bf 4 (cq [ac 2,af,af] (bA (mV 1)) (.t [1,2]) (cB (m2 bC (mV 1) (mV 0))) (mV 2)))
 (bf 2 (cq [ac 4,af] (bA (mV 2)) (.n 1) (cB (m2 bC (mV 1) (mV 0))) (mV 1)))))
 (br (wD (m2 gV (mN bR [(mV 2)]) (mC (.int 0)))))))
def pw:Fn:=dG 2 5 GH
def Ka:S:=
 (aE (bq (dY (cB (m2 bK (m2 bG (mV 2) (mC (.int 3))) (mC (.int 0)))) (cB (m2 bK (mN bR [(mV 1)]) (mC (.int 0)))))
 (aE (bf 3 (mN b9 []))
 (aE (cU (bA (mV 0)) (.n 4)
 (cU (bA (mV 0)) (.n 5)
 (bq (cJ (cB (m2 gp (mV 4) (mV 5))) (cJ (cB (m2 cQ (mN dTup [(mV 4),(mV 5)]) (mV 1))) (cB (m2 cQ (mN dTup [(mV 5),(mV 4)]) (mV 1)))))
 (ek 3 (mN dTup [(mV 4),(mV 5)]))
 bw)))
 (aE (bf 3 (cq [ac 0,ac 1,af] (bA (mV 3)) (.n 2) (dw (cB (aN pw [(wD (mV 0)),(wD (m2 bc (mV 1) (mN b9 [(mV 2)])))]))) (mV 2)))
 (aE (bq (cB (m2 gV (mN bR [(mV 3)]) (mC (.int 0))))
 (br (wD (m2 bc (mV 1) (mN b9 [(m2 au (mV 3) (m2 bG (m2 c5 (mV 2) (mC (.int 3))) (mN bR [(mV 3)])))]))))
 bw)
 (br (wD (bV cx (mV 1) (ac (mC (.int 1))) af)))))))
 bw)
 (aE (bf 6 (m2 bG (m2 c5 (mV 2) (mC (.int 3))) (mN bR [(mV 1)])))
 (aE (bf 7 (aN oS [(wD (mV 1)),(wD (m2 au (mV 1) (mV 6)))]))
 (aE (bq (dY (cB (m2 bK (m2 bG (mV 2) (mC (.int 3))) (mC (.int 1)))) (cB (aN pw [(wD (mV 0)),(wD (mV 7))])))
 (br (wD (m2 bc (bV cx (mV 1) af (ac (mV 6))) (bV cx (mV 1) (ac (m2 bc (mV 6) (mC (.int 1)))) af))))
 bw)
 (br (wD (mV 7)))))))
def ri:Fn:=dG 3 8 Ka
def Aj:S:=
 (aE (bf 2 (mN b9 []))
 (aE (cU (bA (mV 0)) (.n 3)
 (cU (bA (mV 0)) (.n 4)
 (bq (cB (m2 bC (mN dTup [(mV 3),(mV 4)]) (mV 1)))
 (ek 2 (mN dTup [(mV 3),(mV 4)]))
 bw)))
 (br (wD (mN dTup [(mN pe [(mV 0)]),(mN pe [(mV 2)])])))))
def kY:Fn:=dG 2 5 Aj
def J8:S:=
 (aE (bf 1 (mN b9 []))
 (aE (cU (rj (m2 au (mV 0) (mC (.int 0)))) (.t [2,3])
 (cU (bA (m2 au (mV 0) (mC (.int 0)))) (.n 4)
 (cU (bA (bV lA (m2 au (mV 0) (mC (.int 0))) (ac (m2 bc (mV 2) (mC (.int 1)))) af)) (.n 5)
 (aE (bf 6 (ie (m2 bC (mN dTup [(mV 3),(mV 4)]) (m2 au (mV 0) (mC (.int 1)))) (m2 bC (mN dTup [(mV 5),(mV 4)]) (m2 au (mV 0) (mC (.int 1))))))
 (bq (cJ (iY (mV 6)) (dw (cB (aN iK [(wD (mV 0)),(wD (mV 3)),(wD (mV 5))]))))
 (ek 1 (mN dTup [(mV 3),(mV 4),(mV 5)]))
 bw)))))
 (br (wV 1))))
def oF:Fn:=gs 1 7 J8
def KI:S:=
 (aE (mn (aN lh [(wD (m2 au (mV 0) (mC (.int 0)))),(wD (mN b9 [(mV 1),(mV 2)]))]))
 (br (wD (oZ (m2 bC (mN dTup [(mV 1),(mV 2)]) (m2 au (mV 0) (mC (.int 1)))) (m2 bC (mN dTup [(mV 2),(mV 1)]) (m2 au (mV 0) (mC (.int 1))))))))
def mv:Fn:=dG 3 3 KI
def JF:S:=(br (wD (xN [0] (mV 1) (cq [ac 1,af] (bA (mV 0)) (.n 1) eK (m2 u9 (mV 0) (mV 1))))))
def qM:Fn:=gs 2 2 JF
def Hm:S:=
 (aE (bf 1 (mN b9 []))
 (aE (cU (rj (mV 0)) (.t [2,3])
 (k8 1 (cq [ac 3,af] (bA (bV lA (mV 0) (ac (m2 bc (mV 2) (mC (.int 1)))) af)) (.n 1) eK (mN dTup [(mV 0),(mV 1)]))))
 (br (wV 1))))
def nX:Fn:=gs 1 4 Hm
def KO:S:=(br (wD (cq [ac 0,af,af] (bA (aN nX [(wD (m2 au (mV 0) (mC (.int 0))))])) (.t [1,2]) (cB (aN mv [(wD (mV 0)),(wD (mV 1)),(wD (mV 2))])) (mN dTup [(mV 1),(mV 2)]))))
def jy:Fn:=gs 1 1 KO
def EJ:S:=
 (aE (qx (.t [1,2]) (mV 0))
 (aE (bf 3 (mN b9 []))
 (aE (cU (bA (aN nX [(wD (mV 1))])) (.t [4,5])
 (bq (dw (cB (aN mv [(wD (mV 0)),(wD (mV 4)),(wD (mV 5))])))
 (aE (bf 6 (cq [ac 2,ac 4,ac 5,af] (bA (mV 1)) (.n 3) (cJ (cB (m2 bC (mN dTup [(mV 1),(mV 3)]) (mV 0))) (cB (m2 bC (mN dTup [(mV 2),(mV 3)]) (mV 0)))) (mV 3)))
 (k8 3 (cq [ac 4,ac 5,af] (bA (mV 6)) (.n 2) eK (mN dTup [(mV 0),(mV 2),(mV 1)]))))
 bw))
 (br (wD (aN qM [(wD (mV 1)),(wD (mV 3))]))))))
def jE:Fn:=gs 1 7 EJ
def La:S:=
 (aE (bf 1 (mN b9 []))
 (aE (cU (fo (mN bR [(m2 au (mV 0) (mC (.int 0)))])) (.n 2)
 (bf 1 (m2 bc (mV 1) (cq [ac 2,ac 0,af] (bA (bV lA (m2 au (mV 0) (mC (.int 0))) (ac (m2 bc (mV 2) (mC (.int 1)))) af)) (.n 2) (cB (aN iK [(wD (mV 1)),(wD (m2 au (m2 au (mV 1) (mC (.int 0))) (mV 0))),(wD (mV 2))])) (mN dTup [(m2 au (m2 au (mV 1) (mC (.int 0))) (mV 0)),(mV 2)])))))
 (br (wD (mV 1)))))
def pB:Fn:=dG 1 3 La
def IM:S:=(br (wD (ie (wR rX rX (mC (.int 1)) (mN bR [(mV 0)]) (mC (.int 8))) (mN A4 [(cq [af] (bA (mV 0)) (.n 0) eK (m2 bC (mV 0) (mC (.str "abcdefghijklmnopqrstuvwxyz"))))]))))
def rA:Fn:=dG 1 1 IM
def Fv:S:=(br (wD (cq [ac 1,af,af] (bA (mV 0)) (.t [1,2]) (cB (m2 bK (mV 2) (mV 0))) (mV 1))))
def mF:Fn:=gs 2 2 Fv
def GL:S:=
 (aE (bf 1 (mN b9 []))
 (aE (cU (bA (mV 0)) (.t [2,3])
 (bq (cB (m2 bK (mN pf [(aN mF [(wD (mV 0)),(wD (mV 3))])]) (mN pf [(m2 bc (aN mF [(wD (mV 0)),(wD (mV 2))]) (mN b9 [(mV 2)]))])))
 (ek 1 (mN dTup [(mV 2),(mV 3)]))
 bw))
 (br (wV 1))))
def qh:Fn:=gs 1 4 GL
def xP:S:=
 (bq (cB (m2 gp (m2 au (mV 0) (mC (.int 0))) (m2 au (mV 1) (mC (.int 0)))))
 wM
 bw)
def lq:Fn:=dG 2 2 xP
def G8:S:=
 (bq (cP (cB (m2 gp (m2 au (mV 0) (mC (.int 0))) (m2 au (mV 1) (mC (.int 0))))))
 (JM "Unlike")
 (sP bw))
def qz:Fn:=dG 2 2 G8
def Gk:S:=
 (aE (mn (aN lq [(wD (mV 0)),(wD (mV 1))]))
 (br (wD (ie (m2 bK (aN jy [(wD (mV 0))]) (aN jy [(wD (mV 1))])) (m2 bK (aN jE [(wD (mV 0))]) (aN jE [(wD (mV 1))]))))))
def lT:Fn:=dG 2 2 Gk
def GR:S:=
 (aE (mj qz [(wD (mV 0)),(wD (mV 1))])
 (sP (br (wD (ie (m2 bK (aN jy [(wD (mV 0))]) (aN jy [(wD (mV 1))])) (m2 bK (aN jE [(wD (mV 0))]) (aN jE [(wD (mV 1))])))))))
def sr:Fn:=dG 2 2 GR
def Fq:S:=
 (aE (bf 2 (mN j9 [(m2 au (mV 0) (mC (.int 1)))]))
 (aE (bf 3 (m2 bG (mV 1) (mC (.int 2147483647))))
 (aE (cU (fo (m2 bG (mV 1) (mC (.int 7)))) (.n 4)
 (aE (bf 5 (aN qh [(wD (mV 2))]))
 (aE (bf 3 (m2 bG (m2 bc (m2 dM (mV 3) (mC (.int 48271))) (mC (.int 11))) (mC (.int 2147483647))))
 (bq (cB (m2 gV (mN bR [(mV 5)]) (mC (.int 0))))
 (bf 2 (aN oS [(wD (mV 2)),(wD (m2 au (mV 5) (m2 bG (m2 c5 (mV 3) (mC (.int 16))) (mN bR [(mV 5)]))))]))
 bw))))
 (aE (bq (cB (m2 bK (m2 bG (m2 c5 (mV 1) (mC (.int 7))) (mC (.int 2))) (mC (.int 1))))
 (bf 2 (aN ri [(wD (m2 au (mV 0) (mC (.int 0)))),(wD (mV 2)),(wD (m2 c5 (mV 3) (mC (.int 8))))]))
 bw)
 (br (wD (aN kY [(wD (m2 au (mV 0) (mC (.int 0)))),(wD (mV 2))])))))))
def rH:Fn:=dG 2 6 Fq
def TB:S:=
 (aE (bf 1 (mN b9 []))
 (aE (bq (cB (oQ 0 (λc=>([("Unlike", false)]:List (String×Bool)).lookup c)))
 (ek 1 (mC (.str "one of the others")))
 bw)
 (aE (bq (cB (oQ 0 (λc=>([("Unlike", false)]:List (String×Bool)).lookup c)))
 (ek 1 (mC (.str "one of the others")))
 bw)
 (aE (bq (cB (oQ 0 (λc=>([("Unlike", true)]:List (String×Bool)).lookup c)))
 (ek 1 (mC (.str "Unlike")))
 bw)
 (aE (bq (dw (cB (oQ 0 (λc=>([("Unlike", true)]:List (String×Bool)).lookup c))))
 (ek 1 (mC (.str "no ValueError")))
 bw)
 (br (wV 1)))))))
def vF:Fn:=gs 1 2 TB
def Jn:S:=
 (aE (bf 2 (mN j9 [(mV 1)]))
 (aE (cU (fo (mN bR [(m2 au (mV 0) (mC (.int 0)))])) (.n 3)
 (cU (bA (m2 au (mV 0) (mC (.int 1)))) (.t [4,5])
 (bq (cJ (cB (m2 bC (mV 5) (mV 2))) (cB (m2 cQ (mV 4) (mV 2))))
 (ek 2 (mV 4))
 bw)))
 (br (wV 2))))
def pR:Fn:=gs 2 6 Jn
def Ge:S:=
 (aE (bf 4 (aN pR [(wD (mV 0)),(wD (m2 bc (mN b9 [(mV 1),(mV 2)]) (mN j9 [(mV 3)])))]))
 (aE (Az 5 (λ_=>.ok (.dk [])))
 (aE (cU (bA (mV 4)) (.n 6)
 (jh 5 (mV 6) (m2 bc (mN b9 [(mV 6)]) (cq [ac 6,af,af] (bA (m2 au (mV 0) (mC (.int 1)))) (.t [1,2]) (cB (m2 bK (mV 2) (mV 0))) (mV 1)))))
 (aE (bf 7 (mN b9 [(mV 1)]))
 (aE (cU (fo (mN bR [(mV 4)])) (.n 8)
 (cU (bA (mV 4)) (.n 6)
 (aE (bf 9 (cq [ac 7,af] (bA (mL 5 (mV 6))) (.n 1) (cB (m2 bC (mV 1) (mV 0))) (mV 1)))
 (bq (cB (m2 gV (mN bR [(mV 9)]) (mC (.int 0))))
 (bf 7 (m2 bc (mV 7) (cq [ac 7,ac 3,af] (bA (mL 5 (mV 6))) (.n 2) (cJ (cB (m2 cQ (mV 2) (mV 0))) (cB (m2 cQ (mV 2) (mV 1)))) (mV 2))))
 bw))))
 (br (wD (m2 cQ (mV 2) (mV 7)))))))))
def qf:Fn:=dG 4 10 Ge
def H9:S:=
 (aE (bf 2 (mN b9 []))
 (aE (cU (bA (mN dTup [(mN dTup [(aN jy [(wD (mV 0))]),(aN jy [(wD (mV 1))])]),(mN dTup [(aN jE [(wD (mV 0))]),(aN jE [(wD (mV 1))])])])) (.t [3,4])
 (aE (k8 2 (cq [ac 3,af] (bA (mV 4)) (.n 1) (cB (m2 cQ (mV 1) (mV 0))) (mN dTup [(mN j9 [(mV 1)]),(mC (.bl true))])))
 (k8 2 (cq [ac 4,af] (bA (mV 3)) (.n 1) (cB (m2 cQ (mV 1) (mV 0))) (mN dTup [(mN j9 [(mV 1)]),(mC (.bl false))])))))
 (br (wV 2))))
def qC:Fn:=gs 2 5 H9
def EZ:S:=
 (aE (bf 3 (qg (cB (m2 bC (mV 1) (aN qb [(wD (mV 0)),(wD (mV 2))]))) (mV 1) (mV 2)))
 (br (wD (mN j9 [(aN sI [(wD (mV 0)),(wD (mV 3))])]))))
def pi:Fn:=gs 3 4 EZ
def Hq:S:=
 (aE (bq (dY (dw (cB (m1 (h9 ["list"]) (mV 1)))) (dY (cB (m2 gR (mN bR [(mV 1)]) (mC (.int 2)))) (dY (cB (m2 gp (m2 au (mV 1) (mC (.int 0))) (mV 2))) (cB (m2 gp (m2 au (mV 1) (m1 lf (mC (.int 1)))) (mV 3))))))
 (br (wD (mC (.bl false))))
 bw)
 (aE (cU (fo (mN bR [(mV 1)])) (.n 5)
 (aE (bq (dY (dw (cB (m1 (h9 ["str"]) (m2 au (mV 1) (mV 5))))) (dY (cB (m2 cQ (m2 au (mV 1) (mV 5)) (m2 au (mV 0) (mC (.int 0))))) (cB (m2 bC (m2 au (mV 1) (mV 5)) (bV cx (mV 1) af (ac (mV 5)))))))
 (br (wD (mC (.bl false))))
 bw)
 (bq (cJ (cB (m2 gV (mV 5) (mC (.int 0)))) (dw (cB (aN iK [(wD (mV 0)),(wD (m2 au (mV 1) (m2 gW (mV 5) (mC (.int 1))))),(wD (m2 au (mV 1) (mV 5)))]))))
 (br (wD (mC (.bl false))))
 bw)))
 (aE (bf 6 (aN pR [(wD (mV 0)),(wD (mV 4))]))
 (aE (cU (uv (mC (.int 1)) (m2 gW (mN bR [(mV 1)]) (mC (.int 1)))) (.n 5)
 (bq (cJ (cB (m2 bC (mN dTup [(m2 au (mV 1) (m2 gW (mV 5) (mC (.int 1)))),(m2 au (mV 1) (mV 5))]) (m2 au (mV 0) (mC (.int 1))))) (cB (m2 bC (mN dTup [(m2 au (mV 1) (m2 bc (mV 5) (mC (.int 1)))),(m2 au (mV 1) (mV 5))]) (m2 au (mV 0) (mC (.int 1))))))
 (bq (cB (m2 cQ (m2 au (mV 1) (mV 5)) (mV 6)))
 (br (wD (mC (.bl false))))
 bw)
 (bq (cB (m2 bC (m2 au (mV 1) (mV 5)) (mV 4)))
 (br (wD (mC (.bl false))))
 bw)))
 (br (wD (mC (.bl true))))))))
def qu:Fn:=dG 5 7 Hq
def Gr:S:=
 (aE (bq (dY (dw (cB (m1 (h9 ["tuple"]) (mV 0)))) (cB (m2 gp (mN bR [(mV 0)]) (mC (.int 5)))))
 (br (wD (mC (.bl false))))
 bw)
 (aE (qx (.t [2,3,4,5,6]) (mV 0))
 (aE (bq (dY (dw (cB (m1 (h9 ["list"]) (mV 4)))) (dw (cB (m1 (h9 ["bool"]) (mV 5)))))
 (br (wD (mC (.bl false))))
 bw)
 (aE (bf 7 (m2 bc (mN b9 [(mV 2),(mV 3)]) (mV 4)))
 (aE (cU (fo (mN bR [(mV 7)])) (.n 8)
 (bq (dY (dw (cB (m1 (h9 ["str"]) (m2 au (mV 7) (mV 8))))) (dY (cB (m2 cQ (m2 au (mV 7) (mV 8)) (m2 au (m2 au (mV 1) (mC (.int 0))) (mC (.int 0))))) (cB (m2 bC (m2 au (mV 7) (mV 8)) (bV cx (mV 7) af (ac (mV 8)))))))
 (br (wD (mC (.bl false))))
 bw))
 (aE (bf 9 (m2 au (mV 1) (mN qI [(Bx (mV 5))])))
 (aE (bf 10 (m2 au (mV 1) (mN qI [(mV 5)])))
 (br (wD (ie (aN qf [(wD (mV 9)),(wD (mV 2)),(wD (mV 3)),(wD (mV 4))]) (aN qu [(wD (mV 10)),(wD (mV 6)),(wD (mV 2)),(wD (mV 3)),(wD (mV 4))])))))))))))
def pV:Fn:=dG 2 11 Gr
def Cm:S:=
 (aE (mn (aN lq [(wD (mV 0)),(wD (mV 1))]))
 (aE (bf 2 (aN qC [(wD (mV 0)),(wD (mV 1))]))
 (aE (bq (dw (iY (mV 2)))
 (br (wD (mC .non)))
 bw)
 (aE (qx (.t [3,4]) (m2 au (mV 2) (mC (.int 0))))
 (aE (ur 5 6 (m2 au (mV 3) (mC (.int 0))) (m2 au (mV 3) (m1 lf (mC (.int 1)))))
 (aE (bf 7 (aN pi [(wD (qg (iY (mV 4)) (mV 0) (mV 1))),(wD (mV 5)),(wD (mV 6))]))
 (br (wD (mN dTup [(mV 5),(mV 6),(mV 7),(mV 4),(mV 3)])))))))))
def lG:Fn:=dG 2 8 Cm
def FS:S:=
 (aE (mj qz [(wD (mV 0)),(wD (mV 1))])
 (aE (sP (bf 2 (aN qC [(wD (mV 0)),(wD (mV 1))])))
 (aE (sP (bq (dw (iY (mV 2)))
 (br (wD (mC .non)))
 bw))
 (aE (sP (qx (.t [3,4]) (m2 au (mV 2) (mC (.int 0)))))
 (aE (sP (ur 5 6 (m2 au (mV 3) (mC (.int 0))) (m2 au (mV 3) (m1 lf (mC (.int 1))))))
 (aE (sP (bf 7 (aN pi [(wD (qg (iY (mV 4)) (mV 0) (mV 1))),(wD (mV 5)),(wD (mV 6))])))
 (sP (br (wD (mN dTup [(mV 5),(mV 6),(mV 7),(mV 4),(mV 3)]))))))))))
def rQ:Fn:=dG 2 8 FS
def KW:S:=
 (aE (bf 2 (mN b9 []))
 (aE (uG 3 ["Unlike"]
 (bq (cP (cB (m2 bK (mV 1) (mC (.int 0)))))
 (mj sr [(wD (m2 au (mV 0) (mC (.int 0)))),(wD (m2 au (mV 0) (mC (.int 1))))])
 (mj rQ [(wD (m2 au (mV 0) (mC (.int 0)))),(wD (m2 au (mV 0) (mC (.int 1))))]))
 (bf 2 (aN vF [(wV 3)])))
 (br (wD (mV 2)))))
def lR:Fn:=dG 2 4 KW
def KA:S:=
 (aE (bf 2 (mC (.str "zqxjkvbpygfwmucldrhsnioate")))
 (aE (bf 3 (m2 bc (mN b9 [(m2 bc (bV cx (m2 au (mV 0) (mC (.int 0))) af (ac (m1 lf (mC (.int 1))))) (m2 au (mV 2) (m2 bG (mV 1) (mC (.int 26))))),(m2 bc (m2 au (mV 2) (m2 bG (m2 c5 (mV 1) (mC (.int 5))) (mC (.int 26)))) (bV cx (m2 au (mV 0) (m1 lf (mC (.int 1)))) (ac (mC (.int 1))) af))]) (cq [af] (bA (mV 2)) (.n 0) eK (mV 0))))
 (aE (bf 3 (cq [ac 0,af] (bA (mV 3)) (.n 1) (cB (m2 cQ (mV 1) (mV 0))) (mV 1)))
 (br (wD (m2 au (mV 3) (m2 bG (m2 c5 (mV 1) (mC (.int 3))) (mN ma [(mC (.int 3)),(mN bR [(mV 3)])]))))))))
def ou:Fn:=dG 2 4 KA
def Gm:S:=
 (aE (bf 2 (m2 bG (m2 c5 (mV 1) (mC (.int 4))) (mN bR [(mV 0)])))
 (aE (bq (cB (m2 bK (m2 bG (mV 1) (mC (.int 4))) (mC (.int 0))))
 (br (wD (m2 bc (m2 bc (bV cx (mV 0) af (ac (mV 2))) (mN b9 [(aN ou [(wD (mV 0)),(wD (m2 c5 (mV 1) (mC (.int 32))))])])) (bV cx (mV 0) (ac (m2 bc (mV 2) (mC (.int 1)))) af))))
 bw)
 (aE (bq (cJ (cB (m2 bK (m2 bG (mV 1) (mC (.int 4))) (mC (.int 1)))) (cB (m2 gV (mN bR [(mV 0)]) (mC (.int 1)))))
 (br (wD (m2 bc (bV cx (mV 0) af (ac (mV 2))) (bV cx (mV 0) (ac (m2 bc (mV 2) (mC (.int 1)))) af))))
 bw)
 (aE (bq (cJ (cB (m2 bK (m2 bG (mV 1) (mC (.int 4))) (mC (.int 2)))) (cB (m2 gV (mN bR [(mV 0)]) (mC (.int 1)))))
 (aE (bf 3 (m2 bc (mC (.int 1)) (m2 bG (mV 2) (m2 gW (mN bR [(mV 0)]) (mC (.int 1))))))
 (br (wD (m2 bc (bV cx (mV 0) (ac (mV 3)) af) (bV cx (mV 0) af (ac (mV 3)))))))
 bw)
 (aE (bq (cB (m2 bK (mN bR [(mV 0)]) (mC (.int 8))))
 (br (wD (m2 bc (bV cx (mV 0) af (ac (mV 2))) (bV cx (mV 0) (ac (m2 bc (mV 2) (mC (.int 1)))) af))))
 bw)
 (br (wD (m2 bc (m2 bc (bV cx (mV 0) af (ac (mV 2))) (mN b9 [(aN ou [(wD (mV 0)),(wD (m2 c5 (mV 1) (mC (.int 32))))])])) (bV cx (mV 0) (ac (mV 2)) af)))))))))
def rN:Fn:=dG 2 4 Gm
def IW:S:=
 (aE (bf 2 (mN b9 [(mV 0),(aN kY [(wD (aN rN [(wD (mN j9 [(m2 au (mV 0) (mC (.int 0)))])),(wD (m2 c5 (mV 1) (mC (.int 2))))])),(wD (m2 au (mV 0) (mC (.int 1))))])]))
 (aE (bq (cB (m2 bK (m2 bG (mV 1) (mC (.int 2))) (mC (.int 1))))
 (ul 2)
 bw)
 (rV (br (wD (ie (m2 bK (aN lR [(wD (mV 2)),(wD (mC (.int 0)))]) (mN b9 [(mC (.str "Unlike"))])) (m2 bK (aN lR [(wD (mV 2)),(wD (mC (.int 1)))]) (mN b9 [(mC (.str "Unlike"))]))))))))
def qo:Fn:=dG 2 3 IW
def Hy:S:=
 (aE (bf 1 (aN vi [(wD (mV 0)),(wD (mC (.int 8)))]))
 (aE (bf 2 (aN ia [(wD (mV 0)),(wD (mC (.int 32)))]))
 (aE (bf 3 (mN b9 [(mV 1),(aN rH [(wD (mV 1)),(wD (m2 c5 (mV 2) (mC (.int 2))))])]))
 (aE (bq (cB (m2 bK (m2 bG (mV 2) (mC (.int 2))) (mC (.int 1))))
 (ul 3)
 bw)
 (aE (bf 4 (ie (m2 bK (aN pB [(wD (m2 au (mV 3) (mC (.int 0))))]) (aN pB [(wD (m2 au (mV 3) (mC (.int 1))))])) (m2 bK (aN oF [(wD (m2 au (mV 3) (mC (.int 0))))]) (aN oF [(wD (m2 au (mV 3) (mC (.int 1))))]))))
 (aE (cU (fo (mC (.int 3))) (.n 5)
 (aE (bf 6 (aN lT [(wD (m2 au (mV 3) (mC (.int 0)))),(wD (m2 au (mV 3) (mC (.int 1))))]))
 (qK 7 lG [(wD (m2 au (mV 3) (mC (.int 0)))),(wD (m2 au (mV 3) (mC (.int 1))))] (dY (dw (cB (m1 (h9 ["bool"]) (mV 6)))) (dY (cB (m2 gp (mV 6) (mV 4))) (cB (m2 gp (mV 4) (m2 sB (mV 7) (mC .non))))))
 (br (wD (mC (.bl false))))
 (cB (m2 Cp (mV 7) (mC .non))) (dw (cB (uS pV [(wD (mV 7)),(wD (mV 3))])))
 (br (wD (mC (.bl false))))
 (ul 3))))
 (aE (bq (dw (cB (aN qo [(wD (mV 1)),(wD (aN ia [(wD (mV 0)),(wD (mC (.int 33)))]))])))
 (br (wD (mC (.bl false))))
 bw)
 (br (wD (ie (m2 Cq (aN lT [(wD (mV 1)),(wD (mV 1))]) (mC (.bl true))) (m2 sB (aN lG [(wD (mV 1)),(wD (mV 1))]) (mC .non))))))))))))
def Bd:Fn:=dG 1 8 Hy
end Mr
namespace A
open PySem L2 PyProof.Rows
section
variable{P:bH}{w:bt}{K:aO}{mg:Str->Option aj}{base:aY}[Tb:cp]
variable{x qual:Str}{st:bz}{f:ai}{fd:bJ}{N ps:List Str}{k:Nat}{m:Mi.S}
theorem gE(M:Nat->Bool)(F:bY K x qual st f fd)(S:cz N ps (bF st))
 (hb:∀(cdv:aj) (A:bT) (outer:List Env) (s:az) (H:Hp) (E:XK),ee k (A.deeper (envOfC qual (bF st) s.heap.objs.size f cdv))->N.Nodup->(A.deeper (envOfC qual (bF st) s.heap.objs.size f cdv)).units+1<cLine->(A.deeper (envOfC qual (bF st) s.heap.objs.size f cdv)).units+64<cLine ->
  ∃t,gN (f6 aI P w K mg base N qual (bF st) f cdv A outer s H E).pD (js st) t/\AS M qV t m)
 (hM:∀i,i<ps.length->M i=false:=by decide):bO P w K mg base aI (k+1) f fd ps (bW (Mi.dG ps.length N.length m)):=
 F.ok S (λvs H Q E h=>P4 h) λcdv A outer s H vs Q E hr h=>
  let ⟨t,a,b⟩:=hb cdv A outer s H E hr S.nd (qB hr) hr.units
  ⟨t,a,Qg b hM h⟩
theorem okN(M:Nat->Bool)(F:bY K x qual st f fd)(S:cz N ps (bF st))
 (hb:∀(cdv:aj) (A:bT) (outer:List Env) (s:az) (H:Hp) (E:XK),ee k (A.deeper (envOfC qual (bF st) s.heap.objs.size f cdv))->N.Nodup->(A.deeper (envOfC qual (bF st) s.heap.objs.size f cdv)).units+1<cLine->(A.deeper (envOfC qual (bF st) s.heap.objs.size f cdv)).units+64<cLine ->
  ∃t,gN (f6 aI P w K mg base N qual (bF st) f cdv A outer s H E).pD (js st) t/\AS M qN t m)
 (hM:∀i,i<ps.length->M i=false:=by decide):bO P w K mg base aI (k+1) f fd ps (cI (Mi.gs ps.length N.length m)):=
 F.ok S (λvs H Q E h=>B3 h) λcdv A outer s H vs Q E hr h=>
  let ⟨t,a,b⟩:=hb cdv A outer s H E hr S.nd (qB hr) hr.units
  ⟨t,a,runN b hM h⟩
end
theorem dH{N P:List Str}{sc:fh}(a:sc.kind=.function:=by rfl)(b:sc.isCoroutine=false:=by rfl)(c:sc.isGenerator=false:=by rfl)(d:N.Nodup:=by decide +kernel)(e:N.take P.length=P:=by rfl)
 (f:∀x∈P,sc.names.lookup x=ac .local\/sc.names.lookup x=ac .cell:=by decide +kernel) (g:∀y∈sc.names,y.2≠.free:=by decide +kernel):cz N P sc:=⟨a,b,c,d,e,f,g⟩
section
variable{M:Nat->Bool}[Tb:cp]
theorem bi(i:Nat)(hm:M i=false:=by rfl):AE M qV (fQ i) (Mi.mV i):=Ir i hm
theorem bg(i:Nat)(hm:M i=false:=by rfl):AW M qV (fQ i) (Mi.wD (Mi.mV i)):=AE.w (Ir i hm)
end
section
variable{X:Cx}{e:bj}{te:TE}{pos pos':Pos}{x:Str}
theorem pS(i:Nat)(he:PE X e te)(hN:X.N.Nodup:=by assumption)(hi:X.N[i]? = ac x:=by rfl)(hx:Loc X.env.scope x:=by exact dh rfl)(hs:swapsWith e (ac (.Name x pos')) pos.line X.env=pure false:=by rfl)
 (hf:X.fn x=true\/X.env.scope.names.lookup x=ac .local:=by first|exact .inl rfl|exact .inr rfl|assumption):PS X (.Assign [.Name x pos'] e pos) (l5 te (i3 i)):=k4 hN hi hx he hs hf
theorem pG(i:Nat)(hN:X.N.Nodup:=by assumption)(hi:X.N[i]? = ac x:=by rfl)(hx:Loc X.env.scope x:=by exact dh rfl)
 (hf:X.fn x=true\/X.env.scope.names.lookup x=ac .local:=by first|exact .inl rfl|exact .inr rfl|assumption):L2.PG X (.Name x pos) (i3 i):=dj hN hi hx hf
theorem Ax{a:Str}:[a].Nodup:=kg.mpr ⟨(λh=>nomatch h),List.nodup_nil⟩
theorem lI{a b:Str}(h:a≠b:=by decide):[a,b].Nodup:=kg.mpr ⟨λz=>h (fg.mp z),Ax⟩
theorem pC{k k':Nat}{ps:List Str}{sp:Sp}{es:List bj}{t:TA}(C:bI X.prog X.w X.K X.mg X.base aI k x ps sp)(hr:ee k' X.A)(ha:PA X (e::es) t)(hle:k<=k':=by decide)(hg:Gl X x:=by rfl)
 (hdb:(x==("__debug__" : Str))=false:=by decide) (he:starEach (e::es) X.env=(false,eval e X.env)::starEach es X.env:=by rfl) (hpl:(backTo pos (starEach es X.env)).any (·.1)=false:=by rfl) :
 PE X (.Call (.Name x pos') (e::es) [] pos) (lm sp [] E0 t):=mD C (hr.mono hle) hg oz ha hdb he hpl
theorem aQ(i:Nat)(hN:X.N[i]? = ac x:=by rfl)(hv:uh X.env.scope x:=by first|exact dh rfl|exact fN (dh rfl)|exact fN (fN rfl))(hd:(x==("__debug__" : Str))=false:=by decide)
 (hcd:(x==("__classdict__" : Str))=false:=by decide) (hs:starEach [Expr.Name x pos] X.env=(false,eval (.Name x pos) X.env)::starEach [] X.env:=by rfl):PA X [.Name x pos] (gm (fQ i) ib):=av (pv i hN hv hd hcd) aR hs
theorem pX{a b:bj}{ta tb:TE}(ha:PE X a ta)(hb:PE X b tb)(hs:Ft b:=by exactλ_ _=>rfl):PE X (.Subscript a b pos) (oD (vO X.K) ta tb):=oJ oH ha hb hs
end
theorem Hk[Tb:cp]{M:Nat->Bool}{j:Nat}{t:TS}{m:Mi.S}(h:AS M (qT j) t m):AS M qV t m:=λH0 Hv0 e σ H Hv D I z=>h H0 Hv0 e σ H Hv D I (z.mono λo k=>by
 cases o with
 |nx e=>exact k
 |rt w=>exactλv H' Hv' g q=>k v H' Hv' g q.1
 |bk e=>exact k
 |ct e=>exact k)
end A
namespace pO
open PySem L2 PyProof.Rows A
open Mr
def xX(x:Str):Str:=x ++ ".<locals>." ++ "<lambda>"
def top(i:Nat):bz:=PySem.Challenge.pw_arrowfind_k21_told_apart_walked.main.body.getD i (.Pass ⟨0,0,0,0⟩)
structure Txt(mg:Str->Option aj):Prop where
 b8:mg "len" = af
 iE:mg "range" = af
 uT:mg "max" = af
 vd:mg "min" = af
 kM:mg "tuple" = af
 g9:mg "list" = af
 lO:mg "isinstance" = af
 Wq:mg "all" = af
 Wr:mg "any" = af
 Ms:mg "bool" = af
 Mt:mg "str" = af
 qp:mg "int" = af
 Ws:mg "zip" = af
 Mu:mg "enumerate" = af
 DO:mg "sorted" = af
 Wt:mg "reversed" = af
 Wu:mg "set" = af
section
variable[Tb:cp]
structure Own(mg:Str->Option aj)(base:aY):Prop where
 VB:OwnCls "Unlike" (Tb.cl "Unlike") [.type "ValueError",.type "Exception",.type "BaseException",.type "object"] "ValueError.__new__" mg base
 VC:mg "ArrowError" = ac (.ref (Tb.cl "ArrowError"))
 VD:mg "WrongSize" = ac (.ref (Tb.cl "WrongSize"))
 VE:mg "NoWord" = ac (.ref (Tb.cl "NoWord"))
 VF:mg "Twice" = ac (.ref (Tb.cl "Twice"))
 VG:mg "NoName" = ac (.ref (Tb.cl "NoName"))
 VH:mg "Ring" = ac (.ref (Tb.cl "Ring"))
 VI:mg "Unlike" = ac (.ref (Tb.cl "Unlike"))
 VJ:mg "NoArrow" = ac (.ref (Tb.cl "NoArrow"))
 VL:mg "Locked" = ac (.ref (Tb.cl "Locked"))
 VM:mg "NoTie" = ac (.ref (Tb.cl "NoTie"))
 VN:mg "NoSuch" = ac (.ref (Tb.cl "NoSuch"))
 VO:mg "NoNet" = ac (.ref (Tb.cl "NoNet"))
 VP:mg "NoText" = ac (.ref (Tb.cl "NoText"))
 VQ:mg "NoRow" = ac (.ref (Tb.cl "NoRow"))
 VR:mg "NoLabel" = ac (.ref (Tb.cl "NoLabel"))
 VS:mg "ValueError" = af
end
section
variable{P:bH}{w:bt}{K:aO}{mg:Str->Option aj}{base:aY}[Tb:cp]
structure wP(K:aO):Prop where
 VT:∀x k,(λc=>([("Unlike",true)]:List (String×Bool)).lookup c) x=ac k->nM K (Tb.cl x)/\og K (.ref (Tb.cl x)) (.type "ValueError")=ac k
 VU:∀x k,(λc=>([("Unlike",true)]:List (String×Bool)).lookup c) x=ac k->nM K (Tb.cl x)/\og K (.ref (Tb.cl x)) (.ref (Tb.cl "Unlike"))=ac k
 VW:∀x k,(λc=>([("Unlike",false)]:List (String×Bool)).lookup c) x=ac k->nM K (Tb.cl x)/\tG K (.ref (Tb.cl x)) (([Tb.cl "NoSuch",Tb.cl "NoText",Tb.cl "NoTie",Tb.cl "NoWord",Tb.cl "Ring",Tb.cl "Twice",Tb.cl "WrongSize"]:List ai).map .ref)=ac k
 VX:∀x k,(λc=>([("Unlike",false)]:List (String×Bool)).lookup c) x=ac k->nM K (Tb.cl x)/\tG K (.ref (Tb.cl x)) (([Tb.cl "Locked",Tb.cl "NoArrow",Tb.cl "NoLabel",Tb.cl "NoName",Tb.cl "NoNet",Tb.cl "NoRow"]:List ai).map .ref)=ac k
 VY:∀C,(∃c∈(["Unlike"]:List String),C=Tb.cl c)->Dl K (.ref C) (.ref (Tb.cl "ArrowError"))=ac true
abbrev CW:bz:=top 22
theorem Pd:cz ["names","asked","name"] ["names","asked"] (bF CW):=dH
theorem NH{f:ai}{fd:bJ}(F:bY K "refuse_strangers" "refuse_strangers" CW f fd)(T:Txt mg):bO P w K mg base aI 1 f fd ["names","asked"] (bW lh):=
 gE (Mo []) F Pd (λcdv A outer s H E hr nd hu a9=>by
  exact⟨_,(aW (eY eV rfl (en (pv 1)) (pG 2)
 (aW (cL (bL (jZ a9) (pv 2) (pv 0) rfl)
 (aW Gw)
 cS)))),
  (eW (K:=K) (tg:=(.n 2)) (jK (bi 1)) (by decide)
 (dc (bN (AE.p (aq jW (ao 2) (ao 0))))
 Gp
 da))⟩)
abbrev AU:bz:=top 19
theorem PQ:cz ["net","one","other"] ["net","one","other"] (bF AU):=dH
theorem Qj{f:ai}{fd:bJ}(F:bY K "are_tied" "are_tied" AU f fd)(T:Txt mg)(om:bI P w K mg base aI 1 "refuse_strangers" ["names","asked"] (bW lh)):bO P w K mg base aI 2 f fd ["net","one","other"] (bW mv):=
 gE (Mo []) F PQ (λcdv A outer s H E hr nd hu a9=>by
  exact⟨_,(aL (eZ (pC om hr (av (pX (pv 0) aA) (av (eF (av (pv 1) (aQ 2))) aR))))
 (aW (bQ (EK (gK (h6 a9) (ed (av (pv 1) (aQ 2))) (pX (pv 0) aA) rfl) (nq (gK (h6 a9) (ed (av (pv 2) (aQ 1))) (pX (pv 0) aA) rfl)))))),
  (aU (uB (AE.p (dD (aH (AE.w (aq bh (ao 0) (AE.p aC))) (aH (AW.nv (AE.w (eA (aF (bi 1) (aF (bi 2) aZ))))) bv)))))
 (dB (AE.w (Ki (AE.p (aq hU (AE.p (eM (aF (bi 1) (aF (bi 2) aZ)))) (AE.p (aq bh (ao 0) (AE.p aC))))) (aq hU (AE.p (eM (aF (bi 2) (aF (bi 1) aZ)))) (AE.p (aq bh (ao 0) (AE.p aC))))))))⟩)
abbrev An:bz:=top 32
theorem SI:cz ["names","pairs","place","one"] ["names"] (bF An):=dH
theorem RU{f:ai}{fd:bJ}(F:bY K "pairs_of" "pairs_of" An f fd)(T:Txt mg):bO P w K mg base aI 1 f fd ["names"] (cI nX):=
 okN (Mo [1]) F SI (λcdv A outer s H E hr nd hu a9=>by
  exact⟨_,(aL (pS 1 (eF aR))
 (aL (eY eV rfl (Zp.Ga rfl T.Mu (pv 0)) (i5 rfl (dZ (pG 2) (dZ (dj (i:=3) nd rfl (fN rfl)) iZ)))
 (aW (eZ (gP fZ zB zC yf (pv 1) (av (gC (N':=["one","other"]) (ρ:=[ac 3,af]) rfl (eI.of rfl (by kernel_rfl)) (en (fY Bq (pv 0) (fS (aS cK (pv 2) aA)) fV)) (λ_ _ _ _ _=>(dj (i:=1) lI rfl (dh rfl))) (gA rfl) (λ_ _ _ _ _=>lE) (λ_ _ _ _ _=>(ed (av (pv 0) (aQ 1))))) aR)))))
 (aW (bQ (pv 1))))),
  (aU (ig 1 rfl (eA aZ))
 (aU (eW (K:=K) (tg:=(.t [2,3])) (Zp.JC (bi 0)) (by decide)
 (yh 1 rfl (AE.nv (ft (K:=K) (tg:=(.n 1)) (gO (AE.p (fO Bf (ao 0) (fT (AE.p (aq cH (ao 2) (AE.p aC)))) fU))) (by decide) li (eM (aF (bi 0) (aF (bi 1) aZ)))))))
 (pW 1 rfl)))⟩)
abbrev z6:bz:=top 25
theorem Tj:cz ["net"] ["net"] (bF z6):=dH
theorem TZ{f:ai}{fd:bJ}(F:bY K "ties_of" "ties_of" z6 f fd)(T:Txt mg)(tY:bI P w K mg base aI 2 "are_tied" ["net","one","other"] (bW mv))(tZ:bI P w K mg base aI 1 "pairs_of" ["names"] (cI nX)):bO P w K mg base aI 3 f fd ["net"] (cI jy):=
 okN (Mo []) F Tj (λcdv A outer s H E hr nd hu a9=>by
  exact⟨_,(aW (bQ (gC (N':=["net","one","other"]) (ρ:=[ac 0,af,af]) rfl (eI.of rfl (by kernel_rfl)) (en (pC tZ hr (av (pX (pv 0) aA) aR))) (λ_ _ _ _ _=>(i5 rfl (dZ (dj (i:=1) (by show(["net","one","other"]:List Str).Nodup;decide +kernel) rfl (dh rfl)) (dZ (dj (i:=2) (by show(["net","one","other"]:List Str).Nodup;decide +kernel) rfl (dh rfl)) iZ)))) (uK (mH rfl (mH rfl ui mR) (vz mR))) (λ_ _ _ _ _=>(jd (gZ (pC tY hr (av (pv 0) (av (pv 1) (aQ 2))))))) (λ_ _ _ _ _=>(ed (av (pv 1) (aQ 2))))))),
  (lY (AE.w (ft (K:=K) (tg:=(.t [1,2])) (gO (AE.np (eu (aH (AE.w (aq bh (ao 0) (AE.p aC))) bv)))) (by decide) (f8 (AE.p (dD (aH (bg 0) (aH (bg 1) (aH (bg 2) bv)))))) (eM (aF (bi 1) (aF (bi 2) aZ))))))⟩)
abbrev Cw:bz:=top 21
theorem Gi:cz ["names","rows"] ["names","rows"] (bF Cw):=dH
theorem Pl{f:ai}{fd:bJ}{cc TT:ai}(F:vT K "sorted_rows" "sorted_rows" Cw cc f fd)(T:Txt mg)(hB:BM mg base)(hC:kO base cc TT)(hTb:(TT,xX "sorted_rows")∈Tb.l):bO P w K mg base aI 4 f fd ["names","rows"] (cI qM):=
 F.ok Gi (λvs H Q E h=>B3 h) (λA outer s H vs Q E hr h=>by
  have nd:=Gi.nd;have hu:=qB hr;have a9:=hr.units;exact⟨_,(aW (bQ (TY (x := "row") (ρ:=[0]) (N':=["row","names"]) (k:=0) (qual:=xX "sorted_rows") rfl T.DO (pv 1) (hr.mono (by decide)) rfl hC hB rfl rfl rfl (sF.one rfl rfl rfl rfl rfl rfl rfl rfl) (λpm c' ctv u=>rfl) (λA f c' s H env hrl he=>by subst he;exact(gC (N':=["names","name"]) (ρ:=[ac 1,af]) rfl (eI.of rfl (by kernel_rfl)) (en (pv 0)) (λ_ _ _ _ _=>(dj (i:=1) lI rfl (dh rfl))) (gA rfl) (λ_ _ _ _ _=>lE) (λ_ _ _ _ _=>(Tp PySem.F.plainAttrs_tuple LO PySem.F.type_tuple_index NZ fZ LP PySem.F.type_list_index NJ (pv 0) (aQ 1)))))))),
  _root_.A.runN (N:=["names","rows"]) (M:=Mo []) (lY (AE.w (Ub hTb (by decide) (ao 1) (ft (K:=K) (tg:=(.n 1)) (gO (ao 0)) (by decide) li (UD (ao 0) (ao 1)))))) (by decide) h⟩)
abbrev BJ:bz:=top 26
theorem R5:cz ["net","names","arrows","corners","one","other","middles"] ["net"] (bF BJ):=dH
theorem PR{f:ai}{fd:bJ}(F:bY K "corners_of" "corners_of" BJ f fd)(T:Txt mg)(tY:bI P w K mg base aI 2 "are_tied" ["net","one","other"] (bW mv))(DP:bI P w K mg base aI 4 "sorted_rows" ["names","rows"] (cI qM))(tZ:bI P w K mg base aI 1 "pairs_of" ["names"] (cI nX)):bO P w K mg base aI 5 f fd ["net"] (cI jE):=
 okN (Mo [3]) F R5 (λcdv A outer s H E hr nd hu a9=>by
  exact⟨_,(aL (wX (pv 0) (i5 rfl (dZ (pG 1) (dZ (dj (i:=2) nd rfl (fN rfl)) iZ))))
 (aL (pS 3 (eF aR))
 (aL (eY eV rfl (en (pC tZ hr (aQ 1))) (i5 rfl (dZ (dj (i:=4) nd rfl (fN rfl)) (dZ (dj (i:=5) nd rfl (fN rfl)) iZ)))
 (aW (cL (iQ (gZ (pC tY hr (av (pv 0) (av (pv 4) (aQ 5))))))
 (aL (u7 (i:=6) (N':=["arrows","one","other","name"]) (ρ:=[ac 2,ac 4,ac 5,af]) rfl nd rfl (dh rfl) (eI.of rfl (by kernel_rfl)) (en (pv 1)) (λ_ _ _ _ _=>(dj (i:=3) (by show(["arrows","one","other","name"]:List Str).Nodup;decide +kernel) rfl (dh rfl))) (gA rfl) (λ_ _ _ _ _=>(jd (PW.pt (pw_and (bL (h6 a9) (ed (av (pv 1) (aQ 3))) (pv 0) rfl) (pw_and1 (bL (h6 a9) (ed (av (pv 2) (aQ 3))) (pv 0) rfl)))))) (λ_ _ _ _ _=>(pv 3)))
 (aW (eZ (gP fZ zB zC yf (pv 3) (av (gC (N':=["one","other","middle"]) (ρ:=[ac 4,ac 5,af]) rfl (eI.of rfl (by kernel_rfl)) (en (pv 6)) (λ_ _ _ _ _=>(dj (i:=2) (by show(["one","other","middle"]:List Str).Nodup;decide +kernel) rfl (dh rfl))) (gA rfl) (λ_ _ _ _ _=>lE) (λ_ _ _ _ _=>(ed (av (pv 0) (av (pv 2) (aQ 1)))))) aR)))))
 cS)))
 (aW (bQ (pC DP hr (av (pv 1) (aQ 3)))))))),
  (aU (wQ (K:=K) (.t [1,2]) (by decide) (bi 0))
 (aU (ig 3 rfl (eA aZ))
 (aU (eW (K:=K) (tg:=(.t [4,5])) (jK (AE.nv (eu (aH (bg 1) bv)))) (by decide)
 (dc (iU (f8 (AE.p (dD (aH (bg 0) (aH (bg 4) (aH (bg 5) bv)))))))
 (aU (cj 6 rfl (AE.nv (ft (K:=K) (tg:=(.n 3)) (gO (ao 1)) (by decide) (kJ (bN (AE.p (aq hU (AE.p (eM (aF (bi 1) (aF (bi 3) aZ)))) (ao 0)))) (bN (AE.p (aq hU (AE.p (eM (aF (bi 2) (aF (bi 3) aZ)))) (ao 0))))) (bi 3))))
 (yh 3 rfl (AE.nv (ft (K:=K) (tg:=(.n 2)) (gO (ao 6)) (by decide) li (eM (aF (bi 0) (aF (bi 2) (aF (bi 1) aZ))))))))
 da))
 (Ta 3 rfl (AE.w (eu (aH (bg 1) (aH (bg 3) bv))))))))⟩)
abbrev yv:bz:=top 29
theorem Au:cz ["first","second"] ["first","second"] (bF yv):=dH
theorem SK{f:ai}{fd:bJ}(F:bY K "refuse_unlike_names" "refuse_unlike_names" yv f fd)(T:Txt mg):bO P w K mg base aI 1 f fd ["first","second"] (bW lq):=
 gE (Mo []) F Au (λcdv A outer s H E hr nd hu a9=>by
  exact⟨_,(aW (cL (bL (oM a9) (pX (pv 0) aA) (pX (pv 1) aA) (cn _))
 (aW Gw)
 cS)),
  (dc (bN (AE.p (aq pq (AE.p (aq bh (ao 0) (AE.p aC))) (AE.p (aq bh (ao 1) (AE.p aC))))))
 Gp
 da)⟩)
theorem Q4{f:ai}{fd:bJ}(F:bY K "refuse_unlike_names" "refuse_unlike_names" yv f fd)(T:Txt mg)(O:Own mg base)   : bO P w K mg base (fL P w) 1 f fd ["first","second"] (lC Tb.cl qz):=
 F.BZ Au (λvs H Q E h=>BI h) (λcdv A outer s H vs Q E hr h=>by
  have nd:=Au.nd;have hu:=qB hr;have a9:=hr.units;exact⟨_,(aW (cL (bL (oM a9) (pX (pv 0) aA) (pX (pv 1) aA) (cn _))
 (aW (Q3 PySem.F.excBase_ValueError O.VB kI rfl))
 cS)),
  _root_.A.Bk (N:=["first","second"]) (M:=Mo []) (Qe (bN (AE.p (aq pq (AE.p (aq bh (ao 0) (AE.p aC))) (AE.p (aq bh (ao 1) (AE.p aC))))))
 NS
 (oW da)) (by decide) h⟩)
abbrev xf:bz:=top 27
theorem B5:cz ["first","second"] ["first","second"] (bF xf):=dH
theorem OM{f:ai}{fd:bJ}(F:bY K "say_same" "say_same" xf f fd)(T:Txt mg)(kT:bI P w K mg base aI 3 "ties_of" ["net"] (cI jy))(kU:bI P w K mg base aI 5 "corners_of" ["net"] (cI jE))(t0:bI P w K mg base aI 1 "refuse_unlike_names" ["first","second"] (bW lq)):bO P w K mg base aI 6 f fd ["first","second"] (bW lT):=
 gE (Mo []) F B5 (λcdv A outer s H E hr nd hu a9=>by
  exact⟨_,(aL (eZ (pC t0 hr (av (pv 0) (aQ 1))))
 (aW (bQ (qG (gK (fm a9) (pC kT hr (aQ 0)) (pC kT hr (aQ 1)) (cn _)) (nq (gK (fm a9) (pC kU hr (aQ 0)) (pC kU hr (aQ 1)) (cn _))))))),
  (aU (uB (AE.p (dD (aH (bg 0) (aH (bg 1) bv)))))
 (dB (AE.w (qH (AE.p (aq fv (AE.np (eu (aH (bg 0) bv))) (AE.np (eu (aH (bg 1) bv))))) (aq fv (AE.np (eu (aH (bg 0) bv))) (AE.np (eu (aH (bg 1) bv))))))))⟩)
theorem Rc{f:ai}{fd:bJ}(F:bY K "say_same" "say_same" xf f fd)(T:Txt mg)(O:Own mg base)(kT:bI P w K mg base aI 3 "ties_of" ["net"] (cI jy))(kU:bI P w K mg base aI 5 "corners_of" ["net"] (cI jE))(t6:bI P w K mg base (fL P w) 1 "refuse_unlike_names" ["first","second"] (lC Tb.cl qz)):bO P w K mg base (fL P w) 6 f fd ["first","second"] (lC Tb.cl sr):=
 F.BZ B5 (λvs H Q E h=>BI h) (λcdv A outer s H vs Q E hr h=>by
  have nd:=B5.nd;have hu:=qB hr;have a9:=hr.units;have Mv:=hr.mono (show 3<=_ by decide);have Mw:=hr.mono (show 5<=_ by decide);have DQ:=hr.mono (show 1<=_ by decide);exact⟨_,(aL (eZ (mD t6 DQ rfl JQ (av (pv 0) (aQ 1))))
 (aW (bQ (qG (gK (fm a9) (mD kT Mv rfl oz (aQ 0)) (mD kT Mv rfl oz (aQ 1)) (cn _)) (nq (gK (fm a9) (mD kU Mw rfl oz (aQ 0)) (mD kU Mw rfl oz (aQ 1)) (cn _))))))),
  _root_.A.Bk (N:=["first","second"]) (M:=Mo []) (qd (Ju (aH (bg 0) (aH (bg 1) bv)))
 (oW (dB (AE.w (qH (AE.p (aq fv (AE.np (eu (aH (bg 0) bv))) (AE.np (eu (aH (bg 1) bv))))) (aq fv (AE.np (eu (aH (bg 0) bv))) (AE.np (eu (aH (bg 1) bv))))))))) (by decide) h⟩)
abbrev Bj:bz:=top 30
theorem Td:cz ["first","second","found","firsts","seconds"] ["first","second"] (bF Bj):=dH
theorem PB{f:ai}{fd:bJ}(F:bY K "roads_apart" "roads_apart" Bj f fd)(T:Txt mg)(kT:bI P w K mg base aI 3 "ties_of" ["net"] (cI jy))(kU:bI P w K mg base aI 5 "corners_of" ["net"] (cI jE)):bO P w K mg base aI 6 f fd ["first","second"] (cI qC):=
 okN (Mo [2]) F Td (λcdv A outer s H E hr nd hu a9=>by
  exact⟨_,(aL (pS 2 (eF aR))
 (aL (eY eV rfl (en (ed (av (ed (av (pC kT hr (aQ 0)) (av (pC kT hr (aQ 1)) aR))) (av (ed (av (pC kU hr (aQ 0)) (av (pC kU hr (aQ 1)) aR))) aR)))) (i5 rfl (dZ (dj (i:=3) nd rfl (fN rfl)) (dZ (dj (i:=4) nd rfl (fN rfl)) iZ)))
 (aL (eZ (gP fZ zB zC yf (pv 2) (av (gC (N':=["firsts","row"]) (ρ:=[ac 3,af]) rfl (eI.of rfl (by kernel_rfl)) (en (pv 4)) (λ_ _ _ _ _=>(dj (i:=1) lI rfl (dh rfl))) (gA rfl) (λ_ _ _ _ _=>(jd (bL (jZ a9) (pv 1) (pv 0) rfl))) (λ_ _ _ _ _=>(ed (av (iX ph rfl T.g9 m7 (aQ 1)) (av iH aR))))) aR)))
 (aW (eZ (gP fZ zB zC yf (pv 2) (av (gC (N':=["seconds","row"]) (ρ:=[ac 4,af]) rfl (eI.of rfl (by kernel_rfl)) (en (pv 3)) (λ_ _ _ _ _=>(dj (i:=1) lI rfl (dh rfl))) (gA rfl) (λ_ _ _ _ _=>(jd (bL (jZ a9) (pv 1) (pv 0) rfl))) (λ_ _ _ _ _=>(ed (av (iX ph rfl T.g9 m7 (aQ 1)) (av iH aR))))) aR))))))
 (aW (bQ (pv 2))))),
  (aU (ig 2 rfl (eA aZ))
 (aU (eW (K:=K) (tg:=(.t [3,4])) (jK (eM (aF (eM (aF (AE.nv (eu (aH (bg 0) bv))) (aF (AE.nv (eu (aH (bg 1) bv))) aZ))) (aF (eM (aF (AE.nv (eu (aH (bg 0) bv))) (aF (AE.nv (eu (aH (bg 1) bv))) aZ))) aZ)))) (by decide)
 (aU (yh 2 rfl (AE.nv (ft (K:=K) (tg:=(.n 1)) (gO (ao 4)) (by decide) (bN (AE.p (aq jW (ao 1) (ao 0)))) (eM (aF (AE.nv (cD g9 (aF (ao 1) aZ))) (aF iJ aZ))))))
 (yh 2 rfl (AE.nv (ft (K:=K) (tg:=(.n 1)) (gO (ao 3)) (by decide) (bN (AE.p (aq jW (ao 1) (ao 0)))) (eM (aF (AE.nv (cD g9 (aF (ao 1) aZ))) (aF iJ aZ))))))))
 (pW 2 rfl)))⟩)
abbrev CH:bz:=top 18
theorem Ou:cz ["net","name"] ["net","name"] (bF CH):=dH
theorem RJ{f:ai}{fd:bJ}(F:bY K "elders_of" "elders_of" CH f fd)(T:Txt mg)(om:bI P w K mg base aI 1 "refuse_strangers" ["names","asked"] (bW lh)):bO P w K mg base aI 2 f fd ["net","name"] (bW sI):=
 gE (Mo []) F Ou (λcdv A outer s H E hr nd hu a9=>by
  exact⟨_,(aL (eZ (pC om hr (av (pX (pv 0) aA) (av (eF (aQ 1)) aR))))
 (aW (bQ (iX uQ rfl T.kM tT (av (gC (N':=["name","tail","head"]) (ρ:=[ac 1,af,af]) rfl (eI.of rfl (by kernel_rfl)) (en (pX (pv 0) aA)) (λ_ _ _ _ _=>(i5 rfl (dZ (dj (i:=1) (by show(["name","tail","head"]:List Str).Nodup;decide +kernel) rfl (dh rfl)) (dZ (dj (i:=2) (by show(["name","tail","head"]:List Str).Nodup;decide +kernel) rfl (dh rfl)) iZ)))) (uK (mH rfl (mH rfl ui mR) (vz mR))) (λ_ _ _ _ _=>(jd (bL (fm a9) (pv 2) (pv 0) (cn _)))) (λ_ _ _ _ _=>(pv 1))) aR))))),
  (aU (uB (AE.p (dD (aH (AE.w (aq bh (ao 0) (AE.p aC))) (aH (AW.nv (AE.w (eA (aF (bi 1) aZ)))) bv)))))
 (dB (AE.w (cD kM (aF (AE.np (ft (K:=K) (tg:=(.t [1,2])) (gO (AE.p (aq bh (ao 0) (AE.p aC)))) (by decide) (bN (AE.p (aq fv (ao 2) (ao 0)))) (bi 1))) aZ)))))⟩)
abbrev AG:bz:=top 23
theorem Ti:cz ["names","steps","name","found","waiting","here","start","end"] ["names","steps","name"] (bF AG):=dH
theorem Ua{f:ai}{fd:bJ}(F:bY K "names_along" "names_along" AG f fd)(T:Txt mg):bO P w K mg base aI 1 f fd ["names","steps","name"] (cI vH):=
 okN (Mo [3,4]) F Ti (λcdv A outer s H E hr nd hu a9=>by
  exact⟨_,(aL (k4 (i:=3) nd rfl (fN rfl) (Zp.Pz (pv 2) iH))
 (aL (pS 4 (eF (aQ 2)))
 (aL (Pe eV (sO (pv 4) (by intro _;rfl))
 (aL (pS 5 (vx fZ LR LS UF (pv 4)))
 (aW (eY eV rfl (en (pv 1)) (i5 rfl (dZ (pG 6) (dZ (pG 7) iZ)))
 (aW (cL (PW.pt (pw_and (bL (fm a9) (pv 6) (pv 5) (cn _)) (pw_and1 (Ku (Oj hu (pv 7) (pv 3)) rfl))))
 (aL (G6 hu (pv 3) (pv 7) iH rfl)
 (aW (eZ (gP fZ kn ko j7 (pv 4) (aQ 7)))))
 cS))))))
 (aW (bQ (gC (N':=["found","each"]) (ρ:=[ac 3,af]) rfl (eI.of rfl (by kernel_rfl)) (en (pv 0)) (λ_ _ _ _ _=>(dj (i:=1) lI rfl (dh rfl))) (gA rfl) (λ_ _ _ _ _=>(jd (Ku (U8 hu (pv 1) (pv 0)) rfl))) (λ_ _ _ _ _=>(pv 1)))))))),
  (aU (Fh 3 rfl (Zp.T9 (bi 2) iJ))
 (aU (ig 4 rfl (eA (aF (bi 2) aZ)))
 (aU (RI 20 (sL (ao 4))
 (aU (Qt 5 4 rfl rfl)
 (eW (K:=K) (tg:=(.t [6,7])) (jK (bi 1)) (by decide)
 (dc (kJ (bN (AE.p (aq fv (ao 6) (ao 5)))) (f8 (AE.p (UH 3 (bi 7)))))
 (aU (FD 3 rfl (bi 7) iJ)
 (lD 4 rfl (bi 7)))
 da))))
 (lY (AE.w (ft (K:=K) (tg:=(.n 1)) (gO (ao 0)) (by decide) (f8 (AE.p (To 0 (bi 1)))) (bi 1)))))))⟩)
abbrev CO:bz:=top 20
theorem QW:cz ["net","name"] ["net","name"] (bF CO):=dH
theorem Pc{f:ai}{fd:bJ}(F:bY K "names_below" "names_below" CO f fd)(T:Txt mg)(om:bI P w K mg base aI 1 "refuse_strangers" ["names","asked"] (bW lh))(DR:bI P w K mg base aI 1 "names_along" ["names","steps","name"] (cI vH)):bO P w K mg base aI 2 f fd ["net","name"] (cI qb):=
 okN (Mo []) F QW (λcdv A outer s H E hr nd hu a9=>by
  exact⟨_,(aL (eZ (pC om hr (av (pX (pv 0) aA) (av (eF (aQ 1)) aR))))
 (aW (bQ (pC DR hr (av (pX (pv 0) aA) (av (pX (pv 0) aA) (aQ 1))))))),
  (aU (uB (AE.p (dD (aH (AE.w (aq bh (ao 0) (AE.p aC))) (aH (AW.nv (AE.w (eA (aF (bi 1) aZ)))) bv)))))
 (lY (AE.w (eu (aH (AE.w (aq bh (ao 0) (AE.p aC))) (aH (AE.w (aq bh (ao 0) (AE.p aC))) (aH (bg 1) bv)))))))⟩)
abbrev CB:bz:=top 31
theorem QB:cz ["net","one","other","lower"] ["net","one","other"] (bF CB):=dH
theorem QN{f:ai}{fd:bJ}(F:bY K "list_that_parts" "list_that_parts" CB f fd)(T:Txt mg)(DS:bI P w K mg base aI 2 "elders_of" ["net","name"] (bW sI))(DT:bI P w K mg base aI 2 "names_below" ["net","name"] (cI qb)):bO P w K mg base aI 3 f fd ["net","one","other"] (cI pi):=
 okN (Mo []) F QB (λcdv A outer s H E hr nd hu a9=>by
  exact⟨_,(aL (pS 3 (At (bL (h6 a9) (pv 1) (pC DT hr (av (pv 0) (aQ 2))) rfl) (pv 1) (pv 2)))
 (aW (bQ (iX ph rfl T.g9 m7 (av (pC DS hr (av (pv 0) (aQ 3))) aR))))),
  (aU (cj 3 rfl (Am (bN (AE.p (aq hU (ao 1) (AE.np (eu (aH (bg 0) (aH (bg 2) bv))))))) (bi 1) (bi 2)))
 (lY (AE.w (cD g9 (aF (AE.p (dD (aH (bg 0) (aH (bg 3) bv)))) aZ)))))⟩)
abbrev ya:bz:=top 28
theorem yg:cz ["first","second","found","road","parted_in_first","one","other","held"] ["first","second"] (bF ya):=dH
theorem NY{f:ai}{fd:bJ}(F:bY K "told_apart" "told_apart" ya f fd)(T:Txt mg)(t0:bI P w K mg base aI 1 "refuse_unlike_names" ["first","second"] (bW lq))(t7:bI P w K mg base aI 6 "roads_apart" ["first","second"] (cI qC))(t8:bI P w K mg base aI 3 "list_that_parts" ["net","one","other"] (cI pi)):bO P w K mg base aI 7 f fd ["first","second"] (spT 2 lG):=
 F.ok yg (λvs H Q E h=>Va h) (λcdv A outer s H vs Q E hr h=>by
  have nd:=yg.nd;have hu:=qB hr;have a9:=hr.units;exact⟨_,(aL (eZ (pC t0 hr (av (pv 0) (aQ 1))))
 (aL (pS 2 (pC t7 hr (av (pv 0) (aQ 1))))
 (aL (cL (iQ (sO (pv 2) (by intro _;rfl)))
 (aW (bQ uN))
 cS)
 (aL (wX (pX (pv 2) aA) (i5 rfl (dZ (pG 3) (dZ (pG 4) iZ))))
 (aL (ED (i:=5) (j:=6) rfl nd rfl rfl (by decide) rfl rfl (av (pX (pv 3) aA) (av (pX (pv 3) (vh uy aA)) aR)) rfl)
 (aL (pS 7 (pC t8 hr (av (At (sO (pv 4) (by intro _;rfl)) (pv 0) (pv 1)) (av (pv 5) (aQ 6)))))
 (aW (bQ (ed (av (pv 5) (av (pv 6) (av (pv 7) (av (pv 4) (aQ 3)))))))))))))),
  _root_.A.Ur (N:=["first","second","found","road","parted_in_first","one","other","held"]) (M:=Mo [7]) (aU (uB (AE.p (dD (aH (bg 0) (aH (bg 1) bv)))))
 (aU (cj 2 rfl (AE.nv (eu (aH (bg 0) (aH (bg 1) bv)))))
 (aU (dc (iU (sL (ao 2)))
 K1
 da)
 (aU (wQ (K:=K) (.t [3,4]) (by decide) (aq bh (ao 2) (AE.p aC)))
 (aU (JA 5 6 rfl rfl (aF (aq bh (ao 3) (AE.p aC)) (aF (aq bh (ao 3) (AE.p (vn vY (AE.p aC)))) aZ)))
 (aU (ig 7 rfl (eu (aH (AE.w (Am (sL (ao 4)) (bi 0) (bi 1))) (aH (bg 5) (aH (bg 6) bv)))))
 (Hl [5,6,7,4,3] 7 rfl (by decide) rfl))))))) (by decide) h⟩)
theorem TJ{f:ai}{fd:bJ}(F:bY K "told_apart" "told_apart" ya f fd)(T:Txt mg)(O:Own mg base)(t7:bI P w K mg base aI 6 "roads_apart" ["first","second"] (cI qC))(t8:bI P w K mg base aI 3 "list_that_parts" ["net","one","other"] (cI pi))(t6:bI P w K mg base (fL P w) 1 "refuse_unlike_names" ["first","second"] (lC Tb.cl qz)):bO P w K mg base (fL P w) 7 f fd ["first","second"] (lC Tb.cl rQ):=
 F.BZ yg (λvs H Q E h=>BI h) (λcdv A outer s H vs Q E hr h=>by
  have nd:=yg.nd;have hu:=qB hr;have a9:=hr.units;have DQ:=hr.mono (show 1<=_ by decide);have VZ:=hr.mono (show 6<=_ by decide);have V0:=hr.mono (show 3<=_ by decide);exact⟨_,(aL (eZ (mD t6 DQ rfl JQ (av (pv 0) (aQ 1))))
 (aL (pS 2 (mD t7 VZ rfl oz (av (pv 0) (aQ 1))))
 (aL (cL (iQ (sO (pv 2) (by intro _;rfl)))
 (aW (bQ uN))
 cS)
 (aL (wX (pX (pv 2) aA) (i5 rfl (dZ (pG 3) (dZ (pG 4) iZ))))
 (aL (ED (i:=5) (j:=6) rfl nd rfl rfl (by decide) rfl rfl (av (pX (pv 3) aA) (av (pX (pv 3) (vh uy aA)) aR)) rfl)
 (aL (pS 7 (mD t8 V0 rfl oz (av (At (sO (pv 4) (by intro _;rfl)) (pv 0) (pv 1)) (av (pv 5) (aQ 6)))))
 (aW (bQ (ed (av (pv 5) (av (pv 6) (av (pv 7) (av (pv 4) (aQ 3)))))))))))))),
  _root_.A.Bk (N:=["first","second","found","road","parted_in_first","one","other","held"]) (M:=Mo [7]) (qd (Ju (aH (bg 0) (aH (bg 1) bv)))
 (qd (oW (cj 2 rfl (AE.nv (eu (aH (bg 0) (aH (bg 1) bv))))))
 (qd (oW (dc (iU (sL (ao 2)))
 (Hk (j:=2) K1)
 da))
 (qd (oW (wQ (K:=K) (.t [3,4]) (by decide) (aq bh (ao 2) (AE.p aC))))
 (qd (oW (JA 5 6 rfl rfl (aF (aq bh (ao 3) (AE.p aC)) (aF (aq bh (ao 3) (AE.p (vn vY (AE.p aC)))) aZ))))
 (qd (oW (ig 7 rfl (eu (aH (AE.w (Am (sL (ao 4)) (bi 0) (bi 1))) (aH (bg 5) (aH (bg 6) bv))))))
 (oW (Hk (j:=2) (Hl [5,6,7,4,3] 7 rfl (by decide) rfl))))))))) (by decide) h⟩)
abbrev Ch:bz:=top 34
theorem SU:cz ["_law_script","_law_k","_law_spare"] ["_law_script","_law_k"] (bF Ch):=dH
theorem R6{f:ai}{fd:bJ}(F:bY K "_law_cell" "_law_cell" Ch f fd)(T:Txt mg):bO P w K mg base aI 1 f fd ["_law_script","_law_k"] (bW ia):=
 gE (Mo []) F SU (λcdv A outer s H E hr nd hu a9=>by
  exact⟨_,(aL (cL (bL vp (pv 1) (c6 fA rfl T.b8 fI (aQ 0)) (cn _))
 (aW (bQ (pX (pv 0) (pv 1))))
 cS)
 (aL (pS 2 (aS cK aA (aS jD (aS jD aA (pv 1)) (pv 1))))
 (aL (cL (bL pj (c6 fA rfl T.b8 fI (aQ 0)) aA (cn _))
 (aW (pS 2 (aS cK (pv 2) (aS jD (aS d9 (pX (pv 0) aA) aA) (aS cK (aS cK (aS jD (pv 1) (pv 1)) (aS jD aA (pv 1))) aA)))))
 cS)
 (aW (bQ (pv 2)))))),
  (aU (dc (bN (AE.p (aq uC (ao 1) (AE.p (cD b8 (aF (ao 0) aZ))))))
 (dB (AE.w (aq bh (ao 0) (ao 1))))
 da)
 (aU (cj 2 rfl (aq cH (AE.p aC) (AE.p (aq jL (AE.p (aq jL (AE.p aC) (ao 1))) (ao 1)))))
 (aU (dc (bN (AE.p (aq oB (AE.p (cD b8 (aF (ao 0) aZ))) (AE.p aC))))
 (cj 2 rfl (aq cH (ao 2) (AE.p (aq jL (AE.p (aq ej (AE.p (aq bh (ao 0) (AE.p aC))) (AE.p aC))) (AE.p (aq cH (AE.p (aq cH (AE.p (aq jL (ao 1) (ao 1))) (AE.p (aq jL (AE.p aC) (ao 1))))) (AE.p aC)))))))
 da)
 (dB (bg 2)))))⟩)
abbrev BE:bz:=top 35
theorem UY:cz ["_law_cell_here","_law_many","_law_letters","_law_long","_law_size","_law_stem","_law_at"] ["_law_cell_here","_law_many"] (bF BE):=dH
theorem Pf{f:ai}{fd:bJ}(F:bY K "_law_words" "_law_words" BE f fd)(T:Txt mg):bO P w K mg base aI 1 f fd ["_law_cell_here","_law_many"] (cI vQ):=
 okN (Mo []) F UY (λcdv A outer s H E hr nd hu a9=>by
  exact⟨_,(aL (k4 (i:=2) nd rfl (fN rfl) kI)
 (aL (cL (bL vp (aS d9 (pv 0) aA) aA (cn _))
 (aL (k4 (i:=3) nd rfl (fN rfl) (gP LQ LU LV E8 kI (av (gC (N':=["_law_letters","_law_cell_here","_law_k"]) (ρ:=[ac 2,ac 0,af]) rfl (eI.of rfl (by kernel_rfl)) (iG rfl T.iE (av aA aR)) (λ_ _ _ _ _=>(dj (i:=2) (by show(["_law_letters","_law_cell_here","_law_k"]:List Str).Nodup;decide +kernel) rfl (dh rfl))) (gA rfl) (λ_ _ _ _ _=>lE) (λ_ _ _ _ _=>(pX (pv 0) (aS d9 (aS g6 (pv 1) (aS cK aA (aS jD aA (pv 2)))) aA)))) aR)))
 (aL (cL (bL (fm a9) (aS d9 (pv 0) aA) aA (cn _))
 (aW (bQ (gC (N':=["_law_long","_law_k"]) (ρ:=[ac 3,af]) rfl (eI.of rfl (by kernel_rfl)) (iG rfl T.iE (aQ 1)) (λ_ _ _ _ _=>(dj (i:=1) lI rfl (dh rfl))) (gA rfl) (λ_ _ _ _ _=>lE) (λ_ _ _ _ _=>(fY gz (pv 0) fV (fS (aS cK (pv 1) aA)))))))
 cS)
 (aW (bQ (gC (N':=["_law_long","_law_k"]) (ρ:=[ac 3,af]) rfl (eI.of rfl (by kernel_rfl)) (iG rfl T.iE (aQ 1)) (λ_ _ _ _ _=>(dj (i:=1) lI rfl (dh rfl))) (gA rfl) (λ_ _ _ _ _=>lE) (λ_ _ _ _ _=>(fY gz (pv 0) (fS (aS rB aA (pv 1))) fV)))))))
 cS)
 (aL (pS 4 (aS d9 (aS g6 (pv 0) aA) aA))
 (aL (k4 (i:=5) nd rfl (fN rfl) (gP LQ LU LV E8 kI (av (gC (N':=["_law_letters","_law_cell_here","_law_k"]) (ρ:=[ac 2,ac 0,af]) rfl (eI.of rfl (by kernel_rfl)) (iG rfl T.iE (aQ 4)) (λ_ _ _ _ _=>(dj (i:=2) (by show(["_law_letters","_law_cell_here","_law_k"]:List Str).Nodup;decide +kernel) rfl (dh rfl))) (gA rfl) (λ_ _ _ _ _=>lE) (λ_ _ _ _ _=>(pX (pv 0) (aS d9 (aS cK (aS cK (aS g6 (pv 1) aA) (aS jD aA (pv 2))) (aS jD (pv 2) (pv 2))) aA)))) aR)))
 (aL (k4 (i:=6) nd rfl (fN rfl) (aS d9 (aS g6 (pv 0) aA) (aS cK (pv 4) aA)))
 (aW (bQ (gC (N':=["_law_stem","_law_letters","_law_at","_law_cell_here","_law_k"]) (ρ:=[ac 5,ac 2,ac 6,ac 0,af]) rfl (eI.of rfl (by kernel_rfl)) (iG rfl T.iE (aQ 1)) (λ_ _ _ _ _=>(dj (i:=4) (by show(["_law_stem","_law_letters","_law_at","_law_cell_here","_law_k"]:List Str).Nodup;decide +kernel) rfl (dh rfl))) (gA rfl) (λ_ _ _ _ _=>lE) (λ_ _ _ _ _=>(aS cK (aS cK (fY gz (pv 0) fV (fS (pv 2))) (pX (pv 1) (aS d9 (aS cK (aS g6 (pv 3) aA) (aS jD aA (pv 4))) aA))) (fY gz (pv 0) (fS (pv 2)) fV))))))))))),
  (aU (cj 2 rfl l7)
 (aU (dc (bN (AE.p (aq uC (AE.p (aq ej (ao 0) (AE.p aC))) (AE.p aC))))
 (aU (cj 3 rfl (Jq (AE.p l7) (AE.np (ft (K:=K) (tg:=(.n 2)) (jS.c (iI (AE.p aC))) (by decide) li (aq bh (ao 0) (AE.p (aq ej (AE.p (aq gJ (ao 1) (AE.p (aq cH (AE.p aC) (AE.p (aq jL (AE.p aC) (ao 2))))))) (AE.p aC))))))))
 (aU (dc (bN (AE.p (aq fv (AE.p (aq ej (ao 0) (AE.p aC))) (AE.p aC))))
 (lY (AE.w (ft (K:=K) (tg:=(.n 1)) (jS.c (iI (ao 1))) (by decide) li (fO gG (ao 0) fU (fT (AE.p (aq cH (ao 1) (AE.p aC))))))))
 da)
 (lY (AE.w (ft (K:=K) (tg:=(.n 1)) (jS.c (iI (ao 1))) (by decide) li (fO gG (ao 0) (fT (AE.p (aq rE (AE.p aC) (ao 1)))) fU))))))
 da)
 (aU (cj 4 rfl (aq ej (AE.p (aq gJ (ao 0) (AE.p aC))) (AE.p aC)))
 (aU (cj 5 rfl (Jq (AE.p l7) (AE.np (ft (K:=K) (tg:=(.n 2)) (jS.c (iI (ao 4))) (by decide) li (aq bh (ao 0) (AE.p (aq ej (AE.p (aq cH (AE.p (aq cH (AE.p (aq gJ (ao 1) (AE.p aC))) (AE.p (aq jL (AE.p aC) (ao 2))))) (AE.p (aq jL (ao 2) (ao 2))))) (AE.p aC))))))))
 (aU (cj 6 rfl (aq ej (AE.p (aq gJ (ao 0) (AE.p aC))) (AE.p (aq cH (ao 4) (AE.p aC)))))
 (lY (AE.w (ft (K:=K) (tg:=(.n 4)) (jS.c (iI (ao 1))) (by decide) li (aq cH (AE.p (aq cH (AE.p (fO gG (ao 0) fU (fT (ao 2)))) (AE.p (aq bh (ao 1) (AE.p (aq ej (AE.p (aq cH (AE.p (aq gJ (ao 3) (AE.p aC))) (AE.p (aq jL (AE.p aC) (ao 4))))) (AE.p aC))))))) (AE.p (fO gG (ao 0) (fT (ao 2)) fU)))))))))))⟩)
abbrev BR:bz:=top 36
theorem TL:cz ["_law_cell_here","_law_many","_law_left","_law_ranks_here","_law_draw","_law_k"] ["_law_cell_here","_law_many"] (bF BR):=dH
theorem SW{f:ai}{fd:bJ}(F:bY K "_law_ranks" "_law_ranks" BR f fd)(T:Txt mg):bO P w K mg base aI 1 f fd ["_law_cell_here","_law_many"] (cI uF):=
 okN (Mo [2,3]) F TL (λcdv A outer s H E hr nd hu a9=>by
  exact⟨_,(aL (u7 (i:=2) (N':=["_law_k"]) (ρ:=[af]) rfl nd rfl (dh rfl) (eI.of rfl (by kernel_rfl)) (iG rfl T.iE (aQ 1)) (λ_ _ _ _ _=>(dj (i:=0) Ax rfl (dh rfl))) (gA rfl) (λ_ _ _ _ _=>lE) (λ_ _ _ _ _=>(pv 0)))
 (aL (pS 3 (eF aR))
 (aL (pS 4 (aS d9 (pv 0) aA))
 (aL (eY eV rfl (iG rfl T.iE (aQ 1)) (pG 5)
 (aL (pS 4 (aS d9 (aS cK (aS cK (aS jD (pv 4) aA) (aS jD aA (pv 5))) aA) aA))
 (aW (eZ (gP fZ kn ko j7 (pv 3) (av (gP fZ LR LS OL (pv 2) (av (aS d9 (aS g6 (pv 4) aA) (c6 fA rfl T.b8 fI (aQ 2))) aR)) aR))))))
 (aW (bQ (pv 3))))))),
  (aU (ig 2 rfl (ft (K:=K) (tg:=(.n 0)) (jS.c (iI (ao 1))) (by decide) li (bi 0)))
 (aU (ig 3 rfl (eA aZ))
 (aU (cj 4 rfl (aq ej (ao 0) (AE.p aC)))
 (aU (eW (K:=K) (tg:=(.n 5)) (iI (ao 1)) (by decide)
 (aU (cj 4 rfl (aq ej (AE.p (aq cH (AE.p (aq cH (AE.p (aq jL (ao 4) (AE.p aC))) (AE.p (aq jL (AE.p aC) (ao 5))))) (AE.p aC))) (AE.p aC)))
 (Uz 3 2 (by decide) rfl rfl (AE.p (aq ej (AE.p (aq gJ (ao 4) (AE.p aC))) (AE.p (cD b8 (aF (ao 2) aZ))))))))
 (pW 3 rfl)))))⟩)
abbrev Aw:bz:=top 37
theorem UI:cz ["_law_script","_law_most","_law_many","_law_names_here","_law_ranks_here","_law_thick","_law_arrows","_law_j","_law_k","_law_cell_here"] ["_law_script","_law_most"] (bF Aw):=dH
theorem S7{f:ai}{fd:bJ}(F:bY K "_law_net" "_law_net" Aw f fd)(T:Txt mg)(lP:bI P w K mg base aI 1 "_law_cell" ["_law_script","_law_k"] (bW ia))(DU:bI P w K mg base aI 1 "_law_words" ["_law_cell_here","_law_many"] (cI vQ))(DV:bI P w K mg base aI 1 "_law_ranks" ["_law_cell_here","_law_many"] (cI uF)):bO P w K mg base aI 2 f fd ["_law_script","_law_most"] (bW vi):=
 gE (Mo [6]) F UI (λcdv A outer s H E hr nd hu a9=>by
  exact⟨_,(aL (pS 2 (aS cK aA (aS d9 (pC lP hr (av (pv 0) (av aA aR))) (pv 1))))
 (aL (pS 3 (pC DU hr (av (pC lP hr (av (pv 0) (av aA aR))) (aQ 2))))
 (aL (pS 4 (pC DV hr (av (pC lP hr (av (pv 0) (av aA aR))) (aQ 2))))
 (aL (pS 5 (oJ oH (eF (av aA (av aA (av aA (av aA (av aA (av aA aR))))))) (aS d9 (pC lP hr (av (pv 0) (av aA aR))) aA) (λ_ _=>rfl)))
 (aL (pS 6 (eF aR))
 (aL (eY eV rfl (iG rfl T.iE (aQ 2)) (pG 7)
 (aW (eY eV rfl (iG rfl T.iE (aQ 2)) (pG 8)
 (aL (pS 9 (pC lP hr (av (pv 0) (av (aS cK (aS cK aA (aS g6 (aS jD (c6 (IU rfl) rfl T.uT boot_max (av (pv 7) (aQ 8))) (aS rB (c6 (IU rfl) rfl T.uT boot_max (av (pv 7) (aQ 8))) aA)) aA)) (c6 (F6 rfl) rfl T.vd boot_min (av (pv 7) (aQ 8)))) aR))))
 (aW (cL (PW.pt (pw_and (bL vp (pX (pv 4) (pv 7)) (pX (pv 4) (pv 8)) (cn _)) (pw_and1 (bL vp (aS d9 (aS g6 (aS d9 (aS jD (pv 9) aA) aA) aA) aA) (pv 5) (cn _)))))
 (aW (eZ (gP fZ kn ko j7 (pv 6) (av (ed (av (pX (pv 3) (pv 7)) (av (pX (pv 3) (pv 8)) aR))) aR))))
 cS))))))
 (aW (bQ (ed (av (iX uQ rfl T.kM tT (aQ 3)) (av (iX uQ rfl T.kM tT (aQ 6)) aR))))))))))),
  (aU (cj 2 rfl (aq cH (AE.p aC) (AE.p (aq ej (AE.p (dD (aH (bg 0) (aH (AE.w aC) bv)))) (ao 1)))))
 (aU (cj 3 rfl (AE.nv (eu (aH (AE.w (dD (aH (bg 0) (aH (AE.w aC) bv)))) (aH (bg 2) bv)))))
 (aU (cj 4 rfl (AE.nv (eu (aH (AE.w (dD (aH (bg 0) (aH (AE.w aC) bv)))) (aH (bg 2) bv)))))
 (aU (cj 5 rfl (aq bh (AE.np (eA (aF aC (aF aC (aF aC (aF aC (aF aC (aF aC aZ)))))))) (AE.p (aq ej (AE.p (dD (aH (bg 0) (aH (AE.w aC) bv)))) (AE.p aC)))))
 (aU (ig 6 rfl (eA aZ))
 (aU (eW (K:=K) (tg:=(.n 7)) (iI (ao 2)) (by decide)
 (eW (K:=K) (tg:=(.n 8)) (iI (ao 2)) (by decide)
 (aU (cj 9 rfl (dD (aH (bg 0) (aH (AE.w (aq cH (AE.p (aq cH (AE.p aC) (AE.p (aq gJ (AE.p (aq jL (AE.p (cD uT (aF (ao 7) (aF (ao 8) aZ)))) (AE.p (aq rE (AE.p (cD uT (aF (ao 7) (aF (ao 8) aZ)))) (AE.p aC))))) (AE.p aC))))) (AE.p (cD vd (aF (ao 7) (aF (ao 8) aZ)))))) bv))))
 (dc (kJ (bN (AE.p (aq uC (AE.p (aq bh (ao 4) (ao 7))) (AE.p (aq bh (ao 4) (ao 8)))))) (bN (AE.p (aq uC (AE.p (aq ej (AE.p (aq gJ (AE.p (aq ej (AE.p (aq jL (ao 9) (AE.p aC))) (AE.p aC))) (AE.p aC))) (AE.p aC))) (ao 5)))))
 (lD 6 rfl (eM (aF (aq bh (ao 3) (ao 7)) (aF (aq bh (ao 3) (ao 8)) aZ))))
 da))))
 (dB (AE.w (eM (aF (cD kM (aF (ao 3) aZ)) (aF (cD kM (aF (ao 6) aZ)) aZ)))))))))))⟩)
abbrev Cb:bz:=top 38
theorem Pg:cz ["_law_arrows","_law_name"] ["_law_arrows","_law_name"] (bF Cb):=dH
theorem Qq{f:ai}{fd:bJ}(F:bY K "_law_elders" "_law_elders" Cb f fd)(T:Txt mg):bO P w K mg base aI 1 f fd ["_law_arrows","_law_name"] (cI mF):=
 okN (Mo []) F Pg (λcdv A outer s H E hr nd hu a9=>by
  exact⟨_,(aW (bQ (gC (N':=["_law_name","_law_tail","_law_head"]) (ρ:=[ac 1,af,af]) rfl (eI.of rfl (by kernel_rfl)) (en (pv 0)) (λ_ _ _ _ _=>(i5 rfl (dZ (dj (i:=1) (by show(["_law_name","_law_tail","_law_head"]:List Str).Nodup;decide +kernel) rfl (dh rfl)) (dZ (dj (i:=2) (by show(["_law_name","_law_tail","_law_head"]:List Str).Nodup;decide +kernel) rfl (dh rfl)) iZ)))) (uK (mH rfl (mH rfl ui mR) (vz mR))) (λ_ _ _ _ _=>(jd (bL (fm a9) (pv 2) (pv 0) (cn _)))) (λ_ _ _ _ _=>(pv 1))))),
  (lY (AE.w (ft (K:=K) (tg:=(.t [1,2])) (gO (ao 0)) (by decide) (bN (AE.p (aq fv (ao 2) (ao 0)))) (bi 1))))⟩)
abbrev Bp:bz:=top 39
theorem O8:cz ["_law_arrows","_law_found","_law_tail","_law_head"] ["_law_arrows"] (bF Bp):=dH
theorem Uf{f:ai}{fd:bJ}(F:bY K "_law_covered" "_law_covered" Bp f fd)(T:Txt mg)(zR:bI P w K mg base aI 1 "_law_elders" ["_law_arrows","_law_name"] (cI mF)):bO P w K mg base aI 2 f fd ["_law_arrows"] (cI qh):=
 okN (Mo [1]) F O8 (λcdv A outer s H E hr nd hu a9=>by
  exact⟨_,(aL (pS 1 (eF aR))
 (aL (eY eV rfl (en (pv 0)) (i5 rfl (dZ (pG 2) (dZ (pG 3) iZ)))
 (aW (cL (bL (fm a9) (c6 FZ rfl T.DO boot_sorted (av (pC zR hr (av (pv 0) (aQ 3))) aR)) (c6 FZ rfl T.DO boot_sorted (av (aS cK (pC zR hr (av (pv 0) (aQ 2))) (eF (aQ 2))) aR)) (cn _))
 (aW (eZ (gP fZ kn ko j7 (pv 1) (av (ed (av (pv 2) (aQ 3))) aR))))
 cS)))
 (aW (bQ (pv 1))))),
  (aU (ig 1 rfl (eA aZ))
 (aU (eW (K:=K) (tg:=(.t [2,3])) (jK (bi 0)) (by decide)
 (dc (bN (AE.p (aq fv (AE.np (cD KY (aF (AE.np (eu (aH (bg 0) (aH (bg 3) bv)))) aZ))) (AE.np (cD KY (aF (AE.p (aq cH (AE.np (eu (aH (bg 0) (aH (bg 2) bv)))) (AE.np (eA (aF (bi 2) aZ))))) aZ))))))
 (lD 1 rfl (eM (aF (bi 2) (aF (bi 3) aZ))))
 da))
 (pW 1 rfl)))⟩)
abbrev B9:bz:=top 40
theorem RN:cz ["_law_arrows","_law_arrow"] ["_law_arrows","_law_arrow"] (bF B9):=dH
theorem O5{f:ai}{fd:bJ}(F:bY K "_law_flipped" "_law_flipped" B9 f fd)(T:Txt mg):bO P w K mg base aI 1 f fd ["_law_arrows","_law_arrow"] (cI oS):=
 okN (Mo []) F RN (λcdv A outer s H E hr nd hu a9=>by
  exact⟨_,(aW (bQ (gC (N':=["_law_arrow","_law_one"]) (ρ:=[ac 1,af]) rfl (eI.of rfl (by kernel_rfl)) (en (pv 0)) (λ_ _ _ _ _=>(dj (i:=1) lI rfl (dh rfl))) (gA rfl) (λ_ _ _ _ _=>lE) (λ_ _ _ _ _=>(oJ oH (eF (av (pv 1) (av (ed (av (pX (pv 1) aA) (av (pX (pv 1) aA) aR))) aR))) (iX Cd rfl T.qp boot_int (av (gK (fm a9) (pv 1) (pv 0) (cn _)) aR)) (λ_ _=>rfl)))))),
  (lY (AE.w (ft (K:=K) (tg:=(.n 1)) (gO (ao 0)) (by decide) li (aq bh (AE.np (eA (aF (bi 1) (aF (eM (aF (aq bh (ao 1) (AE.p aC)) (aF (aq bh (ao 1) (AE.p aC)) aZ))) aZ)))) (AE.p (cD qp (aF (AE.p (aq fv (ao 1) (ao 0))) aZ)))))))⟩)
abbrev Cr:bz:=top 41
theorem Uv:cz ["_law_names_here","_law_arrows","_law_left","_law_turn","_law_heads"] ["_law_names_here","_law_arrows"] (bF Cr):=dH
theorem T4{f:ai}{fd:bJ}(F:bY K "_law_comes_round" "_law_comes_round" Cr f fd)(T:Txt mg):bO P w K mg base aI 1 f fd ["_law_names_here","_law_arrows"] (bW pw):=
 gE (Mo []) F Uv (λcdv A outer s H E hr nd hu a9=>by
  exact⟨_,(aL (k4 (i:=2) nd rfl (fN rfl) (iX ph rfl T.g9 m7 (aQ 0)))
 (aL (eY eV rfl (iG rfl T.iE (av (c6 fA rfl T.b8 fI (aQ 0)) aR)) (pG 3)
 (aL (k4 (i:=4) nd rfl (fN rfl) (gC (N':=["_law_left","_law_tail","_law_head"]) (ρ:=[ac 2,af,af]) rfl (eI.of rfl (by kernel_rfl)) (en (pv 1)) (λ_ _ _ _ _=>(i5 rfl (dZ (dj (i:=1) (by show(["_law_left","_law_tail","_law_head"]:List Str).Nodup;decide +kernel) rfl (dh rfl)) (dZ (dj (i:=2) (by show(["_law_left","_law_tail","_law_head"]:List Str).Nodup;decide +kernel) rfl (dh rfl)) iZ)))) (uK (mH rfl (mH rfl ui mR) (vz mR))) (λ_ _ _ _ _=>(jd (bL (h6 a9) (pv 1) (pv 0) rfl))) (λ_ _ _ _ _=>(pv 2))))
 (aW (k4 (i:=2) nd rfl (fN rfl) (gC (N':=["_law_heads","_law_name"]) (ρ:=[ac 4,af]) rfl (eI.of rfl (by kernel_rfl)) (en (pv 2)) (λ_ _ _ _ _=>(dj (i:=1) lI rfl (dh rfl))) (gA rfl) (λ_ _ _ _ _=>(jd (bL (h6 a9) (pv 1) (pv 0) rfl))) (λ_ _ _ _ _=>(pv 1)))))))
 (aW (bQ (gK pj (c6 fA rfl T.b8 fI (aQ 2)) aA (cn _)))))),
  (aU (cj 2 rfl (AE.nv (cD g9 (aF (ao 0) aZ))))
 (aU (eW (K:=K) (tg:=(.n 3)) (iI (AE.p (cD b8 (aF (ao 0) aZ)))) (by decide)
 (aU (cj 4 rfl (AE.nv (ft (K:=K) (tg:=(.t [1,2])) (gO (ao 1)) (by decide) (bN (AE.p (aq hU (ao 1) (ao 0)))) (bi 2))))
 (cj 2 rfl (AE.nv (ft (K:=K) (tg:=(.n 1)) (gO (ao 2)) (by decide) (bN (AE.p (aq hU (ao 1) (ao 0)))) (bi 1))))))
 (dB (AE.w (aq oB (AE.p (cD b8 (aF (ao 2) aZ))) (AE.p aC))))))⟩)
abbrev Bs:bz:=top 42
theorem RZ:cz ["_law_names_here","_law_arrows","_law_cell_here","_law_pairs","_law_one","_law_other","_law_at","_law_turned"] ["_law_names_here","_law_arrows","_law_cell_here"] (bF Bs):=dH
theorem Sy{f:ai}{fd:bJ}(F:bY K "_law_spoiled" "_law_spoiled" Bs f fd)(T:Txt mg)(t9:bI P w K mg base aI 1 "_law_flipped" ["_law_arrows","_law_arrow"] (cI oS))(zS:bI P w K mg base aI 1 "_law_comes_round" ["_law_names_here","_law_arrows"] (bW pw)):bO P w K mg base aI 2 f fd ["_law_names_here","_law_arrows","_law_cell_here"] (bW ri):=
 gE (Mo [3]) F RZ (λcdv A outer s H E hr nd hu a9=>by
  exact⟨_,(aL (cL (PW.pt (pw_or (bL (fm a9) (aS d9 (pv 2) aA) aA (cn _)) (pw_or1 (bL (fm a9) (c6 fA rfl T.b8 fI (aQ 1)) aA (cn _)))))
 (aL (pS 3 (eF aR))
 (aL (eY eV rfl (en (pv 0)) (pG 4)
 (aW (eY eV rfl (en (pv 0)) (pG 5)
 (aW (cL (PW.pt (pw_and (bL (oM a9) (pv 4) (pv 5) (cn _)) (pw_and (bL (jZ a9) (ed (av (pv 4) (aQ 5))) (pv 1) rfl) (pw_and1 (bL (jZ a9) (ed (av (pv 5) (aQ 4))) (pv 1) rfl)))))
 (aW (eZ (gP fZ kn ko j7 (pv 3) (av (ed (av (pv 4) (aQ 5))) aR))))
 cS)))))
 (aL (u7 (i:=3) (N':=["_law_names_here","_law_arrows","_law_pair"]) (ρ:=[ac 0,ac 1,af]) rfl nd rfl (dh rfl) (eI.of rfl (by kernel_rfl)) (en (pv 3)) (λ_ _ _ _ _=>(dj (i:=2) (by show(["_law_names_here","_law_arrows","_law_pair"]:List Str).Nodup;decide +kernel) rfl (dh rfl))) (gA rfl) (λ_ _ _ _ _=>(jd (iQ (gZ (pC zS hr (av (pv 0) (av (aS cK (pv 1) (eF (aQ 2))) aR))))))) (λ_ _ _ _ _=>(pv 2)))
 (aL (cL (bL pj (c6 fA rfl T.b8 fI (aQ 3)) aA (cn _))
 (aW (bQ (aS cK (pv 1) (eF (av (oJ oH (pv 3) (aS d9 (aS g6 (pv 2) aA) (c6 fA rfl T.b8 fI (aQ 3))) (λ_ _=>rfl)) aR)))))
 cS)
 (aW (bQ (fY gz (pv 1) (fS aA) fV)))))))
 cS)
 (aL (pS 6 (aS d9 (aS g6 (pv 2) aA) (c6 fA rfl T.b8 fI (aQ 1))))
 (aL (pS 7 (pC t9 hr (av (pv 1) (av (pX (pv 1) (pv 6)) aR))))
 (aL (cL (PW.pt (pw_or (bL (fm a9) (aS d9 (pv 2) aA) aA (cn _)) (pw_or1 (gZ (pC zS hr (av (pv 0) (aQ 7)))))))
 (aW (bQ (aS cK (fY gz (pv 1) fV (fS (pv 6))) (fY gz (pv 1) (fS (aS cK (pv 6) aA)) fV))))
 cS)
 (aW (bQ (pv 7))))))),
  (aU (dc (jY (bN (AE.p (aq fv (AE.p (aq ej (ao 2) (AE.p aC))) (AE.p aC)))) (bN (AE.p (aq fv (AE.p (cD b8 (aF (ao 1) aZ))) (AE.p aC)))))
 (aU (ig 3 rfl (eA aZ))
 (aU (eW (K:=K) (tg:=(.n 4)) (jK (bi 0)) (by decide)
 (eW (K:=K) (tg:=(.n 5)) (jK (bi 0)) (by decide)
 (dc (kJ (bN (AE.p (aq pq (ao 4) (ao 5)))) (kJ (bN (AE.p (aq jW (AE.p (eM (aF (bi 4) (aF (bi 5) aZ)))) (ao 1)))) (bN (AE.p (aq jW (AE.p (eM (aF (bi 5) (aF (bi 4) aZ)))) (ao 1))))))
 (lD 3 rfl (eM (aF (bi 4) (aF (bi 5) aZ))))
 da)))
 (aU (ig 3 rfl (ft (K:=K) (tg:=(.n 2)) (gO (ao 3)) (by decide) (iU (f8 (AE.p (dD (aH (bg 0) (aH (AE.w (aq cH (ao 1) (AE.np (eA (aF (bi 2) aZ))))) bv)))))) (bi 2)))
 (aU (dc (bN (AE.p (aq oB (AE.p (cD b8 (aF (ao 3) aZ))) (AE.p aC))))
 (dB (AE.w (aq cH (ao 1) (AE.np (eA (aF (aq bh (ao 3) (AE.p (aq ej (AE.p (aq gJ (ao 2) (AE.p aC))) (AE.p (cD b8 (aF (ao 3) aZ)))))) aZ))))))
 da)
 (dB (AE.w (fO gG (ao 1) (fT (AE.p aC)) fU)))))))
 da)
 (aU (cj 6 rfl (aq ej (AE.p (aq gJ (ao 2) (AE.p aC))) (AE.p (cD b8 (aF (ao 1) aZ)))))
 (aU (cj 7 rfl (AE.nv (eu (aH (bg 1) (aH (AE.w (aq bh (ao 1) (ao 6))) bv)))))
 (aU (dc (jY (bN (AE.p (aq fv (AE.p (aq ej (ao 2) (AE.p aC))) (AE.p aC)))) (f8 (AE.p (dD (aH (bg 0) (aH (bg 7) bv))))))
 (dB (AE.w (aq cH (AE.p (fO gG (ao 1) fU (fT (ao 6)))) (AE.p (fO gG (ao 1) (fT (AE.p (aq cH (ao 6) (AE.p aC)))) fU)))))
 da)
 (dB (bg 7))))))⟩)
abbrev Bz:bz:=top 43
theorem S8:cz ["_law_names_here","_law_arrows","_law_told","_law_tail","_law_head"] ["_law_names_here","_law_arrows"] (bF Bz):=dH
theorem Ov{f:ai}{fd:bJ}(F:bY K "_law_sorted" "_law_sorted" Bz f fd)(T:Txt mg):bO P w K mg base aI 1 f fd ["_law_names_here","_law_arrows"] (bW kY):=
 gE (Mo [2]) F S8 (λcdv A outer s H E hr nd hu a9=>by
  exact⟨_,(aL (pS 2 (eF aR))
 (aL (eY eV rfl (en (pv 0)) (pG 3)
 (aW (eY eV rfl (en (pv 0)) (pG 4)
 (aW (cL (bL (h6 a9) (ed (av (pv 3) (aQ 4))) (pv 1) rfl)
 (aW (eZ (gP fZ kn ko j7 (pv 2) (av (ed (av (pv 3) (aQ 4))) aR))))
 cS)))))
 (aW (bQ (ed (av (iX uQ rfl T.kM tT (aQ 0)) (av (iX uQ rfl T.kM tT (aQ 2)) aR))))))),
  (aU (ig 2 rfl (eA aZ))
 (aU (eW (K:=K) (tg:=(.n 3)) (jK (bi 0)) (by decide)
 (eW (K:=K) (tg:=(.n 4)) (jK (bi 0)) (by decide)
 (dc (bN (AE.p (aq hU (AE.p (eM (aF (bi 3) (aF (bi 4) aZ)))) (ao 1))))
 (lD 2 rfl (eM (aF (bi 3) (aF (bi 4) aZ))))
 da)))
 (dB (AE.w (eM (aF (cD kM (aF (ao 0) aZ)) (aF (cD kM (aF (ao 2) aZ)) aZ)))))))⟩)
abbrev Cg:bz:=top 44
theorem NC:cz ["_law_net_here","_law_cell_here","_law_arrows","_law_draw","_law_k","_law_some"] ["_law_net_here","_law_cell_here"] (bF Cg):=dH
theorem Uo{f:ai}{fd:bJ}(F:bY K "_law_second" "_law_second" Cg f fd)(T:Txt mg)(DW:bI P w K mg base aI 2 "_law_covered" ["_law_arrows"] (cI qh))(t9:bI P w K mg base aI 1 "_law_flipped" ["_law_arrows","_law_arrow"] (cI oS))(DX:bI P w K mg base aI 2 "_law_spoiled" ["_law_names_here","_law_arrows","_law_cell_here"] (bW ri))(ua:bI P w K mg base aI 1 "_law_sorted" ["_law_names_here","_law_arrows"] (bW kY)):bO P w K mg base aI 3 f fd ["_law_net_here","_law_cell_here"] (bW rH):=
 gE (Mo []) F NC (λcdv A outer s H E hr nd hu a9=>by
  exact⟨_,(aL (pS 2 (iX ph rfl T.g9 m7 (av (pX (pv 0) aA) aR)))
 (aL (pS 3 (aS d9 (pv 1) aA))
 (aL (eY eV rfl (iG rfl T.iE (av (aS d9 (pv 1) aA) aR)) (pG 4)
 (aL (pS 5 (pC DW hr (aQ 2)))
 (aL (pS 3 (aS d9 (aS cK (aS jD (pv 3) aA) aA) aA))
 (aW (cL (bL pj (c6 fA rfl T.b8 fI (aQ 5)) aA (cn _))
 (aW (pS 2 (pC t9 hr (av (pv 2) (av (oJ oH (pv 5) (aS d9 (aS g6 (pv 3) aA) (c6 fA rfl T.b8 fI (aQ 5))) (λ_ _=>rfl)) aR)))))
 cS)))))
 (aL (cL (bL (fm a9) (aS d9 (aS g6 (pv 1) aA) aA) aA (cn _))
 (aW (pS 2 (pC DX hr (av (pX (pv 0) aA) (av (pv 2) (av (aS g6 (pv 3) aA) aR))))))
 cS)
 (aW (bQ (pC ua hr (av (pX (pv 0) aA) (aQ 2))))))))),
  (aU (cj 2 rfl (AE.nv (cD g9 (aF (AE.p (aq bh (ao 0) (AE.p aC))) aZ))))
 (aU (cj 3 rfl (aq ej (ao 1) (AE.p aC)))
 (aU (eW (K:=K) (tg:=(.n 4)) (iI (AE.p (aq ej (ao 1) (AE.p aC)))) (by decide)
 (aU (cj 5 rfl (AE.nv (eu (aH (bg 2) bv))))
 (aU (cj 3 rfl (aq ej (AE.p (aq cH (AE.p (aq jL (ao 3) (AE.p aC))) (AE.p aC))) (AE.p aC)))
 (dc (bN (AE.p (aq oB (AE.p (cD b8 (aF (ao 5) aZ))) (AE.p aC))))
 (cj 2 rfl (AE.nv (eu (aH (bg 2) (aH (AE.w (aq bh (ao 5) (AE.p (aq ej (AE.p (aq gJ (ao 3) (AE.p aC))) (AE.p (cD b8 (aF (ao 5) aZ))))))) bv)))))
 da))))
 (aU (dc (bN (AE.p (aq fv (AE.p (aq ej (AE.p (aq gJ (ao 1) (AE.p aC))) (AE.p aC))) (AE.p aC))))
 (cj 2 rfl (dD (aH (AE.w (aq bh (ao 0) (AE.p aC))) (aH (bg 2) (aH (AE.w (aq gJ (ao 3) (AE.p aC))) bv)))))
 da)
 (dB (AE.w (dD (aH (AE.w (aq bh (ao 0) (AE.p aC))) (aH (bg 2) bv)))))))))⟩)
abbrev AH:bz:=top 45
theorem NU:cz ["_law_net_here","_law_one","_law_other"] ["_law_net_here","_law_one","_law_other"] (bF AH):=dH
theorem Nr{f:ai}{fd:bJ}(F:bY K "_law_tied" "_law_tied" AH f fd)(T:Txt mg):bO P w K mg base aI 1 f fd ["_law_net_here","_law_one","_law_other"] (bW iK):=
 gE (Mo []) F NU (λcdv A outer s H E hr nd hu a9=>by
  exact⟨_,(aW (bQ (EK (gK (h6 a9) (ed (av (pv 1) (aQ 2))) (pX (pv 0) aA) rfl) (nq (gK (h6 a9) (ed (av (pv 2) (aQ 1))) (pX (pv 0) aA) rfl))))),
  (dB (AE.w (Ki (AE.p (aq hU (AE.p (eM (aF (bi 1) (aF (bi 2) aZ)))) (AE.p (aq bh (ao 0) (AE.p aC))))) (aq hU (AE.p (eM (aF (bi 2) (aF (bi 1) aZ)))) (AE.p (aq bh (ao 0) (AE.p aC)))))))⟩)
abbrev AN:bz:=top 46
theorem Pt:cz ["_law_net_here","_law_found","_law_k"] ["_law_net_here"] (bF AN):=dH
theorem Sl{f:ai}{fd:bJ}(F:bY K "_law_ties" "_law_ties" AN f fd)(T:Txt mg)(oo:bI P w K mg base aI 1 "_law_tied" ["_law_net_here","_law_one","_law_other"] (bW iK)):bO P w K mg base aI 2 f fd ["_law_net_here"] (bW pB):=
 gE (Mo []) F Pt (λcdv A outer s H E hr nd hu a9=>by
  exact⟨_,(aL (pS 1 (eF aR))
 (aL (eY eV rfl (iG rfl T.iE (av (c6 fA rfl T.b8 fI (av (pX (pv 0) aA) aR)) aR)) (dj (i:=2) nd rfl (fN rfl))
 (aW (pS 1 (aS cK (pv 1) (gC (N':=["_law_k","_law_net_here","_law_other"]) (ρ:=[ac 2,ac 0,af]) rfl (eI.of rfl (by kernel_rfl)) (en (fY Bq (pX (pv 0) aA) (fS (aS cK (pv 2) aA)) fV)) (λ_ _ _ _ _=>(dj (i:=2) (by show(["_law_k","_law_net_here","_law_other"]:List Str).Nodup;decide +kernel) rfl (dh rfl))) (gA rfl) (λ_ _ _ _ _=>(jd (gZ (pC oo hr (av (pv 1) (av (pX (pX (pv 1) aA) (pv 0)) (aQ 2))))))) (λ_ _ _ _ _=>(ed (av (pX (pX (pv 1) aA) (pv 0)) (aQ 2)))))))))
 (aW (bQ (pv 1))))),
  (aU (cj 1 rfl (AE.nv (eA aZ)))
 (aU (eW (K:=K) (tg:=(.n 2)) (iI (AE.p (cD b8 (aF (AE.p (aq bh (ao 0) (AE.p aC))) aZ)))) (by decide)
 (cj 1 rfl (aq cH (ao 1) (AE.np (ft (K:=K) (tg:=(.n 2)) (gO (AE.p (fO Bf (AE.p (aq bh (ao 0) (AE.p aC))) (fT (AE.p (aq cH (ao 2) (AE.p aC)))) fU))) (by decide) (f8 (AE.p (dD (aH (bg 1) (aH (AE.w (aq bh (AE.p (aq bh (ao 1) (AE.p aC))) (ao 0))) (aH (bg 2) bv)))))) (eM (aF (aq bh (AE.p (aq bh (ao 1) (AE.p aC))) (ao 0)) (aF (bi 2) aZ))))))))
 (dB (bg 1))))⟩)
abbrev AM:bz:=top 47
theorem Sk:cz ["_law_net_here","_law_found","_law_k","_law_one","_law_middle","_law_other","_law_meet"] ["_law_net_here"] (bF AM):=dH
theorem QL{f:ai}{fd:bJ}(F:bY K "_law_corners" "_law_corners" AM f fd)(T:Txt mg)(oo:bI P w K mg base aI 1 "_law_tied" ["_law_net_here","_law_one","_law_other"] (bW iK)):bO P w K mg base aI 2 f fd ["_law_net_here"] (cI oF):=
 okN (Mo [1]) F Sk (λcdv A outer s H E hr nd hu a9=>by
  exact⟨_,(aL (pS 1 (eF aR))
 (aL (eY eV rfl (Zp.Ga rfl T.Mu (pX (pv 0) aA)) (i5 rfl (dZ (pG 2) (dZ (pG 3) iZ)))
 (aW (eY eV rfl (en (pX (pv 0) aA)) (pG 4)
 (aW (eY eV rfl (en (fY Bq (pX (pv 0) aA) (fS (aS cK (pv 2) aA)) fV)) (pG 5)
 (aL (pS 6 (qG (gK (h6 a9) (ed (av (pv 3) (aQ 4))) (pX (pv 0) aA) rfl) (nq (gK (h6 a9) (ed (av (pv 5) (aQ 4))) (pX (pv 0) aA) rfl))))
 (aW (cL (PW.pt (pw_and (sO (pv 6) (by intro _;rfl)) (pw_and1 (iQ (gZ (pC oo hr (av (pv 0) (av (pv 3) (aQ 5)))))))))
 (aW (eZ (gP fZ kn ko j7 (pv 1) (av (ed (av (pv 3) (av (pv 4) (aQ 5)))) aR))))
 cS))))))))
 (aW (bQ (pv 1))))),
  (aU (ig 1 rfl (eA aZ))
 (aU (eW (K:=K) (tg:=(.t [2,3])) (Zp.JC (aq bh (ao 0) (AE.p aC))) (by decide)
 (eW (K:=K) (tg:=(.n 4)) (jK (aq bh (ao 0) (AE.p aC))) (by decide)
 (eW (K:=K) (tg:=(.n 5)) (jK (fO Bf (AE.p (aq bh (ao 0) (AE.p aC))) (fT (AE.p (aq cH (ao 2) (AE.p aC)))) fU)) (by decide)
 (aU (cj 6 rfl (qH (AE.p (aq hU (AE.p (eM (aF (bi 3) (aF (bi 4) aZ)))) (AE.p (aq bh (ao 0) (AE.p aC))))) (aq hU (AE.p (eM (aF (bi 5) (aF (bi 4) aZ)))) (AE.p (aq bh (ao 0) (AE.p aC))))))
 (dc (kJ (sL (ao 6)) (iU (f8 (AE.p (dD (aH (bg 0) (aH (bg 3) (aH (bg 5) bv))))))))
 (lD 1 rfl (eM (aF (bi 3) (aF (bi 4) (aF (bi 5) aZ)))))
 da)))))
 (pW 1 rfl)))⟩)
abbrev Ct:bz:=top 48
theorem OG:cz ["_law_net_here","_law_some","_law_met","_law_turn","_law_tail","_law_head"] ["_law_net_here","_law_some"] (bF Ct):=dH
theorem U7{f:ai}{fd:bJ}(F:bY K "_law_high" "_law_high" Ct f fd)(T:Txt mg):bO P w K mg base aI 1 f fd ["_law_net_here","_law_some"] (cI pR):=
 okN (Mo [2]) F OG (λcdv A outer s H E hr nd hu a9=>by
  exact⟨_,(aL (pS 2 (iX ph rfl T.g9 m7 (aQ 1)))
 (aL (eY eV rfl (iG rfl T.iE (av (c6 fA rfl T.b8 fI (av (pX (pv 0) aA) aR)) aR)) (pG 3)
 (aW (eY eV rfl (en (pX (pv 0) aA)) (i5 rfl (dZ (pG 4) (dZ (pG 5) iZ)))
 (aW (cL (PW.pt (pw_and (bL (h6 a9) (pv 5) (pv 2) rfl) (pw_and1 (bL (jZ a9) (pv 4) (pv 2) rfl))))
 (aW (eZ (gP fZ kn ko j7 (pv 2) (aQ 4))))
 cS)))))
 (aW (bQ (pv 2))))),
  (aU (ig 2 rfl (cD g9 (aF (ao 1) aZ)))
 (aU (eW (K:=K) (tg:=(.n 3)) (iI (AE.p (cD b8 (aF (AE.p (aq bh (ao 0) (AE.p aC))) aZ)))) (by decide)
 (eW (K:=K) (tg:=(.t [4,5])) (jK (aq bh (ao 0) (AE.p aC))) (by decide)
 (dc (kJ (bN (AE.p (aq hU (ao 5) (ao 2)))) (bN (AE.p (aq jW (ao 4) (ao 2)))))
 (lD 2 rfl (bi 4))
 da)))
 (pW 2 rfl)))⟩)
abbrev BK:bz:=top 49
theorem SV:cz ["_law_net_here","_law_one","_law_other","_law_held","_law_high_here","_law_family","_law_name","_law_met","_law_turn","_law_some"] ["_law_net_here","_law_one","_law_other","_law_held"] (bF BK):=dH
theorem Qy{f:ai}{fd:bJ}(F:bY K "_law_parted" "_law_parted" BK f fd)(T:Txt mg)(ub:bI P w K mg base aI 1 "_law_high" ["_law_net_here","_law_some"] (cI pR)):bO P w K mg base aI 2 f fd ["_law_net_here","_law_one","_law_other","_law_held"] (bW qf):=
 gE (Mo [5]) F SV (λcdv A outer s H E hr nd hu a9=>by
  exact⟨_,(aL (pS 4 (pC ub hr (av (pv 0) (av (aS cK (eF (av (pv 1) (aQ 2))) (iX ph rfl T.g9 m7 (aQ 3))) aR))))
 (aL (pS 5 Sf)
 (aL (eY eV rfl (en (pv 4)) (dj (i:=6) nd rfl (fN rfl))
 (aW (G6 hu (pv 5) (pv 6) (aS cK (eF (aQ 6)) (gC (N':=["_law_name","_law_tail","_law_head"]) (ρ:=[ac 6,af,af]) rfl (eI.of rfl (by kernel_rfl)) (en (pX (pv 0) aA)) (λ_ _ _ _ _=>(i5 rfl (dZ (dj (i:=1) (by show(["_law_name","_law_tail","_law_head"]:List Str).Nodup;decide +kernel) rfl (dh rfl)) (dZ (dj (i:=2) (by show(["_law_name","_law_tail","_law_head"]:List Str).Nodup;decide +kernel) rfl (dh rfl)) iZ)))) (uK (mH rfl (mH rfl ui mR) (vz mR))) (λ_ _ _ _ _=>(jd (bL (fm a9) (pv 2) (pv 0) (cn _)))) (λ_ _ _ _ _=>(pv 1)))) rfl)))
 (aL (k4 (i:=7) nd rfl (fN rfl) (eF (aQ 1)))
 (aL (eY eV rfl (iG rfl T.iE (av (c6 fA rfl T.b8 fI (aQ 4)) aR)) (pG 8)
 (aW (eY eV rfl (en (pv 4)) (dj (i:=6) nd rfl (fN rfl))
 (aL (u7 (i:=9) (N':=["_law_met","_law_here"]) (ρ:=[ac 7,af]) rfl nd rfl (dh rfl) (eI.of rfl (by kernel_rfl)) (en (Jk hu (pv 5) (pv 6) (λ_ _=>rfl))) (λ_ _ _ _ _=>(dj (i:=1) lI rfl (dh rfl))) (gA rfl) (λ_ _ _ _ _=>(jd (bL (h6 a9) (pv 1) (pv 0) rfl))) (λ_ _ _ _ _=>(pv 1)))
 (aW (cL (bL pj (c6 fA rfl T.b8 fI (aQ 9)) aA (cn _))
 (aW (k4 (i:=7) nd rfl (fN rfl) (aS cK (pv 7) (gC (N':=["_law_met","_law_held","_law_here"]) (ρ:=[ac 7,ac 3,af]) rfl (eI.of rfl (by kernel_rfl)) (en (Jk hu (pv 5) (pv 6) (λ_ _=>rfl))) (λ_ _ _ _ _=>(dj (i:=2) (by show(["_law_met","_law_held","_law_here"]:List Str).Nodup;decide +kernel) rfl (dh rfl))) (gA rfl) (λ_ _ _ _ _=>(jd (PW.pt (pw_and (bL (jZ a9) (pv 2) (pv 0) rfl) (pw_and1 (bL (jZ a9) (pv 2) (pv 1) rfl)))))) (λ_ _ _ _ _=>(pv 2))))))
 cS))))))
 (aW (bQ (gK (jZ a9) (pv 2) (pv 7) rfl)))))))),
  (aU (cj 4 rfl (AE.nv (eu (aH (bg 0) (aH (AE.w (aq cH (AE.np (eA (aF (bi 1) (aF (bi 2) aZ)))) (AE.np (cD g9 (aF (ao 3) aZ))))) bv)))))
 (aU (Fh 5 rfl PM)
 (aU (eW (K:=K) (tg:=(.n 6)) (jK (bi 4)) (by decide)
 (FD 5 rfl (bi 6) (aq cH (AE.np (eA (aF (bi 6) aZ))) (AE.np (ft (K:=K) (tg:=(.t [1,2])) (gO (AE.p (aq bh (ao 0) (AE.p aC)))) (by decide) (bN (AE.p (aq fv (ao 2) (ao 0)))) (bi 1))))))
 (aU (cj 7 rfl (AE.nv (eA (aF (bi 1) aZ))))
 (aU (eW (K:=K) (tg:=(.n 8)) (iI (AE.p (cD b8 (aF (ao 4) aZ)))) (by decide)
 (eW (K:=K) (tg:=(.n 6)) (jK (bi 4)) (by decide)
 (aU (cj 9 rfl (AE.nv (ft (K:=K) (tg:=(.n 1)) (gO (AE.p (Jc 5 (bi 6)))) (by decide) (bN (AE.p (aq hU (ao 1) (ao 0)))) (bi 1))))
 (dc (bN (AE.p (aq oB (AE.p (cD b8 (aF (ao 9) aZ))) (AE.p aC))))
 (cj 7 rfl (aq cH (ao 7) (AE.np (ft (K:=K) (tg:=(.n 2)) (gO (AE.p (Jc 5 (bi 6)))) (by decide) (kJ (bN (AE.p (aq jW (ao 2) (ao 0)))) (bN (AE.p (aq jW (ao 2) (ao 1))))) (bi 2)))))
 da))))
 (dB (AE.w (aq jW (ao 2) (ao 7)))))))))⟩)
abbrev AY:bz:=top 50
theorem Tt:cz ["_law_net_here","_law_road","_law_one","_law_other","_law_held","_law_k","_law_high_here"] ["_law_net_here","_law_road","_law_one","_law_other","_law_held"] (bF AY):=dH
theorem S9{f:ai}{fd:bJ}(F:bY K "_law_open" "_law_open" AY f fd)(T:Txt mg)(oo:bI P w K mg base aI 1 "_law_tied" ["_law_net_here","_law_one","_law_other"] (bW iK))(ub:bI P w K mg base aI 1 "_law_high" ["_law_net_here","_law_some"] (cI pR)):bO P w K mg base aI 2 f fd ["_law_net_here","_law_road","_law_one","_law_other","_law_held"] (bW qu):=
 gE (Mo []) F Tt (λcdv A outer s H E hr nd hu a9=>by
  exact⟨_,(aL (cL (PW.pt (pw_or (iQ (gZ (c6 qJ rfl T.lO lM (av (pv 1) (av (pA rfl T.g9 m7) aR))))) (pw_or (bL vp (c6 fA rfl T.b8 fI (aQ 1)) aA (cn _)) (pw_or (bL (oM a9) (pX (pv 1) aA) (pv 2) (cn _)) (pw_or1 (bL (oM a9) (pX (pv 1) (vh uy aA)) (pv 3) (cn _)))))))
 (aW (bQ iH))
 cS)
 (aL (eY eV rfl (iG rfl T.iE (av (c6 fA rfl T.b8 fI (aQ 1)) aR)) (pG 5)
 (aL (cL (PW.pt (pw_or (iQ (gZ (c6 qJ rfl T.lO lM (av (pX (pv 1) (pv 5)) (av (pA rfl T.Mt boot_str) aR))))) (pw_or (bL (jZ a9) (pX (pv 1) (pv 5)) (pX (pv 0) aA) rfl) (pw_or1 (bL (h6 a9) (pX (pv 1) (pv 5)) (fY gz (pv 1) fV (fS (pv 5))) rfl)))))
 (aW (bQ iH))
 cS)
 (aW (cL (PW.pt (pw_and (bL pj (pv 5) aA (cn _)) (pw_and1 (iQ (gZ (pC oo hr (av (pv 0) (av (pX (pv 1) (aS rB (pv 5) aA)) (av (pX (pv 1) (pv 5)) aR)))))))))
 (aW (bQ iH))
 cS))))
 (aL (pS 6 (pC ub hr (av (pv 0) (aQ 4))))
 (aL (eY eV rfl (SO rfl T.iE (av aA (av (aS rB (c6 fA rfl T.b8 fI (aQ 1)) aA) aR))) (pG 5)
 (aW (cL (PW.pt (pw_and (bL (h6 a9) (ed (av (pX (pv 1) (aS rB (pv 5) aA)) (av (pX (pv 1) (pv 5)) aR))) (pX (pv 0) aA) rfl) (pw_and1 (bL (h6 a9) (ed (av (pX (pv 1) (aS cK (pv 5) aA)) (av (pX (pv 1) (pv 5)) aR))) (pX (pv 0) aA) rfl))))
 (aW (cL (bL (jZ a9) (pX (pv 1) (pv 5)) (pv 6) rfl)
 (aW (bQ iH))
 cS))
 (aW (cL (bL (h6 a9) (pX (pv 1) (pv 5)) (pv 4) rfl)
 (aW (bQ iH))
 cS)))))
 (aW (bQ iH)))))),
  (aU (dc (jY (iU (f8 (AE.p (pP (ty_list K) (ao 1))))) (jY (bN (AE.p (aq uC (AE.p (cD b8 (aF (ao 1) aZ))) (AE.p aC)))) (jY (bN (AE.p (aq pq (AE.p (aq bh (ao 1) (AE.p aC))) (ao 2)))) (bN (AE.p (aq pq (AE.p (aq bh (ao 1) (AE.p (vn vY (AE.p aC))))) (ao 3)))))))
 (dB (AE.w iJ))
 da)
 (aU (eW (K:=K) (tg:=(.n 5)) (iI (AE.p (cD b8 (aF (ao 1) aZ)))) (by decide)
 (aU (dc (jY (iU (f8 (AE.p (pP (ty_str K) (AE.p (aq bh (ao 1) (ao 5))))))) (jY (bN (AE.p (aq jW (AE.p (aq bh (ao 1) (ao 5))) (AE.p (aq bh (ao 0) (AE.p aC)))))) (bN (AE.p (aq hU (AE.p (aq bh (ao 1) (ao 5))) (AE.p (fO gG (ao 1) fU (fT (ao 5)))))))))
 (dB (AE.w iJ))
 da)
 (dc (kJ (bN (AE.p (aq oB (ao 5) (AE.p aC)))) (iU (f8 (AE.p (dD (aH (bg 0) (aH (AE.w (aq bh (ao 1) (AE.p (aq rE (ao 5) (AE.p aC))))) (aH (AE.w (aq bh (ao 1) (ao 5))) bv))))))))
 (dB (AE.w iJ))
 da)))
 (aU (cj 6 rfl (AE.nv (eu (aH (bg 0) (aH (bg 4) bv)))))
 (aU (eW (K:=K) (tg:=(.n 5)) (Sw (AE.p aC) (AE.p (aq rE (AE.p (cD b8 (aF (ao 1) aZ))) (AE.p aC)))) (by decide)
 (dc (kJ (bN (AE.p (aq hU (AE.p (eM (aF (aq bh (ao 1) (AE.p (aq rE (ao 5) (AE.p aC)))) (aF (aq bh (ao 1) (ao 5)) aZ)))) (AE.p (aq bh (ao 0) (AE.p aC)))))) (bN (AE.p (aq hU (AE.p (eM (aF (aq bh (ao 1) (AE.p (aq cH (ao 5) (AE.p aC)))) (aF (aq bh (ao 1) (ao 5)) aZ)))) (AE.p (aq bh (ao 0) (AE.p aC)))))))
 (dc (bN (AE.p (aq jW (AE.p (aq bh (ao 1) (ao 5))) (ao 6))))
 (dB (AE.w iJ))
 da)
 (dc (bN (AE.p (aq hU (AE.p (aq bh (ao 1) (ao 5))) (ao 4))))
 (dB (AE.w iJ))
 da)))
 (dB (AE.w iJ))))))⟩)
abbrev Bh:bz:=top 51
theorem Su:cz ["_law_told","_law_nets","_law_one","_law_other","_law_held","_law_first","_law_road","_law_some","_law_k","_law_net_here","_law_rest"] ["_law_told","_law_nets"] (bF Bh):=dH
theorem Ue{f:ai}{fd:bJ}(F:bY K "_law_apart" "_law_apart" Bh f fd)(T:Txt mg)(DY:bI P w K mg base aI 2 "_law_parted" ["_law_net_here","_law_one","_law_other","_law_held"] (bW qf))(DZ:bI P w K mg base aI 2 "_law_open" ["_law_net_here","_law_road","_law_one","_law_other","_law_held"] (bW qu)):bO P w K mg base aI 3 f fd ["_law_told","_law_nets"] (bW pV):=
 gE (Mo []) F Su (λcdv A outer s H E hr nd hu a9=>by
  exact⟨_,(aL (cL (PW.pt (pw_or (iQ (gZ (c6 qJ rfl T.lO lM (av (pv 0) (av (pA rfl T.kM tT) aR))))) (pw_or1 (bL (oM a9) (c6 fA rfl T.b8 fI (aQ 0)) aA (cn _)))))
 (aW (bQ iH))
 cS)
 (aL (wX (pv 0) (i5 rfl (dZ (pG 2) (dZ (pG 3) (dZ (pG 4) (dZ (pG 5) (dZ (pG 6) iZ)))))))
 (aL (cL (PW.pt (pw_or (iQ (gZ (c6 qJ rfl T.lO lM (av (pv 4) (av (pA rfl T.g9 m7) aR))))) (pw_or1 (iQ (gZ (c6 qJ rfl T.lO lM (av (pv 5) (av (pA rfl T.Ms boot_bool) aR))))))))
 (aW (bQ iH))
 cS)
 (aL (pS 7 (aS cK (eF (av (pv 2) (aQ 3))) (pv 4)))
 (aL (eY eV rfl (iG rfl T.iE (av (c6 fA rfl T.b8 fI (aQ 7)) aR)) (pG 8)
 (aW (cL (PW.pt (pw_or (iQ (gZ (c6 qJ rfl T.lO lM (av (pX (pv 7) (pv 8)) (av (pA rfl T.Mt boot_str) aR))))) (pw_or (bL (jZ a9) (pX (pv 7) (pv 8)) (pX (pX (pv 1) aA) aA) rfl) (pw_or1 (bL (h6 a9) (pX (pv 7) (pv 8)) (fY gz (pv 7) fV (fS (pv 8))) rfl)))))
 (aW (bQ iH))
 cS)))
 (aL (pS 9 (oJ oH (pv 1) (iX Cd rfl T.qp boot_int (av (S4 (pv 5)) aR)) (λ_ _=>rfl)))
 (aL (pS 10 (oJ oH (pv 1) (iX Cd rfl T.qp boot_int (aQ 5)) (λ_ _=>rfl)))
 (aW (bQ (qG (pC DY hr (av (pv 9) (av (pv 2) (av (pv 3) (aQ 4))))) (nq (pC DZ hr (av (pv 10) (av (pv 6) (av (pv 2) (av (pv 3) (aQ 4))))))))))))))))),
  (aU (dc (jY (iU (f8 (AE.p (pP (ty_tuple K) (ao 0))))) (bN (AE.p (aq pq (AE.p (cD b8 (aF (ao 0) aZ))) (AE.p aC)))))
 (dB (AE.w iJ))
 da)
 (aU (wQ (K:=K) (.t [2,3,4,5,6]) (by decide) (bi 0))
 (aU (dc (jY (iU (f8 (AE.p (pP (ty_list K) (ao 4))))) (iU (f8 (AE.p (pP (ty_bool K) (ao 5))))))
 (dB (AE.w iJ))
 da)
 (aU (cj 7 rfl (aq cH (AE.np (eA (aF (bi 2) (aF (bi 3) aZ)))) (ao 4)))
 (aU (eW (K:=K) (tg:=(.n 8)) (iI (AE.p (cD b8 (aF (ao 7) aZ)))) (by decide)
 (dc (jY (iU (f8 (AE.p (pP (ty_str K) (AE.p (aq bh (ao 7) (ao 8))))))) (jY (bN (AE.p (aq jW (AE.p (aq bh (ao 7) (ao 8))) (AE.p (aq bh (AE.p (aq bh (ao 1) (AE.p aC))) (AE.p aC)))))) (bN (AE.p (aq hU (AE.p (aq bh (ao 7) (ao 8))) (AE.p (fO gG (ao 7) fU (fT (ao 8)))))))))
 (dB (AE.w iJ))
 da))
 (aU (cj 9 rfl (aq bh (ao 1) (AE.p (cD qp (aF (AE.p (QM (ao 5))) aZ)))))
 (aU (cj 10 rfl (aq bh (ao 1) (AE.p (cD qp (aF (ao 5) aZ)))))
 (dB (AE.w (qH (AE.p (dD (aH (bg 9) (aH (bg 2) (aH (bg 3) (aH (bg 4) bv)))))) (dD (aH (bg 10) (aH (bg 6) (aH (bg 2) (aH (bg 3) (aH (bg 4) bv))))))))))))))))⟩)
abbrev Bi:bz:=top 52
theorem J5:cz ["_law_e","_law_some"] ["_law_e"] (bF Bi):=dH
theorem Ud{f:ai}{fd:bJ}(F:bY K "_law_kinds" "_law_kinds" Bi f fd)(T:Txt mg)(O:Own mg base)(Kt:wP K):uM P w K mg base 1 f fd ["_law_e"] (cI vF):=
 F.PX J5 (λvs H Q E h=>B3 h) (λcdv A outer s H vs Q E hr h=>by
  have nd:=J5.nd;have a9:=hr.units;exact⟨_,(aL (pS 1 (eF aR))
 (aL (cL (gZ (c6 HK rfl T.lO lM (av (pv 0) (av (ed (av (jz (v:=.ref (Tb.cl "Locked")) rfl O.VL rfl) (av (jz (v:=.ref (Tb.cl "NoArrow")) rfl O.VJ rfl) (av (jz (v:=.ref (Tb.cl "NoLabel")) rfl O.VR rfl) (av (jz (v:=.ref (Tb.cl "NoName")) rfl O.VG rfl) (av (jz (v:=.ref (Tb.cl "NoNet")) rfl O.VO rfl) (av (jz (v:=.ref (Tb.cl "NoRow")) rfl O.VQ rfl) aR))))))) aR))))
 (aW (eZ (gP fZ kn ko j7 (pv 1) (av kI aR))))
 cS)
 (aL (cL (gZ (c6 HK rfl T.lO lM (av (pv 0) (av (ed (av (jz (v:=.ref (Tb.cl "NoSuch")) rfl O.VN rfl) (av (jz (v:=.ref (Tb.cl "NoText")) rfl O.VP rfl) (av (jz (v:=.ref (Tb.cl "NoTie")) rfl O.VM rfl) (av (jz (v:=.ref (Tb.cl "NoWord")) rfl O.VE rfl) (av (jz (v:=.ref (Tb.cl "Ring")) rfl O.VH rfl) (av (jz (v:=.ref (Tb.cl "Twice")) rfl O.VF rfl) (av (jz (v:=.ref (Tb.cl "WrongSize")) rfl O.VD rfl) aR)))))))) aR))))
 (aW (eZ (gP fZ kn ko j7 (pv 1) (av kI aR))))
 cS)
 (aL (cL (gZ (c6 Fi rfl T.lO lM (av (pv 0) (av (jz (v:=.ref (Tb.cl "Unlike")) rfl O.VI rfl) aR))))
 (aW (eZ (gP fZ kn ko j7 (pv 1) (av kI aR))))
 cS)
 (aL (cL (iQ (gZ (c6 Fi rfl T.lO lM (av (pv 0) (av (pA rfl O.VS (by kernel_rfl)) aR)))))
 (aW (eZ (gP fZ kn ko j7 (pv 1) (av kI aR))))
 cS)
 (aW (bQ (pv 1)))))))),
  _root_.A.runN (N:=["_law_e","_law_some"]) (M:=Mo [1]) (aU (ig 1 rfl (eA aZ))
 (aU (dc (f8 (AE.p (E6 (Cs:=[Tb.cl "Locked",Tb.cl "NoArrow",Tb.cl "NoLabel",Tb.cl "NoName",Tb.cl "NoNet",Tb.cl "NoRow"]) rfl (by simp) Kt.VX)))
 (lD 1 rfl l7)
 da)
 (aU (dc (f8 (AE.p (E6 (Cs:=[Tb.cl "NoSuch",Tb.cl "NoText",Tb.cl "NoTie",Tb.cl "NoWord",Tb.cl "Ring",Tb.cl "Twice",Tb.cl "WrongSize"]) rfl (by simp) Kt.VW)))
 (lD 1 rfl l7)
 da)
 (aU (dc (f8 (AE.p (Fb rfl (.own _) Kt.VU)))
 (lD 1 rfl l7)
 da)
 (aU (dc (iU (f8 (AE.p (Fb rfl (.blt _) Kt.VT))))
 (lD 1 rfl l7)
 da)
 (pW 1 rfl)))))) (by decide) h⟩)
abbrev BY:bz:=top 53
theorem RH:cz ["_law_nets","_law_way","_law_kinds_here","_law_e"] ["_law_nets","_law_way"] (bF BY):=dH
theorem Ow{f:ai}{fd:bJ}(F:bY K "_law_refused" "_law_refused" BY f fd)(T:Txt mg)(O:Own mg base)(Kt:wP K)  (D0:bI P w K mg base (fL P w) 6 "say_same" ["first","second"] (lC Tb.cl sr))(D1:bI P w K mg base (fL P w) 7 "told_apart" ["first","second"] (lC Tb.cl rQ))(D2:z9 P w K mg base 1 "_law_kinds" ["_law_e"] (cI vF)):bO P w K mg base aI 8 f fd ["_law_nets","_law_way"] (bW lR):=
 gE (Mo []) F RH (λcdv A outer s H E hr nd hu a9=>by
  have V1:=hr.mono (show 6<=_ by decide);have V2:=hr.mono (show 7<=_ by decide);have V3:=λea:ai=>(hr.mono (show 1<=_ by decide)).Py (.ref ea);exact⟨_,(aL (pS 2 (eF aR))
 (aL (Sc (i:=3) rfl rfl rfl nd rfl rfl rfl O.VC Kt.VY
 (A1 (OV rfl (bL (fm a9) (pv 1) aA (cn _))
 (A1 (HR rfl D0 V1 rfl (av (pX (pv 0) aA) (av (pX (pv 0) aA) aR))))
 (A1 (HR rfl D1 V2 rfl (av (pX (pv 0) aA) (av (pX (pv 0) aA) aR))))))
 (λea=>(aW (pS 2 (Ob (E:=λ_ _ _=>False) D2 (V3 ea) rfl (aQ 3))))))
 (aW (bQ (pv 2))))),
  (aU (cj 2 rfl (AE.nv (eA aZ)))
 (aU (Sh (cs:=["Unlike"]) rfl
 (Oe (bN (AE.p (aq fv (ao 1) (AE.p aC))))
 (Gy (aH (AE.w (aq bh (ao 0) (AE.p aC))) (aH (AE.w (aq bh (ao 0) (AE.p aC))) bv)))
 (Gy (aH (AE.w (aq bh (ao 0) (AE.p aC))) (aH (AE.w (aq bh (ao 0) (AE.p aC))) bv))))
 (cj 2 rfl (AE.nv (eu (aH (Pr 3 rfl) bv)))))
 (dB (bg 2))))⟩)
abbrev AD:bz:=top 54
theorem NA:cz ["_law_names_here","_law_cell_here","_law_letters","_law_some"] ["_law_names_here","_law_cell_here"] (bF AD):=dH
theorem UX{f:ai}{fd:bJ}(F:bY K "_law_word" "_law_word" AD f fd)(T:Txt mg):bO P w K mg base aI 1 f fd ["_law_names_here","_law_cell_here"] (bW ou):=
 gE (Mo []) F NA (λcdv A outer s H E hr nd hu a9=>by
  exact⟨_,(aL (pS 2 kI)
 (aL (pS 3 (aS cK (eF (av (aS cK (fY gz (pX (pv 0) aA) fV (fS (vh uy aA))) (pX (pv 2) (aS d9 (pv 1) aA))) (av (aS cK (pX (pv 2) (aS d9 (aS g6 (pv 1) aA) aA)) (fY gz (pX (pv 0) (vh uy aA)) (fS aA) fV)) aR))) (gC (N':=["_law_one"]) (ρ:=[af]) rfl (eI.of rfl (by kernel_rfl)) (en (pv 2)) (λ_ _ _ _ _=>(dj (i:=0) Ax rfl (dh rfl))) (gA rfl) (λ_ _ _ _ _=>lE) (λ_ _ _ _ _=>(pv 0)))))
 (aL (u7 (i:=3) (N':=["_law_names_here","_law_one"]) (ρ:=[ac 0,af]) rfl nd rfl (dh rfl) (eI.of rfl (by kernel_rfl)) (en (pv 3)) (λ_ _ _ _ _=>(dj (i:=1) lI rfl (dh rfl))) (gA rfl) (λ_ _ _ _ _=>(jd (bL (jZ a9) (pv 1) (pv 0) rfl))) (λ_ _ _ _ _=>(pv 1)))
 (aW (bQ (oJ oH (pv 3) (aS d9 (aS g6 (pv 1) aA) (c6 (F6 rfl) rfl T.vd boot_min (av aA (av (c6 fA rfl T.b8 fI (aQ 3)) aR)))) (λ_ _=>rfl))))))),
  (aU (cj 2 rfl l7)
 (aU (cj 3 rfl (aq cH (AE.np (eA (aF (aq cH (AE.p (fO gG (AE.p (aq bh (ao 0) (AE.p aC))) fU (fT (AE.p (vn vY (AE.p aC)))))) (AE.p (aq bh (ao 2) (AE.p (aq ej (ao 1) (AE.p aC)))))) (aF (aq cH (AE.p (aq bh (ao 2) (AE.p (aq ej (AE.p (aq gJ (ao 1) (AE.p aC))) (AE.p aC))))) (AE.p (fO gG (AE.p (aq bh (ao 0) (AE.p (vn vY (AE.p aC))))) (fT (AE.p aC)) fU))) aZ)))) (AE.np (ft (K:=K) (tg:=(.n 0)) (gO (ao 2)) (by decide) li (bi 0)))))
 (aU (cj 3 rfl (AE.nv (ft (K:=K) (tg:=(.n 1)) (gO (ao 3)) (by decide) (bN (AE.p (aq jW (ao 1) (ao 0)))) (bi 1))))
 (dB (AE.w (aq bh (ao 3) (AE.p (aq ej (AE.p (aq gJ (ao 1) (AE.p aC))) (AE.p (cD vd (aF (AE.p aC) (aF (AE.p (cD b8 (aF (ao 3) aZ))) aZ))))))))))))⟩)
abbrev CQ:bz:=top 55
theorem SJ:cz ["_law_names_here","_law_cell_here","_law_at","_law_by"] ["_law_names_here","_law_cell_here"] (bF CQ):=dH
theorem NB{f:ai}{fd:bJ}(F:bY K "_law_names" "_law_names" CQ f fd)(T:Txt mg)(zT:bI P w K mg base aI 1 "_law_word" ["_law_names_here","_law_cell_here"] (bW ou)):bO P w K mg base aI 2 f fd ["_law_names_here","_law_cell_here"] (bW rN):=
 gE (Mo []) F SJ (λcdv A outer s H E hr nd hu a9=>by
  exact⟨_,(aL (pS 2 (aS d9 (aS g6 (pv 1) aA) (c6 fA rfl T.b8 fI (aQ 0))))
 (aL (cL (bL (fm a9) (aS d9 (pv 1) aA) aA (cn _))
 (aW (bQ (aS cK (aS cK (fY gz (pv 0) fV (fS (pv 2))) (eF (av (pC zT hr (av (pv 0) (av (aS g6 (pv 1) aA) aR))) aR))) (fY gz (pv 0) (fS (aS cK (pv 2) aA)) fV))))
 cS)
 (aL (cL (PW.pt (pw_and (bL (fm a9) (aS d9 (pv 1) aA) aA (cn _)) (pw_and1 (bL pj (c6 fA rfl T.b8 fI (aQ 0)) aA (cn _)))))
 (aW (bQ (aS cK (fY gz (pv 0) fV (fS (pv 2))) (fY gz (pv 0) (fS (aS cK (pv 2) aA)) fV))))
 cS)
 (aL (cL (PW.pt (pw_and (bL (fm a9) (aS d9 (pv 1) aA) aA (cn _)) (pw_and1 (bL pj (c6 fA rfl T.b8 fI (aQ 0)) aA (cn _)))))
 (aL (pS 3 (aS cK aA (aS d9 (pv 2) (aS rB (c6 fA rfl T.b8 fI (aQ 0)) aA))))
 (aW (bQ (aS cK (fY gz (pv 0) (fS (pv 3)) fV) (fY gz (pv 0) fV (fS (pv 3)))))))
 cS)
 (aL (cL (bL (fm a9) (c6 fA rfl T.b8 fI (aQ 0)) aA (cn _))
 (aW (bQ (aS cK (fY gz (pv 0) fV (fS (pv 2))) (fY gz (pv 0) (fS (aS cK (pv 2) aA)) fV))))
 cS)
 (aW (bQ (aS cK (aS cK (fY gz (pv 0) fV (fS (pv 2))) (eF (av (pC zT hr (av (pv 0) (av (aS g6 (pv 1) aA) aR))) aR))) (fY gz (pv 0) (fS (pv 2)) fV))))))))),
  (aU (cj 2 rfl (aq ej (AE.p (aq gJ (ao 1) (AE.p aC))) (AE.p (cD b8 (aF (ao 0) aZ)))))
 (aU (dc (bN (AE.p (aq fv (AE.p (aq ej (ao 1) (AE.p aC))) (AE.p aC))))
 (dB (AE.w (aq cH (AE.p (aq cH (AE.p (fO gG (ao 0) fU (fT (ao 2)))) (AE.np (eA (aF (dD (aH (bg 0) (aH (AE.w (aq gJ (ao 1) (AE.p aC))) bv))) aZ))))) (AE.p (fO gG (ao 0) (fT (AE.p (aq cH (ao 2) (AE.p aC)))) fU)))))
 da)
 (aU (dc (kJ (bN (AE.p (aq fv (AE.p (aq ej (ao 1) (AE.p aC))) (AE.p aC)))) (bN (AE.p (aq oB (AE.p (cD b8 (aF (ao 0) aZ))) (AE.p aC)))))
 (dB (AE.w (aq cH (AE.p (fO gG (ao 0) fU (fT (ao 2)))) (AE.p (fO gG (ao 0) (fT (AE.p (aq cH (ao 2) (AE.p aC)))) fU)))))
 da)
 (aU (dc (kJ (bN (AE.p (aq fv (AE.p (aq ej (ao 1) (AE.p aC))) (AE.p aC)))) (bN (AE.p (aq oB (AE.p (cD b8 (aF (ao 0) aZ))) (AE.p aC)))))
 (aU (cj 3 rfl (aq cH (AE.p aC) (AE.p (aq ej (ao 2) (AE.p (aq rE (AE.p (cD b8 (aF (ao 0) aZ))) (AE.p aC)))))))
 (dB (AE.w (aq cH (AE.p (fO gG (ao 0) (fT (ao 3)) fU)) (AE.p (fO gG (ao 0) fU (fT (ao 3))))))))
 da)
 (aU (dc (bN (AE.p (aq fv (AE.p (cD b8 (aF (ao 0) aZ))) (AE.p aC))))
 (dB (AE.w (aq cH (AE.p (fO gG (ao 0) fU (fT (ao 2)))) (AE.p (fO gG (ao 0) (fT (AE.p (aq cH (ao 2) (AE.p aC)))) fU)))))
 da)
 (dB (AE.w (aq cH (AE.p (aq cH (AE.p (fO gG (ao 0) fU (fT (ao 2)))) (AE.np (eA (aF (dD (aH (bg 0) (aH (AE.w (aq gJ (ao 1) (AE.p aC))) bv))) aZ))))) (AE.p (fO gG (ao 0) (fT (ao 2)) fU))))))))))⟩)
abbrev By:bz:=top 56
theorem NL:cz ["_law_net_here","_law_cell_here","_law_nets"] ["_law_net_here","_law_cell_here"] (bF By):=dH
theorem Pu{f:ai}{fd:bJ}(F:bY K "_law_unlike" "_law_unlike" By f fd)(T:Txt mg)(ua:bI P w K mg base aI 1 "_law_sorted" ["_law_names_here","_law_arrows"] (bW kY))(zU:bI P w K mg base aI 8 "_law_refused" ["_law_nets","_law_way"] (bW lR))(D3:bI P w K mg base aI 2 "_law_names" ["_law_names_here","_law_cell_here"] (bW rN)):bO P w K mg base aI 9 f fd ["_law_net_here","_law_cell_here"] (bW qo):=
 gE (Mo [2]) F NL (λcdv A outer s H E hr nd hu a9=>by
  exact⟨_,(aL (pS 2 (eF (av (pv 0) (av (pC ua hr (av (pC D3 hr (av (iX ph rfl T.g9 m7 (av (pX (pv 0) aA) aR)) (av (aS g6 (pv 1) aA) aR))) (av (pX (pv 0) aA) aR))) aR))))
 (aL (cL (bL (fm a9) (aS d9 (pv 1) aA) aA (cn _))
 (aW (eZ (vx fZ Dz DA AQ (pv 2))))
 cS)
 (aW (bQ (qG (gK (fm a9) (pC zU hr (av (pv 2) (av aA aR))) (eF (av kI aR)) (cn _)) (nq (gK (fm a9) (pC zU hr (av (pv 2) (av aA aR))) (eF (av kI aR)) (cn _)))))))),
  (aU (ig 2 rfl (eA (aF (bi 0) (aF (dD (aH (AE.w (dD (aH (AW.nv (AE.w (cD g9 (aF (AE.p (aq bh (ao 0) (AE.p aC))) aZ)))) (aH (AE.w (aq gJ (ao 1) (AE.p aC))) bv)))) (aH (AE.w (aq bh (ao 0) (AE.p aC))) bv))) aZ))))
 (aU (dc (bN (AE.p (aq fv (AE.p (aq ej (ao 1) (AE.p aC))) (AE.p aC))))
 (CT 2 rfl)
 da)
 (Sq 2 rfl (dB (AE.w (qH (AE.p (aq fv (AE.p (dD (aH (bg 2) (aH (AE.w aC) bv)))) (AE.np (eA (aF l7 aZ))))) (aq fv (AE.p (dD (aH (bg 2) (aH (AE.w aC) bv)))) (AE.np (eA (aF l7 aZ))))))))))⟩)
abbrev BW:bz:=top 57
theorem NQ:cz ["_law_script","_law_net_here","_law_cell_here","_law_nets","_law_due","_law_k","_law_truth","_law_told"] ["_law_script"] (bF BW):=dH
theorem QR{f:ai}{fd:bJ}(F:bY K "law" "law" BW f fd)(T:Txt mg)(zV:bI P w K mg base aI 6 "say_same" ["first","second"] (bW lT))(zW:bI P w K mg base aI 7 "told_apart" ["first","second"] (spT 2 lG))(lP:bI P w K mg base aI 1 "_law_cell" ["_law_script","_law_k"] (bW ia))(D4:bI P w K mg base aI 2 "_law_net" ["_law_script","_law_most"] (bW vi))(D5:bI P w K mg base aI 3 "_law_second" ["_law_net_here","_law_cell_here"] (bW rH))(zX:bI P w K mg base aI 2 "_law_ties" ["_law_net_here"] (bW pB))(zY:bI P w K mg base aI 2 "_law_corners" ["_law_net_here"] (cI oF))(D6:bI P w K mg base aI 3 "_law_apart" ["_law_told","_law_nets"] (bW pV))(D7:bI P w K mg base aI 9 "_law_unlike" ["_law_net_here","_law_cell_here"] (bW qo)):bO P w K mg base aI 10 f fd ["_law_script"] (bW Bd):=
 gE (Mo [3]) F NQ (λcdv A outer s H E hr nd hu a9=>by
  have V4:=hr.mono (show 7<=_ by decide);exact⟨_,(aL (pS 1 (pC D4 hr (av (pv 0) (av aA aR))))
 (aL (pS 2 (pC lP hr (av (pv 0) (av aA aR))))
 (aL (pS 3 (eF (av (pv 1) (av (pC D5 hr (av (pv 1) (av (aS g6 (pv 2) aA) aR))) aR))))
 (aL (cL (bL (fm a9) (aS d9 (pv 2) aA) aA (cn _))
 (aW (eZ (vx fZ Dz DA AQ (pv 3))))
 cS)
 (aL (pS 4 (qG (gK (fm a9) (pC zX hr (av (pX (pv 3) aA) aR)) (pC zX hr (av (pX (pv 3) aA) aR)) (cn _)) (nq (gK (fm a9) (pC zY hr (av (pX (pv 3) aA) aR)) (pC zY hr (av (pX (pv 3) aA) aR)) (cn _)))))
 (aL (eY eV rfl (iG rfl T.iE (av aA aR)) (pG 5)
 (aL (pS 6 (pC zV hr (av (pX (pv 3) aA) (av (pX (pv 3) aA) aR))))
 (aL (pS 7 (pC zW hr (av (pX (pv 3) aA) (av (pX (pv 3) aA) aR))))
 (aL (cL (PW.pt (pw_or (iQ (gZ (c6 qJ rfl T.lO lM (av (pv 6) (av (pA rfl T.Ms boot_bool) aR))))) (pw_or (bL (oM a9) (pv 6) (pv 4) (cn _)) (pw_or1 (bL (oM a9) (pv 4) (gK FO (pv 7) uN (cn _)) (cn _))))))
 (aW (bQ iH))
 cS)
 (aL (cL (bL QK (pv 7) uN (cn _))
 (aL (cL (iQ (gZ (pC D6 hr (av (pv 7) (aQ 3)))))
 (aW (bQ iH))
 cS)
 (aL (eZ (gP fZ kn ko j7 (pX (pv 7) aA) (av kI aR)))
 (aW (eZ (vx fZ PySem.F.slot_list_clear PySem.F.type_list_clear R7 (pX (pv 7) aA))))))
 cS)
 (aW (eZ (vx fZ Dz DA AQ (pv 3)))))))))
 (aL (cL (iQ (gZ (pC D7 hr (av (pv 1) (av (pC lP hr (av (pv 0) (av aA aR))) aR)))))
 (aW (bQ iH))
 cS)
 (aW (bQ (qG (gK Ql (pC zV hr (av (pv 1) (aQ 1))) iH (cn _)) (nq (gK FO (mD (bI.td zW) V4 rfl oz (av (pv 1) (aQ 1))) uN (cn _))))))))))))),
  (aU (cj 1 rfl (dD (aH (bg 0) (aH (AE.w aC) bv))))
 (aU (cj 2 rfl (dD (aH (bg 0) (aH (AE.w aC) bv))))
 (aU (ig 3 rfl (eA (aF (bi 1) (aF (dD (aH (bg 1) (aH (AE.w (aq gJ (ao 2) (AE.p aC))) bv))) aZ))))
 (aU (dc (bN (AE.p (aq fv (AE.p (aq ej (ao 2) (AE.p aC))) (AE.p aC))))
 (CT 3 rfl)
 da)
 (aU (cj 4 rfl (qH (AE.p (aq fv (AE.p (dD (aH (AE.w (aq bh (ao 3) (AE.p aC))) bv))) (AE.p (dD (aH (AE.w (aq bh (ao 3) (AE.p aC))) bv))))) (aq fv (AE.np (eu (aH (AE.w (aq bh (ao 3) (AE.p aC))) bv))) (AE.np (eu (aH (AE.w (aq bh (ao 3) (AE.p aC))) bv))))))
 (aU (eW (K:=K) (tg:=(.n 5)) (iI (AE.p aC)) (by decide)
 (aU (cj 6 rfl (dD (aH (AE.w (aq bh (ao 3) (AE.p aC))) (aH (AE.w (aq bh (ao 3) (AE.p aC))) bv))))
 (Tf (K:=K) 7 rfl (aH (AE.w (aq bh (ao 3) (AE.p aC))) (aH (AE.w (aq bh (ao 3) (AE.p aC))) bv)) (jY (iU (f8 (AE.p (pP (ty_bool K) (ao 6))))) (jY (bN (AE.p (aq pq (ao 6) (ao 4)))) (bN (AE.p (aq pq (ao 4) (AE.p (aq JV (ao 7) (AE.p B7))))))))
 (dB (AE.w iJ))
 (bN (AE.p (aq Vc (ao 7) (AE.p B7)))) (iU (f8 (AE.p (Oq (aH (AW.p (bg 7)) (aH (AE.w (ao 3)) bv))))))
 (dB (AE.w iJ))
 (CT 3 rfl))))
 (aU (dc (iU (f8 (AE.p (dD (aH (bg 1) (aH (AE.w (dD (aH (bg 0) (aH (AE.w aC) bv)))) bv))))))
 (dB (AE.w iJ))
 da)
 (dB (AE.w (qH (AE.p (aq Sj (AE.p (dD (aH (bg 1) (aH (bg 1) bv)))) (AE.p iJ))) (aq JV (AE.p (dD (aH (bg 1) (aH (bg 1) bv)))) (AE.p B7))))))))))))⟩)
end
end pO
namespace L2
open PySem PySem.Spec PyProof.Rows
theorem Uq{K:aO}{h:aY}{mg:Str->Option aj}{y:Str}{D:ai}{bb:List aj}{nw:String}(X:K.In h)(G:h.Ns mainGlobals mg)(a:dU K mainGlobals y=ac (ac (.ref D)))(t:Dp K D bb nw=true):OwnCls y D bb nw mg h:=by
 refine⟨iB X G a,?_⟩;simp only[Dp]at t;split at t
 case h_2=>cases t
 case h_1 d1 c1 s1 e1=>
  split at t
  case h_2=>cases t
  case h_1 D' m1 p0 p1 p2 p3 b1 p5 em es=>
   obtain⟨n1,bs,mr,N1,qn,hd,sn,sb,ab,co,de⟩:=c1;obtain⟨l1⟩:=s1;dsimp only at em es t;subst em;subst es;have t1:=tO.mp t;have t2:=tO.mp t1.1;have t3:=tO.mp t2.1;have t4:=tO.mp t3.1;have t5:=tO.mp t4.1;have u1:=jF.mp t5.1;have u2:=jF.mp t5.2;have u3:de=false:=by simpa using t4.2
   subst u1 u2 u3;exact⟨m1,N1,n1,qn,bs,hd,sn,sb,ab,co,d1,p0,p1,p2,p3,p5,h.nsMap N1,X _ _ e1,.of_isNs (PySem.W.isNs_of_in X t2.2),PySem.W.nsMap_none_of_in X t2.2 (jF.mp t1.2),PySem.W.tail_of_in X t3.2⟩
theorem yN{R:String->Bool->Prop}:∀x k,(λc=>([]:List (String×Bool)).lookup c) x=ac k->R x k:=λ_ _ h=>nomatch h
theorem yI{n:String}{b:Bool}{l:List (String×Bool)}{R:String->Bool->Prop}(h:R n b)(t:∀x k,(λc=>l.lookup c) x=ac k->R x k):∀x k,(λc=>((n,b)::l).lookup c) x=ac k->R x k:=by
 intro x k e;simp only[mZ]at e;split at e
 ·rename_i q;cases e;rw[jF.mp q];exact h
 ·exact t x k e
theorem P9{R:ai->Prop}{cl:String->ai}:∀C,(∃c∈([]:List String),C=cl c)->R C:=λC ⟨c,h,_⟩=>nomatch h
theorem Tz{n:String}{l:List String}{R:ai->Prop}{cl:String->ai}(h:R (cl n))(t:∀C,(∃c∈l,C=cl c)->R C):∀C,(∃c∈n::l,C=cl c)->R C:=λC ⟨c,hc,e⟩=>by
 cases hc with
 |head=>rw[e];exact h
 |tail _ k=>exact t C ⟨c,k,e⟩
theorem cO.RT{P:bH}{w:bt}{K:aO}{mg:Str->Option aj}{CX:iu}{k:Nat}{x p:Str}{st:bz}{sp:Sp}{fa c T:ai}(F:cO K mg x st [p])(hm:mg x=ac (.ref fa))(h:∀base,K.In base->base.Ns mainGlobals mg->BM mg base->kO base c T->∀f fd,bY K x x st f fd->bO P w K mg base CX k f fd [p] sp) :
 ∃fd:bJ,(∀(s:az) (u:aj),oi s fd ⟨[u],[]⟩ [(p,u)])/\∀base:aY,K.In base->base.Ns mainGlobals mg->BM mg base->kO base c T->bO P w K mg base CX k fa fd [p] sp:=by
 obtain⟨f,fd,h1,h2,h3,h5,h4⟩:=F.ex;rw[h1]at hm;cases hm;exact⟨fd,λs u=>h5 s [u] rfl,λbase kb nb b1 b2=>h base kb nb b1 b2 _ fd h4⟩
def IQ(K:aO):Bool:=K.all λp=>match p.2.cls with|.type "list" => false|_=>true
theorem Qu{K:aO}(h:IQ K=true){a:ai}{o:Obj}(e:K.lookup a=ac o)(c:o.cls=.type "list"):False:=by
 have hm:(a,o)∈K:=by
  clear h
  induction K with
  |nil=>cases e
  |cons p r ih=>
   obtain⟨b,x⟩:=p;simp only[mZ]at e;split at e
   ·rename_i q;cases e;rw[jF.mp q];exact List.Mem.head _
   ·exact List.Mem.tail _ (ih e)
 have h2:=y8.mp h _ hm;simp only[c]at h2;cases h2
end L2
namespace Mi
open PySem
@[simp] theorem nU {α:Type} (a:α):cy (ac a)=.ok a:=rfl
@[simp] theorem Wj {α:Type} {c:Prop} [Decidable c] (h:c) (r:Rs α):bp c r=r:=a8 h
@[simp] theorem la (a b:Str):bM (.str a) (.str b)=decide (a=b):=by rw[bM];by_cases h:a=b<;>simp[h]
@[simp] theorem T8 (a b:Int):bM (.int a) (.int b)=decide (a=b):=by rw[bM];by_cases h:a=b<;>simp[h]
@[simp] theorem UW (x:Str):(D.str x).dep=0:=by simp[D.dep]
@[simp] theorem Wl (x:Int):(D.int x).dep=0:=by simp[D.dep]
@[simp] theorem Wh (x:Bool):(D.bl x).dep=0:=by simp[D.dep]
@[simp] theorem Wi:D.non.dep=0:=by simp[D.dep]
@[simp] theorem KZ (ds:List D):(D.lst ds).dep=eJ ds+1:=by simp[D.dep]
@[simp] theorem We (ds:List D):(D.tup ds).dep=eJ ds+1:=by simp[D.dep]
@[simp] theorem Wk:eJ []=0:=rfl
@[simp] theorem CC (d:D) (r:List D):eJ (d::r)=max d.dep (eJ r):=by rw[eJ]
@[simp] theorem xG:∀xs:List Str,eJ (xs.map D.str)=0
 |[]=>rfl
 |x::r=>by rw[cM,CC,UW,xG r];rfl
theorem Ad(xs:List Str)(x:Str):((xs.map D.str).any λe=>bM e (.str x))=decide (x∈xs):=by
 induction xs with
 |nil=>rfl
 |cons y r ih=>
  rw[cM,mX,ih,la];by_cases h:y=x
  ·simp[h]
  ·have h2:¬ x=y:=λz=>h z.symm;simp[h,h2]
theorem pT(xs:List Str)(x:Str):bC (.str x) (.lst (xs.map D.str))=.ok (.bl (decide (x∈xs))):=by show bp _ _=_;rw[aG (by rw[xG];omega),Ad]
theorem sS(xs:List Str)(x:Str):cQ (.str x) (.lst (xs.map D.str))=.ok (.bl (!decide (x∈xs))):=by show bp _ _=_;rw[aG (by rw[xG];omega),Ad]
theorem BX(xs:List Str)(x:Str):cQ (.str x) (.tup (xs.map D.str))=.ok (.bl (!decide (x∈xs))):=by show bp _ _=_;rw[aG (by rw[xG];omega),Ad]
theorem xR(x y:Str):bK (.str x) (.str y)=.ok (.bl (decide (x=y))):=by show bp _ _=_;rw[aG (by simp),la]
theorem CU(x y:Str):gp (.str x) (.str y)=.ok (.bl (!decide (x=y))):=by show bp _ _=_;rw[aG (by simp),la]
theorem lJ(x y:Int):bK (.int x) (.int y)=.ok (.bl (decide (x=y))):=by show bp _ _=_;rw[aG (by simp),T8]
theorem Oa{α:Type}(f:α->Bool)(xs:List α):u5 (xs.map λx=>D.bl (f x))=ac (xs.map f):=by
 induction xs with
 |nil=>rfl
 |cons a r ih=>rw[cM,u5,ih];rfl
theorem A7(xs:List Str):ir (xs.map D.str)=ac xs:=by
 induction xs with
 |nil=>rfl
 |cons a r ih=>rw[cM,ir,ih];rfl
theorem Ba(n:Nat)(b:S)(a0:W):dG 1 n b [a0]=(b ([ac a0]++cu (n-1) af)).bind nF:=aG rfl
theorem gq(n:Nat)(b:S)(a0 a1:W):dG 2 n b [a0,a1]=(b ([ac a0,ac a1]++cu (n-2) af)).bind nF:=aG rfl
theorem CG(n:Nat)(b:S)(a0 a1 a2:W):dG 3 n b [a0,a1,a2]=(b ([ac a0,ac a1,ac a2]++cu (n-3) af)).bind nF:=aG rfl
theorem QC(n:Nat)(b:S)(a0 a1 a2 a3:W):dG 4 n b [a0,a1,a2,a3]=(b ([ac a0,ac a1,ac a2,ac a3]++cu (n-4) af)).bind nF:=aG rfl
theorem uq(n:Nat)(b:S)(a0:W):gs 1 n b [a0]=(b ([ac a0]++cu (n-1) af)).bind me:=aG rfl
theorem oX(n:Nat)(b:S)(a0 a1:W):gs 2 n b [a0,a1]=(b ([ac a0,ac a1]++cu (n-2) af)).bind me:=aG rfl
theorem HM(n:Nat)(b:S)(a0 a1 a2:W):gs 3 n b [a0,a1,a2]=(b ([ac a0,ac a1,ac a2]++cu (n-3) af)).bind me:=aG rfl
theorem K5{α:Type}(r:Rs α):bp (1<=16777216) r=r:=aG (by decide)
theorem qL(i j:Int):bc (.int i) (.int j)=.ok (.int (i+j)):=rfl
theorem yk(i j:Str):bc (.str i) (.str j)=bp (i.length+j.length<=16777216) (.ok (.str (i++j))):=rfl
theorem qF(i j:List D):bc (.lst i) (.lst j)=bp (i.length+j.length<=16777216) (.ok (.lst (i++j))):=rfl
theorem Gx(i j:Int):gW (.int i) (.int j)=.ok (.int (i-j)):=rfl
theorem Br(i j:Int):dM (.int i) (.int j)=bp (nB i j) (.ok (.int (i*j))):=rfl
theorem div_ii(i j:Int):c5 (.int i) (.int j)=bp (nJ j) (.ok (.int (i/j))):=rfl
theorem jt(i j:Int):bG (.int i) (.int j)=bp (0<j) (.ok (.int (i%j))):=rfl
theorem wK(i j:Int):gR (.int i) (.int j)=.ok (.bl (decide (i<j))):=rfl
theorem yT(i j:Int):gV (.int i) (.int j)=.ok (.bl (decide (j<i))):=rfl
theorem nA(ds:List D):bR [.lst ds]=.ok (.int ds.length):=rfl
theorem IS(ds:List D):bR [.tup ds]=.ok (.int ds.length):=rfl
theorem TW(z:Str):bR [.str z]=bp (z.length<=16777216) (.ok (.int z.length)):=rfl
theorem Oo(i j:Int):j8 [.int i,.int j]=.ok (.int (max i j)):=rfl
theorem Jw(i j:Int):ma [.int i,.int j]=.ok (.int (min i j)):=rfl
theorem RS(ds:List D):A4 [.lst ds]=(cy (u5 ds)).bind λbs=>.ok (.bl (bs.all id)):=rfl
theorem S0(ds:List D):pe [.lst ds]=.ok (.tup ds):=rfl
theorem vG(z:Str)(lo hi:Option Int):cx (.str z) lo hi=bp (z.length<=16777216) (.ok (.str (jb z lo hi))):=rfl
theorem Q7(ds:List D):vS (.lst ds)=.ok ds:=rfl
theorem Rb(ds:List D):vS (.tup ds)=.ok ds:=rfl
theorem rC(b:Bool):oR (.bl b)=.ok b:=rfl
theorem oN(b:Int):qt (.int b)=.ok b:=rfl
theorem o0(x:D):uR (.d x)=.ok x:=rfl
theorem NI(x:D):FL (.d x)=bp (qw x=true) (.ok x):=rfl
theorem UK(i:Nat)(d:D)(e:Mi.Env):(Tg.n i).put d e=.ok (e.set i (ac (.d d))):=rfl
theorem all_cons(i:Nat)(is:List Nat)(d:D)(ds:List D)(e:Mi.Env):sR (i::is) (d::ds) e=sR is ds (e.set i (ac (.d d))):=rfl
theorem QZ(w:W):nF (.rt w)=.ok w:=rfl
theorem QY(e:Mi.Env):nF (.nx e)=.ok (.d .non):=rfl
theorem U3(w:W):me (.rt w)=.ok w:=rfl
theorem aw{f:D->D->Rs D}{a b:E}{e:Mi.Env}{x y:D}{z:Rs D}(ha:a e=.ok x)(hb:b e=.ok y)(h:f x y=z):m2 f a b e=z:=by unfold m2;rw[ha,aK,hb,aK,h]
theorem aM{s t:S}{e e':Mi.Env}(h:s e=.ok (.nx e')):aE s t e=t e':=by unfold aE;rw[h];rfl
theorem kW{s t:S}{e:Mi.Env}{w:W}(h:s e=.ok (.rt w)):aE s t e=.ok (.rt w):=by unfold aE;rw[h];rfl
theorem bD{i:Nat}{a:E}{e:Mi.Env}{d:D}(h:a e=.ok d):bf i a e=.ok (.nx (e.set i (ac (.d d)))):=by unfold bf;rw[h];rfl
theorem dR{a:EW}{e:Mi.Env}{w:W}(h:a e=.ok w):br a e=.ok (.rt w):=by unfold br;rw[h];rfl
theorem bu{a:E}{e:Mi.Env}{d:D}(h:a e=.ok d):wD a e=.ok (.d d):=by unfold wD;rw[h];rfl
theorem fk{c:C}{s t:S}{e:Mi.Env}(h:c e=.ok true):bq c s t e=s e:=by unfold bq;rw[h];rfl
theorem dQ{c:C}{s t:S}{e:Mi.Env}(h:c e=.ok false):bq c s t e=t e:=by unfold bq;rw[h];rfl
theorem bB{a:E}{e:Mi.Env}{b:Bool}(h:a e=.ok (.bl b)):cB a e=.ok b:=by unfold cB;rw[h];rfl
theorem fb{ρ:List (Option Nat)}{it:I}{tg:Tg}{c:C}{a:E}{e:Mi.Env}{xs ys:List D}(h:it e=.ok xs)(hl:xs.length<=16777216)(hc:dE tg c a (lF ρ e) xs=.ok ys):cq ρ it tg c a e=.ok (.lst ys):=by unfold cq;rw[h,aK,aG hl,hc,aK]
theorem iL{a:E}{e:Mi.Env}{n:Int}(h:a e=.ok (.int n))(hr:okR n):fo a e=.ok (dA 0 n):=by unfold fo;rw[h,aK,oN,aK,aG hr]
theorem eR{it:I}{tg:Tg}{b:S}{e:Mi.Env}{xs:List D}(h:it e=.ok xs):cU it tg b e=gL tg b xs e:=by unfold cU;rw[h];rfl
theorem et{a:E}{e:Mi.Env}{x:D}{xs:List D}(h:a e=.ok x)(hx:vS x=.ok xs):bA a e=.ok xs:=by unfold bA;rw[h,aK,hx]
theorem vv{i:Nat}{a:E}{e:Mi.Env}{d:D}{ds:List D}(h:a e=.ok d)(hg:getL e i=.ok ds)(hl:ds.length<16777216):ek i a e=.ok (.nx (putL e i (ds++[d]))):=by unfold ek;rw[h,aK,hg,aK,aG hl]
theorem eB{f:List D->Rs D}{a:E}{e:Mi.Env}{x:D}(h:a e=.ok x):mN f [a] e=f [x]:=by unfold mN;rw[eX,h];rfl
theorem nP{f:List D->Rs D}{a b:E}{e:Mi.Env}{x y:D}(h:a e=.ok x)(h':b e=.ok y):mN f [a,b] e=f [x,y]:=by unfold mN;rw[eX,h,aK,eX,h'];rfl
theorem nz{a:E}{e:Mi.Env}{x:D}(h:a e=.ok x):mN b9 [a] e=.ok (.lst [x]):=by rw[eB h];exact aG (by simp)
theorem fw{a b:E}{e:Mi.Env}{x y:D}(h:a e=.ok x)(h':b e=.ok y):mN dTup [a,b] e=.ok (.tup [x,y]):=by rw[nP h h'];exact aG (by simp)
theorem i6{f:Fn}{a:EW}{e:Mi.Env}{x:W}{d:D}(h:a e=.ok x)(hf:f [x]=.ok (.d d)):aN f [a] e=.ok d:=by unfold aN lj;rw[cG,h];simp only[aK,cG,hf,o0]
theorem call2{f:Fn}{a b:EW}{e:Mi.Env}{x y:W}{d:D}(h:a e=.ok x)(h':b e=.ok y)(hf:f [x,y]=.ok (.d d)):aN f [a,b] e=.ok d:=by unfold aN lj;rw[cG,h,aK,cG,h'];simp only[aK,cG,hf,o0]
theorem oY{f:Fn}{a b c:EW}{e:Mi.Env}{x y z:W}{d:D}(h:a e=.ok x)(h':b e=.ok y)(h'':c e=.ok z)(hf:f [x,y,z]=.ok (.d d)):aN f [a,b,c] e=.ok d:=by unfold aN lj;rw[cG,h,aK,cG,h',aK,cG,h''];simp only[aK,cG,hf,o0]
theorem Ry{f:Fn}{a b:EW}{e:Mi.Env}{x y:W}{d:D}(h:a e=.ok x)(h':b e=.ok y)(hf:f [x,y]=.ok (.d d))(hi:qw d=true):uS f [a,b] e=.ok d:=by unfold uS lj;rw[cG,h,aK,cG,h'];simp only[aK,cG,hf,NI,aG hi]
theorem gr{α:Type}{tg:Tg}{c:C}{a:E}{e:Mi.Env}(f g:α->D)(p:α->Bool):∀(xs:List α),(∀x∈xs,∃e1,tg.put (f x) e=.ok e1/\c e1=.ok (p x)/\(p x=true->a e1=.ok (g x)))->dE tg c a e (xs.map f)=.ok ((xs.filter p).map g)
 |[],_=>rfl
 |x::r,h=>by
  obtain⟨e1,h1,h2,h3⟩:=h x cW;have ih:=gr (tg:=tg) (c:=c) (a:=a) (e:=e) f g p r λy hy=>h y (eL _ hy);rw[cM,dE,h1,aK,h2,aK];cases hp:p x with
  |true=>rw[a8 rfl,h3 hp,aK,ih,aK,Lj hp];rfl
  |false=>rw[a7 dJ,ih,Ll (by rw[hp];exact dJ)]
theorem iT{tg:Tg}{body:S}(Inv:Nat->Mi.Env->Prop):∀(xs:List D) (k:Nat),(∀i x e,xs[i]? = ac x->Inv (k+i) e->∃e1 e2,tg.put x e=.ok e1/\body e1=.ok (.nx e2)/\Inv (k+i+1) e2)->∀e,Inv k e->∃e',gL tg body xs e=.ok (.nx e')/\Inv (k+xs.length) e'
 |[],k,_,e,h=>⟨e,rfl,h⟩
 |x::r,k,hs,e,h=>by
  obtain⟨e1,e2,h1,h2,h3⟩:=hs 0 x e rfl h;obtain⟨e',h4,h5⟩:=iT Inv r (k+1) (λi y e hy hi=>by
   have:=hs (i+1) y e (by simpa using hy) (by rw[show k+(i+1)=k+1+i by omega];exact hi);rw[show k+(i+1)+1=k+1+i+1 by omega]at this;exact this) e2 h3
  refine⟨e',?_,by rw[eG,show k+(r.length+1)=k+1+r.length by omega];exact h5⟩;rw[gL,h1,aK,h2,aK];exact h4
end Mi
namespace Mr
open PySem Mi
abbrev Ar:=Str×Str
def pairD(p:Ar):D:=.tup [.str p.1,.str p.2]
def a6(ae:List Str):D:=.tup (ae.map D.str)
def dm(ag:List Ar):D:=.tup (ag.map pairD)
def ak(ae:List Str)(ag:List Ar):D:=.tup [a6 ae,dm ag]
def am(xs:List Str):D:=.lst (xs.map D.str)
theorem at0{α:Type}(a:α)(r:List α):cC (a::r) 0=ac a:=by simp[cC,gU]
theorem at1{α:Type}(a b:α)(r:List α):cC (a::b::r) 1=ac b:=by unfold cC gU;rw[a8 (by decide),a8 (by simp only[eG];omega)];rfl
theorem fP(ae:List Str)(ag:List Ar):au (ak ae ag) (.int 0)=.ok (a6 ae):=by unfold ak au;simp[at0]
theorem jU(ae:List Str)(ag:List Ar):au (ak ae ag) (.int 1)=.ok (dm ag):=by unfold ak au;simp[at1]
theorem Ah{ae asked:List Str}(h:∀x∈asked,x∈ae):lh [.d (a6 ae),.d (am asked)]=.ok (.d .non):=by
 have key:∀(xs:List Str) (o:Option W),(∀x∈xs,x∈ae)->∃o',gL (.n 2) (bq (cB (m2 cQ (mV 2) (mV 0))) wM bw) (xs.map D.str) [ac (.d (a6 ae)),ac (.d (am asked)),o]=.ok (.nx [ac (.d (a6 ae)),ac (.d (am asked)),o']):=by
  intro xs
  induction xs with
  |nil=>exactλo _=>⟨o,rfl⟩
  |cons x r ih=>
   intro o hx;obtain⟨o',e⟩:=ih (ac (.d (.str x))) λy hy=>hx y (eL _ hy);refine⟨o',?_⟩;rw[cM,gL];have:x∈ae:=hx x cW;simp only[a6,UK,Lv,Lw,bq,cB,m2,mV,bw,aK,lK,lL,BX,this,decide_true,Bool.not_true,rC,wg,jB];exact e
 obtain⟨o',e⟩:=key asked af h;unfold am at e;unfold lh Hj;rw[gq];simp only[cU,bA,mV,am,Nat.reduceSub,List.replicate_succ,Lq,qS,ki,lK,lL,aK,Q7,e,QY]
def cZ(ag:List Ar)(x:Str):List Str:=(ag.filter λp=>decide (p.2=x)).map (·.1)
theorem O0{ae:List Str}{ag:List Ar}{x:Str}(hx:x∈ae)(hl:ag.length<=64):sI [.d (ak ae ag),.d (.str x)]=.ok (.d (.tup ((cZ ag x).map D.str))):=by
 have hr:=Ah (ae:=ae) (asked:=[x]) (by simpa using hx);unfold sI Gn;rw[gq];have hc:dE (.t [1,2]) (cB (m2 bK (mV 2) (mV 0))) (mV 1) [ac (.d (.str x)),af,af] (ag.map pairD)=.ok ((ag.filter λp=>decide (p.2=x)).map λp=>D.str p.1):=gr pairD (λp=>D.str p.1) (λp=>decide (p.2=x)) ag λp _=>⟨[ac (.d (.str x)),ac (.d (.str p.1)),ac (.d (.str p.2))],rfl,by simp only[cB,m2,mV,lK,lL,aK,xR,rC],λ_=>by simp only[mV,lK,lL]⟩
 have hg:bp (([D.str x]:List D).length<=16777216) (Rs.ok (D.lst [D.str x]))=.ok (.lst [.str x]):=aG (by simp);unfold am at hr;have hp:lF [ac 1,af,af] [ac (W.d (ak ae ag)),ac (W.d (D.str x))]=[ac (.d (.str x)),af,af]:=rfl;simp only[eG,iz,fJ,K5]at hg;simp only[cM,mY,aE,mn,aN,lj,cG,wD,m2,mV,Nat.reduceSub,Lq,qS,ki,lL,mC,aK,fP,mN,eX,lK,b9,eG,iz,fJ,K5,br]at hr ⊢;rw[hr];simp only[aK,o0,cq,bA,m2,mV,mC,lL,jU,dm,Rb,hp];rw[aG (by rw[aP];omega),hc];simp only[aK,S0,QZ,cZ,eS];rfl
def ready(ag:List Ar)(told:List Str)(x:Str):Bool:=!decide (x∈told)&&(cZ ag x).all λy=>decide (y∈told)
def nxt(ae:List Str)(ag:List Ar)(told:List Str):Option Str:=ae.find? (ready ag told)
theorem rR{ag:List Ar}{x:Str}(hl:ag.length<=64):(cZ ag x).length<=64:=by unfold cZ;rw[aP];exact c7 (ju _ _) hl
structure sE(ae:List Str)(ag:List Ar):Prop where
 nd:ae.Nodup
 pos:1<=ae.length
 le:ae.length<=8
 al:ag.length<=64
 tl:∀p∈ag,p.1∈ae
 rk:∃r:Str->Int,∀p∈ag,r p.1<r p.2
theorem mQ{ag:List Ar}{x y:Str}:y∈cZ ag x↔(y,x)∈ag:=by
 unfold cZ;constructor
 ·intro h;obtain⟨p,hp,rfl⟩:=cX.mp h;obtain⟨h1,h2⟩:=dS.mp hp;have:p.2=x:=by simpa using h2
  rw[<- this];exact h1
 ·intro h;exact cX.mpr ⟨(y,x),dS.mpr ⟨h,by simp⟩,rfl⟩
theorem E2{α:Type}(f:α->Int):∀(l:List α),l≠[]->∃x∈l,∀y∈l,f x<=f y
 |[],h=>absurd rfl h
 |[a],_=>⟨a,by simp,by simp⟩
 |a::b::r,_=>by
  obtain⟨x,hx,hm⟩:=E2 f (b::r) (by simp);by_cases h:f a<=f x
  ·refine⟨a,cW,λy hy=>?_⟩;rcases bZ.mp hy with rfl|hy
   ·exact DC _
   ·exact Int.le_trans h (hm y hy)
  ·refine⟨x,eL _ hx,λy hy=>?_⟩;rcases bZ.mp hy with rfl|hy
   ·omega
   ·exact hm y hy
def ord(ae:List Str)(ag:List Ar):Nat->List Str
 |0=>[]
 | k+1=>match nxt ae ag (ord ae ag k)with
  |some x=>ord ae ag k++[x]
  |none=>ord ae ag k
theorem jx{α:Type}[DecidableEq α]:∀{l m:List α},l.Nodup->(∀x∈l,x∈m)->l.length<=m.length
 |[],_,_,_=>iC _
 |a::l,m,nd,h=>by
  have nd:=kg.mp nd;have:l.length<=(m.erase a).length:=jx nd.2 λx hx=>(Lp (λz:x=a=>nd.1 (z ▸ hx))).mpr (h x (eL _ hx));have hm:=h a cW;rw[Lg hm]at this;have:0<m.length:=y0 hm;rw[eG];omega
end Mr
namespace Mr
open PySem Mi
theorem EE{α:Type}(xs:List α)(k:Nat):eP xs af (ac (k:Int))=xs.take k:=by
 show(xs.drop 0).take ((if(k:Int)<0 then((k:Int)+(xs.length:Int)).toNat else min (k:Int).toNat xs.length)-0)=_;rw[a7 (by omega),tF,Dy,iP];rcases zy k xs.length with h|h
 ·rw[zr h]
 ·rw[zq h,qQ (bU _),qQ h]
theorem Bw:∀xs ys:List Str,eD (xs.map D.str) (ys.map D.str)=decide (xs=ys)
 |[],[]=>rfl
 |[],_::_=>rfl
 |_::_,[]=>rfl
 |x::xs,y::ys=>by
  rw[cM,cM,eD,la,Bw xs ys];by_cases h1:x=y<;>by_cases h2:xs=ys<;>simp[h1,h2]
end Mr
namespace My
def wl:List Nat:=[101,116,97,111,105,110,115,104,114,100,108,117,99,109,102,119,121,112,118,98,103,107,113,106,120,122]
def hV(n:Int):Nat:=wl.getD (n%26).toNat 0
def g7(c:Int):List Nat:=(bP 8).map λ(k:Nat)=>hV (c/(4+3*(k:Int)))
def iq(c:Int)(n:Nat):List Nat:=(bP n).map λ(k:Nat)=>hV (c/32+5*(k:Int)+(k:Int)*(k:Int))
def words(c:Int)(many:Nat):List (List Nat):=
 if c%4<2 then
  if c%4=0 then(bP many).map λ(k:Nat)=>(g7 c).take (k+1)
  else(bP many).map λ(k:Nat)=>(g7 c).drop (7-k)
 else
  (bP many).map λ(k:Nat)=>(iq c (c/4%8).toNat).take (c/256%(c/4%8+1)).toNat++[hV (c/7+5*(k:Int))]++(iq c (c/4%8).toNat).drop (c/256%(c/4%8+1)).toNat
def gF(x:List Nat):Prop:=1<=x.length/\x.length<=8/\∀c∈x,97<=c/\c<=122
theorem BO:∀c∈wl,97<=c/\c<=122:=by decide
theorem Od:wl.Nodup:=by decide
theorem xV:wl.length=26:=by decide
theorem Co(n:Int):hV n∈wl:=by
 unfold hV;have h1:=gi n (b:=26) (by decide);have h2:=gf n (b:=26) (by decide);have h3:(n%26).toNat<wl.length:=by rw[xV];omega
 rw[fB,fE h3];exact n9 h3
theorem NX{n m:Int}(h:hV n=hV m):n%26=m%26:=by
 unfold hV at h;have h1:=gi n (b:=26) (by decide);have h2:=gf n (b:=26) (by decide);have h3:(n%26).toNat<wl.length:=by rw[xV];omega
 have h1':=gi m (b:=26) (by decide);have h2':=gf m (b:=26) (by decide);have h3':(m%26).toNat<wl.length:=by rw[xV];omega
 rw[fB,fE h3,fB,fE h3']at h;have:=(tE Od).mp h;omega
theorem mE(c:Int):(g7 c).length=8:=by simp[g7]
theorem sA(c:Int)(n:Nat):(iq c n).length=n:=by simp[iq]
theorem JT(c:Int):∀x∈g7 c,97<=x/\x<=122:=λx hx=>by
 obtain⟨k,_,rfl⟩:=cX.mp hx;exact BO _ (Co _)
theorem Hb(c:Int)(n:Nat):∀x∈iq c n,97<=x/\x<=122:=λx hx=>by
 obtain⟨k,_,rfl⟩:=cX.mp hx;exact BO _ (Co _)
theorem uL(c:Int)(many:Nat):(words c many).length=many:=by unfold words;split<;>(try split)<;>simp
theorem Cf{α:Type}(f:Nat->α)(n:Nat)(h:∀i j,i<n->j<n->f i=f j->i=j):((bP n).map f).Nodup:=by
 induction n with
 |zero=>simp
 |succ n ih=>
  rw[List.range_succ,iM,List.map_singleton];rw[pE];refine⟨ih λi j hi hj=>h i j (by omega) (by omega),by simp,λa ha b hb=>?_⟩;obtain⟨i,hi,rfl⟩:=cX.mp ha;have hi:=e5.mp hi;have hb:b=f n:=by simpa using hb
  subst hb;intro e;have:=h i n (by omega) (by omega) e;omega
theorem vX(c:Int)(many:Nat)(hm:many<=8):(words c many).Nodup:=by
 unfold words;split
 ·split
  ·refine Cf _ _ λi j hi hj e=>?_;have:=congrArg De e;rw[i7,i7,mE]at this;omega
  ·refine Cf _ _ λi j hi hj e=>?_;have:=congrArg De e;rw[iy,iy,mE]at this;omega
 ·refine Cf _ _ λi j hi hj e=>?_;rw[tD,tD]at e;have e1:=List.append_cancel_left e;have e2:=List.append_cancel_right e1;have e3:hV (c/7+5*(i:Int))=hV (c/7+5*(j:Int)):=by simpa using e2
  have:=NX e3;omega
theorem gH(c:Int)(many:Nat)(hm:many<=8):∀x∈words c many,gF x:=by
 unfold words;split
 ·split
  ·intro x hx;obtain⟨k,hk,rfl⟩:=cX.mp hx;have hk:=e5.mp hk;refine⟨by rw[i7,mE];omega,by rw[i7,mE];omega,λy hy=>JT c y (C4 hy)⟩
  ·intro x hx;obtain⟨k,hk,rfl⟩:=cX.mp hx;have hk:=e5.mp hk;refine⟨by rw[iy,mE];omega,by rw[iy,mE];omega,λy hy=>JT c y (tq hy)⟩
 ·intro x hx;obtain⟨k,hk,rfl⟩:=cX.mp hx;have h1:=gi (c/4) (b:=8) (by decide);have h2:=gf (c/4) (b:=8) (by decide);have h3:=gi (c/256) (b:=c/4%8+1) (by omega);have h4:=gf (c/256) (b:=c/4%8+1) (by omega);have hl:((iq c (c/4%8).toNat).take (c/256%(c/4%8+1)).toNat++[hV (c/7+5*(k:Int))]++(iq c (c/4%8).toNat).drop (c/256%(c/4%8+1)).toNat).length=(c/4%8).toNat+1:=by
   rw[dz,dz,i7,iy,sA];simp;omega
  refine⟨by rw[hl];omega,by rw[hl];omega,λy hy=>?_⟩;rcases fG.mp hy with hy|hy
  ·rcases fG.mp hy with hy|hy
   ·exact Hb c _ y (C4 hy)
   ·have:y=hV (c/7+5*(k:Int)):=by simpa using hy
    subst this;exact BO _ (Co _)
  ·exact Hb c _ y (tq hy)
end My
namespace Mi
open PySem
def S'(l:List Nat):Str:=⟨l.toArray⟩
theorem wO(l:List Nat):(S' l).cps.toList=l:=rfl
theorem kx(l:List Nat):(S' l).length=l.length:=by simp[S',q9]
theorem OQ{x y:Str}(h:x.cps.toList=y.cps.toList):x=y:=by obtain⟨a⟩:=x;obtain⟨b⟩:=y;have h:a.toList=b.toList:=h;rw[wy.mp h]
theorem NN{l m:List Nat}(h:S' l=S' m):l=m:=by have:=congrArg (λx:Str=>x.cps.toList) h;simpa [S']using this
theorem U0(l m:List Nat):S' l++S' m=S' (l++m):=by show(⟨l.toArray++m.toArray⟩ : Str)=⟨(l++m).toArray⟩;simp
theorem Gg:∀l:List Str,(kP "" l).cps.toList=l.flatMap (·.cps.toList)
 |[]=>by simp[kP,eQ]
 |[x]=>by simp[kP]
 |x::y::r=>by
  have ih:=Gg (y::r);have e:kP "" (x::y::r)=x ++ "" ++ kP "" (y::r):=rfl;have e2:("" : Str).cps.toList=[]:=by decide +kernel
  rw[e];show((x.cps++("" : Str).cps)++(kP "" (y::r)).cps).toList=_;rw[zJ,zJ,e2,ih];simp
theorem join_ones(l:List Nat):kP "" (l.map λx=>S' [x])=S' l:=by
 refine OQ ?_;rw[Gg,wO]
 induction l with
 |nil=>rfl
 |cons a r ih=>rw[cM,n6,ih];rfl
theorem NR{α:Type}(xs:List α)(k:Nat):eP xs af (ac (k:Int))=xs.take k:=by
 show(xs.drop 0).take ((if(k:Int)<0 then((k:Int)+(xs.length:Int)).toNat else min (k:Int).toNat xs.length)-0)=_;rw[a7 (by omega),tF,Dy,iP];rcases zy k xs.length with h|h
 ·rw[zr h]
 ·rw[zq h,qQ (bU _),qQ h]
theorem FA{α:Type}(xs:List α)(k:Nat):eP xs (ac (k:Int)) af=xs.drop k:=by
 show(xs.drop (if(k:Int)<0 then((k:Int)+(xs.length:Int)).toNat else min (k:Int).toNat xs.length)).take (xs.length-(if(k:Int)<0 then((k:Int)+(xs.length:Int)).toNat else min (k:Int).toNat xs.length))=_;rw[a7 (by omega),iP];rcases zy k xs.length with h|h
 ·rw[zr h];exact qQ (by rw[iy];exact bU _)
 ·rw[zq h,yZ (bU _),yZ h];simp
theorem KS(l:List Nat)(k:Nat):jb (S' l) af (ac (k:Int))=S' (l.take k):=by unfold jb;rw[wO,NR];rfl
theorem JG(l:List Nat)(k:Nat):jb (S' l) (ac (k:Int)) af=S' (l.drop k):=by unfold jb;rw[wO,FA];rfl
def eh:Str := "etaoinshrdlucmfwypvbgkqjxz"
theorem Q5:eh.cps.toList=My.wl:=by decide +kernel
theorem UB:eh.length<=16777216:=by decide +kernel
theorem x8{α:Type}{xs:List α}{i:Int}(h0:0<=i)(h1:i<xs.length)(d:α):cC xs i=ac (xs.getD i.toNat d):=by
 unfold cC gU;rw[a8 h0,a8 h1];have h3:i.toNat<xs.length:=by omega
 show xs[i.toNat]? = _;rw[fB,fE h3];rfl
theorem Rz(n:Int):cC eh.cps.toList (n%26)=ac (My.hV n):=by rw[Q5];have h1:=gi n (b:=26) (by decide);have h2:=gf n (b:=26) (by decide);exact x8 h1 (by rw[My.xV];omega) 0
theorem xw{cs:List Int}{i:Int}(h0:0<=i)(h1:i<cs.length):au (.lst (cs.map D.int)) (.int i)=.ok (.int (cs.getD i.toNat 0)):=by
 show cy (cC (cs.map D.int) i)=_;rw[x8 h0 (by rw[aP];exact h1) (.int 0),nU];have h3:i.toNat<cs.length:=by omega
 rw[fB,gc,fB,fE h3];rfl
theorem uf{cs:List Str}{i:Int}(h0:0<=i)(h1:i<cs.length):au (.lst (cs.map D.str)) (.int i)=.ok (.str (cs.getD i.toNat eQ)):=by
 show cy (cC (cs.map D.str) i)=_;rw[x8 h0 (by rw[aP];exact h1) (.str eQ),nU];have h3:i.toNat<cs.length:=by omega
 rw[fB,gc,fB,fE h3];rfl
theorem Ak(n:Nat):dA 0 (n:Int)=(bP n).map λ(k:Nat)=>D.int (k:Int):=by unfold dA;rw[show((n:Int)-0).toNat=n by omega];exact v3 λk _=>by rw[Int.zero_add]
theorem lz(n:Nat):(dA 0 (n:Int)).length=n:=by rw[Ak];simp
theorem sK{n i:Nat}{x:D}(h:(dA 0 (n:Int))[i]? = ac x):i<n/\x=.int (i:Int):=by
 rw[Ak,gc]at h;cases hr:(bP n)[i]? with
 |none=>rw[hr]at h;cases h
 |some k=>
  rw[hr]at h;obtain⟨h1,h2⟩:=fe.mp hr;rw[Lx]at h2;subst h2;rw[v5]at h1;exact⟨h1,(jQ h).symm⟩
theorem sw{tg:Tg}{a:E}{e:Mi.Env}(g:Nat->D)(n:Nat)(h:∀k<n,∃e1,tg.put (.int (k:Int)) e=.ok e1/\a e1=.ok (g k)):dE tg eK a e (dA 0 (n:Int))=.ok ((bP n).map g):=by
 rw[Ak,gr (λ(k:Nat)=>D.int (k:Int)) g (λ_=>true) (bP n) λk hk=>?_]
 ·rw[qR.mpr λ_ _=>rfl]
 ·obtain⟨e1,h1,h2⟩:=h k (e5.mp hk);exact⟨e1,h1,rfl,λ_=>h2⟩
theorem nI{i:Int}(h0:-1000<=i)(h1:i<=1000):okR i:=by unfold okR;omega
theorem lV{i j:Int}(h0:-(2 ^ 64)<i)(h1:i<2 ^ 64):nB i j:=.inl ⟨h0,h1⟩
theorem yF{i j:Int}(h0:-(2 ^ 64)<j)(h1:j<2 ^ 64):nB i j:=.inr ⟨h0,h1⟩
theorem io{j:Int}(h0:0<j)(h1:j<2 ^ 64):nJ j:=by
 refine⟨h0,?_⟩;have h2:j.natAbs<2 ^ 64:=by omega
 have h3:j.natAbs≠0:=by omega
 have:=(Nat.log2_lt h3).mpr h2;omega
end Mi
namespace Mr
open PySem Mi
open My (words g7 iq hV mE sA uL vX)
theorem Ae(n:Int):au (.str eh) (.int (n%26))=.ok (.str (S' [hV n])):=by show bp _ _=_;rw[aG UB,Rz];rfl
theorem HH(l:List Nat)(h:l.length<=8):xY (.str "") (.lst (l.map λx=>D.str (S' [x])))=.ok (.str (S' l)):=by
 show(cy (ir (l.map λx=>D.str (S' [x])))).bind _=_;have e:l.map (λx=>D.str (S' [x]))=(l.map λx=>S' [x]).map D.str:=by rw[eS];rfl
 rw[e,A7,nU,aK,aG ?_,join_ones];have h1:((l.map λx=>S' [x]).map (·.length)).sum=l.length:=by
  clear h e
  induction l with
  |nil=>rfl
  |cons a r ih=>rw[cM,cM,List.sum_cons,ih,kx,eG];simp;omega
 have h2:("" : Str).length=0:=by decide +kernel
 rw[h1,h2];omega
theorem st1(c:Int)(k:Nat)(d32:nJ 32)(m5:nB 5 (k:Int))(mk:nB (k:Int) k):(m2 bc (m2 bc (m2 c5 (mV 1) (mC (.int 32))) (m2 dM (mC (.int 5)) (mV 2))) (m2 dM (mV 2) (mV 2))) [ac (.d (.str eh)),ac (.d (.int c)),ac (.d (.int k))]=.ok (.int (c/32+5*(k:Int)+(k:Int)*(k:Int))):=(aw (aw (aw rfl rfl (aG d32)) (aw rfl rfl (aG m5)) rfl) (aw rfl rfl (aG mk)) rfl)
theorem st2(c:Int)(e:Mi.Env)(a:E)(h:a e=.ok (.int c))(h0:e[0]? = ac (ac (.d (.str eh)))):m2 au (mV 0) (m2 bG a (mC (.int 26))) e=.ok (.str (S' [hV c])):=aw (x:=.str eh) (by unfold mV;rw[h0]) (aw h rfl (aG (by decide))) (Ae _)
theorem Te{k n:Nat}(h:k<n)(h8:n<8):nB (k:Int) k:=lV (by omega) (by omega)
theorem size_of(c:Int):∃n:Nat,c/4%8=(n:Int)/\n<8:=by have z1:=gi (c/4) (b:=8) (by decide);have z2:=gf (c/4) (b:=8) (by decide);exact⟨(c/4%8).toNat,by omega,by omega⟩
theorem at_of(c:Int)(n:Nat):∃t:Nat,c/256%((n:Int)+1)=(t:Int)/\t<=n:=by have z3:=gi (c/256) (b:=(n:Int)+1) (by omega);have z4:=gf (c/256) (b:=(n:Int)+1) (by omega);exact⟨(c/256%((n:Int)+1)).toNat,by omega,by omega⟩
theorem OC(c:Int)(m:Nat)(hm:m<=8):vQ [.d (.int c),.d (.int (m:Int))]=.ok (.d (am ((words c m).map S'))):=by
 unfold vQ JP;rw[oX];have hr8:okR 8:=nI (by decide) (by decide);have hrm:okR (m:Int):=nI (by omega) (by omega);have hl0:(PySem.Str.ofString "etaoinshrdlucmfwypvbgkqjxz")=eh:=rfl;have g4:∀r:Rs D,bp ((0:Int)<4) r=r:=λr=>aG (by decide);have g26:∀r:Rs D,bp ((0:Int)<26) r=r:=λr=>aG (by decide);have g8:∀r:Rs D,bp ((0:Int)<8) r=r:=λr=>aG (by decide);by_cases c1:c%4<2
 ·have zP:dE (.n 2) eK (m2 au (mV 0) (m2 bG (m2 c5 (mV 1) (m2 bc (mC (.int 4)) (m2 dM (mC (.int 3)) (mV 2)))) (mC (.int 26)))) [ac (.d (.str eh)),ac (.d (.int c)),af] (dA 0 8)=.ok ((g7 c).map λx=>D.str (S' [x])):=by
   have:=sw (tg:=.n 2) (a:=m2 au (mV 0) (m2 bG (m2 c5 (mV 1) (m2 bc (mC (.int 4)) (m2 dM (mC (.int 3)) (mV 2)))) (mC (.int 26)))) (e:=[ac (.d (.str eh)),ac (.d (.int c)),af]) (λk=>D.str (S' [hV (c/(4+3*(k:Int)))])) 8 λk hk=>⟨[ac (.d (.str eh)),ac (.d (.int c)),ac (.d (.int k))],rfl,by
    simp only[m2,mV,lL,lK,mC,aK,Br];rw[aG (lV (by decide) (by decide))];simp only[aK,qL,div_ii];rw[aG (io (by omega) (by omega))];simp only[aK,jt,g26,Ae]⟩
   rw[show((8:Nat):Int)=8 from rfl]at this;rw[this];unfold g7;rw[eS];rfl
  have hp:lF [ac 2,ac 0,af] [ac (.d (.int c)),ac (.d (.int (m:Int))),ac (.d (.str eh)),af,af,af,af]=[ac (.d (.str eh)),ac (.d (.int c)),af]:=rfl;have hj:=HH (g7 c) (by rw[mE];omega);have hw8:(dA 0 8).length<=16777216:=by rw[show(8:Int)=((8:Nat):Int)from rfl,lz];omega
  have hwm:(dA 0 (m:Int)).length<=16777216:=by rw[lz];omega
  by_cases c2:c%4=0
  ·have hc:dE (.n 1) eK (bV cx (mV 0) af (ac (m2 bc (mV 1) (mC (.int 1))))) [ac (.d (.str (S' (g7 c)))),af] (dA 0 (m:Int))=.ok ((words c m).map λl=>D.str (S' l)):=by
    rw[sw (λk=>D.str (S' ((g7 c).take (k+1)))) m λk hk=>⟨[ac (.d (.str (S' (g7 c)))),ac (.d (.int k))],rfl,by
     simp only[bV,mV,lL,jT,m2,lK,mC,aK,qL,oN,vG];rw[aG (by rw[kx,mE];omega),show(k:Int)+1=((k+1:Nat):Int)by omega,KS]⟩]
    unfold words;rw[a8 c1,a8 c2,eS];rfl
   have hp2:∀z,lF [ac 3,af] [ac (.d (.int c)),ac (.d (.int (m:Int))),ac (.d (.str eh)),ac z,af,af,af]=[ac z,af]:=λ_=>rfl;have hmod:cB (m2 gR (m2 bG (mV 0) (mC (.int 4))) (mC (.int 2))) [ac (.d (.int c)),ac (.d (.int (m:Int))),ac (.d (.str eh)),af,af,af,af]=.ok true:=bB ((aw (aw rfl rfl (g4 _)) rfl rfl).trans (by rw[wK,cV c1]))
   have D8:cB (m2 bK (m2 bG (mV 0) (mC (.int 4))) (mC (.int 0))) [ac (.d (.int c)),ac (.d (.int (m:Int))),ac (.d (.str eh)),ac (.d (.str (S' (g7 c)))),af,af,af]=.ok true:=bB ((aw (aw rfl rfl (g4 _)) rfl rfl).trans (by rw[lJ,cV c2]))
   show Rs.bind _ me=_;rw[aM (e':=[ac (.d (.int c)),ac (.d (.int (m:Int))),ac (.d (.str eh)),af,af,af,af]) (bD rfl)];refine(congrArg (λr=>Rs.bind r me) (kW (w:=.d (am ((words c m).map S'))) ?_)).trans rfl;rw[fk hmod,aM (e':=[ac (.d (.int c)),ac (.d (.int (m:Int))),ac (.d (.str eh)),ac (.d (.str (S' (g7 c)))),af,af,af]) (bD (aw rfl (fb (iL rfl hr8) hw8 zP) hj))];rw[kW ((fk D8).trans (dR (bu (fb (iL rfl hrm) hwm hc))))];rw[am,eS];rfl
  ·have hc:dE (.n 1) eK (bV cx (mV 0) (ac (m2 gW (mC (.int 7)) (mV 1))) af) [ac (.d (.str (S' (g7 c)))),af] (dA 0 (m:Int))=.ok ((words c m).map λl=>D.str (S' l)):=by
    rw[sw (λk=>D.str (S' ((g7 c).drop (7-k)))) m λk hk=>⟨[ac (.d (.str (S' (g7 c)))),ac (.d (.int k))],rfl,by
     simp only[bV,mV,lL,jT,m2,mC,lK,aK,Gx,oN,vG];rw[aG (by rw[kx,mE];omega),show(7:Int)-(k:Int)=((7-k:Nat):Int)by omega,JG]⟩]
    unfold words;rw[a8 c1,a7 c2,eS];rfl
   have hp2:∀z,lF [ac 3,af] [ac (.d (.int c)),ac (.d (.int (m:Int))),ac (.d (.str eh)),ac z,af,af,af]=[ac z,af]:=λ_=>rfl;have hmod:cB (m2 gR (m2 bG (mV 0) (mC (.int 4))) (mC (.int 2))) [ac (.d (.int c)),ac (.d (.int (m:Int))),ac (.d (.str eh)),af,af,af,af]=.ok true:=bB ((aw (aw rfl rfl (g4 _)) rfl rfl).trans (by rw[wK,cV c1]))
   have D8:cB (m2 bK (m2 bG (mV 0) (mC (.int 4))) (mC (.int 0))) [ac (.d (.int c)),ac (.d (.int (m:Int))),ac (.d (.str eh)),ac (.d (.str (S' (g7 c)))),af,af,af]=.ok false:=bB ((aw (aw rfl rfl (g4 _)) rfl rfl).trans (by rw[lJ,d6 c2]))
   show Rs.bind _ me=_;rw[aM (e':=[ac (.d (.int c)),ac (.d (.int (m:Int))),ac (.d (.str eh)),af,af,af,af]) (bD rfl)];refine(congrArg (λr=>Rs.bind r me) (kW (w:=.d (am ((words c m).map S'))) ?_)).trans rfl;rw[fk hmod,aM (e':=[ac (.d (.int c)),ac (.d (.int (m:Int))),ac (.d (.str eh)),ac (.d (.str (S' (g7 c)))),af,af,af]) (bD (aw rfl (fb (iL rfl hr8) hw8 zP) hj))];rw[aM (dQ D8),dR (bu (fb (iL rfl hrm) hwm hc))];rw[am,eS];rfl
 ·obtain⟨n,hn,hn8⟩:=size_of c;obtain⟨t,ht,ht8⟩:=at_of c n;have hrn:okR (n:Int):=nI (by omega) (by omega);have d4:nJ 4:=io (by decide) (by decide);have d32:nJ 32:=io (by decide) (by decide);have V5:nJ 256:=io (by decide) (by decide);have d7:nJ 7:=io (by decide) (by decide);have V6:dE (.n 2) eK (m2 au (mV 0) (m2 bG (m2 bc (m2 bc (m2 c5 (mV 1) (mC (.int 32))) (m2 dM (mC (.int 5)) (mV 2))) (m2 dM (mV 2) (mV 2))) (mC (.int 26)))) [ac (.d (.str eh)),ac (.d (.int c)),af] (dA 0 (n:Int))=.ok ((iq c n).map λx=>D.str (S' [x])):=by
   rw[sw (λk=>D.str (S' [hV (c/32+5*(k:Int)+(k:Int)*(k:Int))])) n λk hk=>⟨[ac (.d (.str eh)),ac (.d (.int c)),ac (.d (.int k))],rfl,by
    exact st2 _ _ _ (st1 c k d32 (lV (by decide) (by decide)) (Te hk hn8)) rfl⟩]
   unfold iq;rw[eS];rfl
  have hp:lF [ac 2,ac 0,af] [ac (.d (.int c)),ac (.d (.int (m:Int))),ac (.d (.str eh)),af,ac (.d (.int (n:Int))),af,af]=[ac (.d (.str eh)),ac (.d (.int c)),af]:=rfl;have hj:=HH (iq c n) (by rw[sA];omega);have hwn:(dA 0 (n:Int)).length<=16777216:=by rw[lz];omega
  have hwm:(dA 0 (m:Int)).length<=16777216:=by rw[lz];omega
  have hc:dE (.n 4) eK (m2 bc (m2 bc (bV cx (mV 0) af (ac (mV 2))) (m2 au (mV 1) (m2 bG (m2 bc (m2 c5 (mV 3) (mC (.int 7))) (m2 dM (mC (.int 5)) (mV 4))) (mC (.int 26))))) (bV cx (mV 0) (ac (mV 2)) af))
   [ac (.d (.str (S' (iq c n)))),ac (.d (.str eh)),ac (.d (.int (t:Int))),ac (.d (.int c)),af] (dA 0 (m:Int))=.ok ((words c m).map λl=>D.str (S' l)):=by
   rw[sw (λk=>D.str (S' ((iq c n).take t++[hV (c/7+5*(k:Int))]++(iq c n).drop t))) m λk hk=>⟨[ac (.d (.str (S' (iq c n)))),ac (.d (.str eh)),ac (.d (.int (t:Int))),ac (.d (.int c)),ac (.d (.int k))],rfl,by
    have gS:∀r:Rs D,bp ((S' (iq c n)).length<=16777216) r=r:=λr=>aG (by rw[kx,sA];omega);have gM:∀r:Rs D,bp (nB 5 (k:Int)) r=r:=λr=>aG (lV (by decide) (by decide));simp only[m2,bV,mV,lL,jT,lK,aK,oN,vG,KS,gS,mC,div_ii,aG d7,Br,gM,qL,jt,g26,Ae,yk,JG];rw[aG (by rw[kx,kx,i7,sA];simp;omega)];simp only[U0,aK,yk];rw[aG (by rw[kx,kx,dz,i7,iy,sA];simp;omega)]⟩]
   unfold words;rw[a7 c1,eS,hn,ht];rfl
  have hmod:cB (m2 gR (m2 bG (mV 0) (mC (.int 4))) (mC (.int 2))) [ac (.d (.int c)),ac (.d (.int (m:Int))),ac (.d (.str eh)),af,af,af,af]=.ok false:=bB ((aw (aw rfl rfl (g4 _)) rfl rfl).trans (by rw[wK,d6 c1]))
  show Rs.bind _ me=_;rw[aM (e':=[ac (.d (.int c)),ac (.d (.int (m:Int))),ac (.d (.str eh)),af,af,af,af]) (bD rfl)];rw[aM (dQ hmod)];rw[aM (e':=[ac (.d (.int c)),ac (.d (.int (m:Int))),ac (.d (.str eh)),af,ac (.d (.int (n:Int))),af,af]) (bD (d:=.int (n:Int)) ((aw (aw rfl rfl (aG d4)) rfl (g8 _)).trans (by rw[hn])))];rw[aM (e':=[ac (.d (.int c)),ac (.d (.int (m:Int))),ac (.d (.str eh)),af,ac (.d (.int (n:Int))),ac (.d (.str (S' (iq c n)))),af]) (bD (aw rfl (fb (iL rfl hrn) hwn V6) hj))];rw[aM (e':=[ac (.d (.int c)),ac (.d (.int (m:Int))),ac (.d (.str eh)),af,ac (.d (.int (n:Int))),ac (.d (.str (S' (iq c n)))),ac (.d (.int (t:Int)))]) (bD (d:=.int (t:Int)) ((aw (aw rfl rfl (aG V5)) (aw rfl rfl rfl) (aG (by omega))).trans (by rw[ht])))];rw[dR (bu (fb (iL rfl hrm) hwm hc))];simp only[aK,U3,am,eS];rfl
end Mr
namespace Mr
open PySem Mi
open My (words uL vX gF)
theorem oI(n:Nat)(h:n<=8):okR (n:Int):=nI (by omega) (by omega)
theorem SG{ls:List Int}{z:Int}(h0:0<=z)(h1:z<ls.length)(hl:ls.length<=100):yc (ls.map D.int) z=.ok (.int (ls.getD z.toNat 0),(ls.eraseIdx z.toNat).map D.int):=by
 have h3:z.toNat<ls.length:=by omega
 unfold yc;rw[aG (by omega),show gU (ls.map D.int).length z=ac z.toNat by
  unfold gU;rw[a8 h0,a8 (by rw[aP];exact h1)],nU,aK,gc,fE h3,fB,fE h3]
 show Rs.ok (D.int ls[z.toNat],(ls.map D.int).eraseIdx z.toNat)=_;have:∀(l:List Int) (k:Nat),(l.map D.int).eraseIdx k=(l.eraseIdx k).map D.int:=by
  intro l
  induction l with
  |nil=>intro k;rfl
  |cons a r ih=>
   intro k;cases k with
   |zero=>rfl
   |succ k=>rw[cM,Li,ih k];rfl
 rw[this];rfl
theorem kF(e:Mi.Env):mN b9 [] e=.ok (.lst []):=by show bp (([]:List D).length<=16777216) (Rs.ok (D.lst []))=_;exact aG (by simp)
end Mr
namespace Mr
open PySem Mi
end Mr
namespace Mr
open PySem Mi
abbrev Ix:=Nat×Nat
def eg(p q:Ix):Prop:=p.1<q.1\/(p.1=q.1/\p.2<q.2)
def nth(ae:List Str)(i:Nat):Str:=ae.getD i eQ
def arrOf(ae:List Str)(p:Ix):Ar:=(nth ae p.1,nth ae p.2)
structure uJ(ae:List Str)(A:List Ix)(r:Nat->Int):Prop where
 nd:ae.Nodup
 pos:1<=ae.length
 le:ae.length<=8
 d8:A.Pairwise eg
 all:∀p∈A,p.1<ae.length/\p.2<ae.length/\r p.1<r p.2
 al:A.length<=64
theorem lH{ae:List Str}{i:Nat}(h:i<ae.length):nth ae i∈ae:=by unfold nth;rw[fB,fE h];exact n9 h
theorem qk{ae:List Str}(nd:ae.Nodup){i j:Nat}(hi:i<ae.length)(hj:j<ae.length)(h:nth ae i=nth ae j):i=j:=by unfold nth at h;rw[fB,fE hi,fB,fE hj]at h;exact(tE nd).mp h
theorem yC{ae:List Str}{x:Str}(h:x∈ae):∃i,i<ae.length/\nth ae i=x:=by obtain⟨i,hi,e⟩:=C6 h;refine⟨i,hi,?_⟩;unfold nth;rw[fB,fE hi];exact e
theorem uJ.c9{ae:List Str}{A:List Ix}{r:Nat->Int}(N:uJ ae A r):sE ae (A.map (arrOf ae)):=by
 refine⟨N.nd,N.pos,N.le,by rw[aP];exact N.al,λp hp=>?_,λx=>r (ae.idxOf x),λp hp=>?_⟩
 ·obtain⟨q,hq,rfl⟩:=cX.mp hp;exact lH (N.all q hq).1
 ·obtain⟨q,hq,rfl⟩:=cX.mp hp;obtain⟨h1,h2,h3⟩:=N.all q hq;have key:∀i,i<ae.length->ae.idxOf (nth ae i)=i:=λi hi=>by
   have hm:=lH hi;have hl:ae.idxOf (nth ae i)<ae.length:=Lc hm;refine qk N.nd hl hi ?_;have h4:ae[ae.idxOf (nth ae i)]=nth ae i:=C7 hl;show ae.getD (ae.idxOf (nth ae i)) eQ=_;rw[fB,fE hl];exact h4
  show r (ae.idxOf (nth ae q.1))<r (ae.idxOf (nth ae q.2));rw[key _ h1,key _ h2];exact h3
def good(m:Nat)(r:Nat->Int)(A:List Ix)(j k:Nat):Prop:=A.Pairwise eg/\(∀p∈A,p.1<m/\p.2<m/\r p.1<r p.2/\(p.1<j\/(p.1=j/\p.2<k)))/\A.length<=8*j+k
theorem good.skip{m:Nat}{r:Nat->Int}{A:List Ix}{j k:Nat}(h:good m r A j k):good m r A j (k+1):=⟨h.1,λp hp=>⟨(h.2.1 p hp).1,(h.2.1 p hp).2.1,(h.2.1 p hp).2.2.1,by have:=(h.2.1 p hp).2.2.2;omega⟩,by have:=h.2.2;omega⟩
theorem good.add{m:Nat}{r:Nat->Int}{A:List Ix}{j k:Nat}(h:good m r A j k)(hj:j<m)(hk:k<m)(hr:r j<r k):good m r (A++[(j,k)]) j (k+1):=by
 refine⟨List.pairwise_append.mpr ⟨h.1,C2 _ _,λp hp q hq=>?_⟩,λp hp=>?_,by rw[dz];have:=h.2.2;simp;omega⟩
 ·have:q=(j,k):=by simpa using hq
  subst this;have:=(h.2.1 p hp).2.2.2;exact this
 ·rcases fG.mp hp with hp|hp
  ·exact(h.skip.2.1 p hp)
  ·have:p=(j,k):=by simpa using hp
   subst this;exact⟨hj,hk,hr,.inr ⟨rfl,by omega⟩⟩
theorem good.next{m:Nat}{r:Nat->Int}{A:List Ix}{j k:Nat}(h:good m r A j k)(hk:k<=8):good m r A (j+1) 0:=⟨h.1,λp hp=>⟨(h.2.1 p hp).1,(h.2.1 p hp).2.1,(h.2.1 p hp).2.2.1,by have:=(h.2.1 p hp).2.2.2;omega⟩,by have:=h.2.2;omega⟩
def jf(ae:List Str)(A:List Ix):D:=.lst ((A.map (arrOf ae)).map pairD)
theorem Q2{a:Int}(h0:0<=a)(h1:a<8):-(2 ^ 64)<a/\a<2 ^ 64/\0<=a*(a-1)/2/\a*(a-1)/2<=21:=by
 have:a=0\/a=1\/a=2\/a=3\/a=4\/a=5\/a=6\/a=7:=by omega
 rcases this with h|h|h|h|h|h|h|h<;>subst h<;>decide
end Mr
namespace Mr
open PySem Mi
open My (words uL vX)
theorem qc(ns:List Int)(k:Nat)(hk:k<=100):∃c:Int,ia [.d (.lst (ns.map D.int)),.d (.int (k:Int))]=.ok (.d (.int c)):=by
 unfold ia EY;rw[gq];have hl:mN bR [mV 0] [ac (.d (.lst (ns.map D.int))),ac (.d (.int (k:Int))),af]=.ok (.int (ns.length:Int)):=by show Rs.ok (D.int ((ns.map D.int).length:Int))=_;rw[aP]
 have c1:cB (m2 gR (mV 1) (mN bR [(mV 0)])) [ac (.d (.lst (ns.map D.int))),ac (.d (.int (k:Int))),af]=.ok (decide ((k:Int)<(ns.length:Int))):=bB (aw rfl hl rfl);by_cases h:(k:Int)<(ns.length:Int)
 ·rw[cV h]at c1;exact⟨_,by
   rw[show([ac (W.d (.lst (ns.map D.int))),ac (.d (.int (k:Int)))]++cu (3-2) af)=[ac (.d (.lst (ns.map D.int))),ac (.d (.int (k:Int))),af]from rfl];rw[kW ((fk c1).trans (dR (bu (aw rfl rfl (xw (by omega) h)))))];rfl⟩
 ·rw[d6 h]at c1;have s1:bf 2 (m2 bc (mC (.int 30011)) (m2 dM (m2 dM (mC (.int 709)) (mV 1)) (mV 1))) [ac (.d (.lst (ns.map D.int))),ac (.d (.int (k:Int))),af]=.ok (.nx [ac (.d (.lst (ns.map D.int))),ac (.d (.int (k:Int))),ac (.d (.int (30011+709*(k:Int)*(k:Int))))]):=
   bD (aw rfl (aw (aw rfl rfl (aG (lV (by decide) (by decide)))) rfl (aG (yF (by omega) (by omega)))) rfl)
  have hl2:mN bR [mV 0] [ac (.d (.lst (ns.map D.int))),ac (.d (.int (k:Int))),ac (.d (.int (30011+709*(k:Int)*(k:Int))))]=.ok (.int (ns.length:Int)):=by show Rs.ok (D.int ((ns.map D.int).length:Int))=_;rw[aP]
  have c2:cB (m2 gV (mN bR [(mV 0)]) (mC (.int 0))) [ac (.d (.lst (ns.map D.int))),ac (.d (.int (k:Int))),ac (.d (.int (30011+709*(k:Int)*(k:Int))))]=.ok (decide ((0:Int)<(ns.length:Int))):=bB (aw hl2 rfl rfl);by_cases h0:(0:Int)<(ns.length:Int)
  ·rw[cV h0]at c2;refine⟨_,by
    rw[show([ac (W.d (.lst (ns.map D.int))),ac (.d (.int (k:Int)))]++cu (3-2) af)=[ac (.d (.lst (ns.map D.int))),ac (.d (.int (k:Int))),af]from rfl];rw[aM ((dQ c1).trans rfl),aM s1,aM ((fk c2).trans (bD (aw rfl (aw (aw (aw rfl rfl (xw (by decide) h0)) rfl (aG (by decide))) (aw (aw (aw rfl rfl (aG (lV (by omega) (by omega)))) (aw rfl rfl (aG (lV (by decide) (by decide)))) rfl) rfl rfl) (aG (lV ?_ ?_))) rfl)))];rfl⟩
   ·have:=gi (ns.getD (0:Int).toNat 0) (b:=99991) (by decide);omega
   ·have:=gf (ns.getD (0:Int).toNat 0) (b:=99991) (by decide);omega
  ·rw[d6 h0]at c2;exact⟨_,by
    rw[show([ac (W.d (.lst (ns.map D.int))),ac (.d (.int (k:Int)))]++cu (3-2) af)=[ac (.d (.lst (ns.map D.int))),ac (.d (.int (k:Int))),af]from rfl];rw[aM ((dQ c1).trans rfl),aM s1,aM ((dQ c2).trans rfl)];rfl⟩
theorem Ox(d:Int)(m:Nat)(hm:m<=8):∃rs:List Int,uF [.d (.int d),.d (.int (m:Int))]=.ok (.d (.lst (rs.map D.int)))/\rs.length=m:=by
 unfold uF EL;rw[oX];have hw:(dA 0 (m:Int)).length<=16777216:=by rw[lz];omega
 have hc:dE (.n 0) eK (mV 0) [af] (dA 0 (m:Int))=.ok ((bP m).map λ(k:Nat)=>D.int (k:Int)):=sw (λk=>D.int (k:Int)) m λk _=>⟨[ac (.d (.int k))],rfl,rfl⟩
 have hr:((bP m).map λ(k:Nat)=>D.int (k:Int))=((bP m).map λ(k:Nat)=>(k:Int)).map D.int:=by rw[eS];rfl
 rw[hr]at hc;obtain⟨e',h1,h2⟩:=iT (tg:=.n 5) (body:=aE (bf 4 (m2 bG (m2 bc (m2 bc (m2 dM (mV 4) (mC (.int 48271))) (m2 dM (mC (.int 7)) (mV 5))) (mC (.int 1))) (mC (.int 2147483647)))) (wZ 3 2 (m2 bG (m2 c5 (mV 4) (mC (.int 32))) (mN bR [(mV 2)]))))
  (λi e=>∃(x:Int) (ls rs:List Int) (o:Option W),e=[ac (.d (.int d)),ac (.d (.int (m:Int))),ac (.d (.lst (ls.map D.int))),ac (.d (.lst (rs.map D.int))),ac (.d (.int x)),o]/\ls.length+i=m/\rs.length=i) (dA 0 (m:Int)) 0 (λi x e hx ⟨x0,ls,rs,o,he,hl,hrs⟩=>by
   obtain⟨hi,rfl⟩:=sK hx;subst he;rw[fJ]at hl hrs;have hpos:(0:Int)<(ls.length:Int):=by omega
   obtain⟨y,hy⟩ : ∃y,y=(x0*48271+7*(i:Int)+1)%2147483647:=⟨_,rfl⟩;have z1:=gi (y/32) (b:=(ls.length:Int)) (by omega);have z2:=gf (y/32) hpos;refine⟨[ac (.d (.int d)),ac (.d (.int (m:Int))),ac (.d (.lst (ls.map D.int))),ac (.d (.lst (rs.map D.int))),ac (.d (.int x0)),ac (.d (.int (i:Int)))],[ac (.d (.int d)),ac (.d (.int (m:Int))),ac (.d (.lst ((ls.eraseIdx (y/32%(ls.length:Int)).toNat).map D.int))),ac (.d (.lst ((rs++[ls.getD (y/32%(ls.length:Int)).toNat 0]).map D.int))),ac (.d (.int y)),ac (.d (.int (i:Int)))],rfl,?_,y,ls.eraseIdx (y/32%(ls.length:Int)).toNat,rs++[ls.getD (y/32%(ls.length:Int)).toNat 0],ac (.d (.int (i:Int))),rfl,?_,?_⟩
   ·have h0:m2 bG (m2 c5 (mV 4) (mC (.int 32))) (mN bR [(mV 2)]) [ac (.d (.int d)),ac (.d (.int (m:Int))),ac (.d (.lst (ls.map D.int))),ac (.d (.lst (rs.map D.int))),ac (.d (.int y)),ac (.d (.int (i:Int)))]=.ok (.int (y/32%(ls.length:Int))):=
     aw (x:=.int (y/32)) (y:=.int (ls.length:Int)) (aw rfl rfl (aG (io (by decide) (by decide)))) (by show Rs.ok (D.int ((ls.map D.int).length:Int))=_;rw[aP]) (aG hpos)
    rw[aM (e':=[ac (.d (.int d)),ac (.d (.int (m:Int))),ac (.d (.lst (ls.map D.int))),ac (.d (.lst (rs.map D.int))),ac (.d (.int y)),ac (.d (.int (i:Int)))])]
    ·unfold wZ;rw[h0];simp only[aK,oN,getL,lK,lL,SG z1 z2 (by omega),putL,Lv,Lw];rw[aG (by rw[aP];omega),iM];rfl
    ·rw[hy];exact bD (aw (aw (aw (aw rfl rfl (aG (yF (by decide) (by decide)))) (aw rfl rfl (aG (lV (by decide) (by decide)))) rfl) rfl rfl) rfl (aG (by decide)))
   ·rw[List.length_eraseIdx_of_lt (by omega)];omega
   ·rw[dz,hrs];simp) [ac (.d (.int d)),ac (.d (.int (m:Int))),ac (.d (.lst (((bP m).map λ(k:Nat)=>(k:Int)).map D.int))),ac (.d (.lst [])),ac (.d (.int (d%2147483647))),af] ⟨_,_,[],af,rfl,by simp,rfl⟩
 obtain⟨d2,ls,rs,o,he,hl,hrs⟩:=h2;subst he;rw[lz,fJ]at hl hrs;refine⟨rs,?_,hrs⟩;rw[aM (e':=[ac (.d (.int d)),ac (.d (.int (m:Int))),ac (.d (.lst (((bP m).map λ(k:Nat)=>(k:Int)).map D.int))),af,af,af]) (bD (fb (iL rfl (oI m hm)) hw hc))];rw[aM (e':=[ac (.d (.int d)),ac (.d (.int (m:Int))),ac (.d (.lst (((bP m).map λ(k:Nat)=>(k:Int)).map D.int))),ac (.d (.lst [])),af,af]) (bD (kF _))];rw[aM (e':=[ac (.d (.int d)),ac (.d (.int (m:Int))),ac (.d (.lst (((bP m).map λ(k:Nat)=>(k:Int)).map D.int))),ac (.d (.lst [])),ac (.d (.int (d%2147483647))),af]) (bD (aw rfl rfl (aG (by decide))))];rw[aM ((eR (iL rfl (oI m hm))).trans h1)];rfl
end Mr
namespace Mr
open PySem Mi
open My (words uL vX)
theorem Og(ns:List Int){e:Mi.Env}{j k:Nat}(hj:j<8)(hk:k<8)(e0:mV 0 e=.ok (.lst (ns.map D.int)))(e7:mV 7 e=.ok (.int (j:Int)))(e8:mV 8 e=.ok (.int (k:Int))):∃c:Int,(aN ia [(wD (mV 0)),(wD (m2 bc (m2 bc (mC (.int 4)) (m2 c5 (m2 dM (mN j8 [(mV 7),(mV 8)]) (m2 gW (mN j8 [(mV 7),(mV 8)]) (mC (.int 1)))) (mC (.int 2)))) (mN ma [(mV 7),(mV 8)])))]) e=.ok (.int c):=by have hx:mN j8 [(mV 7),(mV 8)] e=.ok (.int (max (j:Int) (k:Int))):=(nP e7 e8).trans (Oo _ _);have hn:mN ma [(mV 7),(mV 8)] e=.ok (.int (min (j:Int) (k:Int))):=(nP e7 e8).trans (Jw _ _);obtain⟨t1,t2,t3,t4⟩:=Q2 (a:=max (j:Int) (k:Int)) (by omega) (by omega);obtain⟨z,hz⟩ : ∃z:Nat,4+max (j:Int) (k:Int)*(max (j:Int) (k:Int)-1)/2+min (j:Int) (k:Int)=(z:Int):=⟨(4+max (j:Int) (k:Int)*(max (j:Int) (k:Int)-1)/2+min (j:Int) (k:Int)).toNat,by omega⟩;obtain⟨c,hc⟩:=qc ns z (by omega);refine⟨c,call2 (bu e0) (bu (aw (aw rfl (aw (aw hx (aw hx rfl rfl) (aG (lV t1 t2))) rfl (aG (io (by decide) (by decide)))) rfl) hn rfl)) ?_⟩;rw[hz];exact hc
theorem SA(ns:List Int)(hi:Nat)(h0:1<=hi)(h2:hi<=8) :
 ∃ae A r,vi [.d (.lst (ns.map D.int)),.d (.int (hi:Int))]=.ok (.d (ak ae (A.map (arrOf ae))))/\uJ ae A r/\∃(c:Int) (m:Nat),m<=8/\ae=(words c m).map S':=by
 obtain⟨c0,hc0⟩:=qc ns 0 (by decide);obtain⟨c1,hc1⟩:=qc ns 1 (by decide);obtain⟨c2,hc2⟩:=qc ns 2 (by decide);obtain⟨c3,hc3⟩:=qc ns 3 (by decide);have hw:(0:Int)<(hi:Int):=by omega
 have q1:=gi c0 (b:=(hi:Int)) (by omega);have q2:=gf c0 hw;obtain⟨m,hm⟩ : ∃m:Nat,1+c0%(hi:Int)=(m:Int):=⟨(1+c0%(hi:Int)).toNat,by omega⟩;have hm1:1<=m:=by omega
 have hm2:m<=hi:=by omega
 have hm8:m<=8:=by omega
 obtain⟨ae,hnm⟩ : ∃ae,ae=(words c1 m).map S':=⟨_,rfl⟩;have hn:=OC c1 m hm8;rw[<- hnm]at hn;have hnl:ae.length=m:=by rw[hnm,aP];exact uL c1 m
 have hnd:ae.Nodup:=by rw[hnm];exact List.Pairwise.map _ (λa b h z=>h (NN z)) (vX _ _ hm8)
 obtain⟨rs,hr,hrl⟩:=Ox c2 m hm8;have q3:=gi c3 (b:=6) (by decide);have q4:=gf c3 (b:=6) (by decide);obtain⟨th,hth⟩ : ∃th,au (.lst ([4,1,2,3,2,3].map D.int)) (.int (c3%6))=.ok (.int th):=⟨_,xw q3 (by simp;omega)⟩;have hrx:∀i:Nat,i<m->au (.lst (rs.map D.int)) (.int (i:Int))=.ok (.int (rs.getD i 0)):=λi hi=>by
  have:=xw (cs:=rs) (i:=(i:Int)) (by omega) (by omega)
  rwa [iP]at this
 have hnx:∀i:Nat,i<m->au (am ae) (.int (i:Int))=.ok (.str (nth ae i)):=λi hi=>by
  have:=uf (cs:=ae) (i:=(i:Int)) (by omega) (by omega)
  rwa [iP]at this
 have inner:∀(j:Nat) (A:List Ix) (o8 o9:Option W),j<m->good m (λi=>rs.getD i 0) A j 0->∃(A':List Ix) (p8 p9:Option W),gL (.n 8) (aE (bf 9 (aN ia [(wD (mV 0)),(wD (m2 bc (m2 bc (mC (.int 4)) (m2 c5 (m2 dM (mN j8 [(mV 7),(mV 8)]) (m2 gW (mN j8 [(mV 7),(mV 8)]) (mC (.int 1)))) (mC (.int 2)))) (mN ma [(mV 7),(mV 8)])))])) (bq (cJ (cB (m2 gR (m2 au (mV 4) (mV 7)) (m2 au (mV 4) (mV 8)))) (cB (m2 gR (m2 bG (m2 c5 (m2 bG (m2 dM (mV 9) (mC (.int 48271))) (mC (.int 2147483647))) (mC (.int 16))) (mC (.int 4))) (mV 5)))) (ek 6 (mN dTup [(m2 au (mV 3) (mV 7)),(m2 au (mV 3) (mV 8))])) bw)) (dA 0 (m:Int)) [ac (.d (.lst (ns.map D.int))),ac (.d (.int (hi:Int))),ac (.d (.int (m:Int))),ac (.d (am ae)),ac (.d (.lst (rs.map D.int))),ac (.d (.int th)),ac (.d (jf ae A)),ac (.d (.int (j:Int))),o8,o9]=.ok (.nx [ac (.d (.lst (ns.map D.int))),ac (.d (.int (hi:Int))),ac (.d (.int (m:Int))),ac (.d (am ae)),ac (.d (.lst (rs.map D.int))),ac (.d (.int th)),ac (.d (jf ae A')),ac (.d (.int (j:Int))),p8,p9])/\good m (λi=>rs.getD i 0) A' (j+1) 0:=by
  intro j A o8 o9 hj hg;obtain⟨e',f1,A',p8,p9,he,hg'⟩:=iT (tg:=.n 8) (body:=(aE (bf 9 (aN ia [(wD (mV 0)),(wD (m2 bc (m2 bc (mC (.int 4)) (m2 c5 (m2 dM (mN j8 [(mV 7),(mV 8)]) (m2 gW (mN j8 [(mV 7),(mV 8)]) (mC (.int 1)))) (mC (.int 2)))) (mN ma [(mV 7),(mV 8)])))])) (bq (cJ (cB (m2 gR (m2 au (mV 4) (mV 7)) (m2 au (mV 4) (mV 8)))) (cB (m2 gR (m2 bG (m2 c5 (m2 bG (m2 dM (mV 9) (mC (.int 48271))) (mC (.int 2147483647))) (mC (.int 16))) (mC (.int 4))) (mV 5)))) (ek 6 (mN dTup [(m2 au (mV 3) (mV 7)),(m2 au (mV 3) (mV 8))])) bw))) (λk e=>∃(A:List Ix) (o8 o9:Option W),e=[ac (.d (.lst (ns.map D.int))),ac (.d (.int (hi:Int))),ac (.d (.int (m:Int))),ac (.d (am ae)),ac (.d (.lst (rs.map D.int))),ac (.d (.int th)),ac (.d (jf ae A)),ac (.d (.int (j:Int))),o8,o9]/\good m (λi=>rs.getD i 0) A j k)
   (dA 0 (m:Int)) 0 (λk x e hx ⟨A,o8,o9,he,hg⟩=>by
    obtain⟨hk,rfl⟩:=sK hx;subst he;rw[fJ]at hg;obtain⟨c,hc⟩:=Og ns (e:=[ac (.d (.lst (ns.map D.int))),ac (.d (.int (hi:Int))),ac (.d (.int (m:Int))),ac (.d (am ae)),ac (.d (.lst (rs.map D.int))),ac (.d (.int th)),ac (.d (jf ae A)),ac (.d (.int (j:Int))),ac (.d (.int (k:Int))),o9]) (j:=j) (k:=k) (by omega) (by omega) rfl rfl rfl;have c1:cB (m2 gR (m2 au (mV 4) (mV 7)) (m2 au (mV 4) (mV 8))) [ac (.d (.lst (ns.map D.int))),ac (.d (.int (hi:Int))),ac (.d (.int (m:Int))),ac (.d (am ae)),ac (.d (.lst (rs.map D.int))),ac (.d (.int th)),ac (.d (jf ae A)),ac (.d (.int (j:Int))),ac (.d (.int (k:Int))),ac (.d (.int c))]=.ok (decide (rs.getD j 0<rs.getD k 0)):=bB (aw (aw rfl rfl (hrx j hj)) (aw rfl rfl (hrx k hk)) rfl);have c2:cB (m2 gR (m2 bG (m2 c5 (m2 bG (m2 dM (mV 9) (mC (.int 48271))) (mC (.int 2147483647))) (mC (.int 16))) (mC (.int 4))) (mV 5)) [ac (.d (.lst (ns.map D.int))),ac (.d (.int (hi:Int))),ac (.d (.int (m:Int))),ac (.d (am ae)),ac (.d (.lst (rs.map D.int))),ac (.d (.int th)),ac (.d (jf ae A)),ac (.d (.int (j:Int))),ac (.d (.int (k:Int))),ac (.d (.int c))]=.ok (decide (c*48271%2147483647/16%4<th)):=bB (aw (aw (aw (aw (aw rfl rfl (aG (yF (by decide) (by decide)))) rfl (aG (by decide))) rfl (aG (io (by decide) (by decide)))) rfl (aG (by decide))) rfl rfl);by_cases hb:rs.getD j 0<rs.getD k 0/\c*48271%2147483647/16%4<th
    ·refine⟨[ac (.d (.lst (ns.map D.int))),ac (.d (.int (hi:Int))),ac (.d (.int (m:Int))),ac (.d (am ae)),ac (.d (.lst (rs.map D.int))),ac (.d (.int th)),ac (.d (jf ae A)),ac (.d (.int (j:Int))),ac (.d (.int (k:Int))),o9],[ac (.d (.lst (ns.map D.int))),ac (.d (.int (hi:Int))),ac (.d (.int (m:Int))),ac (.d (am ae)),ac (.d (.lst (rs.map D.int))),ac (.d (.int th)),ac (.d (jf ae (A++[(j,k)]))),ac (.d (.int (j:Int))),ac (.d (.int (k:Int))),ac (.d (.int c))],rfl,?_,A++[(j,k)],ac (.d (.int (k:Int))),ac (.d (.int c)),rfl,by rw[fJ];exact hg.add hj hk hb.1⟩;rw[aM (e':=[ac (.d (.lst (ns.map D.int))),ac (.d (.int (hi:Int))),ac (.d (.int (m:Int))),ac (.d (am ae)),ac (.d (.lst (rs.map D.int))),ac (.d (.int th)),ac (.d (jf ae A)),ac (.d (.int (j:Int))),ac (.d (.int (k:Int))),ac (.d (.int c))]) (bD hc)];rw[fk (by unfold cJ;rw[c1,aK,cV hb.1,a8 rfl,c2,cV hb.2])];rw[vv (d:=pairD (nth ae j,nth ae k)) (ds:=(A.map (arrOf ae)).map pairD) (fw (aw rfl rfl (hnx j hj)) (aw rfl rfl (hnx k hk))) rfl (by rw[aP,aP];have:=hg.2.2;omega)];show Rs.ok (Out.nx [_,_,_,_,_,_,ac (W.d (D.lst ((A.map (arrOf ae)).map pairD++[pairD (nth ae j,nth ae k)]))),_,_,_])=_;rw[jf,iM,iM];rfl
    ·refine⟨[ac (.d (.lst (ns.map D.int))),ac (.d (.int (hi:Int))),ac (.d (.int (m:Int))),ac (.d (am ae)),ac (.d (.lst (rs.map D.int))),ac (.d (.int th)),ac (.d (jf ae A)),ac (.d (.int (j:Int))),ac (.d (.int (k:Int))),o9],[ac (.d (.lst (ns.map D.int))),ac (.d (.int (hi:Int))),ac (.d (.int (m:Int))),ac (.d (am ae)),ac (.d (.lst (rs.map D.int))),ac (.d (.int th)),ac (.d (jf ae A)),ac (.d (.int (j:Int))),ac (.d (.int (k:Int))),ac (.d (.int c))],rfl,?_,A,ac (.d (.int (k:Int))),ac (.d (.int c)),rfl,by rw[fJ];exact hg.skip⟩;rw[aM (e':=[ac (.d (.lst (ns.map D.int))),ac (.d (.int (hi:Int))),ac (.d (.int (m:Int))),ac (.d (am ae)),ac (.d (.lst (rs.map D.int))),ac (.d (.int th)),ac (.d (jf ae A)),ac (.d (.int (j:Int))),ac (.d (.int (k:Int))),ac (.d (.int c))]) (bD hc)];rw[dQ (by
      unfold cJ;rw[c1,aK];by_cases hb1:rs.getD j 0<rs.getD k 0
      ·rw[cV hb1,a8 rfl,c2,d6 λz=>hb ⟨hb1,z⟩]
      ·rw[d6 hb1,a7 dJ])]
     rfl) _ ⟨A,o8,o9,rfl,hg⟩
  subst he;rw[lz,fJ]at hg';exact⟨A',p8,p9,f1,hg'.next hm8⟩
 obtain⟨e',f1,A,p7,p8,p9,he,hg⟩:=iT (tg:=.n 7) (body:=(cU (fo (mV 2)) (.n 8) (aE (bf 9 (aN ia [(wD (mV 0)),(wD (m2 bc (m2 bc (mC (.int 4)) (m2 c5 (m2 dM (mN j8 [(mV 7),(mV 8)]) (m2 gW (mN j8 [(mV 7),(mV 8)]) (mC (.int 1)))) (mC (.int 2)))) (mN ma [(mV 7),(mV 8)])))])) (bq (cJ (cB (m2 gR (m2 au (mV 4) (mV 7)) (m2 au (mV 4) (mV 8)))) (cB (m2 gR (m2 bG (m2 c5 (m2 bG (m2 dM (mV 9) (mC (.int 48271))) (mC (.int 2147483647))) (mC (.int 16))) (mC (.int 4))) (mV 5)))) (ek 6 (mN dTup [(m2 au (mV 3) (mV 7)),(m2 au (mV 3) (mV 8))])) bw)))) (λj e=>∃(A:List Ix) (o7 o8 o9:Option W),e=[ac (.d (.lst (ns.map D.int))),ac (.d (.int (hi:Int))),ac (.d (.int (m:Int))),ac (.d (am ae)),ac (.d (.lst (rs.map D.int))),ac (.d (.int th)),ac (.d (jf ae A)),o7,o8,o9]/\good m (λi=>rs.getD i 0) A j 0)
  (dA 0 (m:Int)) 0 (λj x e hx ⟨A,o7,o8,o9,he,hg⟩=>by
   obtain⟨hj,rfl⟩:=sK hx;subst he;rw[fJ]at hg;obtain⟨A',p8,p9,f1,hg'⟩:=inner j A o8 o9 hj hg;exact⟨_,_,rfl,(eR (iL rfl (oI m hm8))).trans f1,A',_,p8,p9,rfl,by rw[fJ];exact hg'⟩)
  [ac (.d (.lst (ns.map D.int))),ac (.d (.int (hi:Int))),ac (.d (.int (m:Int))),ac (.d (am ae)),ac (.d (.lst (rs.map D.int))),ac (.d (.int th)),ac (.d (.lst [])),af,af,af] ⟨[],af,af,af,rfl,DK,λp hp=>absurd hp (by simp),iC _⟩
 subst he;rw[lz,fJ]at hg;refine⟨ae,A,λi=>rs.getD i 0,?_,⟨hnd,by omega,by omega,hg.1,λp hp=>?_,by have:=hg.2.2;omega⟩,c1,m,hm8,hnm⟩
 ·unfold vi Fk;rw[gq];rw[show((0:Nat):Int)=0 from rfl]at hc0;rw[show((1:Nat):Int)=1 from rfl]at hc1;rw[show((2:Nat):Int)=2 from rfl]at hc2;rw[show((3:Nat):Int)=3 from rfl]at hc3;rw[aM (e':=[ac (.d (.lst (ns.map D.int))),ac (.d (.int (hi:Int))),ac (.d (.int (m:Int))),af,af,af,af,af,af,af]) (bD (d:=.int (m:Int)) ((aw rfl (aw (call2 rfl rfl hc0) rfl (aG hw)) rfl).trans (by rw[qL,hm])))];rw[aM (e':=[ac (.d (.lst (ns.map D.int))),ac (.d (.int (hi:Int))),ac (.d (.int (m:Int))),ac (.d (am ae)),af,af,af,af,af,af]) (bD (call2 (bu (call2 rfl rfl hc1)) rfl hn))];rw[aM (e':=[ac (.d (.lst (ns.map D.int))),ac (.d (.int (hi:Int))),ac (.d (.int (m:Int))),ac (.d (am ae)),ac (.d (.lst (rs.map D.int))),af,af,af,af,af]) (bD (call2 (bu (call2 rfl rfl hc2)) rfl hr))];have hl6:mN b9 [(mC (.int 4)),(mC (.int 1)),(mC (.int 2)),(mC (.int 3)),(mC (.int 2)),(mC (.int 3))] [ac (.d (.lst (ns.map D.int))),ac (.d (.int (hi:Int))),ac (.d (.int (m:Int))),ac (.d (am ae)),ac (.d (.lst (rs.map D.int))),af,af,af,af,af]=.ok (.lst ([4,1,2,3,2,3].map D.int)):=by
   show bp (([4,1,2,3,2,3].map D.int).length<=16777216) _=_;exact aG (by simp)
  rw[aM (e':=[ac (.d (.lst (ns.map D.int))),ac (.d (.int (hi:Int))),ac (.d (.int (m:Int))),ac (.d (am ae)),ac (.d (.lst (rs.map D.int))),ac (.d (.int th)),af,af,af,af]) (bD (aw hl6 (aw (call2 rfl rfl hc3) rfl (aG (by decide))) hth))];rw[aM (e':=[ac (.d (.lst (ns.map D.int))),ac (.d (.int (hi:Int))),ac (.d (.int (m:Int))),ac (.d (am ae)),ac (.d (.lst (rs.map D.int))),ac (.d (.int th)),ac (.d (.lst [])),af,af,af]) (bD (kF _))];rw[aM ((eR (iL rfl (oI m hm8))).trans f1)];rw[dR (bu (fw (x:=a6 ae) (y:=dm (A.map (arrOf ae))) (eB (x:=am ae) rfl) (eB (x:=jf ae A) rfl)))];rfl
 ·obtain⟨a,b,c,_⟩:=hg.2.1 p hp;exact⟨by omega,by omega,c⟩
end Mr
namespace Mr
open PySem Mi
end Mr
namespace Mr
open PySem Mi
inductive j5(ag:List Ar)(x:Str):Str->Prop
 |refl:j5 ag x x
 |step {y z:Str}:j5 ag x y->(y,z)∈ag->j5 ag x z
structure Good(ae:List Str)(ag:List Ar)(x:Str)(met:List Str):Prop where
 nd:met.Nodup
 sub:∀y∈met,y∈ae
 r:∀y∈met,j5 ag x y
 x:x∈met
def xO(ag:List Ar)(met:List Str):Prop:=∀p∈ag,p.1∈met->p.2∈met
theorem xO.all{ag:List Ar}{met:List Str}(h:xO ag met){x:Str}(hx:x∈met):∀{y:Str},j5 ag x y->y∈met
 |_,.refl=>hx
 |_,.step r a=>h _ a (h.all hx r)
theorem Good.iff{ae:List Str}{ag:List Ar}{x:Str}{met:List Str}(g:Good ae ag x met)(h:xO ag met)(y:Str):y∈met↔j5 ag x y:=⟨g.r y,h.all g.x⟩
theorem T0{ae met:List Str}(nd:met.Nodup)(sub:∀y∈met,y∈ae)(h:ae.length<=met.length):∀y∈ae,y∈met:=λy hy=>by
 apply pM;intro hn;have:=jx (l:=y::met) (m:=ae) (kg.mpr ⟨hn,nd⟩) (λz hz=>by
  rcases bZ.mp hz with rfl|hz
  ·exact hy
  ·exact sub z hz)
 simp at this;omega
end Mr
namespace Mr
open PySem Mi
noncomputable def rch (ag:List Ar) (x y:Str):Bool:=@decide (j5 ag x y) (zE _)
theorem BQ{ag:List Ar}{x y:Str}:rch ag x y=true↔j5 ag x y:=by unfold rch;exact@j6 _ (zE _)
noncomputable def wF (ae:List Str) (ag:List Ar) (x:Str):List Str:=ae.filter (rch ag x)
theorem Po{ag:List Ar}{x:Str}{met:List Str}(h:∀y,y∈met↔j5 ag x y)(y:Str):decide (y∈met)=rch ag x y:=by rw[oj,BQ,j6];exact h y
def fM(fs:List Str):W:=.dk (fs.map λy=>((e6 y:Ky),D.bl true))
theorem FT(fs:List Str)(y:Str):(jJ (fs.map λy=>((e6 y:Ky),D.bl true)) (e6 y)).isSome=decide (y∈fs):=by
 unfold jJ
 induction fs with
 |nil=>rfl
 |cons a r ih=>
  rw[cM,mW];by_cases h:a=y
  ·subst h;simp
  ·rw[d6 (λz:(e6 a:Ky)=e6 y=>h (wB z))];simp only[ih];rw[AK];exact⟨λz=>eL _ z,λz=>by
    rcases bZ.mp z with z|z
    ·exact absurd z.symm h
    ·exact z⟩
theorem QI{i:Nat}{k:E}{e:Mi.Env}{fs:List Str}{y:Str}(hk:k e=.ok (.str y))(hw:wV i e=.ok (fM fs)):uY i k e=.ok (.bl (decide (y∈fs))):=by unfold uY;rw[hk,aK,hw,aK,<- FT];rfl
theorem Op{i:Nat}{k:E}{e:Mi.Env}{fs:List Str}{y:Str}(hk:k e=.ok (.str y))(hw:wV i e=.ok (fM fs)):oK i k e=.ok (.bl (!decide (y∈fs))):=by unfold oK;rw[hk,aK,hw,aK,<- FT];rfl
theorem NG{i:Nat}{k:E}{e:Mi.Env}{fs:List Str}{y:Str}(hk:k e=.ok (.str y))(hw:wV i e=.ok (fM fs))(hn:y∉fs)(hl:fs.length<=1000):jh i k (mC (.bl true)) e=.ok (.nx (e.set i (ac (fM (fs++[y]))))):=by
 unfold jh;have h1:AB (fM fs) (.str y) (.bl true)=.ok (fM (fs++[y])):=by
  show bp ((fs.map λy=>((e6 y:Ky),D.bl true)).length<16777216) ((cy (oP (.str y))).bind λk=>Rs.ok (W.dk (Mi.putK k (.bl true) (fs.map λy=>((e6 y:Ky),D.bl true)))))=_;rw[aG (by rw[aP];omega)];show Rs.ok (W.dk (Mi.putK (e6 y:Ky) (.bl true) (fs.map λy=>((e6 y:Ky),D.bl true))))=_;unfold Mi.putK;rw[a7 (by
   rw[List.any_map,Dx,C9];intro z hz;simp only[Mh,jm];exactλq=>hn (wB q ▸ hz))]
  unfold fM;rw[iM];rfl
 show(k e).bind _=_;rw[hk,aK,hw,aK,h1];rfl
structure sx(ae:List Str)(ag:List Ar)(x:Str)(h:Option Str)(fs ws:List Str):Prop where
 g:Good ae ag x fs
 wnd:ws.Nodup
 uc:∀y∈ws,y∈fs
 ex:∀y∈fs,y∉ws->h=ac y\/∀p∈ag,p.1=y->p.2∈fs
abbrev xu:S:=(aE (yp 5 4)
 (cU (bA (mV 1)) (.t [6,7])
 (bq (cJ (cB (m2 bK (mV 6) (mV 5))) (cB (oK 3 (mV 7))))
 (aE (jh 3 (mV 7) (mC (.bl true)))
 (ek 4 (mV 7)))
 bw)))
theorem Rt{ae:List Str}{ag:List Ar}(N:sE ae ag)(hd:∀p∈ag,p.2∈ae){x h:Str}{fs ws:List Str}(w:sx ae ag x af fs (ws++[h]))(o5 o6 o7:Option W) :
 ∃fs' ws' p6 p7,xu [ac (.d (a6 ae)),ac (.d (dm ag)),ac (.d (.str x)),ac (fM fs),ac (.d (am (ws++[h]))),o5,o6,o7]=.ok (.nx [ac (.d (a6 ae)),ac (.d (dm ag)),ac (.d (.str x)),ac (fM fs'),ac (.d (am ws')),ac (.d (.str h)),p6,p7]) /\
  sx ae ag x af fs' ws'/\fs.length<=fs'.length/\ws'.length+fs.length=ws.length+fs'.length:=by
 have hnd:=pE.mp w.wnd;have hh:h∈fs:=w.uc h (by simp);have hnw:h∉ws:=λz=>hnd.2.2 h z h (by simp) rfl;obtain⟨e',f1,fs',ws',p6,p7,he,w',hl,hl2,hx,_⟩:=iT (tg:=.t [6,7]) (body:=(bq (cJ (cB (m2 bK (mV 6) (mV 5))) (cB (oK 3 (mV 7)))) (aE (jh 3 (mV 7) (mC (.bl true))) (ek 4 (mV 7))) bw))
  (λi e=>∃(fs' ws':List Str) (o6 o7:Option W),e=[ac (.d (a6 ae)),ac (.d (dm ag)),ac (.d (.str x)),ac (fM fs'),ac (.d (am ws')),ac (.d (.str h)),o6,o7]/\sx ae ag x (ac h) fs' ws'/\fs.length<=fs'.length/\ws'.length+fs.length=ws.length+fs'.length/\(∀j p,j<i->ag[j]? = ac p->p.1=h->p.2∈fs')/\h∈fs') (ag.map pairD) 0 (λi d e hi ⟨f1,w1,o6,o7,he,W1,hl,hl2,hx,hf1⟩=>by
   subst he;rw[fJ]at hx ⊢;rw[gc]at hi;obtain⟨p,hp,rfl⟩:=pN.mp hi;have hpm:=sY hp;have c1:cB (m2 bK (mV 6) (mV 5)) [ac (.d (a6 ae)),ac (.d (dm ag)),ac (.d (.str x)),ac (fM f1),ac (.d (am w1)),ac (.d (.str h)),ac (.d (.str p.1)),ac (.d (.str p.2))]=.ok (decide (p.1=h)):=bB ((aw rfl rfl rfl).trans (xR _ _));have c2:cB (oK 3 (mV 7)) [ac (.d (a6 ae)),ac (.d (dm ag)),ac (.d (.str x)),ac (fM f1),ac (.d (am w1)),ac (.d (.str h)),ac (.d (.str p.1)),ac (.d (.str p.2))]=.ok (!decide (p.2∈f1)):=bB (Op rfl rfl);have hl8:f1.length<=8:=c7 (jx W1.g.nd W1.g.sub) N.le;have hw8:w1.length<=8:=c7 (jx W1.wnd (λy hy=>W1.g.sub y (W1.uc y hy))) N.le;by_cases hb:p.1=h/\p.2∉f1
   ·refine⟨[ac (.d (a6 ae)),ac (.d (dm ag)),ac (.d (.str x)),ac (fM f1),ac (.d (am w1)),ac (.d (.str h)),ac (.d (.str p.1)),ac (.d (.str p.2))],[ac (.d (a6 ae)),ac (.d (dm ag)),ac (.d (.str x)),ac (fM (f1++[p.2])),ac (.d (am (w1++[p.2]))),ac (.d (.str h)),ac (.d (.str p.1)),ac (.d (.str p.2))],rfl,?_,f1++[p.2],w1++[p.2],_,_,rfl,⟨⟨?_,λy hy=>?_,λy hy=>?_,jv _ W1.g.x⟩,?_,λy hy=>?_,λy hy hn=>?_⟩,by rw[dz];omega,by rw[dz,dz];simp;omega,λj q hj hq h1=>?_,jv _ hf1⟩
    ·rw[fk (by unfold cJ;rw[c1,aK,cV hb.1,a8 rfl,c2,d6 hb.2];rfl)];rw[aM (NG (y:=p.2) (fs:=f1) rfl rfl hb.2 (by omega))];rw[vv (d:=.str p.2) (ds:=w1.map D.str) rfl rfl (by rw[aP];omega)];show Rs.ok (Out.nx [_,_,_,_,ac (W.d (D.lst (w1.map D.str++[.str p.2]))),_,_,_])=_;rw[am,iM];rfl
    ·exact pE.mpr ⟨W1.g.nd,by simp,λa ha b hb'=>by
      have:b=p.2:=by simpa using hb'
      subst this;exactλz=>hb.2 (z ▸ ha)⟩
    ·rcases fG.mp hy with z|z
     ·exact W1.g.sub y z
     ·have:y=p.2:=by simpa using z
      subst this;exact hd p hpm
    ·rcases fG.mp hy with z|z
     ·exact W1.g.r y z
     ·have:y=p.2:=by simpa using z
      subst this;exact .step (W1.g.r p.1 (hb.1 ▸ hf1)) hpm
    ·exact pE.mpr ⟨W1.wnd,by simp,λa ha b hb'=>by
      have:b=p.2:=by simpa using hb'
      subst this;exactλz=>hb.2 (z ▸ W1.uc a ha)⟩
    ·rcases fG.mp hy with z|z
     ·exact jv _ (W1.uc y z)
     ·exact gv _ z
    ·rcases fG.mp hy with z|z
     ·rcases W1.ex y z (λq=>hn (jv _ q))with q|q
      ·exact .inl q
      ·exact .inr λr hr h1=>jv _ (q r hr h1)
     ·exact absurd (gv _ z) hn
    ·by_cases hji:j=i
     ·subst hji;rw[hp]at hq;cases hq;simp
     ·exact jv _ (hx j q (by omega) hq h1)
   ·refine⟨[ac (.d (a6 ae)),ac (.d (dm ag)),ac (.d (.str x)),ac (fM f1),ac (.d (am w1)),ac (.d (.str h)),ac (.d (.str p.1)),ac (.d (.str p.2))],[ac (.d (a6 ae)),ac (.d (dm ag)),ac (.d (.str x)),ac (fM f1),ac (.d (am w1)),ac (.d (.str h)),ac (.d (.str p.1)),ac (.d (.str p.2))],rfl,?_,f1,w1,_,_,rfl,W1,hl,hl2,λj q hj hq h1=>?_,hf1⟩
    ·rw[dQ (by
      unfold cJ;rw[c1,aK];by_cases h1:p.1=h
      ·rw[cV h1,a8 rfl,c2,cV (pM λz=>hb ⟨h1,z⟩)];rfl
      ·rw[d6 h1,a7 dJ])]
     rfl
    ·by_cases hji:j=i
     ·subst hji;rw[hp]at hq;cases hq;exact pM λz=>hb ⟨h1,z⟩
     ·exact hx j q (by omega) hq h1) [ac (.d (a6 ae)),ac (.d (dm ag)),ac (.d (.str x)),ac (fM fs),ac (.d (am ws)),ac (.d (.str h)),o6,o7]
  ⟨fs,ws,o6,o7,rfl,⟨w.g,hnd.1,λy hy=>w.uc y (jv _ hy),λy hy hn=>by
   by_cases hyh:y=h
   ·exact .inl (by rw[hyh])
   ·rcases w.ex y hy (λz=>by
     rcases fG.mp z with z|z
     ·exact hn z
     ·exact hyh (by simpa using z))with q|q
    ·cases q
    ·exact .inr q⟩,bU _,rfl,λj p hj=>absurd hj (zu _),hh⟩
 subst he;refine⟨fs',ws',p6,p7,?_,⟨w'.g,w'.wnd,w'.uc,λy hy hn=>.inr ?_⟩,hl,hl2⟩
 ·rw[show xu=aE (yp 5 4) (cU (bA (mV 1)) (.t [6,7]) (bq (cJ (cB (m2 bK (mV 6) (mV 5))) (cB (oK 3 (mV 7)))) (aE (jh 3 (mV 7) (mC (.bl true))) (ek 4 (mV 7))) bw))from rfl];rw[aM (e':=[ac (.d (a6 ae)),ac (.d (dm ag)),ac (.d (.str x)),ac (fM fs),ac (.d (am ws)),ac (.d (.str h)),o6,o7]) (by
   show(cy (((ws++[h]).map D.str)[((ws++[h]).map D.str).length-1]?)).bind _=_;have e1:((ws++[h]).map D.str)[((ws++[h]).map D.str).length-1]? = ac (.str h):=by simp
   have e2:((ws++[h]).map D.str).dropLast=ws.map D.str:=by simp
   rw[e1,nU,aK,e2];rfl)]
  exact(eR (et (x:=dm ag) rfl rfl)).trans f1
 ·rcases w'.ex y hy hn with q|q
  ·cases q;intro p hp h1;obtain⟨j,hj⟩:=sZ hp;exact hx j p (by rw[aP];have:=(fe.mp hj).1;omega) hj h1
  ·exact q
end Mr
namespace Mr
open PySem Mi
theorem K0{ae:List Str}{ag:List Ar}(N:sE ae ag)(hd:∀p∈ag,p.2∈ae){x:Str}:∀(n:Nat) (fs ws:List Str) (o5 o6 o7:Option W),sx ae ag x af fs ws->(ae.length-fs.length)+ws.length<n ->
 ∃fs' p5 p6 p7,oy (iY (mV 4)) xu n [ac (.d (a6 ae)),ac (.d (dm ag)),ac (.d (.str x)),ac (fM fs),ac (.d (am ws)),o5,o6,o7]=.ok (.nx [ac (.d (a6 ae)),ac (.d (dm ag)),ac (.d (.str x)),ac (fM fs'),ac (.d (am [])),p5,p6,p7])/\sx ae ag x af fs' []
 |0,_,_,_,_,_,_,h=>absurd h (zu _)
 |n+1,fs,ws,o5,o6,o7,w,h=>by
  have hc:iY (mV 4) [ac (.d (a6 ae)),ac (.d (dm ag)),ac (.d (.str x)),ac (fM fs),ac (.d (am ws)),o5,o6,o7]=.ok (!(ws.map D.str).isEmpty):=rfl;rcases List.eq_nil_or_concat ws with rfl|⟨ws1,y,rfl⟩
  ·exact⟨fs,o5,o6,o7,by rw[oy,hc];rfl,w⟩
  ·rw[List.concat_eq_append]at w h hc ⊢;obtain⟨fs',ws',p6,p7,f1,w',l1,l2⟩:=Rt N hd w o5 o6 o7;have l3:fs'.length<=ae.length:=jx w'.g.nd w'.g.sub;obtain⟨fs2,q5,q6,q7,f2,w2⟩:=K0 N hd n fs' ws' (ac (.d (.str y))) p6 p7 w' (by rw[dz]at h;simp at h;omega);refine⟨fs2,q5,q6,q7,?_,w2⟩;rw[oy,hc,show(!((ws1++[y]).map D.str).isEmpty)=true by simp,aK,a8 rfl,f1,aK];exact f2
theorem QH{ae:List Str}{ag:List Ar}(N:sE ae ag)(hd:∀p∈ag,p.2∈ae){x:Str}(hx:x∈ae):vH [.d (a6 ae),.d (dm ag),.d (.str x)]=.ok (.d (am (wF ae ag x))):=by
 have w0:sx ae ag x af [x] [x]:=⟨⟨by simp,λy hy=>by simp at hy;subst hy;exact hx,λy hy=>by simp at hy;subst hy;exact .refl,by simp⟩,by simp,λy hy=>hy,λy hy hn=>absurd hy hn⟩;obtain⟨fs,p5,p6,p7,f1,w⟩:=K0 N hd 20 [x] [x] af af af w0 (by have:=N.le;simp;omega);have hcl:xO ag fs:=λp hp h1=>by
  rcases w.ex p.1 h1 (by simp)with q|q
  ·cases q
  ·exact q p hp rfl
 unfold vH Ez;rw[HM];rw[aM (e':=[ac (.d (a6 ae)),ac (.d (dm ag)),ac (.d (.str x)),ac (fM [x]),af,af,af,af]) rfl];rw[aM (e':=[ac (.d (a6 ae)),ac (.d (dm ag)),ac (.d (.str x)),ac (fM [x]),ac (.d (am [x])),af,af,af]) (bD (nz rfl))];rw[aM (show Al 20 (iY (mV 4)) xu _=_ from f1)];have hc:dE (.n 1) (cB (uY 0 (mV 1))) (mV 1) [ac (fM fs),af] (ae.map D.str)=.ok ((ae.filter (rch ag x)).map D.str):=
  gr D.str D.str _ ae λy _=>⟨[ac (fM fs),ac (.d (.str y))],rfl,bB ((QI rfl rfl).trans (by rw[Po (w.g.iff hcl)])),λ_=>rfl⟩
 rw[dR (bu (fb (et (x:=a6 ae) rfl rfl) (by rw[aP];have:=N.le;omega) hc))];rfl
theorem SR{ae:List Str}{ag:List Ar}(N:sE ae ag)(hd:∀p∈ag,p.2∈ae){x:Str}(hx:x∈ae):qb [.d (ak ae ag),.d (.str x)]=.ok (.d (am (wF ae ag x))):=by
 unfold qb Kk;rw[oX];have hr:lh [.d (a6 ae),.d (am [x])]=.ok (.d .non):=Ah λy hy=>by simp at hy;subst hy;exact hx
 rw[aM (e':=[ac (.d (ak ae ag)),ac (.d (.str x))]) (by unfold mn;rw[call2 (bu (aw rfl rfl (fP _ _))) (bu (nz rfl)) hr];rfl)];rw[dR (bu (oY (bu (aw rfl rfl (fP _ _))) (bu (aw rfl rfl (jU _ _))) rfl (QH N hd hx)))];rfl
noncomputable def hb (ae:List Str) (ag:List Ar) (aB:List Str) (x:Str):Bool:=(wF ae ag x).any λy=>decide (y∈aB)
end Mr
namespace Mr
open PySem Mi
abbrev gB:=Str×Str×Str
def tri:List Str->List gB
 |a::b::c::r=>(a,b,c)::tri (b::c::r)
 |_=>[]
def cF(t:gB):D:=.tup [.str t.1,.str t.2.1,.str t.2.2]
theorem A3(ag:List Ar)(p:Ar):((ag.map pairD).any λe=>bM e (pairD p))=decide (p∈ag):=by
 induction ag with
 |nil=>rfl
 |cons q r ih=>
  rw[cM,mX,ih];have:bM (pairD q) (pairD p)=decide (q=p):=by unfold pairD;rw[bM,eD,eD,eD,la,la];obtain⟨a,b⟩:=q;obtain⟨c,d⟩:=p;by_cases h1:a=c<;>by_cases h2:b=d<;>simp[h1,h2]
  rw[this];by_cases h:q=p
  ·simp[h]
  ·have h2:¬ p=q:=λz=>h z.symm;simp[h,h2]
theorem vD:∀ag:List Ar,eJ (ag.map pairD)<=1
 |[]=>by simp
 |p::r=>by
  have:=vD r;rw[cM,CC];have h:(pairD p).dep=1:=by simp[pairD]
  omega
theorem ot(ag:List Ar)(p:Ar):bC (pairD p) (dm ag)=.ok (.bl (decide (p∈ag))):=by show bp _ _=_;rw[aG (by have:=vD ag;omega),A3]
theorem TF(ms:List Str)(x:Str):D.lst (ms.map D.str++[.str x])=am (ms++[x]):=by unfold am;rw[iM];rfl
def mt(ag:List Ar)(t:gB):Bool:=decide ((t.1,t.2.1)∈ag)&&decide ((t.2.2,t.2.1)∈ag)
theorem yb{be:List Str}{z:Int}(h0:0<=z)(h1:z<be.length):au (am be) (.int z)=.ok (.str (nth be z.toNat)):=uf h0 h1
end Mr
namespace Mr
open PySem Mi
def e9(a:Ar)(ag:List Ar):List Ar:=ag.map λp=>if p=a then(p.2,p.1)else p
theorem CS{ag:List Ar}{a p:Ar}(ha:a∈ag):p∈e9 a ag↔(p∈ag/\p≠a)\/p=(a.2,a.1):=by
 unfold e9;rw[cX];constructor
 ·rintro⟨q,hq,e⟩;by_cases z:q=a
  ·rw[a8 z]at e;exact .inr (by rw[<- e,z])
  ·rw[a7 z]at e;exact .inl ⟨e ▸ hq,e ▸ z⟩
 ·rintro(⟨h1,h2⟩|e)
  ·exact⟨p,h1,a7 h2⟩
  ·exact⟨a,ha,by rw[a8 rfl,e]⟩
def hds(ag:List Ar)(l:List Str):List Str:=(ag.filter λp=>decide (p.1∈l)).map (·.2)
theorem CN{ag:List Ar}{l:List Str}{x:Str}:x∈hds ag l↔∃t,(t,x)∈ag/\t∈l:=by
 unfold hds;rw[cX];constructor
 ·rintro⟨⟨t,h⟩,hq,rfl⟩;obtain⟨h1,h2⟩:=dS.mp hq;exact⟨t,h1,by simpa using h2⟩
 ·rintro⟨t,h1,h2⟩;exact⟨(t,x),dS.mpr ⟨h1,by simpa using h2⟩,rfl⟩
def xr(ag:List Ar)(l:List Str):List Str:=l.filter λx=>decide (x∈hds ag l)
def di(ae:List Str)(ag:List Ar):Nat->List Str
 |0=>ae
 |k+1=>xr ag (di ae ag k)
def jA(ae:List Str)(ag:List Ar):Bool:=decide (0<(di ae ag ae.length).length)
def Rk(ag:List Ar):Prop:=∃r:Str->Int,∀p∈ag,r p.1<r p.2
theorem Pn{ag:List Ar}(R:Rk ag){l:List Str}(h:l≠[]):(xr ag l).length<l.length:=by
 obtain⟨r,hr⟩:=R;obtain⟨x,hx,hm⟩:=E2 r l h;have hn:x∉hds ag l:=λz=>by
  obtain⟨t,h1,h2⟩:=CN.mp z;have:=hr _ h1;have:=hm t h2;simp only at *;omega
 exact List.length_filter_lt_length_iff_exists.mpr ⟨x,hx,by simpa using hn⟩
theorem G2{ae:List Str}{ag:List Ar}(R:Rk ag):∀k,(di ae ag k).length<=ae.length-k
 |0=>bU _
 |k+1=>by
  have ih:=G2 (ae:=ae) R k;by_cases h:di ae ag k=[]
  ·rw[di,h];simp[xr]
  ·have:=Pn R h;rw[di];omega
theorem U4{ae:List Str}{ag:List Ar}(R:Rk ag):jA ae ag=false:=by have:=G2 (ae:=ae) R ae.length;unfold jA;rw[sQ];omega
theorem QE{ae:List Str}{ag:List Ar}{k:Nat}{x:Str}(h:x∈di ae ag (k+1)):x∈di ae ag k:=(dS.mp h).1
theorem GO{ae:List Str}{ag:List Ar}(hin:∀p∈ag,p.1∈ae/\p.2∈ae){t h:Str}(a:(t,h)∈ag):∀k,t∈di ae ag k->h∈di ae ag k/\h∈di ae ag (k+1)
 |0,ht=>by
  have h0:h∈di ae ag 0:=(hin _ a).2;exact⟨h0,dS.mpr ⟨h0,by simpa using CN.mpr ⟨t,a,ht⟩⟩⟩
 |k+1,ht=>by
  have ih:=(GO hin a k (QE ht)).2;exact⟨ih,dS.mpr ⟨ih,by simpa using CN.mpr ⟨t,a,ht⟩⟩⟩
theorem yu{ae:List Str}{ag:List Ar}(hin:∀p∈ag,p.1∈ae/\p.2∈ae)(h:jA ae ag=false):Rk ag:=by
 have he:∀x,x∉di ae ag ae.length:=λx hx=>by
  have:=y0 hx;unfold jA at h;rw[sQ]at h;exact h this
 refine⟨λx=>(((bP ae.length).filter λk=>decide (x∈di ae ag k)).length:Nat),λp hp=>?_⟩;obtain⟨t,b⟩:=p;have key:(0::((bP ae.length).filter λk=>decide (t∈di ae ag k)).map (· + 1)).length<=((bP ae.length).filter λk=>decide (b∈di ae ag k)).length:=by
  refine jx ?_ ?_
  ·refine kg.mpr ⟨λz=>by obtain⟨y,_,e⟩:=cX.mp z;omega,?_⟩;have nd:=(y9 (n:=ae.length)).filter (p:=λk=>decide (t∈di ae ag k));refine ke.mpr (nd.imp λz e=>z (by omega))
  ·intro y hy;have hb:b∈ae:=(hin _ hp).2;have pos:=y0 hb;rcases bZ.mp hy with rfl|hy
   ·exact dS.mpr ⟨e5.mpr pos,cV (show b∈di ae ag 0 from hb)⟩
   ·obtain⟨k,hk,rfl⟩:=cX.mp hy;obtain⟨k1,k2⟩:=dS.mp hk;have k2:t∈di ae ag k:=by simpa using k2
    have k3:=(GO hin hp k k2).2;have k1:=e5.mp k1;have:k+1≠ae.length:=λe=>he b (e ▸ k3);exact dS.mpr ⟨e5.mpr (by omega),by simpa using k3⟩
 simp only[eG,aP]at key ⊢;omega
def dF(ag:List Ar)(a m b:Str):Bool:=(decide ((a,m)∈ag)&&decide ((b,m)∈ag)) && !(decide ((a,b)∈ag)||decide ((b,a)∈ag))
theorem ye(ag:List Ar)(a m b:Str):dF ag a m b=dF ag b m a:=by unfold dF;rw[Bool.and_comm (decide ((a,m)∈ag)),Bool.or_comm (decide ((a,b)∈ag))]
theorem xg{ag:List Ar}{a m b:Str}:dF ag a m b=true↔(a,m)∈ag/\(b,m)∈ag/\¬ (a,b)∈ag/\¬ (b,a)∈ag:=by unfold dF;simp[and_assoc]
def bX(ae:List Str)(ag:List Ar):List gB:=(bP ae.length).flatMap λk=>ae.flatMap λm=>((ae.drop (k+1)).filter λb=>dF ag (nth ae k) m b).map λb=>(nth ae k,m,b)
theorem mK{ae:List Str}{ag:List Ar}{a m b:Str}:(a,m,b)∈bX ae ag↔∃k,k<ae.length/\a=nth ae k/\m∈ae/\b∈ae.drop (k+1)/\dF ag a m b=true:=by
 unfold bX;simp only[pH,cX,dS,e5,rf];constructor
 ·rintro⟨k,hk,m',hm,b',⟨hb,hc⟩,rfl,rfl,rfl⟩;exact⟨k,hk,rfl,hm,hb,hc⟩
 ·rintro⟨k,hk,rfl,hm,hb,hc⟩;exact⟨k,hk,m,hm,b,⟨hb,hc⟩,rfl,rfl,rfl⟩
theorem j2{α β:Type}{f g:α->List β}:∀{l:List α},(∀x∈l,f x=g x)->l.flatMap f=l.flatMap g
 |[],_=>rfl
 |x::r,h=>by rw[n6,n6,h x cW,j2 λy hy=>h y (eL _ hy)]
theorem BU{ae:List Str}{i j:Nat}(h:i<j)(hj:j<ae.length):nth ae j∈ae.drop (i+1):=by refine Lo.mpr ⟨j-(i+1),?_⟩;rw[C8,show i+1+(j-(i+1))=j by omega];unfold nth;rw[fB,fE hj];rfl
theorem Ao{ae:List Str}(nd:ae.Nodup){k:Nat}(hk:k<ae.length){b:Str}(hb:b∈ae.drop (k+1)):b∈ae/\nth ae k≠b:=by
 obtain⟨i,hi⟩:=Lo.mp hb;rw[C8]at hi;have hl:k+1+i<ae.length:=by
  rcases Nat.lt_or_ge (k+1+i) ae.length with z|z
  ·exact z
  ·rw[List.getElem?_eq_none z]at hi;cases hi
 have e:b=nth ae (k+1+i):=by unfold nth;rw[fB,hi];rfl
 rw[e];exact⟨lH hl,λz=>by have:=qk nd hk hl z;omega⟩
theorem EB{ae:List Str}(nd:ae.Nodup){A B:List Ar}:bX ae A=bX ae B↔∀a∈ae,∀m∈ae,∀b∈ae,a≠b->dF A a m b=dF B a m b:=by
 constructor
 ·intro e;have key:∀i j m,i<j->j<ae.length->m∈ae->dF A (nth ae i) m (nth ae j)=dF B (nth ae i) m (nth ae j):=λi j m hij hj hm=>by
   have one:∀{A B:List Ar},bX ae A=bX ae B->dF A (nth ae i) m (nth ae j)=true->dF B (nth ae i) m (nth ae j)=true:=λe h=>by
    have:=mK.mpr ⟨i,by omega,rfl,hm,BU hij hj,h⟩;rw[e]at this;obtain⟨_,_,_,_,_,h⟩:=mK.mp this;exact h
   cases ha:dF A (nth ae i) m (nth ae j)with
   |true=>exact(one e ha).symm
   | false=>cases hb:dF B (nth ae i) m (nth ae j)with
    |true=>exact absurd (one e.symm hb) (by rw[ha];exact dJ)
    |false=>rfl
  intro a ha m hm b hb hne;obtain⟨i,hi,rfl⟩:=yC ha;obtain⟨j,hj,rfl⟩:=yC hb;rcases Nat.lt_trichotomy i j with z|z|z
  ·exact key i j m z hj hm
  ·exact absurd (by rw[z]) hne
  ·rw[ye,ye B];exact key j i m z hi hm
 ·intro h;unfold bX;refine j2 λk hk=>j2 λm hm=>?_;have hk:=e5.mp hk
  congr 1
  refine y7 λb hb=>?_;obtain⟨h1,h2⟩:=Ao nd hk hb;exact h _ (lH hk) m hm b h1 h2
theorem Cz{ag:List Ar}{t h:Str}:oC (cZ ag h) (cZ ag t++[t])=true↔∀x,(x,h)∈ag↔(x,t)∈ag\/x=t:=by
 unfold oC;simp only[km,y8,jm,fG,fg,mQ];constructor
 ·rintro⟨h1,h2⟩ x;exact⟨h1 x,h2 x⟩
 ·intro z;exact⟨λx=>(z x).mp,λx=>(z x).mpr⟩
theorem Rr{ae:List Str}{ag:List Ar}(nd:ae.Nodup)(hin:∀p∈ag,p.1∈ae/\p.2∈ae)(R:Rk ag){t h:Str}(ha:(t,h)∈ag) :
 oC (cZ ag h) (cZ ag t++[t])=(!jA ae (e9 (t,h) ag)&&decide (bX ae (e9 (t,h) ag)=bX ae ag)):=by
 obtain⟨r,hr⟩:=id R;have hth:t≠h:=λe=>by have:=hr _ ha;simp only[e]at this;omega
 have mf:∀p:Ar,p∈e9 (t,h) ag↔(p∈ag/\p≠(t,h))\/p=(h,t):=λp=>CS ha;have zZ:∀p∈e9 (t,h) ag,p.1∈ae/\p.2∈ae:=λp hp=>by
  rcases(mf p).mp hp with z|z
  ·exact hin p z.1
  ·rw[z];exact⟨(hin _ ha).2,(hin _ ha).1⟩
 have Mx:(h,t)∉ag:=λz=>by have:=hr _ z;have:=hr _ ha;simp only at *;omega
 have tn:=(hin _ ha).1;have hn:=(hin _ ha).2;have tie:∀a b,((a,b)∈e9 (t,h) ag\/(b,a)∈e9 (t,h) ag)↔((a,b)∈ag\/(b,a)∈ag):=λa b=>by
  rw[mf,mf];constructor
  ·rintro((⟨z,_⟩|z)|(⟨z,_⟩|z))
   ·exact .inl z
   ·cases z;exact .inr ha
   ·exact .inr z
   ·cases z;exact .inl ha
  ·rintro(z|z)
   ·by_cases e:(a,b)=(t,h)
    ·cases e;exact .inr (.inr rfl)
    ·exact .inl (.inl ⟨z,e⟩)
   ·by_cases e:(b,a)=(t,h)
    ·cases e;exact .inl (.inr rfl)
    ·exact .inr (.inl ⟨z,e⟩)
 have ud:∀A a m b,dF A a m b=true↔((a,m)∈A/\(b,m)∈A)/\¬ ((a,b)∈A\/(b,a)∈A):=λA a m b=>by
  rw[xg,not_or,and_assoc]
 apply oj.mpr;rw[Cz,km,wj,jm,EB nd];constructor
 ·intro cov;constructor
  ·refine U4 ⟨λx=>if x=h then 2*r t-1 else 2*r x,λp hp=>?_⟩;obtain⟨a,b⟩:=p;rcases(mf _).mp hp with ⟨z1,z2⟩|z
   ·have ab:=hr _ z1;simp only at ab ⊢;by_cases e1:a=h
    ·subst e1;have e2:b≠a:=λe=>by rw[e]at ab;omega
     rw[a8 rfl,a7 e2];have:=hr _ ha;simp only at this;omega
    ·rw[a7 e1];by_cases e2:b=h
     ·subst e2;rw[a8 rfl];rcases(cov a).mp z1 with y|y
      ·have:=hr _ y;simp only at this;omega
      ·subst y;exact absurd rfl z2
     ·rw[a7 e2];omega
   ·cases z;show(if h=h then 2*r t-1 else 2*r h)<(if t=h then 2*r t-1 else 2*r t);rw[a8 rfl,a7 hth];omega
  ·intro a _ m _ b _ hab;apply oj.mpr;rw[ud,ud,tie a b];constructor
   ·rintro⟨⟨z1,z2⟩,z3⟩;refine⟨?_,z3⟩;rcases(mf _).mp z1 with ⟨y1,_⟩|y
    ·rcases(mf _).mp z2 with ⟨y2,_⟩|y
     ·exact⟨y1,y2⟩
     ·cases y;exact absurd (.inl ((cov a).mpr (.inl y1))) z3
    ·cases y;rcases(mf _).mp z2 with ⟨y2,_⟩|y
     ·exact absurd (.inr ((cov b).mpr (.inl y2))) z3
     ·cases y;exact absurd rfl hab
   ·rintro⟨⟨z1,z2⟩,z3⟩;refine⟨⟨?_,?_⟩,z3⟩
    ·rw[mf];by_cases e:(a,m)=(t,h)
     ·cases e;rcases(cov b).mp z2 with y|y
      ·exact absurd (.inr y) z3
      ·exact absurd y.symm hab
     ·exact .inl ⟨z1,e⟩
    ·rw[mf];by_cases e:(b,m)=(t,h)
     ·cases e;rcases(cov a).mp z1 with y|y
      ·exact absurd (.inl y) z3
      ·exact absurd y hab
     ·exact .inl ⟨z2,e⟩
 ·rintro⟨acy,same⟩ x;obtain⟨r',hr'⟩:=yu zZ acy;constructor
  ·intro z;by_cases e:x=t
   ·exact .inr e
   ·refine .inl ?_;by_cases q:(x,t)∈ag
    ·exact q
    ·exfalso;by_cases q2:(t,x)∈ag
     ·have z1:=hr' (x,h) ((mf _).mpr (.inl ⟨z,λy=>by cases y;exact e rfl⟩));have z2:=hr' (h,t) ((mf _).mpr (.inr rfl));have hx:x≠h:=λy=>by subst y;have:=hr _ z;simp only at this;omega
      have z3:=hr' (t,x) ((mf _).mpr (.inl ⟨q2,λy=>by cases y;exact hx rfl⟩));simp only at *;omega
     ·have c1:dF ag x h t=true:=(ud _ _ _ _).mpr ⟨⟨z,ha⟩,λy=>y.elim q q2⟩;rw[<- same x (hin _ z).1 h hn t tn e]at c1;have c2:=((ud _ _ _ _).mp c1).1.2;rcases(mf _).mp c2 with ⟨_,y⟩|y
      ·exact y rfl
      ·cases y;exact hth rfl
  ·rintro(z|rfl)
   ·by_cases q:(x,h)∈ag
    ·exact q
    ·exfalso;have hx:x≠h:=λy=>by subst y;exact Mx z
     by_cases q2:(h,x)∈ag
     ·have:=hr _ z;have:=hr _ ha;have:=hr _ q2;simp only at *;omega
     ·have zt:(x,t)∈e9 (t,h) ag:=(mf _).mpr (.inl ⟨z,λy=>by cases y;exact hth rfl⟩);have c1:dF (e9 (t,h) ag) x t h=true:=(ud _ _ _ _).mpr ⟨⟨zt,(mf _).mpr (.inr rfl)⟩,λy=>((tie x h).mp y).elim q q2⟩;rw[same x (hin _ z).1 t tn h hn hx]at c1;exact Mx ((ud _ _ _ _).mp c1).1.2
   ·exact ha
end Mr
namespace Mr
open PySem Mi
theorem Ce{be:List Str}{i:Nat}(h:i<be.length):be[i]? = ac (nth be i):=by unfold nth;rw[fB,fE h];rfl
noncomputable def opn (ae:List Str) (ag:List Ar) (aB be:List Str):Bool:=(tri be).all λt=>if mt ag t=true then hb ae ag aB t.2.1 else !decide (t.2.1∈aB)
theorem IP{be:List Str}(h:1<=be.length):au (am be) (.int (-1))=.ok (.str (nth be (be.length-1))):=by unfold am;show cy (cC (be.map D.str) (-1))=_;unfold cC gU;rw[a7 (by decide),a8 (by rw[aP];omega)];rw[aP,show(-1+(be.length:Int)).toNat=be.length-1 by omega];show cy ((be.map D.str)[be.length-1]?)=_;rw[gc,Ce (by omega)];rfl
end Mr
namespace Mr
open PySem Mi
theorem NV(n:Nat):dA 1 ((n:Int)-1)=(bP (n-2)).map λ(i:Nat)=>D.int (1+(i:Int)):=by unfold dA;rw[show((n:Int)-1-1).toNat=n-2 by omega]
theorem PU{a b:E}{e:Mi.Env}{i j:Int}(ha:a e=.ok (.int i))(hb:b e=.ok (.int j))(h:okR i/\okR j):uv a b e=.ok (dA i j):=by unfold uv;rw[ha,aK,hb,aK,oN,aK,oN,aK,aG h]
end Mr
namespace Mr
open PySem Mi
theorem Ut{cs:List Str}{i:Int}(h0:0<=i)(h1:i<cs.length):au (a6 cs) (.int i)=.ok (.str (nth cs i.toNat)):=uf (cs:=cs) h0 h1
def tie(ag:List Ar)(a b:Str):Bool:=decide ((a,b)∈ag)||decide ((b,a)∈ag)
theorem CZ{ae:List Str}{ag:List Ar}(a b:Str):iK [.d (ak ae ag),.d (.str a),.d (.str b)]=.ok (.d (.bl (tie ag a b))):=by
 unfold iK Km;rw[CG];have a1:m2 bC (mN dTup [(mV 1),(mV 2)]) (m2 au (mV 0) (mC (.int 1))) [ac (.d (ak ae ag)),ac (.d (.str a)),ac (.d (.str b))]=.ok (.bl (decide ((a,b)∈ag))):=(aw (fw rfl rfl) (aw rfl rfl (jU _ _)) rfl).trans (ot ag (a,b));have a2:m2 bC (mN dTup [(mV 2),(mV 1)]) (m2 au (mV 0) (mC (.int 1))) [ac (.d (ak ae ag)),ac (.d (.str a)),ac (.d (.str b))]=.ok (.bl (decide ((b,a)∈ag))):=(aw (fw rfl rfl) (aw rfl rfl (jU _ _)) rfl).trans (ot ag (b,a));have aa:oZ (m2 bC (mN dTup [(mV 1),(mV 2)]) (m2 au (mV 0) (mC (.int 1)))) (m2 bC (mN dTup [(mV 2),(mV 1)]) (m2 au (mV 0) (mC (.int 1)))) [ac (.d (ak ae ag)),ac (.d (.str a)),ac (.d (.str b))]=.ok (.bl (tie ag a b)):=by
  unfold oZ;rw[a1,aK];show(oR (.bl _)).bind _=_;rw[rC,aK];unfold tie;by_cases h:(a,b)∈ag
  ·rw[cV h,a8 rfl,Bool.true_or]
  ·rw[d6 h,a7 dJ,a2,Bool.false_or]
 exact(congrArg (λr=>Rs.bind r nF) (dR (bu aa))).trans rfl
theorem KQ{ae:List Str}{ag:List Ar}{e:Mi.Env}(e0:mV 0 e=.ok (ak ae ag)):mN bR [(m2 au (mV 0) (mC (.int 0)))] e=.ok (.int (ae.length:Int)):=(eB (aw e0 rfl (fP _ _))).trans (by unfold a6;rw[IS,aP])
end Mr
namespace Mr
open PySem Mi
end Mr
namespace Mr
open PySem Mi
end Mr
namespace Mr
open PySem Mi
theorem ll{a b:C}{e:Mi.Env}{p q:Bool}(ha:a e=.ok p)(hb:p=true->b e=.ok q):cJ a b e=.ok (p&&q):=by
 unfold cJ;rw[ha,aK];cases p with
 |true=>rw[a8 rfl,hb rfl];rfl
 |false=>rfl
theorem lg{a b:C}{e:Mi.Env}{p q:Bool}(ha:a e=.ok p)(hb:p=false->b e=.ok q):dY a b e=.ok (p||q):=by
 unfold dY;rw[ha,aK];cases p with
 |true=>rfl
 |false=>rw[a7 dJ,hb rfl];rfl
theorem lX{a:C}{e:Mi.Env}{p:Bool}(ha:a e=.ok p):dw a e=.ok (!p):=by unfold dw;rw[ha];rfl
theorem qD{a b:E}{e:Mi.Env}{p q:Bool}(ha:a e=.ok (.bl p))(hb:p=true->b e=.ok (.bl q)):ie a b e=.ok (.bl (p&&q)):=by
 unfold ie;rw[ha,aK,rC,aK];cases p with
 |true=>rw[a8 rfl,hb rfl];rfl
 |false=>rfl
theorem Vb{a b:E}{e:Mi.Env}{p q:Bool}(ha:a e=.ok (.bl p))(hb:p=false->b e=.ok (.bl q)):oZ a b e=.ok (.bl (p||q)):=by
 unfold oZ;rw[ha,aK,rC,aK];cases p with
 |true=>rfl
 |false=>rw[a7 dJ,hb rfl];rfl
theorem yx{i:Nat}{c:C}{a:E}{e:Mi.Env}{ds:List D}{d:D}{p:Bool}(hc:c e=.ok p)(ha:p=true->a e=.ok d)(hg:getL e i=.ok ds)(hl:ds.length+(if p then[d]else[]).length<=16777216)(hs:e.set i (ac (.d (.lst ds)))=e) :
 bq c (ek i a) bw e=.ok (.nx (putL e i (ds++if p then[d]else[]))):=by
 cases p with
 |true=>rw[fk hc,vv (ha rfl) hg (by simp at hl;omega)];rfl
 |false=>
  rw[dQ hc];simp only[wg,jB,i8,putL];rw[hs];rfl
theorem KN{f:List D->Rs D}{a b c:E}{e:Mi.Env}{x y z:D}(h:a e=.ok x)(h':b e=.ok y)(h'':c e=.ok z):mN f [a,b,c] e=f [x,y,z]:=by unfold mN;rw[eX,h,aK,eX,h',aK,eX,h''];rfl
theorem pc{f:D->Option Int->Option Int->Rs D}{a b:E}{e:Mi.Env}{x:D}{i:Int}(h:a e=.ok x)(h':b e=.ok (.int i)):bV f a (ac b) af e=f x (ac i) af:=by unfold bV;rw[h,aK,show jT (ac b) e=.ok (ac i)from by rw[jT,h'];rfl];rfl
theorem sN{f:D->Option Int->Option Int->Rs D}{a b:E}{e:Mi.Env}{x:D}{i:Int}(h:a e=.ok x)(h':b e=.ok (.int i)):bV f a af (ac b) e=f x af (ac i):=by unfold bV;rw[h,aK,show jT (ac b) e=.ok (ac i)from by rw[jT,h'];rfl];rfl
theorem jN{α:Type}{tg:Tg}{body:S}(f:α->D)(g:α->List D)(St:List D->Mi.Env->Prop):∀(xs:List α) (acc:List D) (e:Mi.Env),acc.length+(xs.flatMap g).length<=16777216->St acc e ->
 (∀x∈xs,∀acc e,acc.length+(g x).length<=16777216->St acc e->∃e1 e2,tg.put (f x) e=.ok e1/\body e1=.ok (.nx e2)/\St (acc++g x) e2) ->
 ∃e',gL tg body (xs.map f) e=.ok (.nx e')/\St (acc++xs.flatMap g) e'
 |[],acc,e,_,h,_=>⟨e,rfl,by simpa using h⟩
 |x::r,acc,e,hl,h,hs=>by
  rw[n6,dz]at hl;obtain⟨e1,e2,h1,h2,h3⟩:=hs x cW acc e (by omega) h;obtain⟨e',h4,h5⟩:=jN f g St r (acc++g x) e2 (by rw[dz];omega) h3 λy hy=>hs y (eL _ hy);refine⟨e',?_,by rw[n6,<- tD];exact h5⟩;rw[cM,gL,h1,aK,h2,aK];exact h4
theorem rY{α β:Type}(p:α->Bool)(f:α->β):∀l:List α,(l.flatMap λx=>if p x then[f x]else[])=(l.filter p).map f
 |[]=>rfl
 |x::r=>by
  rw[n6,rY p f r];cases h:p x with
  |true=>rw[Lj h];rfl
  |false=>rw[Ll (by rw[h];exact dJ)];rfl
theorem mq{α β γ : Type}(f:β->γ)(g:α->List β):∀l:List α,(l.flatMap g).map f=l.flatMap λx=>(g x).map f
 |[]=>rfl
 |x::r=>by rw[n6,iM,mq f g r,n6]
theorem rG{α β:Type}{g:α->List β}{m:Nat}:∀{l:List α},(∀x∈l,(g x).length<=m)->(l.flatMap g).length<=l.length*m
 |[],_=>by simp
 |x::r,h=>by
  have ih:=rG (l:=r) λy hy=>h y (eL _ hy);have h1:=h x cW;rw[n6,dz,eG,Nat.add_mul];omega
theorem K3(p q:Ar):bM (pairD p) (pairD q)=decide (p=q):=by obtain⟨a,b⟩:=p;obtain⟨c,d⟩:=q;unfold pairD;rw[bM,eD,eD,eD,la,la];by_cases h:a=c<;>by_cases k:b=d<;>simp[h,k]
theorem RV(p q:Ar):bK (pairD p) (pairD q)=.ok (.bl (decide (p=q))):=by unfold bK;rw[aG (by simp[pairD]),K3]
def aJ(ag:List Ar):D:=.lst (ag.map pairD)
theorem HI(ag:List Ar)(p:Ar):bC (pairD p) (aJ ag)=.ok (.bl (decide (p∈ag))):=by show bp _ _=_;rw[aG (c7 (vD ag) (by decide)),A3]
theorem Bn(ag:List Ar)(p:Ar):cQ (pairD p) (aJ ag)=.ok (.bl (!decide (p∈ag))):=by show bp _ _=_;rw[aG (c7 (vD ag) (by decide)),A3]
theorem SD(x y:D)(k:Bool):au (.lst [x,y]) (.int (if k then 1 else 0))=.ok (if k then y else x):=by
 cases k
 ·show cy (cC [x,y] 0)=_;rw[at0];rfl
 ·show cy (cC [x,y] 1)=_;rw[at1];rfl
theorem Jz{ag:List Ar}{a:Ar}(hl:ag.length<=100):oS [.d (aJ ag),.d (pairD a)]=.ok (.d (aJ (e9 a ag))):=by
 unfold oS HV;rw[oX];have hc:dE (.n 1) eK (m2 au (mN b9 [(mV 1),(mN dTup [(m2 au (mV 1) (mC (.int 1))),(m2 au (mV 1) (mC (.int 0)))])]) (mN qI [(m2 bK (mV 1) (mV 0))])) [ac (.d (pairD a)),af] (ag.map pairD)=.ok ((ag.filter λ_=>true).map λp=>pairD (if p=a then(p.2,p.1)else p)):=
  gr pairD (λp=>pairD (if p=a then(p.2,p.1)else p)) (λ_=>true) ag λp _=>⟨[ac (.d (pairD a)),ac (.d (pairD p))],rfl,rfl,λ_=>by
   have i0:au (pairD p) (.int 0)=.ok (.str p.1):=by unfold pairD au;simp only[at0];rfl
   have i1:au (pairD p) (.int 1)=.ok (.str p.2):=by unfold pairD au;simp only[at1];rfl
   refine(aw ((nP rfl (fw (aw rfl rfl i1) (aw rfl rfl i0))).trans (aG (by simp))) ((eB (aw rfl rfl (RV p a))).trans rfl) (SD _ _ (decide (p=a)))).trans ?_;by_cases h:p=a<;>simp[h,pairD]⟩
 have hm:=fb (ρ:=[ac 1,af]) (e:=[ac (.d (aJ ag)),ac (.d (pairD a))]) (et (a:=mV 0) (x:=aJ ag) rfl rfl) (by rw[aP];omega) hc;rw[show([ac (W.d (aJ ag)),ac (W.d (pairD a))]++cu (2-2) af)=[ac (W.d (aJ ag)),ac (W.d (pairD a))]from rfl];rw[dR (bu hm)];show Rs.ok (W.d (.lst _))=_;unfold aJ e9;rw[qR.mpr (λ_ _=>rfl),eS];rfl
theorem KR{ae:List Str}{ag:List Ar}(hn:ae.length<=8)(hl:ag.length<=100):pw [.d (a6 ae),.d (aJ ag)]=.ok (.d (.bl (jA ae ag))):=by
 unfold pw GH;rw[gq];have lle:∀k,(di ae ag k).length<=8:=λk=>by
  induction k with
  |zero=>exact hn
  |succ k ih=>exact c7 (ju _ _) ih
 obtain⟨e',f1,o3,o4,he⟩:=iT (tg:=.n 3) (body:=(aE (bf 4 (cq [ac 2,af,af] (bA (mV 1)) (.t [1,2]) (cB (m2 bC (mV 1) (mV 0))) (mV 2)))
 (bf 2 (cq [ac 4,af] (bA (mV 2)) (.n 1) (cB (m2 bC (mV 1) (mV 0))) (mV 1)))))
  (λi e=>∃o3 o4:Option W,e=[ac (.d (a6 ae)),ac (.d (aJ ag)),ac (.d (am (di ae ag i))),o3,o4]) (dA 0 (ae.length:Int)) 0 (λi x e hx ⟨o3,o4,he⟩=>by
   subst he;rw[fJ];have h1:dE (.t [1,2]) (cB (m2 bC (mV 1) (mV 0))) (mV 2) [ac (.d (am (di ae ag i))),af,af] (ag.map pairD)=.ok ((ag.filter λp=>decide (p.1∈di ae ag i)).map λp=>D.str p.2):=
    gr pairD (λp=>D.str p.2) (λp=>decide (p.1∈di ae ag i)) ag λp _=>⟨[ac (.d (am (di ae ag i))),ac (.d (.str p.1)),ac (.d (.str p.2))],rfl,bB (aw rfl rfl (pT _ _)),λ_=>rfl⟩
   have h2:dE (.n 1) (cB (m2 bC (mV 1) (mV 0))) (mV 1) [ac (.d (am (hds ag (di ae ag i)))),af] ((di ae ag i).map D.str)=.ok ((xr ag (di ae ag i)).map D.str):=gr D.str D.str (λx=>decide (x∈hds ag (di ae ag i))) (di ae ag i) λy _=>⟨[ac (.d (am (hds ag (di ae ag i)))),ac (.d (.str y))],rfl,bB (aw rfl rfl (pT _ _)),λ_=>rfl⟩
   refine⟨[ac (.d (a6 ae)),ac (.d (aJ ag)),ac (.d (am (di ae ag i))),ac (.d x),o4],[ac (.d (a6 ae)),ac (.d (aJ ag)),ac (.d (am (di ae ag (i+1)))),ac (.d x),ac (.d (am (hds ag (di ae ag i))))],rfl,?_,_,_,rfl⟩;have s1:bf 4 (cq [ac 2,af,af] (bA (mV 1)) (.t [1,2]) (cB (m2 bC (mV 1) (mV 0))) (mV 2)) [ac (.d (a6 ae)),ac (.d (aJ ag)),ac (.d (am (di ae ag i))),ac (.d x),o4]=.ok (.nx [ac (.d (a6 ae)),ac (.d (aJ ag)),ac (.d (am (di ae ag i))),ac (.d x),ac (.d (am (hds ag (di ae ag i))))]):=by rw[bD (fb (et (x:=aJ ag) rfl rfl) (by rw[aP];omega) h1)];unfold am hds;rw[eS];rfl
   rw[aM s1];rw[bD (fb (et (x:=am (di ae ag i)) rfl rfl) (by rw[aP];have:=lle i;omega) h2)];rfl) [ac (.d (a6 ae)),ac (.d (aJ ag)),ac (.d (am ae)),af,af] ⟨af,af,rfl⟩
 subst he;rw[aM (e':=[ac (.d (a6 ae)),ac (.d (aJ ag)),ac (.d (am ae)),af,af]) (bD ((eB (x:=a6 ae) rfl).trans rfl))];have hit:fo (mN bR [(mV 0)]) [ac (.d (a6 ae)),ac (.d (aJ ag)),ac (.d (am ae)),af,af]=.ok (dA 0 (ae.length:Int)):=
  iL ((eB (x:=a6 ae) rfl).trans (by unfold a6;rw[IS,aP])) (nI (by omega) (by omega))
 rw[aM ((eR hit).trans f1)];rw[lz,fJ];have hret:m2 gV (mN bR [(mV 2)]) (mC (.int 0)) [ac (.d (a6 ae)),ac (.d (aJ ag)),ac (.d (am (di ae ag ae.length))),o3,o4]=.ok (.bl (jA ae ag)):=by refine(aw ((eB (x:=am (di ae ag ae.length)) rfl).trans rfl) rfl rfl).trans ?_;show Rs.ok (D.bl (decide ((0:Int)<(((di ae ag ae.length).map D.str).length:Nat))))=_;unfold jA;rw[aP];exact congrArg (λb=>Rs.ok (D.bl b)) (AK.mpr (by omega))
 rw[dR (bu hret)];rfl
theorem Hr(ae:List Str):mI 0 (ae.map D.str)=(bP ae.length).map λk=>D.tup [.int (k:Nat),.str (nth ae k)]:=by
 have key:∀(ns:List Str) (j:Nat),mI j (ns.map D.str)=(bP ns.length).map λk=>D.tup [.int ((j+k:Nat):Int),.str (nth ns k)]:=λns=>by
  induction ns with
  |nil=>exactλ_=>rfl
  |cons x r ih=>
   intro j;rw[cM,mI,ih,eG,Lm,cM,eS]
   congr 1
   refine v3 λk _=>?_;show D.tup [.int ((j+1+k:Nat):Int),_]=D.tup [.int ((j+(k+1):Nat):Int),_];rw[show j+1+k=j+(k+1)by omega];rfl
 rw[key ae 0];refine v3 λk _=>?_;rw[fJ]
theorem E4{ae:List Str}(hn:ae.length<=8)(ag:List Ar):(bX ae ag).length<=512:=by unfold bX;refine c7 (rG (m:=64) λk _=>?_) (by rw[v5];omega);refine c7 (rG (m:=8) λm _=>?_) (by omega);rw[aP];refine c7 (ju _ _) ?_;rw[iy];omega
theorem FI{ae:List Str}{ag:List Ar}(hn:ae.length<=8):oF [.d (ak ae ag)]=.ok (.d (.lst ((bX ae ag).map cF))):=by
 unfold oF J8;rw[uq];have ecr:(bX ae ag).map cF=(bP ae.length).flatMap λk=>ae.flatMap λm=>(ae.drop (k+1)).flatMap λb=>if dF ag (nth ae k) m b then[cF (nth ae k,m,b)]else[]:=by unfold bX;rw[mq];refine j2 λk _=>?_;rw[mq];refine j2 λm _=>?_;rw[eS,rY (λb=>dF ag (nth ae k) m b) (λb=>cF (nth ae k,m,b))];rfl
 have oq:((bX ae ag).map cF).length<=512:=by rw[aP];exact E4 hn ag
 rw[ecr]at oq ⊢;obtain⟨e',f1,o2,o3,o4,o5,o6,he⟩:=jN (tg:=.t [2,3]) (body:=(cU (bA (m2 au (mV 0) (mC (.int 0)))) (.n 4)
 (cU (bA (bV lA (m2 au (mV 0) (mC (.int 0))) (ac (m2 bc (mV 2) (mC (.int 1)))) af)) (.n 5)
 (aE (bf 6 (ie (m2 bC (mN dTup [(mV 3),(mV 4)]) (m2 au (mV 0) (mC (.int 1)))) (m2 bC (mN dTup [(mV 5),(mV 4)]) (m2 au (mV 0) (mC (.int 1))))))
 (bq (cJ (iY (mV 6)) (dw (cB (aN iK [(wD (mV 0)),(wD (mV 3)),(wD (mV 5))]))))
 (ek 1 (mN dTup [(mV 3),(mV 4),(mV 5)]))
 bw)))))
  (λk:Nat=>D.tup [.int (k:Nat),.str (nth ae k)]) (λk=>ae.flatMap λm=>(ae.drop (k+1)).flatMap λb=>if dF ag (nth ae k) m b then[cF (nth ae k,m,b)]else[])
  (λacc e=>∃o2 o3 o4 o5 o6:Option W,e=[ac (.d (ak ae ag)),ac (.d (.lst acc)),o2,o3,o4,o5,o6]) (bP ae.length) [] [ac (.d (ak ae ag)),ac (.d (.lst [])),af,af,af,af,af] (by simp only[iz];omega) ⟨af,af,af,af,af,rfl⟩
  (λk hk acc e hl ⟨o2,o3,o4,o5,o6,he⟩=>by
   subst he;have hk:=e5.mp hk;obtain⟨e',g1,o4',o5',o6',he'⟩:=jN (tg:=.n 4) (body:=(cU (bA (bV lA (m2 au (mV 0) (mC (.int 0))) (ac (m2 bc (mV 2) (mC (.int 1)))) af)) (.n 5)
 (aE (bf 6 (ie (m2 bC (mN dTup [(mV 3),(mV 4)]) (m2 au (mV 0) (mC (.int 1)))) (m2 bC (mN dTup [(mV 5),(mV 4)]) (m2 au (mV 0) (mC (.int 1))))))
 (bq (cJ (iY (mV 6)) (dw (cB (aN iK [(wD (mV 0)),(wD (mV 3)),(wD (mV 5))]))))
 (ek 1 (mN dTup [(mV 3),(mV 4),(mV 5)]))
 bw))))
    D.str (λm=>(ae.drop (k+1)).flatMap λb=>if dF ag (nth ae k) m b then[cF (nth ae k,m,b)]else[])
    (λacc e=>∃o4 o5 o6:Option W,e=[ac (.d (ak ae ag)),ac (.d (.lst acc)),ac (.d (.int (k:Nat))),ac (.d (.str (nth ae k))),o4,o5,o6]) ae acc [ac (.d (ak ae ag)),ac (.d (.lst acc)),ac (.d (.int (k:Nat))),ac (.d (.str (nth ae k))),o4,o5,o6] hl ⟨_,_,_,rfl⟩
    (λm hm acc e hl ⟨o4,o5,o6,he⟩=>by
     subst he;obtain⟨e',g1,o5',o6',he'⟩:=jN (tg:=.n 5) (body:=(aE (bf 6 (ie (m2 bC (mN dTup [(mV 3),(mV 4)]) (m2 au (mV 0) (mC (.int 1)))) (m2 bC (mN dTup [(mV 5),(mV 4)]) (m2 au (mV 0) (mC (.int 1))))))
 (bq (cJ (iY (mV 6)) (dw (cB (aN iK [(wD (mV 0)),(wD (mV 3)),(wD (mV 5))]))))
 (ek 1 (mN dTup [(mV 3),(mV 4),(mV 5)]))
 bw)))
      D.str (λb=>if dF ag (nth ae k) m b then[cF (nth ae k,m,b)]else[])
      (λacc e=>∃o5 o6:Option W,e=[ac (.d (ak ae ag)),ac (.d (.lst acc)),ac (.d (.int (k:Nat))),ac (.d (.str (nth ae k))),ac (.d (.str m)),o5,o6]) (ae.drop (k+1)) acc [ac (.d (ak ae ag)),ac (.d (.lst acc)),ac (.d (.int (k:Nat))),ac (.d (.str (nth ae k))),ac (.d (.str m)),o5,o6] hl ⟨_,_,rfl⟩
      (λb hb acc e hl ⟨o5,o6,he⟩=>by
       subst he;obtain⟨q,hq⟩ : ∃q,q=(decide ((nth ae k,m)∈ag)&&decide ((b,m)∈ag)):=⟨_,rfl⟩;refine⟨[ac (.d (ak ae ag)),ac (.d (.lst acc)),ac (.d (.int (k:Nat))),ac (.d (.str (nth ae k))),ac (.d (.str m)),ac (.d (.str b)),o6],putL [ac (.d (ak ae ag)),ac (.d (.lst acc)),ac (.d (.int (k:Nat))),ac (.d (.str (nth ae k))),ac (.d (.str m)),ac (.d (.str b)),ac (.d (.bl q))] 1 (acc++if dF ag (nth ae k) m b then[cF (nth ae k,m,b)]else[]),rfl,?_,_,_,rfl⟩;have s1:bf 6 (ie (m2 bC (mN dTup [(mV 3),(mV 4)]) (m2 au (mV 0) (mC (.int 1)))) (m2 bC (mN dTup [(mV 5),(mV 4)]) (m2 au (mV 0) (mC (.int 1))))) [ac (.d (ak ae ag)),ac (.d (.lst acc)),ac (.d (.int (k:Nat))),ac (.d (.str (nth ae k))),ac (.d (.str m)),ac (.d (.str b)),o6]=.ok (.nx [ac (.d (ak ae ag)),ac (.d (.lst acc)),ac (.d (.int (k:Nat))),ac (.d (.str (nth ae k))),ac (.d (.str m)),ac (.d (.str b)),ac (.d (.bl q))]):=by rw[hq];exact bD (qD (aw (fw rfl rfl) (aw rfl rfl (jU ae ag)) (ot ag (nth ae k,m))) λ_=>aw (fw rfl rfl) (aw rfl rfl (jU ae ag)) (ot ag (b,m)))
       rw[aM s1];have ct:cJ (iY (mV 6)) (dw (cB (aN iK [(wD (mV 0)),(wD (mV 3)),(wD (mV 5))]))) [ac (.d (ak ae ag)),ac (.d (.lst acc)),ac (.d (.int (k:Nat))),ac (.d (.str (nth ae k))),ac (.d (.str m)),ac (.d (.str b)),ac (.d (.bl q))]=.ok (dF ag (nth ae k) m b):=by unfold dF;rw[<- hq];exact ll rfl λ_=>lX (bB (oY rfl rfl rfl (CZ (nth ae k) b)))
       exact yx ct (λ_=>(KN rfl rfl rfl).trans (aG (by simp))) rfl hl rfl)
     subst he';refine⟨[ac (.d (ak ae ag)),ac (.d (.lst acc)),ac (.d (.int (k:Nat))),ac (.d (.str (nth ae k))),ac (.d (.str m)),o5,o6],_,rfl,(eR ?_).trans g1,_,_,_,rfl⟩;have sl:bV lA (m2 au (mV 0) (mC (.int 0))) (ac (m2 bc (mV 2) (mC (.int 1)))) af [ac (.d (ak ae ag)),ac (.d (.lst acc)),ac (.d (.int (k:Nat))),ac (.d (.str (nth ae k))),ac (.d (.str m)),o5,o6]=.ok (.tup ((ae.map D.str).drop (k+1))):=by rw[pc (aw (a:=mV 0) (b:=mC (.int 0)) rfl rfl (fP ae ag)) (aw (a:=mV 2) (b:=mC (.int 1)) (x:=.int (k:Nat)) (y:=.int 1) rfl rfl rfl)];show bp _ _=_;rw[aG (by rw[aP];omega),show((k:Nat):Int)+1=((k+1:Nat):Int)by omega,iP]
     rw[et sl rfl,qU])
   subst he';exact⟨[ac (.d (ak ae ag)),ac (.d (.lst acc)),ac (.d (.int (k:Nat))),ac (.d (.str (nth ae k))),o4,o5,o6],_,rfl,(eR (et (aw rfl rfl (fP ae ag)) rfl)).trans g1,_,_,_,_,_,rfl⟩)
 subst he;rw[aM (e':=[ac (.d (ak ae ag)),ac (.d (.lst [])),af,af,af,af,af]) (bD (kF _))];have hit:rj (m2 au (mV 0) (mC (.int 0))) [ac (.d (ak ae ag)),ac (.d (.lst [])),af,af,af,af,af]=.ok ((bP ae.length).map λk=>D.tup [.int (k:Nat),.str (nth ae k)]):=by rw[<- Hr];unfold rj;rw[aw (a:=mV 0) (b:=mC (.int 0)) rfl rfl (fP ae ag)];rfl
 rw[aM ((eR hit).trans f1)];rfl
end Mr
namespace Mr
open PySem Mi
structure Nt(ae:List Str)(ag:List Ar):Prop where
 nd:ae.Nodup
 le:ae.length<=8
 al:ag.length<=64
 inn:∀p∈ag,p.1∈ae/\p.2∈ae
 rk:Rk ag
def cov(ag:List Ar)(p:Ar):Bool:=oC (cZ ag p.2) (cZ ag p.1++[p.1])
theorem J7(a:Ar)(ag:List Ar):(e9 a ag).length=ag.length:=by unfold e9;rw[aP]
theorem R9(p q:gB):bM (cF p) (cF q)=decide (p=q):=by obtain⟨a,b,c⟩:=p;obtain⟨a',b',c'⟩:=q;unfold cF;rw[bM,eD,eD,eD,eD,la,la,la];by_cases h:a=a'<;>by_cases k:b=b'<;>by_cases l:c=c'<;>simp[h,k,l]
theorem B4:∀xs ys:List gB,eD (xs.map cF) (ys.map cF)=decide (xs=ys)
 |[],[]=>rfl
 |[],y::r=>by simp[eD]
 |x::r,[]=>by simp[eD]
 |x::r,y::t=>by
  rw[cM,cM,eD,R9,B4 r t];by_cases h:x=y<;>by_cases k:r=t<;>simp[h,k]
theorem Aa:∀xs:List gB,eJ (xs.map cF)<=1
 |[]=>by simp
 |x::r=>by
  have:=Aa r;rw[cM,CC];have h1:(cF x).dep=1:=by simp[cF]
  rw[h1];omega
theorem Fx(xs ys:List gB):bK (.lst (xs.map cF)) (.lst (ys.map cF))=.ok (.bl (decide (xs=ys))):=by unfold bK;rw[aG (by rw[KZ];have:=Aa xs;omega),bM,B4]
end Mr
namespace Mr
open PySem Mi
def d8(ae:List Str)(ag:List Ar):List Ar:=ae.flatMap λt=>(ae.filter λh=>decide ((t,h)∈ag)).map λh=>(t,h)
theorem uU{ae:List Str}{ag:List Ar}{p:Ar}:p∈d8 ae ag↔p∈ag/\p.1∈ae/\p.2∈ae:=by
 obtain⟨a,b⟩:=p;unfold d8;simp only[pH,cX,dS,jm,rf];constructor
 ·rintro⟨t,ht,h,⟨h1,h2⟩,rfl,rfl⟩;exact⟨h2,ht,h1⟩
 ·rintro⟨h1,h2,h3⟩;exact⟨a,h2,b,⟨h3,h1⟩,rfl,rfl⟩
theorem CJ{ae:List Str}(hn:ae.length<=8)(ag:List Ar):(d8 ae ag).length<=64:=by unfold d8;refine c7 (rG (m:=8) λt _=>?_) (by omega);rw[aP];exact c7 (ju _ _) hn
theorem U6{ae:List Str}{ag:List Ar}(hn:ae.length<=8):kY [.d (a6 ae),.d (aJ ag)]=.ok (.d (ak ae (d8 ae ag))):=by
 unfold kY Aj;rw[gq];have ecr:(d8 ae ag).map pairD=ae.flatMap λt=>ae.flatMap λh=>if decide ((t,h)∈ag)then[pairD (t,h)]else[]:=by unfold d8;rw[mq];refine j2 λt _=>?_;rw[eS,rY (λh=>decide ((t,h)∈ag)) (λh=>pairD (t,h))];rfl
 have oq:((d8 ae ag).map pairD).length<=64:=by rw[aP];exact CJ hn ag
 rw[ecr]at oq;obtain⟨e',f1,o3,o4,he⟩:=jN (tg:=.n 3) (body:=(cU (bA (mV 0)) (.n 4)
 (bq (cB (m2 bC (mN dTup [(mV 3),(mV 4)]) (mV 1)))
 (ek 2 (mN dTup [(mV 3),(mV 4)]))
 bw)))
  D.str (λt=>ae.flatMap λh=>if decide ((t,h)∈ag)then[pairD (t,h)]else[])
  (λacc e=>∃o3 o4:Option W,e=[ac (.d (a6 ae)),ac (.d (aJ ag)),ac (.d (.lst acc)),o3,o4]) ae [] [ac (.d (a6 ae)),ac (.d (aJ ag)),ac (.d (.lst [])),af,af] (by simp only[iz];omega) ⟨af,af,rfl⟩
  (λt ht acc e hl ⟨o3,o4,he⟩=>by
   subst he;obtain⟨e',g1,o4',he'⟩:=jN (tg:=.n 4) (body:=(bq (cB (m2 bC (mN dTup [(mV 3),(mV 4)]) (mV 1)))
 (ek 2 (mN dTup [(mV 3),(mV 4)]))
 bw))
    D.str (λh=>if decide ((t,h)∈ag)then[pairD (t,h)]else[])
    (λacc e=>∃o4:Option W,e=[ac (.d (a6 ae)),ac (.d (aJ ag)),ac (.d (.lst acc)),ac (.d (.str t)),o4]) ae acc [ac (.d (a6 ae)),ac (.d (aJ ag)),ac (.d (.lst acc)),ac (.d (.str t)),o4] hl ⟨_,rfl⟩
    (λh hh acc e hl ⟨o4,he⟩=>by
     subst he;exact⟨[ac (.d (a6 ae)),ac (.d (aJ ag)),ac (.d (.lst acc)),ac (.d (.str t)),ac (.d (.str h))],putL [ac (.d (a6 ae)),ac (.d (aJ ag)),ac (.d (.lst acc)),ac (.d (.str t)),ac (.d (.str h))] 2 (acc++if decide ((t,h)∈ag)then[pairD (t,h)]else[]),rfl,yx (bB (aw (fw rfl rfl) rfl (HI ag (t,h)))) (λ_=>fw rfl rfl) rfl hl rfl,_,rfl⟩)
   subst he';exact⟨[ac (.d (a6 ae)),ac (.d (aJ ag)),ac (.d (.lst acc)),ac (.d (.str t)),o4],_,rfl,(eR (et (x:=a6 ae) rfl rfl)).trans g1,_,_,rfl⟩)
 subst he;rw[aM (e':=[ac (.d (a6 ae)),ac (.d (aJ ag)),ac (.d (.lst [])),af,af]) (bD (kF _))];rw[aM ((eR (et (x:=a6 ae) rfl rfl)).trans f1)];rw[dR (bu (fw ((eB (x:=a6 ae) rfl).trans rfl) ((eB rfl).trans rfl)))];rw[ki,<- ecr];rfl
theorem Rk.sub{A B:List Ar}(R:Rk A)(h:∀p∈B,p∈A):Rk B:=let ⟨r,k⟩:=R;⟨r,λp hp=>k p (h p hp)⟩
def frees(ae:List Str)(ag:List Ar):List Ar:=ae.flatMap λa=>(ae.filter λb=>!decide (a=b)&&(!decide ((a,b)∈ag) && !decide ((b,a)∈ag))).map λb=>(a,b)
theorem KJ{xs:List Ar}{i:Int}(h0:0<=i)(h1:i<xs.length):∃p,p∈xs/\au (aJ xs) (.int i)=.ok (pairD p):=by
 have hk:i.toNat<xs.length:=by omega
 refine⟨xs[i.toNat],n9 hk,?_⟩;show cy (cC (xs.map pairD) i)=_;unfold cC gU;rw[a8 h0,aP,a8 h1];show cy ((xs.map pairD)[i.toNat]?)=_;rw[gc,fE hk];rfl
theorem Jv{xs:List Ar}{lo hi:Option Int}:∃ys:List Ar,eP (xs.map pairD) lo hi=ys.map pairD/\(∀p∈ys,p∈xs)/\ys.length<=xs.length:=by
 refine⟨eP xs lo hi,?_,λp hp=>?_,?_⟩
 ·unfold eP;simp only[aP,qU,v6]
 ·unfold eP at hp;exact tq (C4 hp)
 ·unfold eP;rw[i7,iy];omega
theorem R3{ae:List Str}{ag:List Ar}(N:Nt ae ag)(c:Int):∃B:List Ar,ri [.d (a6 ae),.d (aJ ag),.d (.int c)]=.ok (.d (aJ B))/\Rk B/\(∀p∈B,p.1∈ae/\p.2∈ae):=by
 have hal:=N.al;have hle:=N.le;unfold ri Ka;rw[CG];have hlen:mN bR [(mV 1)] [ac (.d (a6 ae)),ac (.d (aJ ag)),ac (.d (.int c)),af,af,af,af,af]=.ok (.int (ag.length:Int)):=(eB (x:=aJ ag) rfl).trans (by unfold aJ;rw[nA,aP]);have ct:dY (cB (m2 bK (m2 bG (mV 2) (mC (.int 3))) (mC (.int 0)))) (cB (m2 bK (mN bR [(mV 1)]) (mC (.int 0)))) [ac (.d (a6 ae)),ac (.d (aJ ag)),ac (.d (.int c)),af,af,af,af,af]=.ok (decide (c%3=0)||decide ((ag.length:Int)=0)):=lg (bB (aw (aw rfl rfl (aG (by decide))) rfl (lJ _ _))) λ_=>bB (aw hlen rfl (lJ _ _))
 by_cases hc:(decide (c%3=0)||decide ((ag.length:Int)=0))=true
 ·rw[hc]at ct;have ecr:(frees ae ag).map pairD=ae.flatMap λa=>ae.flatMap λb=>if(!decide (a=b)&&(!decide ((a,b)∈ag) && !decide ((b,a)∈ag)))then[pairD (a,b)]else[]:=by
   unfold frees;rw[mq];refine j2 λt _=>?_;rw[eS,rY (λb=>!decide (t=b)&&(!decide ((t,b)∈ag) && !decide ((b,t)∈ag))) (λb=>pairD (t,b))];rfl
  have Mz:(frees ae ag).length<=64:=by unfold frees;refine c7 (rG (m:=8) λt _=>?_) (by omega);rw[aP];exact c7 (ju _ _) hle
  have oq:((frees ae ag).map pairD).length<=64:=by rw[aP];exact Mz
  have fin:∀p∈frees ae ag,p.1∈ae/\p.2∈ae:=λp hp=>by
   unfold frees at hp;obtain⟨a,ha,hp⟩:=pH.mp hp;obtain⟨b,hb,rfl⟩:=cX.mp hp;exact⟨ha,(dS.mp hb).1⟩
  rw[ecr]at oq;obtain⟨e',f1,o4,o5,he⟩:=jN (tg:=.n 4) (body:=(cU (bA (mV 0)) (.n 5)
 (bq (cJ (cB (m2 gp (mV 4) (mV 5))) (cJ (cB (m2 cQ (mN dTup [(mV 4),(mV 5)]) (mV 1))) (cB (m2 cQ (mN dTup [(mV 5),(mV 4)]) (mV 1)))))
 (ek 3 (mN dTup [(mV 4),(mV 5)]))
 bw)))
   D.str (λa=>ae.flatMap λb=>if(!decide (a=b)&&(!decide ((a,b)∈ag) && !decide ((b,a)∈ag)))then[pairD (a,b)]else[])
   (λacc e=>∃o4 o5:Option W,e=[ac (.d (a6 ae)),ac (.d (aJ ag)),ac (.d (.int c)),ac (.d (.lst acc)),o4,o5,af,af]) ae [] [ac (.d (a6 ae)),ac (.d (aJ ag)),ac (.d (.int c)),ac (.d (.lst [])),af,af,af,af] (by simp only[iz];omega) ⟨af,af,rfl⟩
   (λa ha acc e hl ⟨o4,o5,he⟩=>by
    subst he;obtain⟨e',g1,o5',he'⟩:=jN (tg:=.n 5) (body:=(bq (cJ (cB (m2 gp (mV 4) (mV 5))) (cJ (cB (m2 cQ (mN dTup [(mV 4),(mV 5)]) (mV 1))) (cB (m2 cQ (mN dTup [(mV 5),(mV 4)]) (mV 1)))))
 (ek 3 (mN dTup [(mV 4),(mV 5)]))
 bw))
     D.str (λb=>if(!decide (a=b)&&(!decide ((a,b)∈ag) && !decide ((b,a)∈ag)))then[pairD (a,b)]else[])
     (λacc e=>∃o5:Option W,e=[ac (.d (a6 ae)),ac (.d (aJ ag)),ac (.d (.int c)),ac (.d (.lst acc)),ac (.d (.str a)),o5,af,af]) ae acc [ac (.d (a6 ae)),ac (.d (aJ ag)),ac (.d (.int c)),ac (.d (.lst acc)),ac (.d (.str a)),o5,af,af] hl ⟨_,rfl⟩
     (λb hb acc e hl ⟨o5,he⟩=>by
      subst he;exact⟨[ac (.d (a6 ae)),ac (.d (aJ ag)),ac (.d (.int c)),ac (.d (.lst acc)),ac (.d (.str a)),ac (.d (.str b)),af,af],putL [ac (.d (a6 ae)),ac (.d (aJ ag)),ac (.d (.int c)),ac (.d (.lst acc)),ac (.d (.str a)),ac (.d (.str b)),af,af] 3 (acc++if(!decide (a=b)&&(!decide ((a,b)∈ag) && !decide ((b,a)∈ag)))then[pairD (a,b)]else[]),rfl,
       yx (ll (bB (aw rfl rfl (CU a b))) λ_=>ll (bB (aw (fw rfl rfl) rfl (Bn ag (a,b)))) λ_=>bB (aw (fw rfl rfl) rfl (Bn ag (b,a)))) (λ_=>fw rfl rfl) rfl hl rfl,_,rfl⟩)
    subst he';exact⟨[ac (.d (a6 ae)),ac (.d (aJ ag)),ac (.d (.int c)),ac (.d (.lst acc)),ac (.d (.str a)),o5,af,af],_,rfl,(eR (et (x:=a6 ae) rfl rfl)).trans g1,_,_,rfl⟩)
  subst he;rw[ki,<- ecr]at f1;obtain⟨good,hgood⟩ : ∃good,good=(frees ae ag).filter λp=>!jA ae (ag++[p]):=⟨_,rfl⟩;have Wv:good.length<=64:=by rw[hgood];exact c7 (ju _ _) Mz
  have V7:dE (.n 2) (dw (cB (aN pw [(wD (mV 0)),(wD (m2 bc (mV 1) (mN b9 [(mV 2)])))]))) (mV 2) [ac (.d (a6 ae)),ac (.d (aJ ag)),af] ((frees ae ag).map pairD)=.ok (good.map pairD):=by
   rw[hgood];exact gr pairD pairD (λp=>!jA ae (ag++[p])) (frees ae ag) λp _=>⟨[ac (.d (a6 ae)),ac (.d (aJ ag)),ac (.d (pairD p))],rfl,by
    have ha:m2 bc (mV 1) (mN b9 [(mV 2)]) [ac (.d (a6 ae)),ac (.d (aJ ag)),ac (.d (pairD p))]=.ok (aJ (ag++[p])):=by refine(aw rfl (nz rfl) (aG (by rw[aP];simp;omega))).trans ?_;unfold aJ;rw[iM];rfl
    exact lX (bB (call2 rfl (bu ha) (KR hle (by rw[dz];simp;omega)))),λ_=>rfl⟩
  rw[kW (s:=bq _ _ _) (w:=.d (aJ (if 0<good.length then ag++[good.getD (c/3%(good.length:Int)).toNat (eQ,eQ)]else ag.drop 1)))]
  ·refine⟨_,rfl,?_,?_⟩
   ·by_cases h:0<good.length
    ·rw[a8 h];have z0:=gi (c/3) (b:=(good.length:Int)) (by omega);have z1:=gf (c/3) (b:=(good.length:Int)) (by omega);have hk:(c/3%(good.length:Int)).toNat<good.length:=by omega
     rw[fB,fE hk,LZ];have hm:good[(c/3%(good.length:Int)).toNat]∈(frees ae ag).filter λp=>!jA ae (ag++[p]):=by rw[<- hgood];exact n9 hk
     obtain⟨h1,h2⟩:=dS.mp hm;exact yu (ae:=ae) (λp hp=>by
      rcases fG.mp hp with z|z
      ·exact N.inn p z
      ·rw[fg.mp z];exact fin _ h1) (by simpa using h2)
    ·rw[a7 h];exact N.rk.sub λp hp=>tq hp
   ·intro p hp;by_cases h:0<good.length
    ·rw[a8 h]at hp;rcases fG.mp hp with z|z
     ·exact N.inn p z
     ·have z0:=gi (c/3) (b:=(good.length:Int)) (by omega);have z1:=gf (c/3) (b:=(good.length:Int)) (by omega);have hk:(c/3%(good.length:Int)).toNat<good.length:=by omega
      rw[fB,fE hk,LZ]at z;have hm:good[(c/3%(good.length:Int)).toNat]∈(frees ae ag).filter λp=>!jA ae (ag++[p]):=by rw[<- hgood];exact n9 hk
      rw[fg.mp z];exact fin _ (dS.mp hm).1
    ·rw[a7 h]at hp;exact N.inn p (tq hp)
  ·rw[show([ac (W.d (a6 ae)),ac (W.d (aJ ag)),ac (W.d (.int c))]++cu (8-3) af)=[ac (W.d (a6 ae)),ac (W.d (aJ ag)),ac (W.d (.int c)),af,af,af,af,af]from rfl];rw[fk ct];rw[aM (e':=[ac (.d (a6 ae)),ac (.d (aJ ag)),ac (.d (.int c)),ac (.d (.lst [])),af,af,af,af]) (bD (kF _))];rw[aM ((eR (et (x:=a6 ae) rfl rfl)).trans f1)];rw[aM (e':=[ac (.d (a6 ae)),ac (.d (aJ ag)),ac (.d (.int c)),ac (.d (aJ good)),o4,o5,af,af]) (bD (fb (et (x:=.lst ((frees ae ag).map pairD)) rfl rfl) (by rw[aP];omega) V7))];have hgl:mN bR [(mV 3)] [ac (.d (a6 ae)),ac (.d (aJ ag)),ac (.d (.int c)),ac (.d (aJ good)),o4,o5,af,af]=.ok (.int (good.length:Int)):=(eB (x:=aJ good) rfl).trans (by unfold aJ;rw[nA,aP]);have cg:cB (m2 gV (mN bR [(mV 3)]) (mC (.int 0))) [ac (.d (a6 ae)),ac (.d (aJ ag)),ac (.d (.int c)),ac (.d (aJ good)),o4,o5,af,af]=.ok (decide ((0:Int)<(good.length:Int))):=bB (aw hgl rfl rfl);by_cases h:0<good.length
   ·rw[cV (by omega)]at cg;have z0:=gi (c/3) (b:=(good.length:Int)) (by omega);have z1:=gf (c/3) (b:=(good.length:Int)) (by omega);have hk:(c/3%(good.length:Int)).toNat<good.length:=by omega
    have hix:au (aJ good) (.int (c/3%(good.length:Int)))=.ok (pairD (good.getD (c/3%(good.length:Int)).toNat (eQ,eQ))):=by show cy (cC (good.map pairD) _)=_;unfold cC gU;rw[a8 z0,aP,a8 z1];show cy ((good.map pairD)[(c/3%(good.length:Int)).toNat]?)=_;rw[gc,fE hk,fB,fE hk];rfl
    rw[kW (w:=.d (aJ (ag++[good.getD (c/3%(good.length:Int)).toNat (eQ,eQ)]))),a8 h];refine(fk cg).trans (dR (bu ?_));refine(aw (x:=aJ ag) rfl (nz (aw (x:=aJ good) rfl (aw (aw rfl rfl (aG (io (by decide) (by decide)))) hgl (aG (by omega))) hix)) (aG (by rw[aP];simp;omega))).trans ?_;unfold aJ;rw[iM];rfl
   ·rw[d6 (by omega)]at cg;rw[aM ((dQ cg).trans rfl),a7 h];refine dR (bu ?_);rw[pc (x:=aJ ag) (i:=1) rfl rfl];show Rs.ok (D.lst (eP (ag.map pairD) (ac 1) af))=_;rw[show(1:Int)=((1:Nat):Int)from rfl,FA,<- qU];rfl
 ·rw[Dx]at hc;rw[hc]at ct;rw[LL]at hc;have hc2:¬ (ag.length:Int)=0:=by simpa using hc.2
  have z0:=gi (c/3) (b:=(ag.length:Int)) (by omega);have z1:=gf (c/3) (b:=(ag.length:Int)) (by omega);obtain⟨at_,hat⟩ : ∃a:Int,a=c/3%(ag.length:Int):=⟨_,rfl⟩;rw[<- hat]at z0 z1;obtain⟨p,hp,hix⟩:=KJ (xs:=ag) z0 z1;have start:∀t:S,((aE t bw) []=(aE t bw) []):=λ_=>rfl;rw[show([ac (W.d (a6 ae)),ac (W.d (aJ ag)),ac (W.d (.int c))]++cu (8-3) af)=[ac (W.d (a6 ae)),ac (W.d (aJ ag)),ac (W.d (.int c)),af,af,af,af,af]from rfl];rw[aM ((dQ ct).trans rfl)];rw[aM (e':=[ac (W.d (a6 ae)),ac (W.d (aJ ag)),ac (W.d (.int c)),af,af,af,ac (.d (.int at_)),af]) (bD ((aw (aw rfl rfl (aG (io (by decide) (by decide)))) hlen (aG (by omega))).trans (by rw[hat])))];rw[aM (e':=[ac (W.d (a6 ae)),ac (W.d (aJ ag)),ac (W.d (.int c)),af,af,af,ac (.d (.int at_)),ac (.d (aJ (e9 p ag)))]) (bD (call2 (x:=.d (aJ ag)) rfl (bu (aw (x:=aJ ag) rfl rfl hix)) (Jz (by omega))))];have c2:dY (cB (m2 bK (m2 bG (mV 2) (mC (.int 3))) (mC (.int 1)))) (cB (aN pw [(wD (mV 0)),(wD (mV 7))])) [ac (W.d (a6 ae)),ac (W.d (aJ ag)),ac (W.d (.int c)),af,af,af,ac (.d (.int at_)),ac (.d (aJ (e9 p ag)))]=.ok (decide (c%3=1)||jA ae (e9 p ag)):=lg (bB (aw (aw rfl rfl (aG (by decide))) rfl (lJ _ _))) λ_=>bB (call2 rfl rfl (KR hle (by rw[J7];omega)))
  cases hb:(decide (c%3=1)||jA ae (e9 p ag))with
  |true=>
   rw[hb]at c2;obtain⟨ys,y1,y2,y3⟩:=Jv (xs:=ag) (lo:=af) (hi:=ac at_);obtain⟨zs,w1,w2,w3⟩:=Jv (xs:=ag) (lo:=ac (at_+1)) (hi:=af);rw[kW (w:=.d (aJ (ys++zs)))]
   ·refine⟨_,rfl,N.rk.sub λq hq=>?_,λq hq=>?_⟩
    ·rcases fG.mp hq with z|z
     ·exact y2 q z
     ·exact w2 q z
    ·rcases fG.mp hq with z|z
     ·exact N.inn q (y2 q z)
     ·exact N.inn q (w2 q z)
   ·refine(fk c2).trans (dR (bu ?_));refine(aw ((sN (x:=aJ ag) (i:=at_) rfl rfl).trans rfl) ((pc (x:=aJ ag) (i:=at_+1) rfl (aw rfl rfl rfl)).trans rfl) rfl).trans ?_;show bc (.lst (eP (ag.map pairD) af (ac at_))) (.lst (eP (ag.map pairD) (ac (at_+1)) af))=_;rw[y1,w1];show bp _ _=_;rw[aG (by rw[aP,aP];omega)];unfold aJ;rw[iM]
  |false=>
   rw[hb]at c2;rw[aM ((dQ c2).trans rfl)];rw[LL]at hb;have zZ:∀q∈e9 p ag,q.1∈ae/\q.2∈ae:=λq hq=>by
    rcases(CS hp).mp hq with z|z
    ·exact N.inn q z.1
    ·rw[z];exact⟨(N.inn _ hp).2,(N.inn _ hp).1⟩
   exact⟨e9 p ag,rfl,yu zZ hb.2,zZ⟩
end Mr
namespace Mr
open PySem Mi
def sq(k:Bool)(ds:List D):D:=if k then .lst ds else .tup ds
theorem J3:∀xs ys:List Ar,eD (xs.map pairD) (ys.map pairD)=decide (xs=ys)
 |[],[]=>rfl
 |[],y::r=>by simp[eD]
 |x::r,[]=>by simp[eD]
 |x::r,y::t=>by
  rw[cM,cM,eD,K3,J3 r t];by_cases h:x=y<;>by_cases k:r=t<;>simp[h,k]
end Mr
namespace Mr
open PySem Mi
theorem wN:∀a b:List Int,gI a b=true->gI b a=true->False
 |[],[],h,_=>by cases h
 |[],_::_,_,h=>by cases h
 |_::_,[],h,_=>by cases h
 |a::r,b::t,h,k=>by
  rw[gI]at h k;by_cases e:a=b
  ·subst e;rw[a8 (j3 a)]at h k;exact wN r t h k
  ·rw[a7 (by simpa using e)]at h;rw[a7 (by simpa using dW e)]at k;simp at h k;omega
theorem Bb{a b:Int}{r t:List Int}(h:a<b):gI (a::r) (b::t)=true:=by rw[gI,a7 (by simp;omega)];simpa using h
theorem Bc{a:Int}{r t:List Int}:gI (a::r) (a::t)=gI r t:=by rw[gI,a8 (j3 a)]
section
variable{α:Type}(key:α->List Int)
theorem Jy:∀{a b:List α},(∀x,x∈a↔x∈b)->a.Pairwise (λx y=>gI (key x) (key y)=true)->b.Pairwise (λx y=>gI (key x) (key y)=true)->a=b
 |[],[],_,_,_=>rfl
 |[],y::t,h,_,_=>absurd ((h y).mpr cW) (by simp)
 |x::r,[],h,_,_=>absurd ((h x).mp cW) (by simp)
 |x::r,y::t,h,ha,hb=>by
  have ha':=jw.mp ha;have hb':=jw.mp hb;have e:x=y:=by
   rcases bZ.mp ((h x).mp cW)with z|z
   ·exact z
   ·rcases bZ.mp ((h y).mpr cW)with z2|z2
    ·exact z2.symm
    ·exact(wN _ _ (hb'.1 x z) (ha'.1 y z2)).elim
  subst e;have nr:x∉r:=λz=>wN _ _ (ha'.1 x z) (ha'.1 x z);have nt:x∉t:=λz=>wN _ _ (hb'.1 x z) (hb'.1 x z);rw[Jy (a:=r) (b:=t) (λz=>⟨λhz=>?_,λhz=>?_⟩) ha'.2 hb'.2]
  ·rcases bZ.mp ((h z).mp (eL _ hz))with q|q
   ·exact absurd (q ▸ hz) nr
   ·exact q
  ·rcases bZ.mp ((h z).mpr (eL _ hz))with q|q
   ·exact absurd (q ▸ hz) nt
   ·exact q
theorem Rj{kz:List (List Int)}(nd:kz.Nodup):(kG kz kz.length).Perm (bP kz.length)/\(kG kz kz.length).Pairwise (λi j=>gI (kz.getD i []) (kz.getD j [])=true):=by
 have O:=So.Bu nd;have e:kG kz kz.length=sortI (So.nE kz) (bP kz.length):=by
  unfold kG So.nE
  congr 1
  funext i j;exact(So.xA _ _).symm
 rw[e];refine⟨So.uE _ _,(So.BC O (λx hx=>by simpa using hx) y9).imp λ{i j} h=>?_⟩;rw[<- So.xA];exact h
theorem N9[Inhabited α](f:α->D){xs ys:List α}(nd:(xs.map key).Nodup)(hm:∀a,a∈xs↔a∈ys)(hs:ys.Pairwise λa b=>gI (key a) (key b)=true):sortBy (xs.map key) (xs.map f)=ys.map f:=by
 obtain⟨h1,h2⟩:=Rj nd;rw[aP]at h1 h2;have lt:∀i∈kG (xs.map key) xs.length,i<xs.length:=λi hi=>by simpa using h1.mem_iff.mp hi
 have gd:∀i,i<xs.length->∀(β:Type) (g:α->β) (d:β),(xs.map g).getD i d=g (xs.getD i default):=λi hi β g d=>by simp[hi]
 have e:sortBy (xs.map key) (xs.map f)=((kG (xs.map key) xs.length).map λi=>xs.getD i default).map f:=by unfold sortBy;rw[aP,eS];exact v3 λi hi=>gd i (lt i hi) _ f _
 have e2 : ((kG (xs.map key) xs.length).map fun i => xs.getD i default) = ys:= by
  refine Jy key (λa=>?_) ?_ hs
  ·rw[<- hm a,cX];constructor
   ·rintro⟨i,hi,rfl⟩;have:=lt i hi;rw[fB,fE this];exact n9 this
   ·intro ha;obtain⟨i,hi,rfl⟩:=C6 ha;exact⟨i,h1.mem_iff.mpr (e5.mpr hi),by simp[hi]⟩
  ·rw[ke];refine h2.imp_of_mem λ{i j} hi hj h=>?_;rw[gd i (lt i hi) _ key,gd j (lt j hj) _ key]at h;exact h
 rw[e,e2]
end
theorem EQ:∀l:List Int,lB (l.map D.int)=ac l
 |[]=>rfl
 |i::r=>by rw[cM,lB,EQ r];rfl
theorem IF{α:Type}{ρ:List Nat}{kf:E}{e:Mi.Env}(f:α->D)(key:α->List Int):∀{xs:List α},(∀x∈xs,kf (nY ρ e (f x))=.ok (.lst ((key x).map D.int)))->jV ρ kf e (xs.map f)=.ok (xs.map key)
 |[],_=>rfl
 |x::r,h=>by
  rw[cM,jV,h x cW,aK,uk,EQ,nU,aK,IF f key λy hy=>h y (eL _ hy)];rfl
def ky(ae row:List Str):List Int:=row.map λx=>((ae.idxOf x:Nat):Int)
theorem TH(ae:List Str):yy (a6 ae)=ac ae:=A7 ae
theorem RP{α:Type}[Inhabited α]{ae:List Str}{nx:D}(hq:yy nx=ac ae)(hn:ae.length<=1000)(row:α->List Str){xs ys:List α}(hr:∀x∈xs,(row x).length<=1000/\∀y∈row x,y∈ae)(h64:xs.length<64)(nd:(xs.map λx=>ky ae (row x)).Nodup)
 (hm:∀a,a∈xs↔a∈ys) (hs:ys.Pairwise λa b=>gI (ky ae (row a)) (ky ae (row b))=true) :
 qM [.d nx,.d (.lst (xs.map λx=>.tup ((row x).map D.str)))]=.ok (.d (.lst (ys.map λx=>.tup ((row x).map D.str)))):=by
 unfold qM JF;rw[oX];rw[show([ac (W.d nx),ac (W.d (.lst (xs.map λx=>.tup ((row x).map D.str))))]++cu (2-2) af)=[ac (W.d nx),ac (W.d (.lst (xs.map λx=>.tup ((row x).map D.str))))]from rfl];have hk:jV [0] (cq [ac 1,af] (bA (mV 0)) (.n 1) eK (m2 u9 (mV 0) (mV 1))) [ac (W.d nx),ac (W.d (.lst (xs.map λx=>.tup ((row x).map D.str))))] (xs.map λx=>.tup ((row x).map D.str))=.ok (xs.map λx=>ky ae (row x)):=
  IF (λx=>.tup ((row x).map D.str)) (λx=>ky ae (row x)) λx hx=>by
   have hc:dE (.n 1) eK (m2 u9 (mV 0) (mV 1)) [ac (W.d nx),af] ((row x).map D.str)=.ok (((row x).filter λ_=>true).map λy=>D.int ((ae.idxOf y:Nat):Int)):=
    gr D.str (λy=>D.int ((ae.idxOf y:Nat):Int)) (λ_=>true) (row x) λy hy=>⟨[ac (W.d nx),ac (W.d (.str y))],rfl,rfl,λ_=>aw (x:=nx) (y:=.str y) rfl rfl (by
     show((cy (yy nx)).bind λys=>bp (y∈ys/\ys.length<=1000) (Rs.ok (D.int ((ys.idxOf y:Nat):Int))))=_;rw[hq,nU,aK];exact aG ⟨(hr x hx).2 y hy,hn⟩)⟩
   have hm:=fb (ρ:=[ac 1,af]) (e:=nY [0] [ac (W.d nx),ac (W.d (.lst (xs.map λx=>.tup ((row x).map D.str))))] (.tup ((row x).map D.str))) (et (a:=mV 0) (x:=.tup ((row x).map D.str)) rfl rfl) (by rw[aP];have:=(hr x hx).1;omega) hc;rw[hm,qR.mpr (λ_ _=>rfl)];show Rs.ok (D.lst _)=Rs.ok (D.lst ((ky ae (row x)).map D.int));unfold ky;rw[eS];rfl
 have hS:xN [0] (mV 1) (cq [ac 1,af] (bA (mV 0)) (.n 1) eK (m2 u9 (mV 0) (mV 1))) [ac (W.d nx),ac (W.d (.lst (xs.map λx=>.tup ((row x).map D.str))))]=.ok (.lst (ys.map λx=>.tup ((row x).map D.str))):=by unfold xN;rw[show mV 1 [ac (W.d nx),ac (W.d (.lst (xs.map λx=>.tup ((row x).map D.str))))]=.ok (.lst (xs.map λx=>.tup ((row x).map D.str)))from rfl,aK];rw[show F8 (.lst (xs.map λx=>.tup ((row x).map D.str)))=.ok (xs.map λx=>.tup ((row x).map D.str))from rfl,aK,aG (by rw[aP];exact h64),hk,aK,aG nd,N9 (λx=>ky ae (row x)) _ nd hm hs]
 rw[dR (bu hS)];rfl
theorem N8{α:Type}[Inhabited α]{ae:List Str}(hn:ae.length<=1000)(row:α->List Str){xs ys:List α}(hr:∀x∈xs,(row x).length<=1000/\∀y∈row x,y∈ae)(h64:xs.length<64)(nd:(xs.map λx=>ky ae (row x)).Nodup)
 (hm:∀a,a∈xs↔a∈ys) (hs:ys.Pairwise λa b=>gI (ky ae (row a)) (ky ae (row b))=true) :
 qM [.d (a6 ae),.d (.lst (xs.map λx=>.tup ((row x).map D.str)))]=.ok (.d (.lst (ys.map λx=>.tup ((row x).map D.str)))):=RP (TH ae) hn row hr h64 nd hm hs
end Mr
namespace Mr
open PySem Mi
def prs(ae:List Str):List Ar:=(bP ae.length).flatMap λk=>(ae.drop (k+1)).map λb=>(nth ae k,b)
def kL(ae:List Str)(ag:List Ar)(p:Ar):List Str:=ae.filter λm=>decide ((p.1,m)∈ag)&&decide ((p.2,m)∈ag)
def kC(ae:List Str)(ag:List Ar):List gB:=(prs ae).flatMap λp=>if(!tie ag p.1 p.2)=true then(kL ae ag p).map λm=>(p.1,m,p.2)else[]
theorem ml{ae:List Str}{a b:Str}:(a,b)∈prs ae↔∃k,k<ae.length/\a=nth ae k/\b∈ae.drop (k+1):=by
 unfold prs;simp only[pH,cX,e5,rf];constructor
 ·rintro⟨k,hk,b',hb,rfl,rfl⟩;exact⟨k,hk,rfl,hb⟩
 ·rintro⟨k,hk,rfl,hb⟩;exact⟨k,hk,b,hb,rfl,rfl⟩
theorem Jj{ae:List Str}{ag:List Ar}(t:gB):t∈kC ae ag↔t∈bX ae ag:=by
 obtain⟨a,m,b⟩:=t;rw[mK];unfold kC kL tie dF;simp only[pH];constructor
 ·rintro⟨⟨a',b'⟩,hp,h⟩;split at h
  ·rename_i ht;obtain⟨m',hm,e⟩:=cX.mp h;cases e;obtain⟨hm1,hm2⟩:=dS.mp hm;obtain⟨k,hk,e,hb⟩:=ml.mp hp;exact⟨k,hk,e,hm1,hb,by rw[hm2,ht];rfl⟩
  ·cases h
 ·rintro⟨k,hk,e,hm,hb,hc⟩;have hc':=tO.mp hc;refine⟨(a,b),ml.mpr ⟨k,hk,e,hb⟩,?_⟩;rw[a8 hc'.2];exact cX.mpr ⟨m,dS.mpr ⟨hm,hc'.1⟩,rfl⟩
theorem u8{ae:List Str}(nd:ae.Nodup){i:Nat}(hi:i<ae.length):ae.idxOf (nth ae i)=i:=by
 have e:nth ae i=ae[i]:=by unfold nth;rw[fB,fE hi];rfl
 rw[e];exact nd.idxOf_getElem i hi
theorem fq{ae:List Str}{x y:Str}(hx:x∈ae)(hy:y∈ae)(h:ae.idxOf x=ae.idxOf y):x=y:=by
 have h1:=C7 (yY.mpr hx);have h2:=C7 (yY.mpr hy);rw[<- h1,<- h2]
 congr 1
theorem Hs{ae:List Str}(nd:ae.Nodup):ae.Pairwise λx y=>ae.idxOf x<ae.idxOf y:=by rw[Le];intro i j hi hj h;rw[nd.idxOf_getElem i hi,nd.idxOf_getElem j hj];exact h
theorem Ac{ae:List Str}(nd:ae.Nodup){k:Nat}{b:Str}(hb:b∈ae.drop (k+1)):k<ae.idxOf b/\b∈ae:=by obtain⟨i,hi,rfl⟩:=C6 hb;rw[List.getElem_drop];rw[iy]at hi;rw[nd.idxOf_getElem (k+1+i) (by omega)];exact⟨by omega,n9 _⟩
def tr(t:gB):List Str:=[t.1,t.2.1,t.2.2]
theorem T3{ae:List Str}(nd:ae.Nodup)(ag:List Ar):(bX ae ag).Pairwise λx y=>gI (ky ae (tr x)) (ky ae (tr y))=true:=by
 unfold bX;rw[sX];refine⟨λk hk=>?_,sW.imp_of_mem λ{k1 k2} h1 h2 h x hx y hy=>?_⟩
 ·rw[sX];refine⟨λm hm=>?_,(Hs nd).imp λ{m1 m2} h x hx y hy=>?_⟩
  ·rw[ke];refine((Hs nd).sublist (List.Sublist.trans Lr (Ly _ _))).imp λ{b1 b2} h=>?_;show gI [_,_,_] [_,_,_]=true;rw[Bc,Bc];exact Bb (Int.ofNat_lt.mpr h)
  ·obtain⟨b1,_,rfl⟩:=cX.mp hx;obtain⟨b2,_,rfl⟩:=cX.mp hy;show gI [_,_,_] [_,_,_]=true;rw[Bc];exact Bb (Int.ofNat_lt.mpr h)
 ·obtain⟨m1,_,hx⟩:=pH.mp hx;obtain⟨m2,_,hy⟩:=pH.mp hy;obtain⟨b1,_,rfl⟩:=cX.mp hx;obtain⟨b2,_,rfl⟩:=cX.mp hy;have e1:=u8 nd (e5.mp h1);have e2:=u8 nd (e5.mp h2);exact Bb (by show((ae.idxOf (nth ae k1):Nat):Int)<((ae.idxOf (nth ae k2):Nat):Int);rw[e1,e2];omega)
theorem HW{ae:List Str}(nd:ae.Nodup):(prs ae).Nodup:=by
 unfold prs;show zc _ _;rw[sX];refine⟨λk hk=>?_,sW.imp_of_mem λ{k1 k2} h1 h2 h x hx y hy=>?_⟩
 ·rw[ke];exact(nd.sublist (Ly _ _)).imp λ{b1 b2} h z=>h (by cases z;rfl)
 ·obtain⟨b1,_,rfl⟩:=cX.mp hx;obtain⟨b2,_,rfl⟩:=cX.mp hy;intro z;have:=qk nd (e5.mp h1) (e5.mp h2) (congrArg Prod.fst z);omega
theorem GS{ae:List Str}(nd:ae.Nodup)(ag:List Ar):(kC ae ag).Nodup:=by
 unfold kC;show zc _ _;rw[sX];have inn:∀{p:Ar} {x:gB},x∈(if(!tie ag p.1 p.2)=true then(kL ae ag p).map λm=>(p.1,m,p.2)else[])->x.1=p.1/\x.2.2=p.2:=λ{p x} h=>by
  split at h
  ·obtain⟨m,_,rfl⟩:=cX.mp h;exact⟨rfl,rfl⟩
  ·cases h
 refine⟨λp hp=>?_,(HW nd).imp λ{p q} h x hx y hy z=>?_⟩
 ·split
  ·rw[ke];exact(nd.sublist Lr).imp λ{b1 b2} h z=>h (by cases z;rfl)
  ·exact .nil
 ·subst z;obtain⟨a1,a2⟩:=inn hx;obtain⟨b1,b2⟩:=inn hy;exact h (zO (a1.symm.trans b1) (a2.symm.trans b2))
theorem J4{α:Type}[DecidableEq α]:∀{l L:List α},l.Nodup->(∀x∈l,x∈L)->l.length<=L.length
 |[],_,_,_=>iC _
 |x::r,L,nd,h=>by
  have nd':=kg.mp nd;have hx:=h x cW;have:=J4 (l:=r) (L:=L.erase x) nd'.2 λy hy=>(Lp (λz:y=x=>nd'.1 (z ▸ hy))).mpr (h y (eL _ hy));rw[Lg hx]at this;have:=y0 hx;rw[eG];omega
def sD(ae:List Str)(t:gB):Nat:=
 if ae.idxOf t.2.1<ae.idxOf t.1 then ae.idxOf t.2.1*64+ae.idxOf t.1*8+ae.idxOf t.2.2
 else if ae.idxOf t.2.1<ae.idxOf t.2.2 then ae.idxOf t.1*64+ae.idxOf t.2.1*8+ae.idxOf t.2.2
 else ae.idxOf t.1*64+ae.idxOf t.2.2*8+ae.idxOf t.2.1
structure CF(ae:List Str)(ag:List Ar)(t:gB):Prop where
 m1:t.1∈ae
 m2:t.2.1∈ae
 m3:t.2.2∈ae
 l1:ae.idxOf t.1<8
 l2:ae.idxOf t.2.1<8
 l3:ae.idxOf t.2.2<8
 up:ae.idxOf t.1<ae.idxOf t.2.2
 n1:ae.idxOf t.2.1≠ae.idxOf t.1
 n2:ae.idxOf t.2.1≠ae.idxOf t.2.2
 a1:(t.1,t.2.1)∈ag
 a2:(t.2.2,t.2.1)∈ag
 z1:(t.1,t.2.2)∉ag
 z2:(t.2.2,t.1)∉ag
theorem r9{ae:List Str}{ag:List Ar}(N:Nt ae ag){t:gB}(h:t∈kC ae ag):CF ae ag t:=by
 obtain⟨a,m,b⟩:=t;obtain⟨k,hk,e,hm,hb,hc⟩:=mK.mp ((Jj _).mp h);obtain⟨c1,c2,c3,c4⟩:=xg.mp hc;obtain⟨d1,d2⟩:=Ac N.nd hb;have ha:a∈ae:=by rw[e];exact lH hk
 have ei:ae.idxOf a=k:=by rw[e];exact u8 N.nd hk
 have hn:=N.le;obtain⟨r,hr⟩:=N.rk;have i1:=yY.mpr hm;have i2:=yY.mpr d2;refine⟨ha,hm,d2,?_,?_,?_,?_,λz=>?_,λz=>?_,c1,c2,c3,c4⟩
 ·show ae.idxOf a<8;omega
 ·show ae.idxOf m<8;omega
 ·show ae.idxOf b<8;omega
 ·show ae.idxOf a<ae.idxOf b;omega
 ·have:=fq hm ha z;have:=hr _ c1;simp only at *;subst m;omega
 ·have:=fq hm d2 z;have:=hr _ c2;simp only at *;subst m;omega
theorem RQ{ae:List Str}{ag:List Ar}{t u:gB}(T:CF ae ag t)(U:CF ae ag u)(h:sD ae t=sD ae u):t=u:=by
 obtain⟨a,m,b⟩:=t;obtain⟨a',m',b'⟩:=u;obtain⟨m1,m2,m3,l1,l2,l3,up,n1,n2,a1,a2,z1,z2⟩:=T;obtain⟨m1',m2',m3',l1',l2',l3',up',n1',n2',a1',a2',z1',z2'⟩:=U;unfold sD at h;simp only at *;split at h
 ·split at h
  ·obtain rfl:=fq m1 m1' (by omega);obtain rfl:=fq m2 m2' (by omega);obtain rfl:=fq m3 m3' (by omega);rfl
  ·split at h
   ·obtain rfl:=fq m2 m1' (by omega);obtain rfl:=fq m3 m3' (by omega);exact absurd a2 z2'
   ·obtain rfl:=fq m2 m1' (by omega);obtain rfl:=fq m1 m3' (by omega);exact absurd a1 z2'
 ·split at h
  ·split at h
   ·obtain rfl:=fq m1 m2' (by omega);obtain rfl:=fq m3 m3' (by omega);exact absurd a2' z2
   ·split at h
    ·obtain rfl:=fq m1 m1' (by omega);obtain rfl:=fq m2 m2' (by omega);obtain rfl:=fq m3 m3' (by omega);rfl
    ·obtain rfl:=fq m1 m1' (by omega);obtain rfl:=fq m2 m3' (by omega);exact absurd a1 z1'
  ·split at h
   ·obtain rfl:=fq m1 m2' (by omega);obtain rfl:=fq m3 m1' (by omega);exact absurd a1' z2
   ·split at h
    ·obtain rfl:=fq m1 m1' (by omega);obtain rfl:=fq m3 m2' (by omega);exact absurd a1' z1
    ·obtain rfl:=fq m1 m1' (by omega);obtain rfl:=fq m2 m2' (by omega);obtain rfl:=fq m3 m3' (by omega);rfl
def xo:List Nat:=(bP 512).filter λn=>decide (n/64<n/8%8)&&decide (n/8%8<n%8)
theorem O4:xo.length=56:=by decide +kernel
theorem Sz{ae:List Str}{ag:List Ar}{t:gB}(T:CF ae ag t):sD ae t∈xo:=by
 obtain⟨m1,m2,m3,l1,l2,l3,up,n1,n2,a1,a2,z1,z2⟩:=T;have key:∀x y z:Nat,x<y->y<z->z<8->x*64+y*8+z∈xo:=λx y z h1 h2 h3=>by
  refine dS.mpr ⟨e5.mpr (by omega),?_⟩;have e1:(x*64+y*8+z)/64=x:=by omega
  have e2:(x*64+y*8+z)/8%8=y:=by omega
  have e3:(x*64+y*8+z)%8=z:=by omega
  rw[e1,e2,e3];simp[h1,h2]
 unfold sD;split
 ·exact key _ _ _ (by omega) (by omega) (by omega)
 ·split
  ·exact key _ _ _ (by omega) (by omega) (by omega)
  ·exact key _ _ _ (by omega) (by omega) (by omega)
theorem Hg{ae:List Str}{ag:List Ar}(N:Nt ae ag):(kC ae ag).length<=56:=by
 have h:((kC ae ag).map (sD ae)).Nodup:=by show zc _ _;rw[ke];exact DJ (λ{x y} hx hy h z=>h (RQ (r9 N hx) (r9 N hy) z)) (GS N.nd ag)
 have:=J4 h (L:=xo) λx hx=>by
  obtain⟨t,ht,rfl⟩:=cX.mp hx;exact Sz (r9 N ht)
 rw[aP,O4]at this;exact this
theorem Rm{ae:List Str}{ag:List Ar}(N:Nt ae ag):((kC ae ag).map λt=>ky ae (tr t)).Nodup:=by show zc _ _;rw[ke];refine DJ (λ{x y} hx hy h z=>h ?_) (GS N.nd ag);have X:=r9 N hx;have Y:=r9 N hy;obtain⟨a,m,b⟩:=x;obtain⟨a',m',b'⟩:=y;simp only[ky,tr,cM,mY,wA,and_true]at z;obtain⟨z1,z2,z3⟩:=z;obtain rfl:=fq X.m1 Y.m1 (by show ae.idxOf a=ae.idxOf a';omega);obtain rfl:=fq X.m2 Y.m2 (by show ae.idxOf m=ae.idxOf m';omega);obtain rfl:=fq X.m3 Y.m3 (by show ae.idxOf b=ae.idxOf b';omega);rfl
theorem Oi{ae:List Str}{ag:List Ar}(N:Nt ae ag):qM [.d (a6 ae),.d (.lst ((kC ae ag).map cF))]=.ok (.d (.lst ((bX ae ag).map cF))):=
 N8 (by have:=N.le;omega) tr (λt ht=>⟨by show 3<=1000;omega,λy hy=>by
  have T:=r9 N ht;simp only[tr,bZ,mU,mS]at hy;rcases hy with rfl|rfl|rfl
  ·exact T.m1
  ·exact T.m2
  ·exact T.m3⟩) (by have:=Hg N;omega) (Rm N) (λt=>Jj t) (T3 N.nd ag)
end Mr
namespace Mr
open PySem Mi
theorem xT{i:Nat}{a:E}{e:Mi.Env}{ds xs:List D}(ha:a e=.ok (.lst xs))(hg:getL e i=.ok ds)(hl:ds.length+xs.length<=16777216):k8 i a e=.ok (.nx (putL e i (ds++xs))):=by unfold k8;rw[ha,aK,hg,aK];exact aG hl
theorem rS{a b:E}{e:Mi.Env}{x y:D}(h:a e=.ok x)(h':b e=.ok y):mN b9 [a,b] e=.ok (.lst [x,y]):=by unfold mN;rw[eX,h,aK,eX,h',aK];rfl
theorem yB{a:E}{e:Mi.Env}{x:D}(h:a e=.ok x):mn a e=.ok (.nx e):=by unfold mn;rw[h];rfl
theorem JW{ae:List Str}{ag:List Ar}{a b:Str}(ha:a∈ae)(hb:b∈ae):mv [.d (ak ae ag),.d (.str a),.d (.str b)]=.ok (.d (.bl (tie ag a b))):=by
 unfold mv KI;rw[CG];rw[show([ac (W.d (ak ae ag)),ac (W.d (.str a)),ac (W.d (.str b))]++cu (3-3) af)=[ac (W.d (ak ae ag)),ac (W.d (.str a)),ac (W.d (.str b))]from rfl];have hr:lh [.d (a6 ae),.d (am [a,b])]=.ok (.d .non):=Ah λx hx=>by
  rcases bZ.mp hx with rfl|hx
  ·exact ha
  ·rw[fg.mp hx];exact hb
 rw[aM (yB (call2 (bu (aw rfl rfl (fP _ _))) (bu (rS rfl rfl)) hr))];have aa:oZ (m2 bC (mN dTup [(mV 1),(mV 2)]) (m2 au (mV 0) (mC (.int 1)))) (m2 bC (mN dTup [(mV 2),(mV 1)]) (m2 au (mV 0) (mC (.int 1)))) [ac (.d (ak ae ag)),ac (.d (.str a)),ac (.d (.str b))]=.ok (.bl (tie ag a b)):=
  Vb (aw (fw rfl rfl) (aw rfl rfl (jU ae ag)) (ot ag (a,b))) λ_=>aw (fw rfl rfl) (aw rfl rfl (jU ae ag)) (ot ag (b,a))
 rw[dR (bu aa)];rfl
theorem xI{ae:List Str}(hn:ae.length<=8):(prs ae).length<=64:=by unfold prs;refine c7 (rG (m:=8) λk _=>?_) (by rw[v5];omega);rw[aP,iy];omega
theorem EN{ae:List Str}{a b:E}{e:Mi.Env}{k:Nat}(hk:k<ae.length)(hn:ae.length<=8)(ha:a e=.ok (a6 ae))(hb:b e=.ok (.int (k:Nat))):bA (bV lA a (ac (m2 bc b (mC (.int 1)))) af) e=.ok ((ae.drop (k+1)).map D.str):=by
 have sl:bV lA a (ac (m2 bc b (mC (.int 1)))) af e=.ok (.tup ((ae.map D.str).drop (k+1))):=by rw[pc ha (aw (a:=b) (b:=mC (.int 1)) (x:=.int (k:Nat)) (y:=.int 1) hb rfl rfl)];show bp _ _=_;rw[aG (by rw[aP];omega),show((k:Nat):Int)+1=((k+1:Nat):Int)by omega,iP]
 rw[et sl rfl,qU]
theorem EC{ae:List Str}(hn:ae.length<=8):nX [.d (a6 ae)]=.ok (.d (aJ (prs ae))):=by
 unfold nX Hm;rw[uq];have epr:(prs ae).map pairD=(bP ae.length).flatMap λk=>(ae.drop (k+1)).map λb=>pairD (nth ae k,b):=by unfold prs;rw[mq];refine j2 λk _=>?_;rw[eS];rfl
 have D9:((prs ae).map pairD).length<=64:=by rw[aP];exact xI hn
 rw[epr]at D9;obtain⟨e',f1,o2,o3,he⟩:=jN (tg:=.t [2,3]) (body:=(k8 1 (cq [ac 3,af] (bA (bV lA (mV 0) (ac (m2 bc (mV 2) (mC (.int 1)))) af)) (.n 1) eK (mN dTup [(mV 0),(mV 1)]))))
  (λk:Nat=>D.tup [.int (k:Nat),.str (nth ae k)]) (λk=>(ae.drop (k+1)).map λb=>pairD (nth ae k,b))
  (λacc e=>∃o2 o3:Option W,e=[ac (.d (a6 ae)),ac (.d (.lst acc)),o2,o3]) (bP ae.length) [] [ac (.d (a6 ae)),ac (.d (.lst [])),af,af] (by simp only[iz];omega) ⟨af,af,rfl⟩
  (λk hk acc e hl ⟨o2,o3,he⟩=>by
   subst he;have hk:=e5.mp hk;refine⟨[ac (.d (a6 ae)),ac (.d (.lst acc)),ac (.d (.int (k:Nat))),ac (.d (.str (nth ae k)))],putL [ac (.d (a6 ae)),ac (.d (.lst acc)),ac (.d (.int (k:Nat))),ac (.d (.str (nth ae k)))] 1 (acc++(ae.drop (k+1)).map λb=>pairD (nth ae k,b)),rfl,?_,_,_,rfl⟩;have hc:dE (.n 1) eK (mN dTup [(mV 0),(mV 1)]) [ac (.d (.str (nth ae k))),af] ((ae.drop (k+1)).map D.str)=.ok (((ae.drop (k+1)).filter λ_=>true).map λb=>pairD (nth ae k,b)):=
    gr D.str (λb=>pairD (nth ae k,b)) (λ_=>true) _ λb _=>⟨[ac (.d (.str (nth ae k))),ac (.d (.str b))],rfl,rfl,λ_=>fw rfl rfl⟩
   rw[qR.mpr (λ_ _=>rfl)]at hc;exact xT (fb (ρ:=[ac 3,af]) (EN hk hn rfl rfl) (by rw[aP,iy];omega) hc) rfl hl)
 subst he;rw[show([ac (W.d (a6 ae))]++cu (4-1) af)=[ac (W.d (a6 ae)),af,af,af]from rfl];rw[aM (e':=[ac (.d (a6 ae)),ac (.d (.lst [])),af,af]) (bD (kF _))];have hit:rj (mV 0) [ac (.d (a6 ae)),ac (.d (.lst [])),af,af]=.ok ((bP ae.length).map λk=>D.tup [.int (k:Nat),.str (nth ae k)]):=by rw[<- Hr];rfl
 rw[aM ((eR hit).trans f1)];unfold aJ;rw[epr];rfl
theorem qq{ae:List Str}{p:Ar}(h:p∈prs ae):p.1∈ae/\p.2∈ae:=by obtain⟨k,hk,e,hb⟩:=ml.mp (show(p.1,p.2)∈prs ae from h);exact⟨by rw[e];exact lH hk,tq hb⟩
def ce(ae:List Str)(ag:List Ar):List Ar:=(prs ae).filter λp=>tie ag p.1 p.2
theorem xF{ae:List Str}{ag:List Ar}(hn:ae.length<=8):jy [.d (ak ae ag)]=.ok (.d (aJ (ce ae ag))):=by
 unfold jy KO;rw[uq];rw[show([ac (W.d (ak ae ag))]++cu (1-1) af)=[ac (W.d (ak ae ag))]from rfl];have hc:dE (.t [1,2]) (cB (aN mv [(wD (mV 0)),(wD (mV 1)),(wD (mV 2))])) (mN dTup [(mV 1),(mV 2)]) [ac (.d (ak ae ag)),af,af] ((prs ae).map pairD)=.ok ((ce ae ag).map pairD):=
  gr pairD pairD (λp=>tie ag p.1 p.2) (prs ae) λp hp=>⟨[ac (.d (ak ae ag)),ac (.d (.str p.1)),ac (.d (.str p.2))],rfl,bB (oY rfl rfl rfl (JW (qq hp).1 (qq hp).2)),λ_=>fw rfl rfl⟩
 have hm:=fb (ρ:=[ac 0,af,af]) (e:=[ac (.d (ak ae ag))]) (et (a:=aN nX [(wD (m2 au (mV 0) (mC (.int 0))))]) (x:=aJ (prs ae)) (i6 (bu (aw rfl rfl (fP ae ag))) (EC hn)) rfl) (by rw[aP];have:=xI hn;omega) hc;rw[dR (bu hm)];rfl
theorem FW{ae:List Str}{ag:List Ar}(hn:ae.length<=8):pB [.d (ak ae ag)]=.ok (.d (aJ (ce ae ag))):=by
 unfold pB La;rw[Ba];have epr:(ce ae ag).map pairD=(bP ae.length).flatMap λk=>((ae.drop (k+1)).filter λb=>tie ag (nth ae k) b).map λb=>pairD (nth ae k,b):=by unfold ce prs;rw[List.filter_flatMap,mq];refine j2 λk _=>?_;rw[List.filter_map,eS];rfl
 have D9:((ce ae ag).map pairD).length<=64:=by rw[aP];exact c7 (ju _ _) (xI hn)
 rw[epr]at D9;obtain⟨e',f1,o2,he⟩:=jN (tg:=.n 2) (body:=(bf 1 (m2 bc (mV 1) (cq [ac 2,ac 0,af] (bA (bV lA (m2 au (mV 0) (mC (.int 0))) (ac (m2 bc (mV 2) (mC (.int 1)))) af)) (.n 2) (cB (aN iK [(wD (mV 1)),(wD (m2 au (m2 au (mV 1) (mC (.int 0))) (mV 0))),(wD (mV 2))])) (mN dTup [(m2 au (m2 au (mV 1) (mC (.int 0))) (mV 0)),(mV 2)])))))
  (λk:Nat=>D.int (0+(k:Nat))) (λk=>((ae.drop (k+1)).filter λb=>tie ag (nth ae k) b).map λb=>pairD (nth ae k,b))
  (λacc e=>∃o2:Option W,e=[ac (.d (ak ae ag)),ac (.d (.lst acc)),o2]) (bP ae.length) [] [ac (.d (ak ae ag)),ac (.d (.lst [])),af] (by simp only[iz];omega) ⟨af,rfl⟩
  (λk hk acc e hl ⟨o2,he⟩=>by
   subst he;have hk:=e5.mp hk;rw[Int.zero_add];refine⟨[ac (.d (ak ae ag)),ac (.d (.lst acc)),ac (.d (.int (k:Nat)))],[ac (.d (ak ae ag)),ac (.d (.lst (acc++((ae.drop (k+1)).filter λb=>tie ag (nth ae k) b).map λb=>pairD (nth ae k,b)))),ac (.d (.int (k:Nat)))],rfl,?_,_,rfl⟩;have nm:∀b:Str,m2 au (m2 au (mV 1) (mC (.int 0))) (mV 0) [ac (.d (.int (k:Nat))),ac (.d (ak ae ag)),ac (.d (.str b))]=.ok (.str (nth ae k)):=λb=>aw (aw rfl rfl (fP ae ag)) rfl (by
    have:=Ut (cs:=ae) (i:=(k:Nat)) (by omega) (by omega);rw[iP]at this;exact this)
   have hc:dE (.n 2) (cB (aN iK [(wD (mV 1)),(wD (m2 au (m2 au (mV 1) (mC (.int 0))) (mV 0))),(wD (mV 2))])) (mN dTup [(m2 au (m2 au (mV 1) (mC (.int 0))) (mV 0)),(mV 2)]) [ac (.d (.int (k:Nat))),ac (.d (ak ae ag)),af] ((ae.drop (k+1)).map D.str)=.ok (((ae.drop (k+1)).filter λb=>tie ag (nth ae k) b).map λb=>pairD (nth ae k,b)):=gr D.str (λb=>pairD (nth ae k,b)) (λb=>tie ag (nth ae k) b) _ λb _=>⟨[ac (.d (.int (k:Nat))),ac (.d (ak ae ag)),ac (.d (.str b))],rfl,bB (oY rfl (bu (nm b)) rfl (CZ (nth ae k) b)),λ_=>fw (nm b) rfl⟩
   have hm:=fb (ρ:=[ac 2,ac 0,af]) (e:=[ac (.d (ak ae ag)),ac (.d (.lst acc)),ac (.d (.int (k:Nat)))]) (EN (b:=mV 2) hk hn (aw (a:=mV 0) (b:=mC (.int 0)) rfl rfl (fP ae ag)) rfl) (by rw[aP,iy];omega) hc;exact bD (aw (x:=.lst acc) rfl hm (aG hl)))
 subst he;rw[show([ac (W.d (ak ae ag))]++cu (3-1) af)=[ac (W.d (ak ae ag)),af,af]from rfl];rw[aM (e':=[ac (.d (ak ae ag)),ac (.d (.lst [])),af]) (bD (kF _))];have hit:fo (mN bR [(m2 au (mV 0) (mC (.int 0)))]) [ac (.d (ak ae ag)),ac (.d (.lst [])),af]=.ok ((bP ae.length).map λk:Nat=>D.int (0+(k:Nat))):=by unfold fo;rw[KQ (ae:=ae) (ag:=ag) rfl,aK,oN,aK,aG (by unfold okR;omega)];unfold dA;rw[Int.sub_zero,iP]
 rw[aM ((eR hit).trans f1)];unfold aJ;rw[epr];rfl
theorem UO{ae:List Str}{ag:List Ar}:(kC ae ag).map cF=(prs ae).flatMap λp=>if(!tie ag p.1 p.2)=true then(kL ae ag p).map λm=>cF (p.1,m,p.2)else[]:=by
 unfold kC;rw[mq];refine j2 λp _=>?_;split
 ·rw[eS];rfl
 ·rfl
theorem yK{ae:List Str}{ag:List Ar}(N:Nt ae ag):jE [.d (ak ae ag)]=.ok (.d (.lst ((bX ae ag).map cF))):=by
 have hn:=N.le;have oq:((kC ae ag).map cF).length<=56:=by rw[aP];exact Hg N
 have d8:=Oi N;rw[UO]at oq d8;unfold jE EJ;rw[uq];obtain⟨e',f1,o4,o5,o6,he⟩:=jN (tg:=.t [4,5]) (body:=(bq (dw (cB (aN mv [(wD (mV 0)),(wD (mV 4)),(wD (mV 5))])))
 (aE (bf 6 (cq [ac 2,ac 4,ac 5,af] (bA (mV 1)) (.n 3) (cJ (cB (m2 bC (mN dTup [(mV 1),(mV 3)]) (mV 0))) (cB (m2 bC (mN dTup [(mV 2),(mV 3)]) (mV 0)))) (mV 3)))
 (k8 3 (cq [ac 4,ac 5,af] (bA (mV 6)) (.n 2) eK (mN dTup [(mV 0),(mV 2),(mV 1)]))))
 bw))
  pairD (λp=>if(!tie ag p.1 p.2)=true then(kL ae ag p).map λm=>cF (p.1,m,p.2)else[])
  (λacc e=>∃o4 o5 o6:Option W,e=[ac (.d (ak ae ag)),ac (.d (a6 ae)),ac (.d (dm ag)),ac (.d (.lst acc)),o4,o5,o6]) (prs ae) [] [ac (.d (ak ae ag)),ac (.d (a6 ae)),ac (.d (dm ag)),ac (.d (.lst [])),af,af,af] (by simp only[iz];omega) ⟨af,af,af,rfl⟩
  (λp hp acc e hl ⟨o4,o5,o6,he⟩=>by
   subst he;have hc:=lX (bB (oY (f:=mv) (a:=wD (mV 0)) (b:=wD (mV 4)) (c:=wD (mV 5)) (e:=[ac (.d (ak ae ag)),ac (.d (a6 ae)),ac (.d (dm ag)),ac (.d (.lst acc)),ac (.d (.str p.1)),ac (.d (.str p.2)),o6]) rfl rfl rfl (JW (ag:=ag) (qq hp).1 (qq hp).2)));cases ht:(!tie ag p.1 p.2)with
   |false=>
    rw[ht]at hc;rw[a7 dJ,i8];exact⟨[ac (.d (ak ae ag)),ac (.d (a6 ae)),ac (.d (dm ag)),ac (.d (.lst acc)),ac (.d (.str p.1)),ac (.d (.str p.2)),o6],_,rfl,(dQ hc).trans rfl,_,_,_,rfl⟩
   |true=>
    rw[ht]at hc;rw[ht,a8 rfl]at hl;rw[a8 rfl];have hmc:dE (.n 3) (cJ (cB (m2 bC (mN dTup [(mV 1),(mV 3)]) (mV 0))) (cB (m2 bC (mN dTup [(mV 2),(mV 3)]) (mV 0)))) (mV 3) [ac (.d (dm ag)),ac (.d (.str p.1)),ac (.d (.str p.2)),af] (ae.map D.str)=.ok ((kL ae ag p).map D.str):=
     gr D.str D.str (λm=>decide ((p.1,m)∈ag)&&decide ((p.2,m)∈ag)) ae λm _=>⟨[ac (.d (dm ag)),ac (.d (.str p.1)),ac (.d (.str p.2)),ac (.d (.str m))],rfl,ll (bB (aw (fw rfl rfl) rfl (ot ag (p.1,m)))) λ_=>bB (aw (fw rfl rfl) rfl (ot ag (p.2,m))),λ_=>rfl⟩
    have s1:=bD (i:=6) (fb (ρ:=[ac 2,ac 4,ac 5,af]) (e:=[ac (.d (ak ae ag)),ac (.d (a6 ae)),ac (.d (dm ag)),ac (.d (.lst acc)),ac (.d (.str p.1)),ac (.d (.str p.2)),o6]) (et (a:=mV 1) (x:=a6 ae) rfl rfl) (by rw[aP];omega) hmc);have MA:dE (.n 2) eK (mN dTup [(mV 0),(mV 2),(mV 1)]) [ac (.d (.str p.1)),ac (.d (.str p.2)),af] ((kL ae ag p).map D.str)=.ok (((kL ae ag p).filter λ_=>true).map λm=>cF (p.1,m,p.2)):=
     gr D.str (λm=>cF (p.1,m,p.2)) (λ_=>true) _ λm _=>⟨[ac (.d (.str p.1)),ac (.d (.str p.2)),ac (.d (.str m))],rfl,rfl,λ_=>(KN rfl rfl rfl).trans (aG (by simp))⟩
    rw[qR.mpr (λ_ _=>rfl)]at MA;have hml:(kL ae ag p).length<=8:=c7 (ju _ _) hn;refine⟨[ac (.d (ak ae ag)),ac (.d (a6 ae)),ac (.d (dm ag)),ac (.d (.lst acc)),ac (.d (.str p.1)),ac (.d (.str p.2)),o6],putL [ac (.d (ak ae ag)),ac (.d (a6 ae)),ac (.d (dm ag)),ac (.d (.lst acc)),ac (.d (.str p.1)),ac (.d (.str p.2)),ac (.d (.lst ((kL ae ag p).map D.str)))] 3 (acc++(kL ae ag p).map λm=>cF (p.1,m,p.2)),rfl,?_,_,_,_,rfl⟩;exact(fk hc).trans ((aM s1).trans (xT (fb (ρ:=[ac 4,ac 5,af]) (et (a:=mV 6) (x:=.lst ((kL ae ag p).map D.str)) rfl rfl) (by rw[aP];omega) MA) rfl hl)))
 subst he;rw[show([ac (W.d (ak ae ag))]++cu (7-1) af)=[ac (W.d (ak ae ag)),af,af,af,af,af,af]from rfl];rw[aM (e':=[ac (.d (ak ae ag)),ac (.d (a6 ae)),ac (.d (dm ag)),af,af,af,af]) rfl];rw[aM (e':=[ac (.d (ak ae ag)),ac (.d (a6 ae)),ac (.d (dm ag)),ac (.d (.lst [])),af,af,af]) (bD (kF _))];rw[aM ((eR (et (a:=aN nX [(wD (mV 1))]) (x:=aJ (prs ae)) (i6 rfl (EC hn)) rfl)).trans f1)];rw[dR (bu (call2 rfl rfl d8))];rfl
end Mr
namespace Mr
open PySem Mi
open My (words gF gH)
theorem RG:("abcdefghijklmnopqrstuvwxyz" : Str).cps.toList=(bP 26).map (· + 97):=by decide +kernel
theorem PZ{a b c:E}{e:Mi.Env}{i j k:Int}(ha:a e=.ok (.int i))(hb:b e=.ok (.int j))(hc:c e=.ok (.int k))(h1:i<=j)(h2:j<=k):wR rX rX a b c e=.ok (.bl true):=by unfold wR;rw[ha,aK,hb,aK];show(Rs.ok (D.bl (decide (i<=j)))).bind _=_;rw[cV h1,aK,rC,aK,a8 rfl,hc,aK];show Rs.ok (D.bl (decide (j<=k)))=_;rw[cV h2]
theorem QU{l:List Nat}(hw:gF l):rA [.d (.str (S' l))]=.ok (.d (.bl true)):=by
 unfold rA IM;rw[Ba];rw[show([ac (W.d (.str (S' l)))]++cu (1-1) af)=[ac (W.d (.str (S' l)))]from rfl];obtain⟨h1,h8,hl⟩:=hw;have hc:dE (.n 0) eK (m2 bC (mV 0) (mC (.str "abcdefghijklmnopqrstuvwxyz"))) [af] (l.map λc=>D.str (S' [c]))=.ok ((l.filter λ_=>true).map λc=>D.bl ((λ_=>true) c)):=
  gr (λc=>D.str (S' [c])) (λc=>D.bl ((λ_=>true) c)) (λ_=>true) l λc hcl=>⟨[ac (.d (.str (S' [c])))],rfl,rfl,λ_=>aw (x:=.str (S' [c])) rfl rfl (by
   show bp ((S' [c]).length=1) (Rs.ok (D.bl (decide ((S' [c]).cps.getD 0 0∈("abcdefghijklmnopqrstuvwxyz" : Str).cps.toList))))=_;have hm:(S' [c]).cps.getD 0 0∈("abcdefghijklmnopqrstuvwxyz" : Str).cps.toList:=by rw[RG];have:=hl c hcl;exact cX.mpr ⟨c-97,e5.mpr (by omega),by show c-97+97=c;omega⟩
   rw[aG (by rw[kx];rfl),cV hm])⟩
 rw[qR.mpr (λ_ _=>rfl)]at hc;have h2:mN A4 [(cq [af] (bA (mV 0)) (.n 0) eK (m2 bC (mV 0) (mC (.str "abcdefghijklmnopqrstuvwxyz"))))] [ac (W.d (.str (S' l)))]=.ok (.bl true):=by refine(eB (fb (ρ:=[af]) (et (a:=mV 0) (x:=.str (S' l)) rfl rfl) (by rw[aP,wO];omega) hc)).trans ?_;rw[RS,Oa,nU,aK,List.all_map];show Rs.ok (D.bl (l.all λ_=>true))=_;rw[y8.mpr (λ_ _=>rfl)]
 have h3:wR rX rX (mC (.int 1)) (mN bR [(mV 0)]) (mC (.int 8)) [ac (W.d (.str (S' l)))]=.ok (.bl true):=PZ (j:=((l.length:Nat):Int)) rfl ((eB (x:=.str (S' l)) rfl).trans (by rw[TW,aG (by rw[kx];omega),kx])) rfl (by omega) (by omega);rw[dR (bu (qD h3 λ_=>h2))];rfl
theorem BD{α:Type}{l:List α}(nd:l.Nodup){i:Nat}{x:α}(hx:l[i]? = ac x):x∉l.take i:=λz=>by
 obtain⟨il,hxe⟩:=fe.mp hx;obtain⟨j,hj⟩:=sZ z;have hj2:=(fe.mp hj).1;rw[i7]at hj2;rw[Lf (by omega)]at hj;obtain⟨jl,hje⟩:=fe.mp hj;have:=(tE nd).mp (hje.trans hxe.symm);omega
def both(xs:List Ar):List Ar:=xs.flatMap λp=>[p,(p.2,p.1)]
end Mr
namespace Mr
open PySem Mi
open My (words gF gH)
def se(p:Ar):List Str:=[p.1,p.2]
theorem B0{α:Type}(xs:List α)(k:Nat):eP xs (ac (k:Int)) af=xs.drop k:=by
 have e:eo xs.length 0 (ac (k:Int))=min k xs.length:=by show(if(k:Int)<0 then((k:Int)+(xs.length:Int)).toNat else min (k:Int).toNat xs.length)=_;rw[a7 (by omega),iP]
 unfold eP;rw[e,show eo xs.length xs.length af=xs.length from rfl];rcases zy k xs.length with h|h
 ·rw[zr h];exact qQ (by rw[iy];exact bU _)
 ·rw[zq h,Nat.sub_self,List.take_zero,vZ h]
end Mr
namespace Mr
open PySem Mi
theorem J9{c:C}{e:Mi.Env}{b:Bool}(h:c e=.ok b):cP c e=.ok b:=QS h
theorem HU{s t:S}{e:Mi.Env}{z:hW}(h:s e=.ex z):aE s t e=.ex z:=by unfold aE;rw[h];rfl
theorem xK{f:Fn}{a b:EW}{e:Mi.Env}{x y:W}{z:hW}(h:a e=.ok x)(h':b e=.ok y)(hf:f [x,y]=.ex z):mj f [a,b] e=.ex z:=by unfold mj;rw[cG,h,aK,cG,h',aK,cG,aK];show((f [x,y]).bind λ_=>_)=_;rw[hf];rfl
abbrev nn:D:=.lst [.str "NoName"]
theorem QJ{i:Nat}{cs:List String}{b h:S}{e:Mi.Env}{z:hW}{o:Out}(hb:b e=.ex z)(hc:z.cls∈cs)(hh:h (e.set i (ac (.ex z.cls)))=.ok o):uG i cs b h e=.ok (G4 i o):=by unfold uG;rw[hb];show bp _ _=_;rw[aG hc,hh];rfl
def jp:Str := "zqxjkvbpygfwmucldrhsnioate"
theorem Gz:jp.length=26:=by decide +kernel
theorem Sn:∀c∈jp.cps.toList,c<128:=by decide +kernel
def nC(c:Nat):Str:=⟨#[c]⟩
def lv:List Str:=jp.cps.toList.map nC
theorem xC:lv.length=26:=by decide +kernel
theorem QX:lv.Nodup:=by decide +kernel
end Mr
namespace Mr
open PySem Mi
open My (words gF gH)
theorem Qs{f:Fn}{a b c g:EW}{e:Mi.Env}{x y z u:W}{d:D}(h:a e=.ok x)(h':b e=.ok y)(h'':c e=.ok z)(h3:g e=.ok u)(hf:f [x,y,z,u]=.ok (.d d)):aN f [a,b,c,g] e=.ok d:=by unfold aN lj;rw[cG,h,aK,cG,h',aK,cG,h'',aK,cG,h3];simp only[aK,cG,hf,o0]
theorem HE{tg:Tg}{b:S}{d:D}{r:List D}{e e0 e1:Mi.Env}{o:Rs Out}(hp:tg.put d e=.ok e0)(hb:b e0=.ok (.nx e1))(t:gL tg b r e1=o):gL tg b (d::r) e=o:=by rw[gL,hp,aK,hb,aK];exact t
theorem GC{i:Int}(h0:0<=i)(h1:i<26):∃c,c<128/\au (.str jp) (.int i)=.ok (.str (nC c)):=by
 have hl:(jp.cps.toList.length:Int)=26:=by have:=Gz;rw[wx];exact congrArg Int.ofNat this
 have hi:i<(jp.cps.toList.length:Int):=by rw[hl];exact h1
 have ha:=x8 (xs:=jp.cps.toList) h0 hi 0;refine⟨jp.cps.toList.getD i.toNat 0,Sn _ ?_,?_⟩
 ·have hn:i.toNat<jp.cps.toList.length:=by omega
  rw[fB,fE hn];exact n9 hn
 ·show bp _ _=_;rw[aG (by rw[Gz];decide),ha];rfl
theorem Jx{α:Type}(f:α->Nat):∀(l m:List α),l.Pairwise (λa b=>f a<f b)->m.Pairwise (λa b=>f a<f b)->(∀x,x∈l↔x∈m)->l=m
 |[],[],_,_,_=>rfl
 |[],b::t,_,_,h=>nomatch (h b).mpr (cW ..)
 |a::r,[],_,_,h=>nomatch (h a).mp (cW ..)
 |a::r,b::t,hl,hm,h=>by
  have l1:=jw.mp hl;have m1:=jw.mp hm;have e:a=b:=by
   rcases bZ.mp ((h a).mp (cW ..))with z|z
   ·exact z
   ·rcases bZ.mp ((h b).mpr (cW ..))with y|y
    ·exact y.symm
    ·have k1:=m1.1 a z;have k2:=l1.1 b y;omega
  subst e;rw[Jx f r t l1.2 m1.2 λx=>⟨λhx=>by
   rcases bZ.mp ((h x).mp (eL _ hx))with z|z
   ·have:=l1.1 x hx;rw[z]at this;omega
   ·exact z,λhx=>by
   rcases bZ.mp ((h x).mpr (eL _ hx))with z|z
   ·have:=m1.1 x hx;rw[z]at this;omega
   ·exact z⟩]
end Mr
namespace Mr
open PySem Mi
open My (words gF gH)
end Mr
namespace Mr
open PySem Mi
open My (words gF gH)
def ixs(ae:List Str)(B:List Ar):List Ix:=(bP ae.length).flatMap λi=>((bP ae.length).filter λj=>decide ((nth ae i,nth ae j)∈B)).map λj=>(i,j)
theorem IA(ae:List Str):(bP ae.length).map (nth ae)=ae:=by refine List.ext_getElem (by rw[aP,v5]) λi h1 h2=>?_;rw[List.getElem_map,Lx];unfold nth;rw[fB,fE h2];rfl
theorem KP(ae:List Str)(B:List Ar):(ixs ae B).map (arrOf ae)=d8 ae B:=by
 unfold ixs d8;rw[mq];have e:ae.flatMap (λt=>(ae.filter λh=>decide ((t,h)∈B)).map λh=>(t,h))=((bP ae.length).map (nth ae)).flatMap (λt=>(ae.filter λh=>decide ((t,h)∈B)).map λh=>(t,h)):=by rw[IA]
 rw[e,List.flatMap_map];refine j2 λi _=>?_;have e2:ae.filter (λh=>decide ((nth ae i,h)∈B))=((bP ae.length).map (nth ae)).filter (λh=>decide ((nth ae i,h)∈B)):=by rw[IA]
 rw[e2,List.filter_map,eS,eS];rfl
theorem Cy{ae:List Str}{B:List Ar}{p:Ix}:p∈ixs ae B↔p.1<ae.length/\p.2<ae.length/\(nth ae p.1,nth ae p.2)∈B:=by
 unfold ixs;rw[pH];constructor
 ·rintro⟨i,hi,h⟩;obtain⟨j,hj,rfl⟩:=cX.mp h;obtain⟨h1,h2⟩:=dS.mp hj;exact⟨e5.mp hi,e5.mp h1,uw h2⟩
 ·rintro⟨h1,h2,h3⟩;exact⟨p.1,e5.mpr h1,cX.mpr ⟨p.2,dS.mpr ⟨e5.mpr h2,cV h3⟩,rfl⟩⟩
theorem uW{α:Type}[DecidableEq α]:∀{l m:List α},l.Nodup->m.Nodup->(∀x,x∈l↔x∈m)->l.Perm m
 |[],m,_,_,h=>by
  cases m with
  |nil=>exact .nil
  |cons a r=>exact nomatch (h a).mpr (cW ..)
 |a::r,m,hl,hm,h=>by
  have l1:=kg.mp hl;have ha:=(h a).mp (cW ..);have p:=List.perm_cons_erase ha;refine(List.Perm.cons a (uW l1.2 (hm.erase a) λx=>?_)).trans p.symm;rw[hm.mem_erase_iff];constructor
  ·exactλhx=>⟨λz=>l1.1 (z ▸ hx),(h x).mp (eL _ hx)⟩
  ·rintro⟨h1,h2⟩;rcases bZ.mp ((h x).mpr h2)with z|z
   ·exact absurd z h1
   ·exact z
theorem Jr{ae:List Str}(nd:ae.Nodup)(h8:ae.length<=8)(B:List Ar):(d8 ae B).Nodup:=by
 rw[<- KP];refine ke.mpr (DJ (R:=eg) (λ{p q} hp hq h z=>?_) ?_)
 ·obtain⟨a,b,_⟩:=Cy.mp hp;obtain⟨c,d,_⟩:=Cy.mp hq;have e1:=qk nd a c (congrArg Prod.fst z);have e2:=qk nd b d (congrArg Prod.snd z);rcases h with h|⟨_,h⟩<;>omega
 ·unfold ixs;rw[sX];refine⟨λi _=>?_,?_⟩
  ·rw[ke];exact(L6 _ sW).imp λ{a b} h=>.inr ⟨rfl,h⟩
  ·refine sW.imp λ{a b} h=>?_;intro x hx y hy;obtain⟨j,_,rfl⟩:=cX.mp hx;obtain⟨j',_,rfl⟩:=cX.mp hy;exact .inl h
structure Gd(ae:List Str)(ag:List Ar):Prop where
 nd:ae.Nodup
 pos:1<=ae.length
 le:ae.length<=8
 rk:Rk ag
 d8:d8 ae ag=ag
 wd:∀x∈ae,rA [.d (.str x)]=.ok (.d (.bl true))
theorem Gd.inn{ae:List Str}{ag:List Ar}(G:Gd ae ag):∀p∈ag,p.1∈ae/\p.2∈ae:=λp hp=>by
 rw[<- G.d8]at hp;exact(uU.mp hp).2
theorem Gd.al{ae:List Str}{ag:List Ar}(G:Gd ae ag):ag.length<=64:=by rw[<- G.d8];exact CJ G.le _
theorem Gd.nt{ae:List Str}{ag:List Ar}(G:Gd ae ag):Nt ae ag:=⟨G.nd,G.le,G.al,G.inn,G.rk⟩
theorem Gd.nodup{ae:List Str}{ag:List Ar}(G:Gd ae ag):ag.Nodup:=by rw[<- G.d8];exact Jr G.nd G.le _
theorem Tx{ae:List Str}{B:List Ar}:d8 ae (d8 ae B)=d8 ae B:=by
 unfold d8;refine j2 λt ht=>?_
 congr 1
 refine y7 λh hh=>?_;rw[AK];exact⟨λz=>(uU.mp z).1,λz=>uU.mpr ⟨z,ht,hh⟩⟩
theorem Gd.of{ae:List Str}{B:List Ar}(nd:ae.Nodup)(h1:1<=ae.length)(h8:ae.length<=8)(wd:∀x∈ae,rA [.d (.str x)]=.ok (.d (.bl true)))(R:Rk B):Gd ae (Mr.d8 ae B):=⟨nd,h1,h8,R.sub λp hp=>(uU.mp hp).1,Tx,wd⟩
end Mr
namespace Mr
open PySem Mi
open My (words gF gH)
theorem IR{ag:List Ar}(hl:ag.length<=64)(x:Str):mF [.d (aJ ag),.d (.str x)]=.ok (.d (am (cZ ag x))):=by
 unfold mF Fv;rw[oX];rw[show([ac (W.d (aJ ag)),ac (W.d (.str x))]++cu (2-2) af)=[ac (W.d (aJ ag)),ac (W.d (.str x))]from rfl];have hc:dE (.t [1,2]) (cB (m2 bK (mV 2) (mV 0))) (mV 1) [ac (.d (.str x)),af,af] (ag.map pairD)=.ok ((ag.filter λp=>decide (p.2=x)).map λp=>D.str p.1):=
  gr pairD (λp=>D.str p.1) (λp=>decide (p.2=x)) ag λp _=>⟨[ac (.d (.str x)),ac (.d (.str p.1)),ac (.d (.str p.2))],rfl,bB (aw rfl rfl (xR p.2 x)),λ_=>rfl⟩
 rw[dR (bu (fb (ρ:=[ac 1,af,af]) (et (a:=mV 0) (x:=aJ ag) rfl rfl) (by rw[aP];omega) hc))];show Rs.ok (W.d (.lst _))=_;unfold cZ am;rw[eS];rfl
structure Lk(ae:List Str)(ag:List Ar):Prop where
 nd:ae.Nodup
 le:ae.length<=8
 al:ag.length<=64
 inn:∀p∈ag,p.1∈ae/\p.2∈ae
 rk:Rk ag
 nda:ag.Nodup
theorem Gd.lk{ae:List Str}{ag:List Ar}(G:Gd ae ag):Lk ae ag:=⟨G.nd,G.le,G.al,G.inn,G.rk,G.nodup⟩
theorem Lk.nt{ae:List Str}{ag:List Ar}(G:Lk ae ag):Nt ae ag:=⟨G.nd,G.le,G.al,G.inn,G.rk⟩
theorem Lk.vC{ae:List Str}{ag:List Ar}(G:Lk ae ag)(x:Str):(cZ ag x).Nodup:=by unfold cZ;refine ke.mpr ((G.nda.filter _).imp_of_mem λ{p q} hp hq h z=>h ?_);have h1:=uw (dS.mp hp).2;have h2:=uw (dS.mp hq).2;exact zO z (h1.trans h2.symm)
theorem Lk.rR{ae:List Str}{ag:List Ar}(G:Lk ae ag)(x:Str):(cZ ag x).length<=8:=c7 (jx (G.vC x) λy hy=>(G.inn _ (mQ.mp hy)).1) G.le
theorem Lk.PY{ae:List Str}{ag:List Ar}(G:Lk ae ag)(x:Str):(x,x)∉ag:=λh=>by
 obtain⟨k,hk⟩:=G.rk;have:=hk _ h;simp only at this;omega
def nR(ag:List Ar)(p:Ar):Bool:=decide (jM (cZ ag p.2)=jM (cZ ag p.1++[p.1]))
theorem Lk.nR{ae:List Str}{ag:List Ar}(G:Lk ae ag)(t h:Str):Mr.nR ag (t,h)=cov ag (t,h):=by
 have n2:(cZ ag t++[t]).Nodup:=by rw[pE];refine⟨G.vC t,(by simp),λa ha b hb z=>?_⟩;rw[fg.mp hb]at z;rw[z]at ha;exact G.PY t (mQ.mp ha)
 have mem:∀x,x∈cZ ag t++[t]↔(x,t)∈ag\/x=t:=λx=>by rw[fG,mQ,fg]
 show decide _=oC (cZ ag h) (cZ ag t++[t]);cases hs:oC (cZ ag h) (cZ ag t++[t])with
 |true=>
  have k:=Cz.mp hs;exact cV (G0.mpr (uW (G.vC h) n2 λx=>by rw[mQ,mem];exact k x))
 |false=>
  refine d6 λz=>?_;have pm:=G0.mp z;have:oC (cZ ag h) (cZ ag t++[t])=true:=Cz.mpr λx=>by rw[<- mem,<- mQ];exact pm.mem_iff
  rw[hs]at this;cases this
theorem Nx(xs ys:List Str):bK (am xs) (am ys)=.ok (.bl (decide (xs=ys))):=by unfold bK am;rw[aG (by simp),bM,Bw]
theorem F7{xs:List Str}(h:xs.length<64):pf [am xs]=.ok (am (jM xs)):=by show(cy (ir (xs.map D.str))).bind _=_;rw[A7,nU,aK];exact aG h
theorem Tw{ae:List Str}{ag:List Ar}(G:Lk ae ag):qh [.d (aJ ag)]=.ok (.d (aJ (ag.filter (cov ag)))):=by
 have hal:=G.al;unfold qh GL;rw[uq];rw[show([ac (W.d (aJ ag))]++cu (4-1) af)=[ac (W.d (aJ ag)),af,af,af]from rfl];have efl:(ag.flatMap λp=>if Mr.nR ag p=true then[pairD p]else[])=(ag.filter (cov ag)).map pairD:=by
  rw[rY (Mr.nR ag) pairD]
  congr 1
  exact y7 λp _=>G.nR p.1 p.2
 have hfl:(ag.flatMap λp=>if Mr.nR ag p=true then[pairD p]else[]).length<=64:=by rw[efl,aP];exact c7 (ju _ _) hal
 obtain⟨e',f1,o2,o3,he⟩:=jN (tg:=.t [2,3]) (body:=(bq (cB (m2 bK (mN pf [(aN mF [(wD (mV 0)),(wD (mV 3))])]) (mN pf [(m2 bc (aN mF [(wD (mV 0)),(wD (mV 2))]) (mN b9 [(mV 2)]))])))
 (ek 1 (mN dTup [(mV 2),(mV 3)]))
 bw))
  pairD (λp=>if Mr.nR ag p=true then[pairD p]else[])
  (λacc e=>∃o2 o3:Option W,e=[ac (.d (aJ ag)),ac (.d (.lst acc)),o2,o3]) ag [] [ac (.d (aJ ag)),ac (.d (.lst [])),af,af] (by simp only[iz];omega) ⟨af,af,rfl⟩
  (λp hp acc e hl ⟨o2,o3,he⟩=>by
   subst he;have l2:=G.rR p.2;have l1:=G.rR p.1;have hc:cB (m2 bK (mN pf [(aN mF [(wD (mV 0)),(wD (mV 3))])]) (mN pf [(m2 bc (aN mF [(wD (mV 0)),(wD (mV 2))]) (mN b9 [(mV 2)]))])) [ac (.d (aJ ag)),ac (.d (.lst acc)),ac (.d (.str p.1)),ac (.d (.str p.2))]=.ok (Mr.nR ag p):=
    bB (aw ((eB (call2 rfl rfl (IR hal p.2))).trans (F7 (by omega)))
     ((eB (x:=am (cZ ag p.1++[p.1])) (aw (call2 rfl rfl (IR hal p.1)) (nz rfl) ((qF _ _).trans ((aG (by rw[aP];simp only[eG,iz];omega)).trans (by unfold am;rw[iM];rfl))))).trans (F7 (by rw[dz];simp only[eG,iz];omega)))
     (Nx _ _))
   cases hk:Mr.nR ag p with
   |false=>
    rw[hk]at hc;rw[a7 dJ,i8];exact⟨[ac (.d (aJ ag)),ac (.d (.lst acc)),ac (.d (.str p.1)),ac (.d (.str p.2))],_,rfl,(dQ hc).trans rfl,_,_,rfl⟩
   |true=>
    rw[hk]at hc;rw[hk,a8 rfl]at hl;rw[a8 rfl];refine⟨[ac (.d (aJ ag)),ac (.d (.lst acc)),ac (.d (.str p.1)),ac (.d (.str p.2))],[ac (.d (aJ ag)),ac (.d (.lst (acc++[pairD p]))),ac (.d (.str p.1)),ac (.d (.str p.2))],rfl,?_,_,_,rfl⟩;exact(fk hc).trans (vv (fw rfl rfl) rfl (by simp only[eG,iz]at hl;omega)))
 subst he;rw[aM (e':=[ac (.d (aJ ag)),ac (.d (.lst [])),af,af]) (bD (kF _))];rw[aM ((eR (et (a:=mV 0) (x:=aJ ag) rfl rfl)).trans f1)];unfold aJ;rw[<- efl];rfl
end Mr
namespace Mr
open PySem Mi
open My (words gF gH)
structure Sm(ae:List Str)(A B:List Ar):Prop where
 ti:ce ae A=ce ae B
 cr:bX ae A=bX ae B
theorem yj(ag:List Ar)(a b:Str):tie ag a b=tie ag b a:=by unfold tie;rw[Bool.or_comm]
theorem ji{ag:List Ar}{a b:Str}:tie ag a b=true↔(a,b)∈ag\/(b,a)∈ag:=by unfold tie;rw[zo,j6,j6]
theorem yD{ae:List Str}{a b:Str}(ha:a∈ae)(hb:b∈ae)(ne:a≠b):(a,b)∈prs ae\/(b,a)∈prs ae:=by
 obtain⟨i,hi,rfl⟩:=yC ha;obtain⟨j,hj,rfl⟩:=yC hb;rcases Nat.lt_trichotomy i j with h|h|h
 ·exact .inl (ml.mpr ⟨i,hi,rfl,BU h hj⟩)
 ·exact absurd (by rw[h]) ne
 ·exact .inr (ml.mpr ⟨j,hj,rfl,BU h hi⟩)
theorem Sm.of{ae:List Str}{A B:List Ar}(nd:ae.Nodup)(h1:∀a∈ae,∀b∈ae,Mr.tie A a b=Mr.tie B a b)(h2:bX ae A=bX ae B):Sm ae A B:=⟨y7 λp hp=>h1 p.1 (qq hp).1 p.2 (qq hp).2,h2⟩
theorem Sm.symm{ae:List Str}{A B:List Ar}(S:Sm ae A B):Sm ae B A:=⟨S.ti.symm,S.cr.symm⟩
end Mr
namespace Mr
open PySem Mi
open My (words gF gH)
theorem yq(xs ys:List Str):gp (a6 xs) (a6 ys)=.ok (.bl (!decide (xs=ys))):=by unfold gp a6;rw[aG (by simp),bM,Bw]
theorem FJ(xs ys:List Ar):bK (aJ xs) (aJ ys)=.ok (.bl (decide (xs=ys))):=by unfold bK aJ;rw[aG (by rw[KZ];have:=vD xs;omega),bM,J3]
def jG(ae:List Str)(A B:List Ar):Bool:=decide (ce ae A=ce ae B)&&decide (bX ae A=bX ae B)
theorem vc{ae:List Str}{A B:List Ar}:jG ae A B=true↔Sm ae A B:=by unfold jG;rw[km,j6,j6];exact⟨λh=>⟨h.1,h.2⟩,λh=>⟨h.ti,h.cr⟩⟩
theorem EO{ae:List Str}{A B:List Ar}(GA:Gd ae A)(GB:Gd ae B):lT [.d (ak ae A),.d (ak ae B)]=.ok (.d (.bl (jG ae A B))):=by
 unfold lT Gk;rw[gq];rw[show([ac (W.d (ak ae A)),ac (W.d (ak ae B))]++cu (2-2) af)=[ac (W.d (ak ae A)),ac (W.d (ak ae B))]from rfl];have hr:lq [.d (ak ae A),.d (ak ae B)]=.ok (.d .non):=by unfold lq xP;rw[gq];rw[(dQ (bB ((aw (aw rfl rfl (fP ae A)) (aw rfl rfl (fP ae B)) (yq ae ae)).trans (by rw[cV rfl];rfl))))];rfl
 rw[aM (yB (call2 rfl rfl hr))];rw[dR (bu (qD (aw (i6 rfl (xF GA.le)) (i6 rfl (xF GB.le)) (FJ _ _)) λ_=>aw (i6 rfl (yK GA.nt)) (i6 rfl (yK GB.nt)) (Fx _ _)))];rfl
theorem P0:vF [.ex "Unlike"]=.ok (.d (.lst [.str "Unlike"])):=by rfl
theorem Lk.e9{ae:List Str}{L:List Ar}(G:Lk ae L){p:Ar}(hp:p∈L)(hc:cov L p=true):Lk ae (Mr.e9 p L):=by
 have inn:∀q∈Mr.e9 p L,q.1∈ae/\q.2∈ae:=λq hq=>by
  rcases(CS hp).mp hq with ⟨h1,_⟩|rfl
  ·exact G.inn q h1
  ·exact⟨(G.inn _ hp).2,(G.inn _ hp).1⟩
 refine⟨G.nd,G.le,by rw[J7];exact G.al,inn,yu (ae:=ae) inn ?_,?_⟩
 ·have:=Rr G.nd G.inn G.rk (t:=p.1) (h:=p.2) hp;rw[show oC (cZ L p.2) (cZ L p.1++[p.1])=true from hc]at this;have:=this.symm;rw[km,wj]at this;exact this.1
 ·unfold Mr.e9;refine ke.mpr (G.nda.imp_of_mem λ{a b} ha hb ne z=>?_);have th:∀q∈L,q≠(p.2,p.1):=λq hq e=>by
   obtain⟨k,hk⟩:=G.rk;have h1:=hk _ hp;have h2:=hk _ hq;rw[e]at h2;simp only at h2;omega
  by_cases e1:a=p<;>by_cases e2:b=p
  ·exact ne (e1.trans e2.symm)
  ·rw[a8 e1,a7 e2,e1]at z;exact th b hb z.symm
  ·rw[a7 e1,a8 e2,e2]at z;exact th a ha z
  ·rw[a7 e1,a7 e2]at z;exact ne z
end Mr
namespace Mr
open PySem Mi
open My (words gF gH)
theorem uJ.gd{ae:List Str}{A:List Ix}{r:Nat->Int}(N:uJ ae A r)(hw:∀x∈ae,rA [.d (.str x)]=.ok (.d (.bl true))):Gd ae (A.map (arrOf ae)):=by
 refine⟨N.nd,N.pos,N.le,N.c9.rk,?_,hw⟩;rw[<- KP]
 congr 1
 refine(Jx (λp:Ix=>p.1*8+p.2) _ _ ?_ ?_ λp=>?_)
 ·unfold ixs;have h8:=N.le;rw[sX];refine⟨λi _=>?_,?_⟩
  ·rw[ke];refine(L6 _ sW).imp λ{a b} h=>?_;show i*8+a<i*8+b;omega
  ·refine sW.imp λ{a b} h=>?_;intro x hx y hy;obtain⟨j,hj,rfl⟩:=cX.mp hx;obtain⟨j',_,rfl⟩:=cX.mp hy;have:=e5.mp (dS.mp hj).1;show a*8+j<b*8+j';omega
 ·refine N.d8.imp_of_mem λ{p q} hp hq h=>?_;have h1:=(N.all p hp).2.1;have h8:=N.le;rcases h with h|⟨e,h⟩
  ·show p.1*8+p.2<q.1*8+q.2;omega
  ·show p.1*8+p.2<q.1*8+q.2;omega
 ·rw[Cy];constructor
  ·rintro⟨h1,h2,h3⟩;obtain⟨q,hq,e⟩:=cX.mp h3;have e1:=qk N.nd (N.all q hq).1 h1 (congrArg Prod.fst e);have e2:=qk N.nd (N.all q hq).2.1 h2 (congrArg Prod.snd e);have:q=p:=zO e1 e2;rw[<- this];exact hq
  ·exactλh=>⟨(N.all p h).1,(N.all p h).2.1,cX.mpr ⟨p,h,rfl⟩⟩
end Mr
namespace Mr
open PySem Mi
open My (words gF gH)
theorem Pq{ae:List Str}{A:List Ar}(G:Gd ae A)(d:Int):∃X,rH [.d (ak ae A),.d (.int d)]=.ok (.d (ak ae (d8 ae X)))/\Rk X:=by
 have q0:=gi d (b:=7) (by decide);have q1:=gf d (b:=7) (by decide);obtain⟨n,hn⟩ : ∃n:Nat,d%7=(n:Int):=⟨(d%7).toNat,by omega⟩;obtain⟨e',f1,L,w,o4,o5,he,hL⟩:=iT (tg:=.n 4) (body:=(aE (bf 5 (aN qh [(wD (mV 2))]))
 (aE (bf 3 (m2 bG (m2 bc (m2 dM (mV 3) (mC (.int 48271))) (mC (.int 11))) (mC (.int 2147483647))))
 (bq (cB (m2 gV (mN bR [(mV 5)]) (mC (.int 0))))
 (bf 2 (aN oS [(wD (mV 2)),(wD (m2 au (mV 5) (m2 bG (m2 c5 (mV 3) (mC (.int 16))) (mN bR [(mV 5)]))))]))
 bw))))
  (λi e=>∃(L:List Ar) (w:Int) (o4 o5:Option W),e=[ac (W.d (ak ae A)),ac (W.d (.int d)),ac (W.d (aJ L)),ac (W.d (.int w)),o4,o5]/\Lk ae L) (dA 0 (n:Int)) 0 (λi x e hx ⟨L,w,o4,o5,he,hL⟩=>by
   subst he;obtain⟨hi,rfl⟩:=sK hx;obtain⟨w',hw'⟩ : ∃w',w'=(w*48271+11)%2147483647:=⟨_,rfl⟩;have cv:=Tw hL;obtain⟨C,hC⟩ : ∃C,C=L.filter (cov L):=⟨_,rfl⟩;rw[<- hC]at cv;have s1:=bD (i:=5) (i6 (f:=qh) (a:=wD (mV 2)) (e:=[ac (W.d (ak ae A)),ac (W.d (.int d)),ac (W.d (aJ L)),ac (W.d (.int w)),ac (W.d (.int (i:Int))),o5]) rfl cv);have s2:bf 3 (m2 bG (m2 bc (m2 dM (mV 3) (mC (.int 48271))) (mC (.int 11))) (mC (.int 2147483647))) [ac (W.d (ak ae A)),ac (W.d (.int d)),ac (W.d (aJ L)),ac (W.d (.int w)),ac (W.d (.int (i:Int))),ac (W.d (aJ C))]=.ok (.nx [ac (W.d (ak ae A)),ac (W.d (.int d)),ac (W.d (aJ L)),ac (W.d (.int w')),ac (W.d (.int (i:Int))),ac (W.d (aJ C))]):=
    bD (aw (aw (aw rfl rfl ((Br _ _).trans (aG (yF (by decide) (by decide))))) rfl (qL _ _)) rfl ((jt _ _).trans ((aG (by decide)).trans (by rw[hw']))))
   have lc:mN bR [(mV 5)] [ac (W.d (ak ae A)),ac (W.d (.int d)),ac (W.d (aJ L)),ac (W.d (.int w')),ac (W.d (.int (i:Int))),ac (W.d (aJ C))]=.ok (.int (C.length:Int)):=(eB (x:=aJ C) rfl).trans (by unfold aJ;rw[nA,aP]);have ct:=bB (aw (b:=mC (.int 0)) lc rfl (yT (C.length:Int) 0));by_cases h0:(0:Int)<(C.length:Int)
   ·rw[cV h0]at ct;obtain⟨p,hp,hx⟩:=KJ (xs:=C) (gi (w'/16) (b:=(C.length:Int)) (by omega)) (gf (w'/16) h0);rw[hC]at hp;obtain⟨hp1,hp2⟩:=dS.mp hp;refine⟨[ac (W.d (ak ae A)),ac (W.d (.int d)),ac (W.d (aJ L)),ac (W.d (.int w)),ac (W.d (.int (i:Int))),o5],[ac (W.d (ak ae A)),ac (W.d (.int d)),ac (W.d (aJ (e9 p L))),ac (W.d (.int w')),ac (W.d (.int (i:Int))),ac (W.d (aJ C))],rfl,?_,e9 p L,w',_,_,rfl,hL.e9 hp1 hp2⟩;rw[aM s1];refine(aM s2).trans ((fk ct).trans (bD (call2 (x:=.d (aJ L)) (y:=.d (pairD p)) rfl (bu (aw (x:=aJ C) rfl (aw (aw rfl rfl ((div_ii _ _).trans (aG (io (by decide) (by decide))))) lc ((jt _ _).trans (aG h0))) hx)) (Jz (by have:=hL.al;omega)))))
   ·rw[d6 h0]at ct;refine⟨[ac (W.d (ak ae A)),ac (W.d (.int d)),ac (W.d (aJ L)),ac (W.d (.int w)),ac (W.d (.int (i:Int))),o5],[ac (W.d (ak ae A)),ac (W.d (.int d)),ac (W.d (aJ L)),ac (W.d (.int w')),ac (W.d (.int (i:Int))),ac (W.d (aJ C))],rfl,?_,L,w',_,_,rfl,hL⟩;rw[aM s1];exact(aM s2).trans ((dQ ct).trans rfl)) [ac (W.d (ak ae A)),ac (W.d (.int d)),ac (W.d (aJ A)),ac (W.d (.int (d%2147483647))),af,af] ⟨A,_,af,af,rfl,G.lk⟩
 subst he;have rg:fo (m2 bG (mV 1) (mC (.int 7))) [ac (W.d (ak ae A)),ac (W.d (.int d)),ac (W.d (aJ A)),ac (W.d (.int (d%2147483647))),af,af]=.ok (dA 0 (n:Int)):=
  iL (aw rfl rfl ((jt _ _).trans ((aG (by decide)).trans (by rw[hn])))) (nI (by omega) (by omega))
 obtain⟨X,RX,hif⟩ : ∃X,Rk X/\(bq (cB (m2 bK (m2 bG (m2 c5 (mV 1) (mC (.int 7))) (mC (.int 2))) (mC (.int 1))))
 (bf 2 (aN ri [(wD (m2 au (mV 0) (mC (.int 0)))),(wD (mV 2)),(wD (m2 c5 (mV 3) (mC (.int 8))))]))
 bw) [ac (W.d (ak ae A)),ac (W.d (.int d)),ac (W.d (aJ L)),ac (W.d (.int w)),o4,o5]=.ok (.nx [ac (W.d (ak ae A)),ac (W.d (.int d)),ac (W.d (aJ X)),ac (W.d (.int w)),o4,o5]):=by
  have ct:=bB (aw (b:=mC (.int 1)) (aw (b:=mC (.int 2)) (aw (a:=mV 1) (b:=mC (.int 7)) (e:=[ac (W.d (ak ae A)),ac (W.d (.int d)),ac (W.d (aJ L)),ac (W.d (.int w)),o4,o5]) rfl rfl ((div_ii _ _).trans (aG (io (by decide) (by decide))))) rfl ((jt _ _).trans (aG (by decide)))) rfl (lJ (d/7%2) 1));cases hk:decide (d/7%2=1)with
  |false=>
   rw[hk]at ct;exact⟨L,hL.rk,(dQ ct).trans rfl⟩
  |true=>
   rw[hk]at ct;obtain⟨B,hB,RB,_⟩:=R3 hL.nt (w/8);exact⟨B,RB,(fk ct).trans (bD (oY (bu (aw rfl rfl (fP ae A))) rfl (bu (aw rfl rfl ((div_ii _ _).trans (aG (io (by decide) (by decide)))))) hB))⟩
 refine⟨X,?_,RX⟩;unfold rH Fq;rw[gq];rw[show([ac (W.d (ak ae A)),ac (W.d (.int d))]++cu (6-2) af)=[ac (W.d (ak ae A)),ac (W.d (.int d)),af,af,af,af]from rfl];rw[aM (e':=[ac (W.d (ak ae A)),ac (W.d (.int d)),ac (W.d (aJ A)),af,af,af]) (bD ((eB (aw rfl rfl (jU ae A))).trans rfl))];rw[aM (e':=[ac (W.d (ak ae A)),ac (W.d (.int d)),ac (W.d (aJ A)),ac (W.d (.int (d%2147483647))),af,af]) (bD (aw rfl rfl ((jt _ _).trans (aG (by decide)))))];rw[aM ((eR rg).trans f1),aM hif];rw[dR (bu (call2 (bu (aw rfl rfl (fP ae A))) rfl (U6 (ae:=ae) (ag:=X) G.le)))];rfl
theorem Sm.refl(ae:List Str)(A:List Ar):Sm ae A A:=⟨rfl,rfl⟩
end Mr
namespace Mr
open PySem Mi
def rk(r:List Str):List Ky:=r.map e6
abbrev BF:=List (Ar×D)
def xM(told:BF):List Ar:=told.map (·.1)
theorem Sa(n:Nat)(b:S)(a0 a1 a2 a3 a4:W):dG 5 n b [a0,a1,a2,a3,a4]=(b ([ac a0,ac a1,ac a2,ac a3,ac a4]++cu (n-5) af)).bind nF:=aG rfl
end Mr
namespace Mr
open PySem Mi
structure Dc(ae:List Str)(A:List Ar)(KT KC:List (List Str)):Prop where
 kt:∀a∈ae,∀b∈ae,a≠b->([a,b]∈KT↔tie A a b=true)
 ktm:∀k∈KT,∃a b,k=[a,b]/\a∈ae/\b∈ae/\a≠b/\tie A a b=true
 kc:∀a∈ae,∀m∈ae,∀b∈ae,[a,m,b]∈KC↔a≠b/\dF A a m b=true
def Ul(t h s:Str)(x:List Str):D:=.tup [.str t,.str h,.str s,.tup (x.map D.str)]
inductive Rl(ae:List Str)(A P:List Ar)(t h:Str):Str->List Str->Prop
 |V8 {z:Str} (zn:z∈ae) (ne:t≠z) (c:dF A t h z=true):Rl ae A P t h "corner" [z]
 |on {z:Str} (zn:z∈ae) (ne:z≠h) (nt:tie A z h=false) (nc:dF A z t h=false) (p:(z,t)∈P):Rl ae A P t h "on" [z]
 |over {z:Str} (zn:z∈ae) (p:(t,z)∈P) (q:(z,h)∈P):Rl ae A P t h "over" [z]
 |both {z w:Str} (zn:z∈ae) (wn:w∈ae) (ne:z≠w) (nt:tie A z w=false) (nc:dF A z t w=false) (t1:tie A z t=true) (t2:tie A w t=true) (p:(z,h)∈P) (q:(w,h)∈P):Rl ae A P t h "both" [z,w]
section
variable{ae:List Str}{A:List Ar}{KT KC:List (List Str)}(N:Nt ae A)(D':Dc ae A KT KC){told:BF}(ht:∀p∈xM told,p∈A){t h:Str}(tn:t∈ae)(hn:h∈ae)(th:tie A t h=true)
theorem HD{A:List Ar}(R:Rk A){a b:Str}(h:(a,b)∈A):(b,a)∉A:=λz=>by
 obtain⟨r,hr⟩:=R;have h1:=hr _ h;have h2:=hr _ z;simp only at h1 h2;omega
include N D' tn hn th in
include N D' ht tn hn th in
include N ht th in
include N D' ht tn hn th in
end
end Mr
namespace Mr
open PySem Mi
theorem OH{f:Fn}{a b c d g:EW}{e:Mi.Env}{x y z u v:W}{o:D}(h1:a e=.ok x)(h2:b e=.ok y)(h3:c e=.ok z)(h4:d e=.ok u)(h5:g e=.ok v)(hf:f [x,y,z,u,v]=.ok (.d o)):aN f [a,b,c,d,g] e=.ok o:=by unfold aN lj;rw[cG,h1,aK,cG,h2,aK,cG,h3,aK,cG,h4,aK,cG,h5];simp only[aK,cG,hf,o0]
end Mr
namespace Mr
open PySem Mi
structure Gt(ae:List Str)(A:List Ar)(told:BF):Prop where
 nd:(xM told).Nodup
 sub:∀p∈xM told,p∈A
 ord:∀i q,told[i]? = ac q->∃s x,q.2=Ul q.1.1 q.1.2 s x/\Rl ae A (xM (told.take i)) q.1.1 q.1.2 s x
end Mr
namespace Mr
open PySem Mi
theorem Ci{ae:List Str}(nd:ae.Nodup){a b:Str}(h:(a,b)∈prs ae):a∈ae/\b∈ae/\a≠b:=by obtain⟨k,hk,rfl,hb⟩:=ml.mp h;exact⟨lH hk,(Ao nd hk hb).1,(Ao nd hk hb).2⟩
theorem jj{ae:List Str}{A:List Ar}{p:Ar}:p∈ce ae A↔p∈prs ae/\tie A p.1 p.2=true:=dS
def Be(T P:List Ar):List Ar:=T.filter λp=>!decide (p∈P) && !decide ((p.2,p.1)∈P)
end Mr
namespace Mr
open PySem Mi
end Mr
namespace Mr
open PySem Mi
end Mr
namespace Mr
open PySem Mi
def pk(ae:List Str)(p:Ar):Ar:=if p∈prs ae then p else(p.2,p.1)
theorem T1{ae:List Str}(nd:ae.Nodup){a b:Str}(h:(a,b)∈prs ae):(b,a)∉prs ae:=λz=>by
 obtain⟨k,hk,rfl,hb⟩:=ml.mp h;obtain⟨j,hj,rfl,ha⟩:=ml.mp z;have h1:=(Ac nd hb).1;have h2:=(Ac nd ha).1;rw[u8 nd hj]at h1;rw[u8 nd hk]at h2;omega
theorem RM{ae:List Str}{A:List Ar}(R:Rk A){p q:Ar}(hp:p∈A)(hq:q∈A)(h:pk ae p=pk ae q):p=q:=by
 unfold pk at h;split at h<;>split at h
 ·exact h
 ·subst h;exact absurd hp (HD R (a:=q.1) (b:=q.2) hq)
 ·subst h;exact absurd hq (HD R (a:=p.1) (b:=p.2) hp)
 ·rw[Prod.ext_iff]at h;exact zO h.2 h.1
theorem HS{ae:List Str}{A:List Ar}(N:Nt ae A){P:List Ar}(sub:∀p∈P,p∈A)(q:Ar):q∈P.map (pk ae)↔q∈ce ae A/\(q∈P\/(q.2,q.1)∈P):=by
 constructor
 ·intro h;obtain⟨p,hp,rfl⟩:=cX.mp h;obtain⟨n1,n2⟩:=N.inn p (sub p hp);have ne:p.1≠p.2:=λz=>by
   obtain⟨r,hr⟩:=N.rk;have:=hr p (sub p hp);rw[z]at this;omega
  unfold pk;split
  ·rename_i hm;exact⟨jj.mpr ⟨hm,ji.mpr (.inl (sub p hp))⟩,.inl hp⟩
  ·rename_i hm;have:(p.2,p.1)∈prs ae:=(yD n1 n2 ne).resolve_left hm;exact⟨jj.mpr ⟨this,ji.mpr (.inr (sub p hp))⟩,.inr hp⟩
 ·rintro⟨h1,h2|h2⟩
  ·exact cX.mpr ⟨q,h2,by unfold pk;rw[a8 (jj.mp h1).1]⟩
  ·exact cX.mpr ⟨(q.2,q.1),h2,by unfold pk;rw[a7 (T1 N.nd (a:=q.1) (b:=q.2) (jj.mp h1).1)]⟩
theorem GW{ae:List Str}(nd:ae.Nodup)(A:List Ar):(ce ae A).Nodup:=(HW nd).filter _
theorem Fj{ae:List Str}{A P:List Ar}(R:Rk A)(nd:P.Nodup)(sub:∀p∈P,p∈A):(P.map (pk ae)).Nodup:=ke.mpr (nd.imp_of_mem λ{p q} hp hq ne e=>ne (RM R (sub p hp) (sub q hq) e))
theorem O9{ae:List Str}{A P:List Ar}(G:Gd ae A)(nd:P.Nodup)(sub:∀p∈P,p∈A):(d8 ae P).length=P.length:=(uW (Jr G.nd G.le P) nd λp=>by
 rw[uU];exact⟨λh=>h.1,λh=>⟨h,G.inn p (sub p h)⟩⟩).length_eq
theorem J1{ae:List Str}{A P:List Ar}(G:Gd ae A)(nd:P.Nodup)(sub:∀p∈P,p∈A):(d8 ae P).length+(Be (ce ae A) P).length=A.length:=by
 have a1:A.length=(ce ae A).length:=by
  have:=(uW (Fj (ae:=ae) G.rk G.nodup λp h=>h) (GW G.nd A) λq=>by
   rw[HS G.nt (λp h=>h) q];exact⟨λh=>h.1,λh=>⟨h,ji.mp (jj.mp h).2⟩⟩).length_eq
  rw[aP]at this;exact this
 have a2:P.length=((ce ae A).filter λp=>decide (p∈P)||decide ((p.2,p.1)∈P)).length:=by
  have:=(uW (m:=(ce ae A).filter λp=>decide (p∈P)||decide ((p.2,p.1)∈P)) (Fj (ae:=ae) G.rk nd sub) ((GW G.nd A).filter _) λq=>by
   rw[HS G.nt sub q,dS,zo,jm,jm]).length_eq
  rw[aP]at this;exact this
 have a3:=O9 G nd sub;have a4:∀T:List Ar,(T.filter λp=>decide (p∈P)||decide ((p.2,p.1)∈P)).length+(Be T P).length=T.length:=λT=>by
  unfold Be
  induction T with
  |nil=>rfl
  |cons x r ih=>
   rw[List.filter_cons,List.filter_cons];by_cases h1:x∈P<;>by_cases h2:(x.2,x.1)∈P<;>simp[h1,h2]<;>omega
 have:=a4 (ce ae A);omega
end Mr
namespace Mr
open PySem Mi
theorem Ap(ag:List Ar)(p:Ar):bC (pairD p) (dm ag)=.ok (.bl (decide (p∈ag))):=HI ag p
end Mr
namespace Mr
open PySem Mi
end Mr
namespace Mr
open PySem Mi
open My (words gF gH)
end Mr
namespace Mr
open PySem Mi
open My (words gF gH)
end Mr
namespace Mr
open PySem Mi
end Mr
namespace Mr
open PySem Mi
open My (words gF gH)
end Mr
namespace Mr
open PySem Mi
open PySem.Builtin PySem.Builtin.Str
def cl(x:Str):List Nat:=x.cps.toList
end Mr
namespace Mr
open PySem Mi
open My (words gF gH)
def Jg(c:Str)(p:Ar):Str:=OD [p.1,c,p.2]
def Fa(ae:List Str)(xs:List Ar):List Str:=ae++[(":" : Str)]++xs.map (Jg ">")
def tx(ae:List Str)(xs:List Ar):Str:=kP " " (Fa ae xs)
def nt(ae:List Str):List Nat:=ae.flatMap λn=>cl n++[32]
theorem Oy{α:Type}{l:List α}{i:Nat}{x:α}(h:l[i]? = ac x):l.take (i+1)=l.take i++[x]:=by rw[List.take_succ,h];rfl
end Mr
namespace Mr
open PySem Mi
open My (words gF gH)
def tp(ae:List Str)(R S:List Ar):Str:=kP " " (Fa ae R++S.map (Jg "-"))
end Mr
namespace Vp
section
variable{α:Type}
inductive Up(A:α->α->Prop):α->α->Prop
 |refl (x:α):Up A x x
 |step {x y z:α}:A x y->Up A y z->Up A x z
def Hi(A:α->α->Prop)(T:α->Prop)(x:α):Prop:=∃y,T y/\Up A x y
theorem Hi.of{A:α->α->Prop}{T:α->Prop}{x:α}(h:T x):Hi A T x:=⟨x,h,.refl x⟩
theorem Hi.up{A:α->α->Prop}{T:α->Prop}{x y:α}(a:A x y)(h:Hi A T y):Hi A T x:=let ⟨z,t,u⟩:=h;⟨z,t,.step a u⟩
theorem Hi.ind{A:α->α->Prop}{T P:α->Prop}(h0:∀x,T x->P x)(h1:∀x y,A x y->Hi A T y->P y->P x){x:α}(h:Hi A T x):P x:=by
 obtain⟨z,t,u⟩:=h
 induction u with
 |refl x=>exact h0 x t
 |step a u ih=>exact h1 _ _ a ⟨_,t,u⟩ (ih t)
theorem Up.rank{A:α->α->Prop}{r:α->Int}(hr:∀x y,A x y->r x<r y){x y:α}(h:Up A x y):r x<=r y:=by
 induction h with
 |refl=>exact DC _
 |step a _ ih=>have:=hr _ _ a;omega
def fam(A:α->α->Prop)(n u:α):Prop:=u=n\/A u n
def sJ(A:α->α->Prop)(U:α->Prop)(u v:α):Prop:=∃n,U n/\fam A n u/\fam A n v
inductive Met(adj:α->α->Prop)(S:α->Prop)(i:α):α->Prop
 |base:Met adj S i i
 |step {u v:α}:Met adj S i u->adj u v->¬ S v->Met adj S i v
def Tg(i j:α)(S:α->Prop)(x:α):Prop:=x=i\/x=j\/S x
def xL(A:α->α->Prop)(i j:α)(S:α->Prop):Prop:=Met (sJ A (Hi A (Tg i j S))) S i j
end
end Vp
namespace Mr
open PySem Mi
open Vp
def ar(A:List Ar)(u v:Str):Prop:=(u,v)∈A
theorem yd{A:List Ar}(R:Rk A):∃r:Str->Int,∀x y,ar A x y->r x<r y:=let ⟨r,h⟩:=R;⟨r,λx y a=>h (x,y) a⟩
def C1:List Str->List (List Str)
 |[]=>[[]]
 |x::r=>C1 r++(C1 r).map (· ++ [x])
def rst(ae:List Str)(i j:Str):List Str:=ae.filter λn=>!decide (n=i) && !decide (n=j)
end Mr
namespace Mr
open PySem Mi
end Mr
namespace Mr
open PySem Mi
theorem Ss{ae:List Str}{ag:List Ar}{x y:Str}(hy:y∈ae):y∈wF ae ag x↔rch ag x y=true:=by unfold wF;rw[dS];exact⟨λh=>h.2,λh=>⟨hy,h⟩⟩
end Mr
namespace Mr
open PySem Mi
open My (gH)
def qA(fs:List Str)(g:Str->D):W:=.dk (fs.map λy=>((e6 y:Ky),g y))
theorem EA(g:Str->D)(y:Str):∀{fs:List Str},y∈fs->jJ (fs.map λy=>((e6 y:Ky),g y)) (e6 y)=ac (g y)
 |[],h=>nomatch h
 |a::r,h=>by
  unfold jJ;rw[cM,mW];by_cases q:a=y
  ·subst q;rw[cV rfl];rfl
  ·rw[d6 (λz:(e6 a:Ky)=e6 y=>q (wB z))];have ih:=EA g y (fs:=r) ((bZ.mp h).resolve_left (dW q));unfold jJ at ih;exact ih
theorem SM{i:Nat}{k:E}{e:Mi.Env}{fs:List Str}{g:Str->D}{y:Str}(hk:k e=.ok (.str y))(hw:wV i e=.ok (qA fs g))(hy:y∈fs):mL i k e=.ok (g y):=by unfold mL;rw[hk,aK,hw,aK];show(Rs.ok (jJ (fs.map λy=>((e6 y:Ky),g y)) (e6 y))).bind cy=_;rw[EA g y hy];rfl
theorem CL{m:S}{e:Mi.Env}{w:W}(h:m e=.ok (.rt w)):rV m e=.ok (.rt w):=by unfold rV;rw[h]
end Mr
namespace Mr
open PySem Mi
open Vp
structure GoodR(ae:List Str)(R:Str->Prop)(met:List Str):Prop where
 nd:met.Nodup
 sub:∀y∈met,y∈ae
 r:∀y∈met,R y
theorem GoodR.add{ae:List Str}{R:Str->Prop}{met more:List Str}(g:GoodR ae R met)(nd:more.Nodup)(h:∀y∈more,y∉met/\y∈ae/\R y):GoodR ae R (met++more):=by
 refine⟨pE.mpr ⟨g.nd,nd,λa ha b hb e=>(h b hb).1 (e ▸ ha)⟩,λy hy=>?_,λy hy=>?_⟩
 ·rcases fG.mp hy with z|z
  ·exact g.sub y z
  ·exact(h y z).2.1
 ·rcases fG.mp hy with z|z
  ·exact g.r y z
  ·exact(h y z).2.2
theorem GoodR.len{ae:List Str}{R:Str->Prop}{met:List Str}(g:GoodR ae R met):met.length<=ae.length:=jx g.nd g.sub
def qe(A:List Ar)(met:List Str):Prop:=∀p∈A,p.2∈met->p.1∈met
theorem G7{ae:List Str}{A:List Ar}(N:Nt ae A){some_:List Str}(nd:some_.Nodup)(sub:∀x∈some_,x∈ae) :
 ∃met,pR [.d (ak ae A),.d (am some_)]=.ok (.d (am met))/\GoodR ae (Hi (ar A) (·∈some_)) met/\∀y,y∈met↔Hi (ar A) (·∈some_) y:=by
 obtain⟨R,hR⟩ : ∃R,R=Hi (ar A) (·∈some_):=⟨_,rfl⟩;have n8:=N.le;have all:∀met,qe A met->(∀y∈some_,y∈met)->∀y,R y->y∈met:=λmet hc hs y h=>by
  rw[hR]at h;exact h.ind (λx t=>hs x t) λx y a _ ih=>hc (x,y) a ih
 have inner:∀(met:List Str) (o3 o4 o5:Option W),GoodR ae R met->(∀y∈some_,y∈met)->∃(dL:List Str) (p4 p5:Option W),gL (.t [4,5]) (bq (cJ (cB (m2 bC (mV 5) (mV 2))) (cB (m2 cQ (mV 4) (mV 2)))) (ek 2 (mV 4)) bw) (A.map pairD)
  [ac (.d (ak ae A)),ac (.d (am some_)),ac (.d (am met)),o3,o4,o5]=.ok (.nx [ac (.d (ak ae A)),ac (.d (am some_)),ac (.d (am dL)),o3,p4,p5])/\GoodR ae R dL/\(∀y∈some_,y∈dL)/\(met.length<dL.length\/(dL=met/\qe A met)):=by
  intro met o3 o4 o5 g hs;obtain⟨e',f1,dL,p4,p5,he,g',hs',hc⟩:=iT (tg:=.t [4,5]) (body:=(bq (cJ (cB (m2 bC (mV 5) (mV 2))) (cB (m2 cQ (mV 4) (mV 2)))) (ek 2 (mV 4)) bw))
   (λi e=>∃(dL:List Str) (o4 o5:Option W),e=[ac (.d (ak ae A)),ac (.d (am some_)),ac (.d (am dL)),o3,o4,o5]/\GoodR ae R dL/\(∀y∈some_,y∈dL)/\(met.length<dL.length\/(dL=met/\∀j p,j<i->A[j]? = ac p->p.2∈met->p.1∈met))) (A.map pairD) 0 (λi d e hi ⟨m1,o4,o5,he,g1,hs1,hc⟩=>by
    subst he;rw[fJ]at hc ⊢;rw[gc]at hi;obtain⟨p,hp,rfl⟩:=pN.mp hi;have hpm:=sY hp;have hl8:=g1.len;have c1:cJ (cB (m2 bC (mV 5) (mV 2))) (cB (m2 cQ (mV 4) (mV 2))) [ac (.d (ak ae A)),ac (.d (am some_)),ac (.d (am m1)),o3,ac (.d (.str p.1)),ac (.d (.str p.2))]=.ok (decide (p.2∈m1) && !decide (p.1∈m1)):=ll (bB (aw rfl rfl (pT _ _))) λ_=>bB (aw rfl rfl (sS _ _));by_cases hb:p.2∈m1/\p.1∉m1
    ·rw[cV hb.1,d6 hb.2]at c1;refine⟨[ac (.d (ak ae A)),ac (.d (am some_)),ac (.d (am m1)),o3,ac (.d (.str p.1)),ac (.d (.str p.2))],[ac (.d (ak ae A)),ac (.d (am some_)),ac (.d (am (m1++[p.1]))),o3,ac (.d (.str p.1)),ac (.d (.str p.2))],rfl,?_,m1++[p.1],_,_,rfl,g1.add (by simp) (λy hy=>?_),λy hy=>jv _ (hs1 y hy),.inl ?_⟩
     ·rw[fk c1,vv (d:=.str p.1) (ds:=m1.map D.str) rfl rfl (by rw[aP];omega)];show Rs.ok (Out.nx [_,_,ac (W.d (D.lst (m1.map D.str++[.str p.1]))),_,_,_])=_;rw[TF]
     ·rw[fg.mp hy];refine⟨hb.2,(N.inn p hpm).1,?_⟩;have:=g1.r _ hb.1;rw[hR]at this ⊢;exact .up (show ar A p.1 p.2 from hpm) this
     ·rw[dz];rcases hc with h|⟨rfl,_⟩
      ·simp;omega
      ·simp
    ·have cf:(decide (p.2∈m1) && !decide (p.1∈m1))=false:=by
      by_cases h1:p.2∈m1
      ·rw[cV (pM λz=>hb ⟨h1,z⟩ : p.1∈m1)];simp
      ·rw[d6 h1];rfl
     rw[cf]at c1;refine⟨[ac (.d (ak ae A)),ac (.d (am some_)),ac (.d (am m1)),o3,ac (.d (.str p.1)),ac (.d (.str p.2))],[ac (.d (ak ae A)),ac (.d (am some_)),ac (.d (am m1)),o3,ac (.d (.str p.1)),ac (.d (.str p.2))],rfl,(dQ c1).trans rfl,m1,_,_,rfl,g1,hs1,?_⟩;rcases hc with h|⟨rfl,h⟩
     ·exact .inl h
     ·refine .inr ⟨rfl,λj q hj hq h1=>?_⟩;by_cases hji:j=i
      ·subst hji;rw[hp]at hq;cases hq;exact pM λz=>hb ⟨h1,z⟩
      ·exact h j q (by omega) hq h1) _ ⟨met,o4,o5,rfl,g,hs,.inr ⟨rfl,λj p h=>absurd h (zu _)⟩⟩
  subst he;refine⟨dL,p4,p5,f1,g',hs',?_⟩;rcases hc with h|⟨h1,h2⟩
  ·exact .inl h
  ·refine .inr ⟨h1,λp hp h=>?_⟩;obtain⟨j,hj⟩:=sZ hp;exact h2 j p (by rw[fJ,aP];have:=(fe.mp hj).1;omega) hj h
 obtain⟨e',f1,met,o3,o4,o5,he,g,hs,hc⟩:=iT (tg:=.n 3) (body:=(cU (bA (m2 au (mV 0) (mC (.int 1)))) (.t [4,5]) (bq (cJ (cB (m2 bC (mV 5) (mV 2))) (cB (m2 cQ (mV 4) (mV 2)))) (ek 2 (mV 4)) bw)))
  (λi e=>∃(met:List Str) (o3 o4 o5:Option W),e=[ac (.d (ak ae A)),ac (.d (am some_)),ac (.d (am met)),o3,o4,o5]/\GoodR ae R met/\(∀y∈some_,y∈met)/\(i<=met.length\/qe A met)) (dA 0 ((ae.length:Nat):Int)) 0 (λi d e hi ⟨met,o3,o4,o5,he,g,hs,hc⟩=>by
   subst he;rw[fJ]at hc ⊢;obtain⟨dL,p4,p5,f1,g',hs',hc'⟩:=inner met (ac (.d d)) o4 o5 g hs;refine⟨_,_,rfl,(eR (et (aw rfl rfl (jU ae A)) rfl)).trans f1,dL,ac (.d d),p4,p5,rfl,g',hs',?_⟩;rcases hc' with h|⟨rfl,h⟩
   ·rcases hc with h1|h1
    ·exact .inl (by omega)
    ·exfalso;have hxm:∀y,y∈dL->y∈met:=λy hy=>all met h1 hs y (g'.r y hy);have:=jx g'.nd hxm;omega
   ·exact .inr h) [ac (.d (ak ae A)),ac (.d (am some_)),ac (.d (am some_)),af,af,af] ⟨some_,af,af,af,rfl,⟨nd,sub,λy hy=>by rw[hR];exact .of hy⟩,λy hy=>hy,.inl (iC _)⟩
 subst he;rw[lz,fJ]at hc;have hcl:qe A met:=by
  rcases hc with h|h
  ·exactλp hp _=>T0 g.nd g.sub h _ (N.inn p hp).1
  ·exact h
 refine⟨met,?_,hR ▸ g,λy=>⟨λh=>hR ▸ g.r y h,λh=>all met hcl hs y (hR ▸ h)⟩⟩;unfold pR Jn;rw[oX];rw[show([ac (W.d (ak ae A)),ac (W.d (am some_))]++cu (6-2) af)=[ac (W.d (ak ae A)),ac (W.d (am some_)),af,af,af,af]from rfl];rw[aM (e':=[ac (W.d (ak ae A)),ac (W.d (am some_)),ac (W.d (am some_)),af,af,af]) (bD ((eB (x:=am some_) rfl).trans rfl))];rw[aM ((eR (iL (KQ rfl) (oI ae.length n8))).trans f1)];rfl
noncomputable def wG (A:List Ar) (i j:Str) (aB:List Str):Bool:=@decide (xL (ar A) i j (·∈aB)) (zE _)
theorem F1{A:List Ar}{i j:Str}{aB:List Str}:wG A i j aB=true↔xL (ar A) i j (·∈aB):=by unfold wG;exact@j6 _ (zE _)
def fX(A:List Ar)(n:Str):List Str:=n::cZ A n
theorem yW{A:List Ar}{n u:Str}:u∈fX A n↔fam (ar A) n u:=by unfold fX fam ar;rw[bZ,mQ]
def wW(A:List Ar)(ba aB met:List Str):Prop:=∀n∈ba,(∃u∈fX A n,u∈met)->∀v∈fX A n,v∉aB->v∈met
theorem TV{ae:List Str}{A:List Ar}(L:Lk ae A)(n:Str):(fX A n).Nodup:=by refine kg.mpr ⟨λz=>?_,L.vC n⟩;obtain⟨r,hr⟩:=L.rk;have:=hr _ (mQ.mp z);simp only at this;omega
theorem P5{i:Nat}{k v:E}{e:Mi.Env}{fs:List Str}{g:Str->D}{y:Str}(hv:v e=.ok (g y))(hk:k e=.ok (.str y))(hw:wV i e=.ok (qA fs g))(hn:y∉fs)(hl:fs.length<=1000):jh i k v e=.ok (.nx (e.set i (ac (qA (fs++[y]) g)))):=by
 unfold jh;have h1:AB (qA fs g) (.str y) (g y)=.ok (qA (fs++[y]) g):=by
  show bp ((fs.map λy=>((e6 y:Ky),g y)).length<16777216) ((cy (oP (.str y))).bind λk=>Rs.ok (W.dk (Mi.putK k (g y) (fs.map λy=>((e6 y:Ky),g y)))))=_;rw[aG (by rw[aP];omega)];show Rs.ok (W.dk (Mi.putK (e6 y:Ky) (g y) (fs.map λy=>((e6 y:Ky),g y))))=_;unfold Mi.putK;rw[a7 (by
   rw[List.any_map,Dx,C9];intro z hz;simp only[Mh,jm];exactλq=>hn (wB q ▸ hz))]
  unfold qA;rw[iM];rfl
 rw[hv,aK,hk,aK,hw,aK,h1];rfl
end Mr
namespace Mr
open PySem Mi
open Vp
section
variable{ae:List Str}{A:List Ar}{i j:Str}{aB ba:List Str}
abbrev fc(ae:List Str)(A:List Ar)(i j:Str)(aB ba fs:List Str)(o6 o7 o8 o9:Option W):Mi.Env:=[ac (W.d (ak ae A)),ac (W.d (.str i)),ac (W.d (.str j)),ac (W.d (am aB)),ac (W.d (am ba)),ac (qA fs λy=>am (fX A y)),o6,o7,o8,o9]
abbrev yO:S:=(aE (bf 9 (cq [ac 7,af] (bA (mL 5 (mV 6))) (.n 1) (cB (m2 bC (mV 1) (mV 0))) (mV 1)))
 (bq (cB (m2 gV (mN bR [(mV 9)]) (mC (.int 0))))
 (bf 7 (m2 bc (mV 7) (cq [ac 7,ac 3,af] (bA (mL 5 (mV 6))) (.n 2) (cJ (cB (m2 cQ (mV 2) (mV 0))) (cB (m2 cQ (mV 2) (mV 1)))) (mV 2))))
 bw))
theorem OZ(L:Lk ae A)(nd:ba.Nodup)(hl:ba.length<=8):∃o6,gL (.n 6) (jh 5 (mV 6) (m2 bc (mN b9 [(mV 6)]) (cq [ac 6,af,af] (bA (m2 au (mV 0) (mC (.int 1)))) (.t [1,2]) (cB (m2 bK (mV 2) (mV 0))) (mV 1)))) (ba.map D.str) (fc ae A i j aB ba [] af af af af)=.ok (.nx (fc ae A i j aB ba ba o6 af af af)):=by
 have al:=L.al;obtain⟨e',f,o6,he⟩:=iT (tg:=.n 6) (body:=(jh 5 (mV 6) (m2 bc (mN b9 [(mV 6)]) (cq [ac 6,af,af] (bA (m2 au (mV 0) (mC (.int 1)))) (.t [1,2]) (cB (m2 bK (mV 2) (mV 0))) (mV 1)))))
  (λn e=>∃o6:Option W,e=fc ae A i j aB ba (ba.take n) o6 af af af) (ba.map D.str) 0 (λn d e hi ⟨o6,he⟩=>by
   subst he;rw[fJ];rw[gc]at hi;obtain⟨x,hx,rfl⟩:=pN.mp hi;have cm:dE (.t [1,2]) (cB (m2 bK (mV 2) (mV 0))) (mV 1) [ac (.d (.str x)),af,af] (A.map pairD)=.ok ((A.filter λp=>decide (p.2=x)).map λp=>D.str p.1):=
    gr pairD (λp=>D.str p.1) (λp=>decide (p.2=x)) A λp _=>⟨[ac (.d (.str x)),ac (.d (.str p.1)),ac (.d (.str p.2))],rfl,bB (aw rfl rfl (xR _ _)),λ_=>rfl⟩
   have ev:m2 bc (mN b9 [(mV 6)]) (cq [ac 6,af,af] (bA (m2 au (mV 0) (mC (.int 1)))) (.t [1,2]) (cB (m2 bK (mV 2) (mV 0))) (mV 1)) (fc ae A i j aB ba (ba.take n) (ac (.d (.str x))) af af af)=.ok (am (fX A x)):=by
    refine(aw (x:=am [x]) (y:=am (cZ A x)) ((eB (x:=.str x) rfl).trans (aG (by show(1:Nat)<=_;decide))) ?_ (qF _ _)).trans ?_
    ·have:=fb (ρ:=[ac 6,af,af]) (e:=fc ae A i j aB ba (ba.take n) (ac (.d (.str x))) af af af) (et (a:=m2 au (mV 0) (mC (.int 1))) (aw rfl rfl (jU ae A)) rfl) (by rw[aP];omega) cm;rw[this];unfold am cZ;rw[eS];rfl
    ·have el:=rR (x:=x) al;rw[aG (by rw[aP,aP];simp only[y4];omega)];unfold am fX;rfl
   have pt:=P5 (i:=5) (k:=mV 6) (e:=fc ae A i j aB ba (ba.take n) (ac (.d (.str x))) af af af) (fs:=ba.take n) (g:=λy=>am (fX A y)) (y:=x) ev rfl rfl (BD nd hx) (by rw[i7];omega);refine⟨fc ae A i j aB ba (ba.take n) (ac (.d (.str x))) af af af,fc ae A i j aB ba (ba.take (n+1)) (ac (.d (.str x))) af af af,rfl,pt.trans ?_,_,rfl⟩;rw[Oy hx];rfl) (fc ae A i j aB ba [] af af af af) ⟨af,rfl⟩
 subst he;rw[fJ,aP,List.take_length]at f;exact⟨o6,f⟩
theorem Ro(L:Lk ae A){R:Str->Prop}(hR:R=Met (sJ (ar A) (·∈ba)) (·∈aB) i)(hc:qe A ba)(h8:ba.length<=8){n:Str}(hn:n∈ba){met:List Str}(g:GoodR ba R met)(o8 o9:Option W) :
 ∃dL o9',yO (fc ae A i j aB ba ba (ac (.d (.str n))) (ac (.d (am met))) o8 o9)=.ok (.nx (fc ae A i j aB ba ba (ac (.d (.str n))) (ac (.d (am dL))) o8 o9'))/\GoodR ba R dL/\(∀y∈met,y∈dL)/\(met.length<dL.length\/(dL=met/\((∃u∈fX A n,u∈met)->∀v∈fX A n,v∉aB->v∈met))):=by
 have al:=L.al;have fl:(fX A n).length<=100:=by unfold fX;rw[eG];have:=rR (x:=n) al;omega
 have gl:=g.len;have it:∀o9,bA (mL 5 (mV 6)) (fc ae A i j aB ba ba (ac (.d (.str n))) (ac (.d (am met))) o8 o9)=.ok ((fX A n).map D.str):=λo9=>et (x:=am (fX A n)) (SM (fs:=ba) (g:=λy=>am (fX A y)) (y:=n) rfl rfl hn) rfl;have c1:dE (.n 1) (cB (m2 bC (mV 1) (mV 0))) (mV 1) [ac (.d (am met)),af] ((fX A n).map D.str)=.ok (((fX A n).filter λu=>decide (u∈met)).map D.str):=gr D.str D.str _ _ λu _=>⟨[ac (.d (am met)),ac (.d (.str u))],rfl,bB (aw rfl rfl (pT _ _)),λ_=>rfl⟩
 have c2:dE (.n 2) (cJ (cB (m2 cQ (mV 2) (mV 0))) (cB (m2 cQ (mV 2) (mV 1)))) (mV 2) [ac (.d (am met)),ac (.d (am aB)),af] ((fX A n).map D.str)=.ok (((fX A n).filter λu=>!decide (u∈met) && !decide (u∈aB)).map D.str):=gr D.str D.str _ _ λu _=>⟨[ac (.d (am met)),ac (.d (am aB)),ac (.d (.str u))],rfl,ll (bB (aw rfl rfl (sS _ _))) λ_=>bB (aw rfl rfl (sS _ _)),λ_=>rfl⟩
 obtain⟨so,hso⟩ : ∃so,so=(fX A n).filter λu=>decide (u∈met):=⟨_,rfl⟩;obtain⟨mo,hmo⟩ : ∃mo,mo=(fX A n).filter λu=>!decide (u∈met) && !decide (u∈aB):=⟨_,rfl⟩;rw[<- hso]at c1;rw[<- hmo]at c2;have s9:bf 9 (cq [ac 7,af] (bA (mL 5 (mV 6))) (.n 1) (cB (m2 bC (mV 1) (mV 0))) (mV 1)) (fc ae A i j aB ba ba (ac (.d (.str n))) (ac (.d (am met))) o8 o9)=.ok (.nx (fc ae A i j aB ba ba (ac (.d (.str n))) (ac (.d (am met))) o8 (ac (.d (am so))))):=bD (fb (ρ:=[ac 7,af]) (it o9) (by rw[aP];omega) c1);have ct:cB (m2 gV (mN bR [(mV 9)]) (mC (.int 0))) (fc ae A i j aB ba ba (ac (.d (.str n))) (ac (.d (am met))) o8 (ac (.d (am so))))=.ok (decide ((0:Int)<(so.length:Int))):=bB (aw ((eB (x:=am so) rfl).trans (by unfold am;rw[nA,aP])) rfl (yT _ 0));have mml:mo.length<=100:=by rw[hmo];exact c7 (ju _ _) fl
 have s7:bf 7 (m2 bc (mV 7) (cq [ac 7,ac 3,af] (bA (mL 5 (mV 6))) (.n 2) (cJ (cB (m2 cQ (mV 2) (mV 0))) (cB (m2 cQ (mV 2) (mV 1)))) (mV 2))) (fc ae A i j aB ba ba (ac (.d (.str n))) (ac (.d (am met))) o8 (ac (.d (am so))))=.ok (.nx (fc ae A i j aB ba ba (ac (.d (.str n))) (ac (.d (am (met++mo)))) o8 (ac (.d (am so))))):=by refine bD ((aw (x:=am met) (y:=am mo) rfl (fb (ρ:=[ac 7,ac 3,af]) (it _) (by rw[aP];omega) c2) (qF _ _)).trans ?_);rw[aG (by rw[aP,aP];omega)];unfold am;rw[iM]
 by_cases h0:(0:Int)<(so.length:Int)
 ·rw[cV h0]at ct;obtain⟨u,hu⟩ : ∃u,u∈so:=by
   cases so with
   |nil=>simp at h0
   |cons u r=>exact⟨u,cW⟩
  rw[hso]at hu;obtain⟨hu1,hu2⟩:=dS.mp hu;have hu2:u∈met:=uw hu2;refine⟨met++mo,ac (.d (am so)),(aM s9).trans ((fk ct).trans s7),g.add (by rw[hmo];exact(TV L n).filter _) (λy hy=>?_),λy hy=>jv _ hy,?_⟩
  ·rw[hmo]at hy;obtain⟨y1,y2⟩:=dS.mp hy;simp only[km,wj,sQ]at y2;have fy:=yW.mp y1;refine⟨y2.1,?_,?_⟩
   ·rcases fy with z|z
    ·rw[z];exact hn
    ·exact hc (y,n) z hn
   ·have:=g.r u hu2;rw[hR]at this ⊢;exact .step this ⟨n,hn,yW.mp hu1,fy⟩ y2.2
  ·cases hmo':mo with
   |nil=>
    refine .inr ⟨by simp,λ_ v hv hvh=>pM λz=>?_⟩;have:v∈mo:=by rw[hmo];exact dS.mpr ⟨hv,by simp[z,hvh]⟩
    rw[hmo']at this;cases this
   |cons a r=>exact .inl (by simp)
 ·rw[d6 h0]at ct;refine⟨met,ac (.d (am so)),(aM s9).trans ((dQ ct).trans rfl),g,λy hy=>hy,.inr ⟨rfl,λ⟨u,hu1,hu2⟩=>?_⟩⟩;have:u∈so:=by rw[hso];exact dS.mpr ⟨hu1,cV hu2⟩
  cases so with
  |nil=>cases this
  |cons a r=>simp at h0
theorem QP(L:Lk ae A){R:Str->Prop}(hR:R=Met (sJ (ar A) (·∈ba)) (·∈aB) i)(hc:qe A ba)(h8:ba.length<=8){met:List Str}(g:GoodR ba R met)(o6 o8 o9:Option W) :
 ∃dL o6' o9',gL (.n 6) yO (ba.map D.str) (fc ae A i j aB ba ba o6 (ac (.d (am met))) o8 o9)=.ok (.nx (fc ae A i j aB ba ba o6' (ac (.d (am dL))) o8 o9'))/\GoodR ba R dL/\(∀y∈met,y∈dL)/\(met.length<dL.length\/(dL=met/\wW A ba aB met)):=by
 obtain⟨e',f,dL,o6',o9',he,g',s',c'⟩:=iT (tg:=.n 6) (body:=yO)
  (λk e=>∃(dL:List Str) (o6 o9:Option W),e=fc ae A i j aB ba ba o6 (ac (.d (am dL))) o8 o9/\GoodR ba R dL/\(∀y∈met,y∈dL)/\(met.length<dL.length\/(dL=met/\∀a n,a<k->ba[a]? = ac n->(∃u∈fX A n,u∈met)->∀v∈fX A n,v∉aB->v∈met))) (ba.map D.str) 0 (λk d e hi ⟨m1,o6,o9,he,g1,s1,c1⟩=>by
   subst he;rw[fJ]at c1 ⊢;rw[gc]at hi;obtain⟨n,hn,rfl⟩:=pN.mp hi;obtain⟨m2,o9',st,g2,s2,c2⟩:=Ro (j:=j) L hR hc h8 (sY hn) g1 o8 o9;refine⟨fc ae A i j aB ba ba (ac (.d (.str n))) (ac (.d (am m1))) o8 o9,_,rfl,st,m2,_,_,rfl,g2,λy hy=>s2 y (s1 y hy),?_⟩;rcases c2 with q|⟨rfl,q⟩
   ·refine .inl ?_;rcases c1 with z|⟨z,_⟩
    ·omega
    ·rw[<- z];exact q
   ·rcases c1 with z|⟨rfl,z⟩
    ·exact .inl z
    ·refine .inr ⟨rfl,λa n' ha hn'=>?_⟩;by_cases e:a=k
     ·subst e;rw[hn]at hn';cases hn';exact q
     ·exact z a n' (by omega) hn') (fc ae A i j aB ba ba o6 (ac (.d (am met))) o8 o9) ⟨met,o6,o9,rfl,g,λy hy=>hy,.inr ⟨rfl,λa n h=>absurd h (zu _)⟩⟩
 subst he;refine⟨dL,o6',o9',f,g',s',?_⟩;rcases c' with z|⟨z,w⟩
 ·exact .inl z
 ·refine .inr ⟨z,λn hn=>?_⟩;obtain⟨a,ha⟩:=sZ hn;exact w a n (by rw[fJ,aP];exact(fe.mp ha).1) ha
theorem U5(L:Lk ae A)(hi:i∈ae)(hj:j∈ae)(ij:i≠j)(hs:∀x∈aB,x∈ae)(nd:aB.Nodup)(ni:i∉aB)(nj:j∉aB):qf [.d (ak ae A),.d (.str i),.d (.str j),.d (am aB)]=.ok (.d (.bl (!wG A i j aB))):=by
 have ndS:([i,j]++aB).Nodup:=by
  refine pE.mpr ⟨by simp[ij],nd,λa ha b hb e=>?_⟩;subst e;rcases bZ.mp ha with rfl|z
  ·exact ni hb
  ·rw[fg.mp z]at hb;exact nj hb
 have n8:=L.le;have hl8:aB.length<=8:=c7 (jx nd hs) n8;obtain⟨ba,hh,gh,mh⟩:=G7 L.nt (some_:=[i,j]++aB) ndS (λx hx=>by
  rcases fG.mp hx with z|z
  ·rcases bZ.mp z with rfl|z
   ·exact hi
   ·rw[fg.mp z];exact hj
  ·exact hs x z)
 have eT:(λx=>x∈[i,j]++aB)=Vp.Tg i j (·∈aB):=by funext x;refine propext ?_;rw[fG];unfold Vp.Tg;simp only[bZ,mU,mS,or_assoc]
 rw[eT]at mh gh;have h8:ba.length<=8:=c7 gh.len n8;have up:qe A ba:=λp hp h=>(mh p.1).mpr (.up (show ar A p.1 p.2 from hp) ((mh p.2).mp h));have eU:(λx=>x∈ba)=Hi (ar A) (Vp.Tg i j (·∈aB)):=by funext x;exact propext (mh x)
 obtain⟨R,hR⟩ : ∃R,R=Met (sJ (ar A) (·∈ba)) (·∈aB) i:=⟨_,rfl⟩;have iR:R i:=by rw[hR];exact .base
 have ih:i∈ba:=(mh i).mpr (.of (.inl rfl));have all:∀met,wW A ba aB met->i∈met->∀y,R y->y∈met:=λmet hc hm y h=>by
  rw[hR]at h
  induction h with
  |base=>exact hm
  |step _ a s ih2=>
   obtain⟨n,hn,f1,f2⟩:=a;exact hc n hn ⟨_,yW.mpr f1,ih2⟩ _ (yW.mpr f2) s
 obtain⟨o6,ff⟩:=OZ (i:=i) (j:=j) (aB:=aB) L gh.nd h8;obtain⟨e',f2,met,p6,p8,p9,he,g,hm,hc⟩:=iT (tg:=.n 8) (body:=(cU (bA (mV 4)) (.n 6) yO))
  (λk e=>∃(met:List Str) (o6 o8 o9:Option W),e=fc ae A i j aB ba ba o6 (ac (.d (am met))) o8 o9/\GoodR ba R met/\i∈met/\(k+1<=met.length\/wW A ba aB met)) (dA 0 ((ba.length:Nat):Int)) 0 (λk d e hx ⟨met,o6,o8,o9,he,g,hm,hc⟩=>by
   subst he;rw[fJ]at hc ⊢;obtain⟨dL,o6',o9',fr,g',s',c'⟩:=QP (j:=j) L hR up h8 g o6 (ac (.d d)) o9;refine⟨fc ae A i j aB ba ba o6 (ac (.d (am met))) (ac (.d d)) o9,_,rfl,(eR (et (a:=mV 4) (x:=am ba) rfl rfl)).trans fr,dL,_,_,_,rfl,g',s' i hm,?_⟩;rcases c' with z|⟨rfl,z⟩
   ·rcases hc with w|w
    ·exact .inl (by omega)
    ·exfalso;have:=jx g'.nd (λy hy=>all met w hm y (g'.r y hy));omega
   ·exact .inr z) (fc ae A i j aB ba ba o6 (ac (.d (am [i]))) af af) ⟨[i],_,_,_,rfl,⟨by simp,λy hy=>by rw[fg.mp hy];exact ih,λy hy=>by rw[fg.mp hy];exact iR⟩,by simp,.inl (by simp)⟩
 subst he;rw[lz,fJ]at hc;have cl:wW A ba aB met:=by
  rcases hc with z|z
  ·have:=g.len;omega
  ·exact z
 have fin:decide (j∈met)=wG A i j aB:=by rw[oj,j6,F1];unfold xL;rw[<- eU,<- hR];exact⟨g.r j,all met cl hm j⟩
 unfold qf Ge;rw[QC];rw[show([ac (W.d (ak ae A)),ac (W.d (.str i)),ac (W.d (.str j)),ac (W.d (am aB))]++cu (10-4) af)=[ac (W.d (ak ae A)),ac (W.d (.str i)),ac (W.d (.str j)),ac (W.d (am aB)),af,af,af,af,af,af]from rfl];have l2:m2 bc (mN b9 [(mV 1),(mV 2)]) (mN j9 [(mV 3)]) [ac (W.d (ak ae A)),ac (W.d (.str i)),ac (W.d (.str j)),ac (W.d (am aB)),af,af,af,af,af,af]=.ok (am ([i,j]++aB)):=by refine(aw (x:=am [i,j]) (y:=am aB) (rS rfl rfl) ((eB (x:=am aB) rfl).trans rfl) (qF _ _)).trans ?_;rw[aG (by rw[aP,aP];simp only[eG,iz];omega)];rfl
 rw[aM (e':=[ac (W.d (ak ae A)),ac (W.d (.str i)),ac (W.d (.str j)),ac (W.d (am aB)),ac (W.d (am ba)),af,af,af,af,af]) (bD (call2 rfl (bu l2) hh))];rw[aM (e':=fc ae A i j aB ba [] af af af af) rfl];rw[aM ((eR (et (a:=mV 4) (x:=am ba) rfl rfl)).trans ff)];rw[aM (e':=fc ae A i j aB ba ba o6 (ac (.d (am [i]))) af af) (bD (nz rfl))];rw[aM ((eR (iL ((eB (x:=am ba) rfl).trans (by unfold am;rw[nA,aP])) (oI ba.length h8))).trans f2)];rw[dR (bu (aw rfl rfl (sS met j)))];rw[fin];rfl
end
end Mr
namespace Mr
open PySem Mi
open Vp
abbrev Qn:=Str×Str×List Str
def TM(ae:List Str)(a b:Str):List Qn:=(C1 (rst ae a b).reverse).map λl=>(a,b,l)
def UC(ae:List Str)(k:Nat):List Qn:=(ae.drop (k+1)).flatMap λb=>TM ae (nth ae k) b
def qs(ae:List Str):List Qn:=(bP ae.length).flatMap (UC ae)
end Mr
namespace Mr
open PySem Mi
end Mr
namespace Mr
open PySem Mi
open My (words gF gH)
theorem Qb(ae:List Str)(A B:List Ar):jG ae A B=jG ae B A:=by rw[oj,vc,vc];exact⟨Sm.symm,Sm.symm⟩
end Mr
namespace Vp
section
variable{α:Type}{A:α->α->Prop}{r:α->Int}(hr:∀x y,A x y->r x<r y)
theorem Met.out{adj:α->α->Prop}{S:α->Prop}{i v:α}(m:Met adj S i v):v=i\/¬ S v:=by
 cases m with
 |base=>exact .inl rfl
 |step _ _ s=>exact .inr s
include hr in
theorem R8{l u:α}(ne:l≠u)(nu:¬ Up A l u)(na:¬ A u l){i j:α}(h:(i=l/\j=u)\/(i=u/\j=l)):¬ xL A i j (λz=>A z l):=λc=>by
 have V9:∀n,Hi A (Tg i j λz=>A z l) n->¬ A l n:=λn ⟨t,ht,up⟩ a=>by
  have r1:=hr _ _ a;have r2:=up.rank hr;have two:∀t,t=l\/t=u->Up A n t->False:=λt ht up=>by
   rcases ht with rfl|rfl
   ·have:=up.rank hr;omega
   ·exact nu (.step a up)
  rcases ht with e|e|e
  ·rcases h with q|q
   ·exact two t (.inl (e.trans q.1)) up
   ·exact two t (.inr (e.trans q.1)) up
  ·rcases h with q|q
   ·exact two t (.inr (e.trans q.2)) up
   ·exact two t (.inl (e.trans q.2)) up
  ·have:=hr _ _ e;omega
 have fl:∀n,Hi A (Tg i j λz=>A z l) n->fam A n l->n=l:=λn hn f=>by
  rcases f with z|z
  ·exact z.symm
  ·exact absurd z (V9 n hn)
 rcases h with ⟨rfl,rfl⟩|⟨rfl,rfl⟩
 ·have key:∀v,Met (sJ A (Hi A (Tg i j λz=>A z i))) (λz=>A z i) i v->v=i:=λv m=>by
   induction m with
   |base=>rfl
   |step _ a s ih=>
    subst ih;obtain⟨n,hn,f1,f2⟩:=a;rw[fl n hn f1]at f2;rcases f2 with z|z
    ·exact z
    ·exact absurd z s
  exact ne (key j c).symm
 ·have key:∀v,Met (sJ A (Hi A (Tg i j λz=>A z j))) (λz=>A z j) i v->v≠j:=λv m=>by
   induction m with
   |base=>exact ne.symm
   | @step w v mw a s ih=>
    intro e;subst e;obtain⟨n,hn,f1,f2⟩:=a;rw[fl n hn f2]at f1;rcases f1 with z|z
    ·exact ih z
    ·rcases mw.out with q|q
     ·rw[q]at z;exact na z
     ·exact q z
  exact key j c rfl
end
end Vp
namespace Mr
open PySem Mi
open Vp
theorem Qo{A:List Ar}{x y:Str}(h:Up (ar A) x y):j5 A x y:=by
 have key:∀{a b:Str},Up (ar A) a b->∀{z:Str},j5 A z a->j5 A z b:=λ{a b} h=>by
  induction h with
  |refl=>exactλk=>k
  |step a _ ih=>exactλk=>ih (.step k a)
 exact key h .refl
theorem Gd.c9{ae:List Str}{A:List Ar}(G:Gd ae A):sE ae A:=by obtain⟨r,h⟩:=G.rk;exact⟨G.nd,G.pos,G.le,G.al,λp hp=>(G.inn p hp).1,r,h⟩
end Mr
namespace Mr
open PySem Mi
open Vp
def rT(q:Bool×List Str):D:=.tup [am q.2,.bl q.1]
def lack{α:Type}[BEq α][LawfulBEq α](X Y:List α):List α:=Y.filter λy=>!decide (y∈X)
theorem yQ{α:Type}[BEq α][LawfulBEq α]{X Y:List α}{y:α}:y∈lack X Y↔y∈Y/\y∉X:=by unfold lack;rw[dS,wj,sQ]
abbrev Js:S:=(aE (k8 2 (cq [ac 3,af] (bA (mV 4)) (.n 1) (cB (m2 cQ (mV 1) (mV 0))) (mN dTup [(mN j9 [(mV 1)]),(mC (.bl true))])))
 (k8 2 (cq [ac 4,af] (bA (mV 3)) (.n 1) (cB (m2 cQ (mV 1) (mV 0))) (mN dTup [(mN j9 [(mV 1)]),(mC (.bl false))]))))
theorem Ey{α:Type}[BEq α][LawfulBEq α]{enc:α->D}{row:α->List Str}(he:∀x,enc x=.tup ((row x).map D.str))(hn:∀(X:List α) x,cQ (enc x) (.lst (X.map enc))=.ok (.bl (!decide (x∈X))))(X Y:List α)(b:Bool) :
 dE (.n 1) (cB (m2 cQ (mV 1) (mV 0))) (mN dTup [(mN j9 [(mV 1)]),(mC (.bl b))]) [ac (.d (.lst (X.map enc))),af] (Y.map enc)=.ok ((lack X Y).map λy=>rT (b,row y)):=
 gr enc (λy=>rT (b,row y)) (λy=>!decide (y∈X)) Y λy _=>⟨[ac (.d (.lst (X.map enc))),ac (.d (enc y))],rfl,bB (aw rfl rfl (hn X y)),λ_=>(nP (x:=am (row y)) (y:=.bl b) ((eB (x:=enc y) rfl).trans (by rw[he];rfl)) rfl).trans (aG (by show(2:Nat)<=_;decide))⟩
theorem Ks{α:Type}[BEq α][LawfulBEq α]{enc:α->D}{row:α->List Str}(he:∀x,enc x=.tup ((row x).map D.str))(hn:∀(X:List α) x,cQ (enc x) (.lst (X.map enc))=.ok (.bl (!decide (x∈X))))(X Y:List α)(hx:X.length<=1000)(hy:Y.length<=1000)(v0 v1:W)(acc:List D)(ha:acc.length<=10000) :
 Js [ac v0,ac v1,ac (.d (.lst acc)),ac (.d (.lst (X.map enc))),ac (.d (.lst (Y.map enc)))]=.ok (.nx [ac v0,ac v1,ac (.d (.lst (acc++((lack X Y).map λy=>rT (true,row y))++((lack Y X).map λy=>rT (false,row y))))),ac (.d (.lst (X.map enc))),ac (.d (.lst (Y.map enc)))]):=by
 have l1:(lack X Y).length<=1000:=c7 (ju _ _) hy;have l2:(lack Y X).length<=1000:=c7 (ju _ _) hx;have s1:=xT (i:=2) (e:=[ac v0,ac v1,ac (.d (.lst acc)),ac (.d (.lst (X.map enc))),ac (.d (.lst (Y.map enc)))]) (ds:=acc) (fb (ρ:=[ac 3,af]) (et (a:=mV 4) (x:=.lst (Y.map enc)) rfl rfl) (by rw[aP];omega) (Ey he hn X Y true)) rfl (by rw[aP];omega);have s2:=xT (i:=2) (e:=[ac v0,ac v1,ac (.d (.lst (acc++(lack X Y).map λy=>rT (true,row y)))),ac (.d (.lst (X.map enc))),ac (.d (.lst (Y.map enc)))]) (ds:=acc++(lack X Y).map λy=>rT (true,row y)) (fb (ρ:=[ac 4,af]) (et (a:=mV 3) (x:=.lst (X.map enc)) rfl rfl) (by rw[aP];omega) (Ey he hn Y X false)) rfl (by rw[dz,aP,aP];omega);exact(aM s1).trans s2
theorem UU(C:List gB)(t:gB):((C.map cF).any λe=>bM e (cF t))=decide (t∈C):=by
 induction C with
 |nil=>rfl
 |cons x r ih=>
  rw[cM,mX,ih];have e:bM (cF x) (cF t)=decide (x=t):=by have:=B4 [x] [t];rw[cM,mY,cM,mY,eD]at this;simpa [eD]using this
  rw[e];by_cases h:x=t
  ·subst h;simp
  ·by_cases k:t∈r
   ·simp[h,k]
   ·simp[h,k];exactλz=>h z.symm
theorem RW(C:List gB)(t:gB):cQ (cF t) (.lst (C.map cF))=.ok (.bl (!decide (t∈C))):=by show bp (eJ (C.map cF)<=16) _=_;rw[aG (by have:=Aa C;omega),UU]
def mB(ae:List Str)(A B:List Ar):List (Bool×List Str):=((lack (ce ae A) (ce ae B)).map λp=>(true,se p))++((lack (ce ae B) (ce ae A)).map λp=>(false,se p))++(((lack (bX ae A) (bX ae B)).map λt=>(true,tr t))++((lack (bX ae B) (bX ae A)).map λt=>(false,tr t)))
theorem HQ{ae:List Str}{A B:List Ar}(GA:Gd ae A)(GB:Gd ae B):qC [.d (ak ae A),.d (ak ae B)]=.ok (.d (.lst ((mB ae A B).map rT))):=by
 have tl:∀C:List Ar,(ce ae C).length<=64:=λC=>c7 (ju _ _) (xI GA.le);have cl:∀C:List Ar,(bX ae C).length<=512:=λC=>E4 GA.le C;unfold qC H9;rw[oX];rw[show([ac (W.d (ak ae A)),ac (W.d (ak ae B))]++cu (5-2) af)=[ac (W.d (ak ae A)),ac (W.d (ak ae B)),af,af,af]from rfl];rw[aM (e':=[ac (W.d (ak ae A)),ac (W.d (ak ae B)),ac (.d (.lst [])),af,af]) (bD (kF _))];have it:bA (mN dTup [(mN dTup [(aN jy [(wD (mV 0))]),(aN jy [(wD (mV 1))])]),(mN dTup [(aN jE [(wD (mV 0))]),(aN jE [(wD (mV 1))])])]) [ac (W.d (ak ae A)),ac (W.d (ak ae B)),ac (.d (.lst [])),af,af]=.ok [.tup [aJ (ce ae A),aJ (ce ae B)],.tup [.lst ((bX ae A).map cF),.lst ((bX ae B).map cF)]]:=et (x:=.tup [.tup [aJ (ce ae A),aJ (ce ae B)],.tup [.lst ((bX ae A).map cF),.lst ((bX ae B).map cF)]]) ((nP ((nP (i6 rfl (xF GA.le)) (i6 rfl (xF GB.le))).trans (aG (by show(2:Nat)<=_;decide))) ((nP (i6 rfl (yK GA.nt)) (i6 rfl (yK GB.nt))).trans (aG (by show(2:Nat)<=_;decide)))).trans (aG (by show(2:Nat)<=_;decide))) rfl
 have st1:=Ks (enc:=pairD) (row:=se) (λ_=>rfl) (λX x=>Bn X x) (ce ae A) (ce ae B) (by have:=tl A;omega) (by have:=tl B;omega) (W.d (ak ae A)) (W.d (ak ae B)) [] (by simp);obtain⟨a1,ha1⟩ : ∃a1,a1=([]++((lack (ce ae A) (ce ae B)).map λy=>rT (true,se y))++((lack (ce ae B) (ce ae A)).map λy=>rT (false,se y))):=⟨_,rfl⟩;have al1:a1.length<=128:=by rw[ha1,ki,dz,aP,aP];have h1:(lack (ce ae A) (ce ae B)).length<=64:=c7 (ju _ _) (tl B);have h2:(lack (ce ae B) (ce ae A)).length<=64:=c7 (ju _ _) (tl A);omega
 rw[<- ha1]at st1;have st2:=Ks (enc:=cF) (row:=tr) (λ_=>rfl) RW (bX ae A) (bX ae B) (by have:=cl A;omega) (by have:=cl B;omega) (W.d (ak ae A)) (W.d (ak ae B)) a1 (by omega);have lp:gL (.t [3,4]) Js [.tup [aJ (ce ae A),aJ (ce ae B)],.tup [.lst ((bX ae A).map cF),.lst ((bX ae B).map cF)]] [ac (W.d (ak ae A)),ac (W.d (ak ae B)),ac (.d (.lst [])),af,af]=.ok (.nx [ac (W.d (ak ae A)),ac (W.d (ak ae B)),ac (.d (.lst (a1++((lack (bX ae A) (bX ae B)).map λy=>rT (true,tr y))++((lack (bX ae B) (bX ae A)).map λy=>rT (false,tr y))))),ac (.d (.lst ((bX ae A).map cF))),ac (.d (.lst ((bX ae B).map cF)))]):=
  HE (e0:=[ac (W.d (ak ae A)),ac (W.d (ak ae B)),ac (.d (.lst [])),ac (.d (aJ (ce ae A))),ac (.d (aJ (ce ae B)))]) rfl st1 (HE (e0:=[ac (W.d (ak ae A)),ac (W.d (ak ae B)),ac (.d (.lst a1)),ac (.d (.lst ((bX ae A).map cF))),ac (.d (.lst ((bX ae B).map cF)))]) rfl st2 rfl)
 rw[aM ((eR it).trans lp)];have e:(mB ae A B).map rT=a1++((lack (bX ae A) (bX ae B)).map λy=>rT (true,tr y))++((lack (bX ae B) (bX ae A)).map λy=>rT (false,tr y)):=by rw[ha1];unfold mB;simp only[iM,eS,ki,tD];rfl
 rw[e];rfl
theorem FX{ae:List Str}{A B:List Ar}(GA:Gd ae A)(GB:Gd ae B):mB ae A B=[]↔Sm ae A B:=by
 have ln:∀{α:Type} [BEq α] [LawfulBEq α] (X:List α),lack X X=[]:=λX=>by
  unfold lack;rw[List.filter_eq_nil_iff];intro y hy;rw[cV hy];simp
 constructor
 ·intro h;unfold mB at h;simp only[List.append_eq_nil_iff,List.map_eq_nil_iff]at h;obtain⟨⟨h1,h2⟩,h3,h4⟩:=h;have non:∀{α:Type} [BEq α] [LawfulBEq α] {X Y:List α} {y:α},lack X Y=[]->y∈Y->y∈X:=λ{α _ _ X Y y} e hy=>pM λz=>by
   have:=yQ.mpr ⟨hy,z⟩;rw[e]at this;cases this
  have ti:∀a∈ae,∀b∈ae,tie A a b=tie B a b:=λa ha b hb=>by
   by_cases e:a=b
   ·subst e;have n1:∀C:List Ar,Gd ae C->tie C a a=false:=λC G=>by
     obtain⟨r,hr⟩:=yd G.rk;rw[Dw,ne_eq,ji];rintro(z|z)<;>(have:=hr _ _ z;omega)
    rw[n1 A GA,n1 B GB]
   ·have one:∀a b,(a,b)∈prs ae->tie A a b=tie B a b:=λa b hp=>oj.mpr ⟨λz=>(jj.mp (non h2 (jj.mpr ⟨hp,z⟩))).2,λz=>(jj.mp (non h1 (jj.mpr ⟨hp,z⟩))).2⟩;rcases yD ha hb e with hp|hp
    ·exact one a b hp
    ·rw[yj A,yj B];exact one b a hp
  refine Sm.of GA.nd ti ((EB GA.nd).mpr λa ha m hm b hb ne=>?_);have one:∀a m b,(a,b)∈prs ae->m∈ae->dF A a m b=dF B a m b:=λa m b hp hm=>by
   obtain⟨k,hk,e,hd⟩:=ml.mp hp;exact oj.mpr ⟨λz=>let ⟨_,_,_,_,_,c⟩:=mK.mp (non h4 (mK.mpr ⟨k,hk,e,hm,hd,z⟩));c,λz=>let ⟨_,_,_,_,_,c⟩:=mK.mp (non h3 (mK.mpr ⟨k,hk,e,hm,hd,z⟩));c⟩
  rcases yD ha hb ne with hp|hp
  ·exact one a m b hp hm
  ·rw[ye A,ye B];exact one b m a hp hm
 ·intro S;unfold mB;rw[S.ti,S.cr,ln,ln];rfl
inductive Apr(ae:List Str)(P Q:List Ar):List Str->Prop
 |tie {x y:Str} (hp:(x,y)∈prs ae) (hq:tie Q x y=true) (np:¬ tie P x y=true):Apr ae P Q [x,y]
 |dF {x m y:Str} (hp:(x,y)∈prs ae) (hm:m∈ae) (ti:∀a∈ae,∀b∈ae,a≠b->Mr.tie P a b=Mr.tie Q a b) (hq:dF Q x m y=true) (np:¬ dF P x m y=true):Apr ae P Q [x,m,y]
theorem Pj{ae:List Str}{A B:List Ar}(GA:Gd ae A)(GB:Gd ae B){b:Bool}{l:List Str}{r:List (Bool×List Str)}(h:mB ae A B=(b,l)::r):Apr ae (if b then A else B) (if b then B else A) l:=by
 have non:∀{α:Type} [BEq α] [LawfulBEq α] {X Y:List α} {y:α},lack X Y=[]->y∈Y->y∈X:=λ{α _ _ X Y y} e hy=>pM λz=>by
  have:=yQ.mpr ⟨hy,z⟩;rw[e]at this;cases this
 have tiR:∀P Q:List Ar,∀p,p∈lack (ce ae P) (ce ae Q)->Apr ae P Q (se p):=λP Q p hp=>by
  obtain⟨h1,h2⟩:=yQ.mp hp;obtain⟨h3,h4⟩:=jj.mp h1;exact .tie (x:=p.1) (y:=p.2) h3 h4 λz=>h2 (jj.mpr ⟨h3,z⟩)
 have crR:∀P Q:List Ar,lack (ce ae P) (ce ae Q)=[]->lack (ce ae Q) (ce ae P)=[]->∀t,t∈lack (bX ae P) (bX ae Q)->Apr ae P Q (tr t):=λP Q e1 e2 t ht=>by
  obtain⟨x,m,y⟩:=t;obtain⟨h1,h2⟩:=yQ.mp ht;obtain⟨k,hk,e,hm,hd,c⟩:=mK.mp h1;have one:∀a b,(a,b)∈prs ae->Mr.tie P a b=Mr.tie Q a b:=λa b hp=>oj.mpr ⟨λz=>(jj.mp (non e2 (jj.mpr ⟨hp,z⟩))).2,λz=>(jj.mp (non e1 (jj.mpr ⟨hp,z⟩))).2⟩;refine .dF (ml.mpr ⟨k,hk,e,hd⟩) hm (λa ha b hb ne=>?_) c λz=>h2 (mK.mpr ⟨k,hk,e,hm,hd,z⟩);rcases yD ha hb ne with hp|hp
  ·exact one a b hp
  ·rw[yj P,yj Q];exact one b a hp
 unfold mB at h;cases h1:lack (ce ae A) (ce ae B)with
 |cons p t=>
  rw[h1]at h;have:=tiR A B p (by rw[h1];exact cW);simp only[cM,qS,wA,rf]at h;rw[<- h.1.1,<- h.1.2];exact this
 |nil=>
  rw[h1]at h;cases h2:lack (ce ae B) (ce ae A)with
  |cons p t=>
   rw[h2]at h;have:=tiR B A p (by rw[h2];exact cW);simp only[mY,ki,cM,qS,wA,rf]at h;rw[<- h.1.1,<- h.1.2];exact this
  |nil=>
   rw[h2]at h;cases h3:lack (bX ae A) (bX ae B)with
   |cons p t=>
    rw[h3]at h;have:=crR A B h1 h2 p (by rw[h3];exact cW);simp only[mY,ki,cM,qS,wA,rf]at h;rw[<- h.1.1,<- h.1.2];exact this
   |nil=>
    rw[h3]at h;cases h4:lack (bX ae B) (bX ae A)with
    |cons p t=>
     rw[h4]at h;have:=crR B A h2 h1 p (by rw[h4];exact cW);simp only[mY,ki,cM,wA,rf]at h;rw[<- h.1.1,<- h.1.2];exact this
    |nil=>
     rw[h4]at h;simp at h
end Mr
namespace Mr
open PySem Mi
open Vp
noncomputable def ja (P:List Ar) (x y:Str):Str:=if rch P y x=true then x else y
theorem O3{ae:List Str}{P:List Ar}(G:Gd ae P){x y:Str}(hx:x∈ae)(hy:y∈ae):pi [.d (ak ae P),.d (.str x),.d (.str y)]=.ok (.d (am (cZ P (ja P x y)))):=by
 have bl:=SR G.c9 (λp hp=>(G.inn p hp).2) hy;have ct:cB (m2 bC (mV 1) (aN qb [(wD (mV 0)),(wD (mV 2))])) [ac (W.d (ak ae P)),ac (W.d (.str x)),ac (W.d (.str y)),af]=.ok (rch P y x):=
  bB ((aw rfl (call2 rfl rfl bl) (pT _ _)).trans (by
   congr 2
   rw[oj,j6];exact Ss hx))
 have lw:qg (cB (m2 bC (mV 1) (aN qb [(wD (mV 0)),(wD (mV 2))]))) (mV 1) (mV 2) [ac (W.d (ak ae P)),ac (W.d (.str x)),ac (W.d (.str y)),af]=.ok (.str (ja P x y)):=by unfold qg ja;rw[ct,aK];cases rch P y x<;>rfl
 have ln:ja P x y∈ae:=by unfold ja;split<;>assumption
 unfold pi EZ;rw[HM];rw[show([ac (W.d (ak ae P)),ac (W.d (.str x)),ac (W.d (.str y))]++cu (4-3) af)=[ac (W.d (ak ae P)),ac (W.d (.str x)),ac (W.d (.str y)),af]from rfl];rw[aM (e':=[ac (W.d (ak ae P)),ac (W.d (.str x)),ac (W.d (.str y)),ac (W.d (.str (ja P x y)))]) (bD lw)];rw[dR (bu ((eB (call2 (f:=sI) (a:=wD (mV 0)) (b:=wD (mV 3)) rfl rfl (O0 ln G.al))).trans rfl))];rfl
noncomputable def toD (x y:Str) (aB:List Str) (b:Bool) (be:List Str):D:=.tup [.str x,.str y,am aB,.bl b,am be]
theorem Tr{f:List D->Rs D}{a b c d g:E}{e:Mi.Env}{x y z u v:D}(h1:a e=.ok x)(h2:b e=.ok y)(h3:c e=.ok z)(h4:d e=.ok u)(h5:g e=.ok v):mN f [a,b,c,d,g] e=f [x,y,z,u,v]:=by unfold mN;rw[eX,h1,aK,eX,h2,aK,eX,h3,aK,eX,h4,aK,eX,h5];rfl
theorem HJ{ae:List Str}{A B:List Ar}(GA:Gd ae A)(GB:Gd ae B)(S:Sm ae A B):lG [.d (ak ae A),.d (ak ae B)]=.ok (.d .non):=by
 have ra:=HQ GA GB;rw[(FX GA GB).mpr S]at ra;have hr:lq [.d (ak ae A),.d (ak ae B)]=.ok (.d .non):=by unfold lq xP;rw[gq];rw[(dQ (bB ((aw (aw rfl rfl (fP ae A)) (aw rfl rfl (fP ae B)) (yq ae ae)).trans (by rw[cV rfl];rfl))))];rfl
 unfold lG Cm;rw[gq];rw[show([ac (W.d (ak ae A)),ac (W.d (ak ae B))]++cu (8-2) af)=[ac (W.d (ak ae A)),ac (W.d (ak ae B)),af,af,af,af,af,af]from rfl];rw[aM (yB (call2 rfl rfl hr))];rw[aM (e':=[ac (W.d (ak ae A)),ac (W.d (ak ae B)),ac (W.d (.lst [])),af,af,af,af,af]) (bD (call2 rfl rfl ra))];rfl
theorem OJ{ae:List Str}{A B:List Ar}(GA:Gd ae A)(GB:Gd ae B){b:Bool}{x y:Str}{l:List Str}{r:List (Bool×List Str)}(h:mB ae A B=(b,l)::r)(h2:1<=l.length)(hx:nth l 0=x)(hy:nth l (l.length-1)=y)(xn:x∈ae)(yn:y∈ae) :
 lG [.d (ak ae A),.d (ak ae B)]=.ok (.d (toD x y (cZ (if b then A else B) (ja (if b then A else B) x y)) b l)):=by
 have ra:=HQ GA GB;rw[h]at ra;have hr:lq [.d (ak ae A),.d (ak ae B)]=.ok (.d .non):=by unfold lq xP;rw[gq];rw[(dQ (bB ((aw (aw rfl rfl (fP ae A)) (aw rfl rfl (fP ae B)) (yq ae ae)).trans (by rw[cV rfl];rfl))))];rfl
 have lo:=O3 (ae:=ae) (P:=if b then A else B) (by cases b;exact GB;exact GA) xn yn;obtain⟨aB,hh⟩ : ∃aB,aB=cZ (if b then A else B) (ja (if b then A else B) x y):=⟨_,rfl⟩;rw[<- hh]at lo ⊢;have i0:au (am l) (.int 0)=.ok (.str x):=by have:=yb (be:=l) (z:=0) (by decide) (by omega);rw[this,<- hx];rfl
 have i1:au (am l) (.int (-1))=.ok (.str y):=by rw[IP h2,hy]
 unfold lG Cm;rw[gq];rw[show([ac (W.d (ak ae A)),ac (W.d (ak ae B))]++cu (8-2) af)=[ac (W.d (ak ae A)),ac (W.d (ak ae B)),af,af,af,af,af,af]from rfl];rw[aM (yB (call2 rfl rfl hr))];obtain⟨Rw,hRw⟩ : ∃Rw,Rw=((b,l)::r).map rT:=⟨_,rfl⟩;rw[<- hRw]at ra;rw[aM (e':=[ac (W.d (ak ae A)),ac (W.d (ak ae B)),ac (W.d (.lst Rw)),af,af,af,af,af]) (bD (call2 rfl rfl ra))];rw[aM ((dQ (show dw (iY (mV 2)) [ac (W.d (ak ae A)),ac (W.d (ak ae B)),ac (W.d (.lst Rw)),af,af,af,af,af]=.ok false from by rw[hRw];rfl)).trans rfl)];have p1:qx (.t [3,4]) (m2 au (mV 2) (mC (.int 0))) [ac (W.d (ak ae A)),ac (W.d (ak ae B)),ac (W.d (.lst Rw)),af,af,af,af,af]=.ok (.nx [ac (W.d (ak ae A)),ac (W.d (ak ae B)),ac (W.d (.lst Rw)),ac (W.d (am l)),ac (W.d (.bl b)),af,af,af]):=by unfold qx;rw[show m2 au (mV 2) (mC (.int 0)) [ac (W.d (ak ae A)),ac (W.d (ak ae B)),ac (W.d (.lst Rw)),af,af,af,af,af]=.ok (rT (b,l))from aw (x:=.lst Rw) rfl rfl (by rw[hRw];show cy (cC (rT (b,l)::r.map rT) 0)=_;rw[at0];rfl)];rfl
 rw[aM p1];have p2:ur 5 6 (m2 au (mV 3) (mC (.int 0))) (m2 au (mV 3) (m1 lf (mC (.int 1)))) [ac (W.d (ak ae A)),ac (W.d (ak ae B)),ac (W.d (.lst Rw)),ac (W.d (am l)),ac (W.d (.bl b)),af,af,af]=.ok (.nx [ac (W.d (ak ae A)),ac (W.d (ak ae B)),ac (W.d (.lst Rw)),ac (W.d (am l)),ac (W.d (.bl b)),ac (W.d (.str x)),ac (W.d (.str y)),af]):=by unfold ur;rw[eX,show m2 au (mV 3) (mC (.int 0)) [ac (W.d (ak ae A)),ac (W.d (ak ae B)),ac (W.d (.lst Rw)),ac (W.d (am l)),ac (W.d (.bl b)),af,af,af]=.ok (.str x)from aw rfl rfl i0,aK,eX,show m2 au (mV 3) (m1 lf (mC (.int 1))) [ac (W.d (ak ae A)),ac (W.d (ak ae B)),ac (W.d (.lst Rw)),ac (W.d (am l)),ac (W.d (.bl b)),af,af,af]=.ok (.str y)from aw rfl rfl i1];rfl
 rw[aM p2];have sel:qg (iY (mV 4)) (mV 0) (mV 1) [ac (W.d (ak ae A)),ac (W.d (ak ae B)),ac (W.d (.lst Rw)),ac (W.d (am l)),ac (W.d (.bl b)),ac (W.d (.str x)),ac (W.d (.str y)),af]=.ok (ak ae (if b then A else B)):=by cases b<;>rfl
 rw[aM (e':=[ac (W.d (ak ae A)),ac (W.d (ak ae B)),ac (W.d (.lst Rw)),ac (W.d (am l)),ac (W.d (.bl b)),ac (W.d (.str x)),ac (W.d (.str y)),ac (W.d (am aB))]) (bD (oY (f:=pi) (bu sel) rfl rfl lo))];rw[dR (bu ((Tr (f:=dTup) (a:=mV 5) (b:=mV 6) (c:=mV 7) (d:=mV 4) (g:=mV 3) rfl rfl rfl rfl rfl).trans (aG (by show(5:Nat)<=_;decide))))];rfl
structure Bv(ae:List Str)(Q:List Ar)(aB be:List Str):Prop where
 two:2<=be.length
 le:be.length<=8
 inn:∀z∈be,z∈ae
 nd:be.Nodup
 ti:∀k,k+1<be.length->tie Q (nth be k) (nth be (k+1))=true
 mid:∀k,k+2<be.length->(nth be k,nth be (k+1))∈Q/\(nth be (k+2),nth be (k+1))∈Q/\nth be (k+1)∈aB
theorem PP{ae:List Str}{Q:List Ar}(G:Gd ae Q){aB be:List Str}(O:Bv ae Q aB be)(hs:∀z∈aB,z∈ae)(nd:aB.Nodup):qu [.d (ak ae Q),.d (am be),.d (.str (nth be 0)),.d (.str (nth be (be.length-1))),.d (am aB)]=.ok (.d (.bl true)):=by
 obtain⟨ba,hh,_,mh⟩:=G7 G.nt nd hs;have h2:=O.two;have h8:=O.le;obtain⟨x,hx⟩ : ∃x,x=nth be 0:=⟨_,rfl⟩;obtain⟨y,hy⟩ : ∃y,y=nth be (be.length-1):=⟨_,rfl⟩;have i0:au (am be) (.int 0)=.ok (.str x):=by have:=yb (be:=be) (z:=0) (by decide) (by omega);rw[this,hx];rfl
 have i1:au (am be) (.int (-1))=.ok (.str y):=by rw[IP (by omega),hy]
 have at_:∀k:Nat,k<be.length->au (am be) (.int (k:Int))=.ok (.str (nth be k)):=λk hk=>by
  have:=yb (be:=be) (z:=(k:Int)) (by omega) (by omega)
  rwa [iP]at this
 rw[<- hx,<- hy];obtain⟨e1,f1,o5,he1⟩:=iT (tg:=.n 5) (body:=(aE (bq (dY (dw (cB (m1 (h9 ["str"]) (m2 au (mV 1) (mV 5))))) (dY (cB (m2 cQ (m2 au (mV 1) (mV 5)) (m2 au (mV 0) (mC (.int 0))))) (cB (m2 bC (m2 au (mV 1) (mV 5)) (bV cx (mV 1) af (ac (mV 5)))))))
 (br (wD (mC (.bl false))))
 bw)
 (bq (cJ (cB (m2 gV (mV 5) (mC (.int 0)))) (dw (cB (aN iK [(wD (mV 0)),(wD (m2 au (mV 1) (m2 gW (mV 5) (mC (.int 1))))),(wD (m2 au (mV 1) (mV 5)))]))))
 (br (wD (mC (.bl false))))
 bw)))
  (λn e=>∃o5:Option W,e=[ac (W.d (ak ae Q)),ac (W.d (am be)),ac (W.d (.str x)),ac (W.d (.str y)),ac (W.d (am aB)),o5,af]) (dA 0 ((be.length:Nat):Int)) 0 (λk d e hd ⟨o5,he⟩=>by
   obtain⟨hk,rfl⟩:=sK hd;subst he;have ik:m2 au (mV 1) (mV 5) [ac (W.d (ak ae Q)),ac (W.d (am be)),ac (W.d (.str x)),ac (W.d (.str y)),ac (W.d (am aB)),ac (W.d (.int (k:Int))),af]=.ok (.str (nth be k)):=aw rfl rfl (at_ k hk);have sl:bV cx (mV 1) af (ac (mV 5)) [ac (W.d (ak ae Q)),ac (W.d (am be)),ac (W.d (.str x)),ac (W.d (.str y)),ac (W.d (am aB)),ac (W.d (.int (k:Int))),af]=.ok (am (be.take k)):=by rw[sN (x:=am be) (i:=(k:Int)) rfl rfl];show Rs.ok (D.lst (eP (be.map D.str) af (ac (k:Int))))=_;rw[EE,<- v6];rfl
   have c1:(dY (dw (cB (m1 (h9 ["str"]) (m2 au (mV 1) (mV 5))))) (dY (cB (m2 cQ (m2 au (mV 1) (mV 5)) (m2 au (mV 0) (mC (.int 0))))) (cB (m2 bC (m2 au (mV 1) (mV 5)) (bV cx (mV 1) af (ac (mV 5))))))) [ac (W.d (ak ae Q)),ac (W.d (am be)),ac (W.d (.str x)),ac (W.d (.str y)),ac (W.d (am aB)),ac (W.d (.int (k:Int))),af]=.ok false:=lg (p:=false) (q:=false) (lX (p:=true) (bB (by unfold m1;rw[ik];rfl))) λ_=>lg (p:=false) (q:=false) (bB (aw ik (aw rfl rfl (fP ae Q)) ((BX ae _).trans (by rw[cV (O.inn _ (lH hk))];rfl)))) λ_=>bB (aw ik sl ((pT _ _).trans (by rw[d6 (BD O.nd (Ce hk))])))
   have c2:(cJ (cB (m2 gV (mV 5) (mC (.int 0)))) (dw (cB (aN iK [(wD (mV 0)),(wD (m2 au (mV 1) (m2 gW (mV 5) (mC (.int 1))))),(wD (m2 au (mV 1) (mV 5)))])))) [ac (W.d (ak ae Q)),ac (W.d (am be)),ac (W.d (.str x)),ac (W.d (.str y)),ac (W.d (am aB)),ac (W.d (.int (k:Int))),af]=.ok false:=by
    have g:=bB (aw (a:=mV 5) (b:=mC (.int 0)) (e:=[ac (W.d (ak ae Q)),ac (W.d (am be)),ac (W.d (.str x)),ac (W.d (.str y)),ac (W.d (am aB)),ac (W.d (.int (k:Int))),af]) rfl rfl (yT (k:Int) 0));cases k with
    |zero=>
     have g':cB (m2 gV (mV 5) (mC (.int 0))) [ac (W.d (ak ae Q)),ac (W.d (am be)),ac (W.d (.str x)),ac (W.d (.str y)),ac (W.d (am aB)),ac (W.d (.int ((0:Nat):Int))),af]=.ok false:=g;exact ll (q:=false) g' λz=>(nomatch z)
    |succ k=>
     refine(ll (q:=false) g λ_=>lX (p:=true) (bB (oY rfl (bu (aw (x:=am be) (y:=.int (k:Int)) rfl (aw rfl rfl (by show Rs.ok (D.int (((k+1:Nat):Int)-1))=_;rw[show((k+1:Nat):Int)-1=(k:Int)by omega])) (at_ k (by omega)))) (bu ik) ((CZ _ _).trans (by rw[O.ti k hk]))))).trans (by rw[tP])
   exact⟨[ac (W.d (ak ae Q)),ac (W.d (am be)),ac (W.d (.str x)),ac (W.d (.str y)),ac (W.d (am aB)),ac (W.d (.int (k:Int))),af],_,rfl,(aM ((dQ c1).trans rfl)).trans ((dQ c2).trans rfl),_,rfl⟩) [ac (W.d (ak ae Q)),ac (W.d (am be)),ac (W.d (.str x)),ac (W.d (.str y)),ac (W.d (am aB)),af,af] ⟨af,rfl⟩
 subst he1;obtain⟨e2,f2,p5,he2⟩:=iT (tg:=.n 5) (body:=(bq (cJ (cB (m2 bC (mN dTup [(m2 au (mV 1) (m2 gW (mV 5) (mC (.int 1)))),(m2 au (mV 1) (mV 5))]) (m2 au (mV 0) (mC (.int 1))))) (cB (m2 bC (mN dTup [(m2 au (mV 1) (m2 bc (mV 5) (mC (.int 1)))),(m2 au (mV 1) (mV 5))]) (m2 au (mV 0) (mC (.int 1))))))
 (bq (cB (m2 cQ (m2 au (mV 1) (mV 5)) (mV 6)))
 (br (wD (mC (.bl false))))
 bw)
 (bq (cB (m2 bC (m2 au (mV 1) (mV 5)) (mV 4)))
 (br (wD (mC (.bl false))))
 bw)))
  (λn e=>∃o5:Option W,e=[ac (W.d (ak ae Q)),ac (W.d (am be)),ac (W.d (.str x)),ac (W.d (.str y)),ac (W.d (am aB)),o5,ac (W.d (am ba))]) ((bP (be.length-2)).map λ(i:Nat)=>D.int (1+(i:Int))) 0 (λn d e hd ⟨o5,he⟩=>by
   subst he;rw[gc]at hd;obtain⟨k,hk,rfl⟩:=pN.mp hd;have kl:k+2<be.length:=by have:=e5.mp (sY hk);omega
   obtain⟨m1,m2',m3⟩:=O.mid k kl;have ik:m2 au (mV 1) (mV 5) [ac (W.d (ak ae Q)),ac (W.d (am be)),ac (W.d (.str x)),ac (W.d (.str y)),ac (W.d (am aB)),ac (W.d (.int (1+(k:Int)))),ac (W.d (am ba))]=.ok (.str (nth be (k+1))):=aw (y:=.int ((k+1:Nat):Int)) rfl (by show Rs.ok (D.int (1+(k:Int)))=_;rw[show 1+(k:Int)=((k+1:Nat):Int)by omega]) (at_ (k+1) (by omega));have im:m2 au (mV 1) (m2 gW (mV 5) (mC (.int 1))) [ac (W.d (ak ae Q)),ac (W.d (am be)),ac (W.d (.str x)),ac (W.d (.str y)),ac (W.d (am aB)),ac (W.d (.int (1+(k:Int)))),ac (W.d (am ba))]=.ok (.str (nth be k)):=aw (y:=.int (k:Int)) rfl (aw rfl rfl (by show Rs.ok (D.int (1+(k:Int)-1))=_;rw[show 1+(k:Int)-1=(k:Int)by omega])) (at_ k (by omega));have ip:m2 au (mV 1) (m2 bc (mV 5) (mC (.int 1))) [ac (W.d (ak ae Q)),ac (W.d (am be)),ac (W.d (.str x)),ac (W.d (.str y)),ac (W.d (am aB)),ac (W.d (.int (1+(k:Int)))),ac (W.d (am ba))]=.ok (.str (nth be (k+2))):=aw (y:=.int ((k+2:Nat):Int)) rfl (aw rfl rfl (by show Rs.ok (D.int (1+(k:Int)+1))=_;rw[show 1+(k:Int)+1=((k+2:Nat):Int)by omega])) (at_ (k+2) kl);have x1:m2 au (mV 0) (mC (.int 1)) [ac (W.d (ak ae Q)),ac (W.d (am be)),ac (W.d (.str x)),ac (W.d (.str y)),ac (W.d (am aB)),ac (W.d (.int (1+(k:Int)))),ac (W.d (am ba))]=.ok (dm Q):=aw rfl rfl (jU ae Q);have c1:(cJ (cB (m2 bC (mN dTup [(m2 au (mV 1) (m2 gW (mV 5) (mC (.int 1)))),(m2 au (mV 1) (mV 5))]) (m2 au (mV 0) (mC (.int 1))))) (cB (m2 bC (mN dTup [(m2 au (mV 1) (m2 bc (mV 5) (mC (.int 1)))),(m2 au (mV 1) (mV 5))]) (m2 au (mV 0) (mC (.int 1)))))) [ac (W.d (ak ae Q)),ac (W.d (am be)),ac (W.d (.str x)),ac (W.d (.str y)),ac (W.d (am aB)),ac (W.d (.int (1+(k:Int)))),ac (W.d (am ba))]=.ok true:=
    ll (p:=true) (q:=true) (bB (aw (fw im ik) x1 ((Ap Q (nth be k,nth be (k+1))).trans (by rw[cV m1])))) λ_=>bB (aw (fw ip ik) x1 ((Ap Q (nth be (k+2),nth be (k+1))).trans (by rw[cV m2'])))
   have c2:cB (m2 cQ (m2 au (mV 1) (mV 5)) (mV 6)) [ac (W.d (ak ae Q)),ac (W.d (am be)),ac (W.d (.str x)),ac (W.d (.str y)),ac (W.d (am aB)),ac (W.d (.int (1+(k:Int)))),ac (W.d (am ba))]=.ok false:=bB (aw ik rfl ((sS _ _).trans (by rw[cV ((mh _).mpr (.of m3))];rfl)));exact⟨[ac (W.d (ak ae Q)),ac (W.d (am be)),ac (W.d (.str x)),ac (W.d (.str y)),ac (W.d (am aB)),ac (W.d (.int (1+(k:Int)))),ac (W.d (am ba))],_,rfl,(fk c1).trans ((dQ c2).trans rfl),_,rfl⟩) [ac (W.d (ak ae Q)),ac (W.d (am be)),ac (W.d (.str x)),ac (W.d (.str y)),ac (W.d (am aB)),o5,ac (W.d (am ba))] ⟨o5,rfl⟩
 subst he2;have ln:∀o5 o6:Option W,mN bR [(mV 1)] [ac (W.d (ak ae Q)),ac (W.d (am be)),ac (W.d (.str x)),ac (W.d (.str y)),ac (W.d (am aB)),o5,o6]=.ok (.int (be.length:Int)):=λ_ _=>(eB (x:=am be) rfl).trans (by unfold am;rw[nA,aP]);have cA:(dY (dw (cB (m1 (h9 ["list"]) (mV 1)))) (dY (cB (m2 gR (mN bR [(mV 1)]) (mC (.int 2)))) (dY (cB (m2 gp (m2 au (mV 1) (mC (.int 0))) (mV 2))) (cB (m2 gp (m2 au (mV 1) (m1 lf (mC (.int 1)))) (mV 3)))))) [ac (W.d (ak ae Q)),ac (W.d (am be)),ac (W.d (.str x)),ac (W.d (.str y)),ac (W.d (am aB)),af,af]=.ok false:=
  lg (p:=false) (q:=false) (lX (p:=true) rfl) λ_=>lg (p:=false) (q:=false) (bB (aw (ln _ _) rfl ((wK _ _).trans (by rw[d6 (by omega)])))) λ_=>lg (p:=false) (q:=false) (bB (aw (aw rfl rfl i0) rfl ((CU _ _).trans (by rw[cV rfl];rfl)))) λ_=>bB (aw (aw rfl rfl i1) rfl ((CU _ _).trans (by rw[cV rfl];rfl)))
 unfold qu Hq;rw[Sa];rw[show([ac (W.d (ak ae Q)),ac (W.d (am be)),ac (W.d (.str x)),ac (W.d (.str y)),ac (W.d (am aB))]++cu (7-5) af)=[ac (W.d (ak ae Q)),ac (W.d (am be)),ac (W.d (.str x)),ac (W.d (.str y)),ac (W.d (am aB)),af,af]from rfl];rw[aM ((dQ cA).trans rfl)];rw[aM ((eR (iL (ln _ _) (oI be.length h8))).trans f1)];rw[aM (e':=[ac (W.d (ak ae Q)),ac (W.d (am be)),ac (W.d (.str x)),ac (W.d (.str y)),ac (W.d (am aB)),o5,ac (W.d (am ba))]) (bD (call2 rfl rfl hh))];have rg:uv (mC (.int 1)) (m2 gW (mN bR [(mV 1)]) (mC (.int 1))) [ac (W.d (ak ae Q)),ac (W.d (am be)),ac (W.d (.str x)),ac (W.d (.str y)),ac (W.d (am aB)),o5,ac (W.d (am ba))]=.ok ((bP (be.length-2)).map λ(i:Nat)=>D.int (1+(i:Int))):=by rw[PU (i:=1) (j:=(be.length:Int)-1) rfl (aw (ln _ _) rfl rfl) ⟨nI (by decide) (by decide),nI (by omega) (by omega)⟩,NV]
 rw[aM ((eR rg).trans f2)];rfl
end Mr
namespace Mr
open PySem Mi
open Vp
open My (words gF gH)
theorem Gc{ae:List Str}{P:List Ar}(G:Gd ae P){x y:Str}(ne:x≠y):∃w u,ja P x y=w/\((x=w/\y=u)\/(x=u/\y=w))/\w≠u/\¬ Up (ar P) w u:=by
 obtain⟨r,hr⟩:=yd G.rk;unfold ja;cases h:rch P y x with
 |true=>
  refine⟨x,y,a8 rfl,.inl ⟨rfl,rfl⟩,ne,λup=>?_⟩;have h2:=up.rank hr;have key:∀z,j5 P y z->r y<=r z/\(z=y\/r y<r z):=λz h=>by
   induction h with
   |refl=>exact⟨DC _,.inl rfl⟩
   |step _ a ih=>have:=hr _ _ a;exact⟨by omega,.inr (by omega)⟩
  rcases(key x (BQ.mp h)).2 with z|z
  ·exact ne z
  ·omega
 |false=>
  refine⟨y,x,a7 dJ,.inr ⟨rfl,rfl⟩,ne.symm,λup=>?_⟩;rw[BQ.mpr (Qo up)]at h;cases h
theorem RL{ae:List Str}{P Q:List Ar}(GP:Gd ae P)(GQ:Gd ae Q){l:List Str}(h:Apr ae P Q l):∃x y,nth l 0=x/\nth l (l.length-1)=y/\1<=l.length/\(x,y)∈prs ae/\¬ tie P x y=true/\Bv ae Q (cZ P (ja P x y)) l:=by
 cases h with
 | @tie x y hp hq np=>
  obtain⟨m1,m2,ne⟩:=Ci GP.nd hp;refine⟨x,y,rfl,rfl,by simp,hp,np,⟨by simp,by simp,λz hz=>?_,by simp[ne],λk hk=>?_,λk hk=>?_⟩⟩
  ·rcases bZ.mp hz with rfl|hz
   ·exact m1
   ·rw[fg.mp hz];exact m2
  ·have:k=0:=by simp at hk;omega
   subst this;exact hq
  ·simp at hk;omega
 | @dF x m y hp hm ti hq np=>
  obtain⟨m1,m2,ne⟩:=Ci GP.nd hp;obtain⟨q1,q2,q3,q4⟩:=xg.mp hq;obtain⟨rq,hrq⟩:=yd GQ.rk;have xm:x≠m:=λe=>by have:=hrq _ _ q1;rw[e]at this;omega
  have ym:y≠m:=λe=>by have:=hrq _ _ q2;rw[e]at this;omega
  have ntp:¬ Mr.tie P x y=true:=by
   rw[ti x m1 y m2 ne,ji];rintro(z|z)
   ·exact q3 z
   ·exact q4 z
  have tx:Mr.tie P x m=true:=by rw[ti x m1 m hm xm,ji];exact .inl q1
  have ty:Mr.tie P y m=true:=by rw[ti y m2 m hm ym,ji];exact .inl q2
  have aB:m∈cZ P (ja P x y):=by
   obtain⟨w,u,ew,hc,wu,nu⟩:=Gc GP ne;rw[ew,mQ];have tw:Mr.tie P w m=true:=by rcases hc with ⟨rfl,_⟩|⟨_,rfl⟩<;>assumption
   have tu:Mr.tie P u m=true:=by rcases hc with ⟨_,rfl⟩|⟨rfl,_⟩<;>assumption
   rcases ji.mp tw with a|a
   ·rcases ji.mp tu with b|b
    ·refine absurd (xg.mpr ⟨?_,?_,λz=>ntp (ji.mpr (.inl z)),λz=>ntp (ji.mpr (.inr z))⟩) np
     ·rcases hc with ⟨rfl,_⟩|⟨rfl,_⟩<;>assumption
     ·rcases hc with ⟨_,rfl⟩|⟨_,rfl⟩<;>assumption
    ·exact absurd (Up.step (show ar P w m from a) (.step (show ar P m u from b) (.refl u))) nu
   ·exact a
  refine⟨x,y,rfl,rfl,by simp,hp,ntp,⟨by simp,by simp,λz hz=>?_,by simp[xm,ne,dW ym],λk hk=>?_,λk hk=>?_⟩⟩
  ·rcases bZ.mp hz with rfl|hz
   ·exact m1
   ·rcases bZ.mp hz with rfl|hz
    ·exact hm
    ·rw[fg.mp hz];exact m2
  ·have:k=0\/k=1:=by simp at hk;omega
   rcases this with rfl|rfl
   ·exact ji.mpr (.inl q1)
   ·exact ji.mpr (.inr q2)
  ·have:k=0:=by simp at hk;omega
   subst this;exact⟨q1,q2,aB⟩
theorem Q9{ae:List Str}{A B:List Ar}(GA:Gd ae A)(GB:Gd ae B){b:Bool}{l:List Str}{x y:Str}(hx:nth l 0=x)(hy:nth l (l.length-1)=y)(hp:(x,y)∈prs ae)(np:¬ tie (if b then A else B) x y=true)(O:Bv ae (if b then B else A) (cZ (if b then A else B) (ja (if b then A else B) x y)) l) :
 pV [.d (toD x y (cZ (if b then A else B) (ja (if b then A else B) x y)) b l),.d (.lst [ak ae A,ak ae B])]=.ok (.d (.bl true)):=by
 have GP:Gd ae (if b then A else B):=by cases b;exact GB;exact GA
 have GQ:Gd ae (if b then B else A):=by cases b;exact GA;exact GB
 obtain⟨P,hP⟩ : ∃P,P=if b then A else B:=⟨_,rfl⟩;obtain⟨Q,hQ⟩ : ∃Q,Q=if b then B else A:=⟨_,rfl⟩;rw[<- hP]at np O GP ⊢;rw[<- hQ]at O GQ;obtain⟨mx,my,ne⟩:=Ci GP.nd hp;obtain⟨w,u,ew,hc,wu,nu⟩:=Gc GP ne;obtain⟨r,hr⟩:=yd GP.rk;obtain⟨aB,hh⟩ : ∃aB,aB=cZ P (ja P x y):=⟨_,rfl⟩;rw[<- hh]at O ⊢;rw[ew]at hh;have mh:∀z,z∈aB↔ar P z w:=λz=>by rw[hh,mQ];exact Iff.rfl
 have wn:w∈ae:=by rcases hc with ⟨rfl,_⟩|⟨_,rfl⟩<;>assumption
 have hs:∀z∈aB,z∈ae:=λz hz=>(GP.inn _ ((mh z).mp hz)).1;have ndh:aB.Nodup:=by rw[hh];exact GP.lk.vC w
 have nw:w∉aB:=λz=>by have:=hr _ _ ((mh w).mp z);omega
 have nuh:u∉aB:=λz=>np (by
  have z:=(mh u).mp z;rcases hc with ⟨rfl,rfl⟩|⟨rfl,rfl⟩
  ·exact ji.mpr (.inr z)
  ·exact ji.mpr (.inl z))
 have nx:x∉aB:=by rcases hc with ⟨rfl,_⟩|⟨rfl,_⟩<;>assumption
 have ny:y∉aB:=by rcases hc with ⟨_,rfl⟩|⟨_,rfl⟩<;>assumption
 have hl8:aB.length<=8:=c7 (jx ndh hs) GP.le;have prt:qf [.d (ak ae P),.d (.str x),.d (.str y),.d (am aB)]=.ok (.d (.bl true)):=by
  rw[U5 GP.lk mx my ne hs ndh nx ny];have:wG P x y aB=false:=by rw[Dw,ne_eq,F1];rw[show(λz=>z∈aB)=(λz=>ar P z w)from funext λz=>propext (mh z)];exact R8 hr wu nu (λz=>nuh ((mh u).mpr z)) hc
  rw[this];rfl
 have opn:qu [.d (ak ae Q),.d (am l),.d (.str x),.d (.str y),.d (am aB)]=.ok (.d (.bl true)):=by rw[<- hx,<- hy];exact PP GQ O hs ndh
 have ndS:([x,y]++aB).Nodup:=by
  refine pE.mpr ⟨by simp[ne],ndh,λa ha b hb e=>?_⟩;subst e;rcases bZ.mp ha with rfl|z
  ·exact nx hb
  ·rw[fg.mp z]at hb;exact ny hb
 obtain⟨so,hso⟩ : ∃so,so=[x,y]++aB:=⟨_,rfl⟩;rw[<- hso]at ndS;have sin:∀z∈so,z∈ae:=λz hz=>by
  rw[hso]at hz;rcases fG.mp hz with q|q
  ·rcases bZ.mp q with rfl|q
   ·exact mx
   ·rw[fg.mp q];exact my
  ·exact hs z q
 have s8:so.length<=8:=c7 (jx ndS sin) GP.le;obtain⟨e1,f1,o8,he1⟩:=iT (tg:=.n 8) (body:=(bq (dY (dw (cB (m1 (h9 ["str"]) (m2 au (mV 7) (mV 8))))) (dY (cB (m2 cQ (m2 au (mV 7) (mV 8)) (m2 au (m2 au (mV 1) (mC (.int 0))) (mC (.int 0))))) (cB (m2 bC (m2 au (mV 7) (mV 8)) (bV cx (mV 7) af (ac (mV 8)))))))
 (br (wD (mC (.bl false))))
 bw))
  (λn e=>∃o8:Option W,e=[ac (W.d (toD x y aB b l)),ac (W.d (.lst [ak ae A,ak ae B])),ac (W.d (.str x)),ac (W.d (.str y)),ac (W.d (am aB)),ac (W.d (.bl b)),ac (W.d (am l)),ac (W.d (am so)),o8,af,af]) (dA 0 ((so.length:Nat):Int)) 0 (λk d e hd ⟨o8,he⟩=>by
   obtain⟨hk,rfl⟩:=sK hd;subst he;have ik:m2 au (mV 7) (mV 8) [ac (W.d (toD x y aB b l)),ac (W.d (.lst [ak ae A,ak ae B])),ac (W.d (.str x)),ac (W.d (.str y)),ac (W.d (am aB)),ac (W.d (.bl b)),ac (W.d (am l)),ac (W.d (am so)),ac (W.d (.int (k:Int))),af,af]=.ok (.str (nth so k)):=aw rfl rfl (by
    have:=yb (be:=so) (z:=(k:Int)) (by omega) (by omega)
    rwa [iP]at this)
   have sl:bV cx (mV 7) af (ac (mV 8)) [ac (W.d (toD x y aB b l)),ac (W.d (.lst [ak ae A,ak ae B])),ac (W.d (.str x)),ac (W.d (.str y)),ac (W.d (am aB)),ac (W.d (.bl b)),ac (W.d (am l)),ac (W.d (am so)),ac (W.d (.int (k:Int))),af,af]=.ok (am (so.take k)):=by rw[sN (x:=am so) (i:=(k:Int)) rfl rfl];show Rs.ok (D.lst (eP (so.map D.str) af (ac (k:Int))))=_;rw[EE,<- v6];rfl
   have nm:m2 au (m2 au (mV 1) (mC (.int 0))) (mC (.int 0)) [ac (W.d (toD x y aB b l)),ac (W.d (.lst [ak ae A,ak ae B])),ac (W.d (.str x)),ac (W.d (.str y)),ac (W.d (am aB)),ac (W.d (.bl b)),ac (W.d (am l)),ac (W.d (am so)),ac (W.d (.int (k:Int))),af,af]=.ok (a6 ae):=aw (aw rfl rfl (by show cy (cC [ak ae A,ak ae B] 0)=_;rw[at0];rfl)) rfl (fP ae A);have c1:(dY (dw (cB (m1 (h9 ["str"]) (m2 au (mV 7) (mV 8))))) (dY (cB (m2 cQ (m2 au (mV 7) (mV 8)) (m2 au (m2 au (mV 1) (mC (.int 0))) (mC (.int 0))))) (cB (m2 bC (m2 au (mV 7) (mV 8)) (bV cx (mV 7) af (ac (mV 8))))))) [ac (W.d (toD x y aB b l)),ac (W.d (.lst [ak ae A,ak ae B])),ac (W.d (.str x)),ac (W.d (.str y)),ac (W.d (am aB)),ac (W.d (.bl b)),ac (W.d (am l)),ac (W.d (am so)),ac (W.d (.int (k:Int))),af,af]=.ok false:=lg (p:=false) (q:=false) (lX (p:=true) (bB (by unfold m1;rw[ik];rfl))) λ_=>lg (p:=false) (q:=false) (bB (aw ik nm ((BX ae _).trans (by rw[cV (sin _ (lH hk))];rfl)))) λ_=>bB (aw ik sl ((pT _ _).trans (by rw[d6 (BD ndS (Ce hk))])))
   exact⟨[ac (W.d (toD x y aB b l)),ac (W.d (.lst [ak ae A,ak ae B])),ac (W.d (.str x)),ac (W.d (.str y)),ac (W.d (am aB)),ac (W.d (.bl b)),ac (W.d (am l)),ac (W.d (am so)),ac (W.d (.int (k:Int))),af,af],_,rfl,(dQ c1).trans rfl,_,rfl⟩) [ac (W.d (toD x y aB b l)),ac (W.d (.lst [ak ae A,ak ae B])),ac (W.d (.str x)),ac (W.d (.str y)),ac (W.d (am aB)),ac (W.d (.bl b)),ac (W.d (am l)),ac (W.d (am so)),af,af,af] ⟨af,rfl⟩
 subst he1;unfold pV Gr;rw[gq];rw[show([ac (W.d (toD x y aB b l)),ac (W.d (.lst [ak ae A,ak ae B]))]++cu (11-2) af)=[ac (W.d (toD x y aB b l)),ac (W.d (.lst [ak ae A,ak ae B])),af,af,af,af,af,af,af,af,af]from rfl];rw[aM ((dQ (show(dY (dw (cB (m1 (h9 ["tuple"]) (mV 0)))) (cB (m2 gp (mN bR [(mV 0)]) (mC (.int 5))))) [ac (W.d (toD x y aB b l)),ac (W.d (.lst [ak ae A,ak ae B])),af,af,af,af,af,af,af,af,af]=.ok false from rfl)).trans rfl)];rw[aM (e':=[ac (W.d (toD x y aB b l)),ac (W.d (.lst [ak ae A,ak ae B])),ac (W.d (.str x)),ac (W.d (.str y)),ac (W.d (am aB)),ac (W.d (.bl b)),ac (W.d (am l)),af,af,af,af]) rfl];rw[aM ((dQ (show(dY (dw (cB (m1 (h9 ["list"]) (mV 4)))) (dw (cB (m1 (h9 ["bool"]) (mV 5))))) [ac (W.d (toD x y aB b l)),ac (W.d (.lst [ak ae A,ak ae B])),ac (W.d (.str x)),ac (W.d (.str y)),ac (W.d (am aB)),ac (W.d (.bl b)),ac (W.d (am l)),af,af,af,af]=.ok false from rfl)).trans rfl)];have s7:m2 bc (mN b9 [(mV 2),(mV 3)]) (mV 4) [ac (W.d (toD x y aB b l)),ac (W.d (.lst [ak ae A,ak ae B])),ac (W.d (.str x)),ac (W.d (.str y)),ac (W.d (am aB)),ac (W.d (.bl b)),ac (W.d (am l)),af,af,af,af]=.ok (am so):=by refine(aw (x:=am [x,y]) (y:=am aB) (rS rfl rfl) rfl (qF _ _)).trans ?_;rw[aG (by rw[aP,aP];simp only[eG,iz];omega),hso];rfl
 rw[aM (e':=[ac (W.d (toD x y aB b l)),ac (W.d (.lst [ak ae A,ak ae B])),ac (W.d (.str x)),ac (W.d (.str y)),ac (W.d (am aB)),ac (W.d (.bl b)),ac (W.d (am l)),ac (W.d (am so)),af,af,af]) (bD s7)];rw[aM ((eR (iL ((eB (x:=am so) rfl).trans (by unfold am;rw[nA,aP])) (oI so.length s8))).trans f1)];have s9:m2 au (mV 1) (mN qI [(Bx (mV 5))]) [ac (W.d (toD x y aB b l)),ac (W.d (.lst [ak ae A,ak ae B])),ac (W.d (.str x)),ac (W.d (.str y)),ac (W.d (am aB)),ac (W.d (.bl b)),ac (W.d (am l)),ac (W.d (am so)),o8,af,af]=.ok (ak ae P):=by rw[hP];cases b<;>rfl
 rw[aM (e':=[ac (W.d (toD x y aB b l)),ac (W.d (.lst [ak ae A,ak ae B])),ac (W.d (.str x)),ac (W.d (.str y)),ac (W.d (am aB)),ac (W.d (.bl b)),ac (W.d (am l)),ac (W.d (am so)),o8,ac (W.d (ak ae P)),af]) (bD s9)];have s10:m2 au (mV 1) (mN qI [(mV 5)]) [ac (W.d (toD x y aB b l)),ac (W.d (.lst [ak ae A,ak ae B])),ac (W.d (.str x)),ac (W.d (.str y)),ac (W.d (am aB)),ac (W.d (.bl b)),ac (W.d (am l)),ac (W.d (am so)),o8,ac (W.d (ak ae P)),af]=.ok (ak ae Q):=by rw[hQ];cases b<;>rfl
 rw[aM (e':=[ac (W.d (toD x y aB b l)),ac (W.d (.lst [ak ae A,ak ae B])),ac (W.d (.str x)),ac (W.d (.str y)),ac (W.d (am aB)),ac (W.d (.bl b)),ac (W.d (am l)),ac (W.d (am so)),o8,ac (W.d (ak ae P)),ac (W.d (ak ae Q))]) (bD s10)];rw[dR (bu (qD (p:=true) (q:=true) (Qs (f:=qf) rfl rfl rfl rfl prt) λ_=>OH (f:=qu) rfl rfl rfl rfl rfl opn))];rfl
end Mr
namespace Mr
open PySem Mi
theorem On(l:List Str){a:E}{e:Mi.Env}(h:a e=.ok (am l)):mN bR [a] e=.ok (.int (l.length:Int)):=(eB h).trans (by unfold am;rw[nA,aP])
theorem Qi{ae:List Str}{ag:List Ar}(hn:ae.length<=8){X Z:D}(hX:vS X=.ok (ae.map D.str))(hT:pe [X]=.ok (a6 ae))(hZ:∀p,bC (pairD p) Z=.ok (.bl (decide (p∈ag)))):kY [.d X,.d Z]=.ok (.d (ak ae (d8 ae ag))):=by
 unfold kY Aj;rw[gq];have ecr:(d8 ae ag).map pairD=ae.flatMap λt=>ae.flatMap λh=>if decide ((t,h)∈ag)then[pairD (t,h)]else[]:=by unfold d8;rw[mq];refine j2 λt _=>?_;rw[eS,rY (λh=>decide ((t,h)∈ag)) (λh=>pairD (t,h))];rfl
 have oq:((d8 ae ag).map pairD).length<=64:=by rw[aP];exact CJ hn ag
 rw[ecr]at oq;obtain⟨e',f1,o3,o4,he⟩:=jN (tg:=.n 3) (body:=(cU (bA (mV 0)) (.n 4)
 (bq (cB (m2 bC (mN dTup [(mV 3),(mV 4)]) (mV 1)))
 (ek 2 (mN dTup [(mV 3),(mV 4)]))
 bw)))
  D.str (λt=>ae.flatMap λh=>if decide ((t,h)∈ag)then[pairD (t,h)]else[])
  (λacc e=>∃o3 o4:Option W,e=[ac (.d X),ac (.d Z),ac (.d (.lst acc)),o3,o4]) ae [] [ac (.d X),ac (.d Z),ac (.d (.lst [])),af,af] (by simp only[iz];omega) ⟨af,af,rfl⟩
  (λt ht acc e hl ⟨o3,o4,he⟩=>by
   subst he;obtain⟨e',g1,o4',he'⟩:=jN (tg:=.n 4) (body:=(bq (cB (m2 bC (mN dTup [(mV 3),(mV 4)]) (mV 1)))
 (ek 2 (mN dTup [(mV 3),(mV 4)]))
 bw))
    D.str (λh=>if decide ((t,h)∈ag)then[pairD (t,h)]else[])
    (λacc e=>∃o4:Option W,e=[ac (.d X),ac (.d Z),ac (.d (.lst acc)),ac (.d (.str t)),o4]) ae acc [ac (.d X),ac (.d Z),ac (.d (.lst acc)),ac (.d (.str t)),o4] hl ⟨_,rfl⟩
    (λh hh acc e hl ⟨o4,he⟩=>by
     subst he;exact⟨[ac (.d X),ac (.d Z),ac (.d (.lst acc)),ac (.d (.str t)),ac (.d (.str h))],putL [ac (.d X),ac (.d Z),ac (.d (.lst acc)),ac (.d (.str t)),ac (.d (.str h))] 2 (acc++if decide ((t,h)∈ag)then[pairD (t,h)]else[]),rfl,yx (bB (aw (fw rfl rfl) rfl (hZ (t,h)))) (λ_=>fw rfl rfl) rfl hl rfl,_,rfl⟩)
   subst he';exact⟨[ac (.d X),ac (.d Z),ac (.d (.lst acc)),ac (.d (.str t)),o4],_,rfl,(eR (et (x:=X) rfl hX)).trans g1,_,_,rfl⟩)
 subst he;rw[show([ac (W.d X),ac (W.d Z)]++cu (5-2) af)=[ac (W.d X),ac (W.d Z),af,af,af]from rfl];rw[aM (e':=[ac (.d X),ac (.d Z),ac (.d (.lst [])),af,af]) (bD (kF _))];rw[aM ((eR (et (x:=X) rfl hX)).trans f1)];rw[dR (bu (fw ((eB (x:=X) rfl).trans hT) ((eB rfl).trans rfl)))];rw[ki,<- ecr];rfl
theorem U9{ae:List Str}(hp:1<=ae.length)(h8:ae.length<=8)(hs:∀x∈ae,x.length<=8/\∀c∈x.cps.toList,c<128)(d:Int):∃x,ou [.d (am ae),.d (.int d)]=.ok (.d (.str x))/\x∉ae:=by
 have hone:=uf (cs:=ae) (i:=0) (by decide) (by omega);obtain⟨one,e1⟩ : ∃one,one=ae.getD (0:Int).toNat eQ:=⟨_,rfl⟩;have mo1:one∈ae:=by rw[e1];exact lH (by show 0<_;omega)
 rw[<- e1]at hone;have l1:=(hs one mo1).1;obtain⟨two,m2',Wa⟩ : ∃two,two∈ae/\au (.lst (ae.map D.str)) (.int (-1))=.ok (.str two):=by
  have hk:ae.length-1<ae.length:=by omega
  refine⟨ae[ae.length-1],n9 hk,?_⟩;show cy (cC (ae.map D.str) (-1))=_;unfold cC gU;rw[a7 (by decide),a8 (by rw[aP];omega)];rw[aP,show((-1:Int)+(ae.length:Int)).toNat=ae.length-1 by omega];simp[hk]
 have l2:=(hs two m2').1;obtain⟨ca,va,xa⟩:=GC (gi d (b:=26) (by decide)) (gf d (b:=26) (by decide));obtain⟨cb,vb,xb⟩:=GC (gi (d/5) (b:=26) (by decide)) (gf (d/5) (b:=26) (by decide));have o50:∀c,(nC c).length<=50:=λc=>by show 1<=50;omega
 have MB:∀(x:Str) (lo hi:Option Int),(jb x lo hi).length<=x.length:=λx lo hi=>by
  show(eP x.cps.toList lo hi).toArray.size<=x.cps.size;unfold eP;simp only[dg,i7,iy,wx];omega
 obtain⟨ts,ets⟩ : ∃ts:List Str,ts=[jb one af (ac (-1))++nC ca,nC cb++jb two (ac 1) af]:=⟨_,rfl⟩;have ts2:ts.length=2:=by rw[ets];rfl
 obtain⟨fs,efs⟩ : ∃fs:List Str,fs=(ts++lv).filter λt=>!decide (t∈ae):=⟨_,rfl⟩;have fin:∀x∈fs,x∉ae:=λx hx=>by
  rw[efs]at hx;have:=(dS.mp hx).2;simpa using this
 have Ww:1<=fs.length:=by
  rcases Nat.eq_zero_or_pos fs.length with h|h
  ·exfalso;have all:∀x∈lv,x∈ae:=λx hx=>by
    by_cases hn:x∈ae
    ·exact hn
    ·have:x∈fs:=by
      rw[efs];exact dS.mpr ⟨gv _ hx,by simpa using hn⟩
     rw[List.length_eq_zero_iff.mp h]at this;exact nomatch this
   have:=jx QX all;rw[xC]at this;omega
  ·exact h
 have Wb:0<min (3:Int) (fs.length:Int):=by omega
 have z0:=gi (d/3) (b:=min (3:Int) (fs.length:Int)) (by omega);have z1:=gf (d/3) (b:=min (3:Int) (fs.length:Int)) (by omega);have zix:=uf (cs:=fs) z0 (by omega);have zm:fs.getD (d/3%min (3:Int) (fs.length:Int)).toNat eQ∈fs:=lH (by omega);refine⟨fs.getD (d/3%min (3:Int) (fs.length:Int)).toNat eQ,?_,fin _ zm⟩;unfold ou KA;rw[gq];rw[show([ac (W.d (am ae)),ac (W.d (.int d))]++cu (4-2) af)=[ac (W.d (am ae)),ac (W.d (.int d)),af,af]from rfl];rw[aM (e':=[ac (W.d (am ae)),ac (W.d (.int d)),ac (W.d (.str jp)),af]) (bD rfl)];have cl:dE (.n 0) eK (mV 0) [af] (lv.map D.str)=.ok ((lv.filter λ_=>true).map D.str):=gr D.str D.str (λ_=>true) _ λt _=>⟨[ac (.d (.str t))],rfl,rfl,λ_=>rfl⟩;rw[qR.mpr (λ_ _=>rfl)]at cl;have hl5:=fb (ρ:=[af]) (e:=[ac (W.d (am ae)),ac (W.d (.int d)),ac (W.d (.str jp)),af]) (it:=bA (mV 2)) (xs:=lv.map D.str) (et (a:=mV 2) (x:=.str jp) rfl (by show Rs.ok _=_;unfold lv;rw[eS];rfl)) (by rw[aP,xC];decide) cl;have Wc:mN b9 [(m2 bc (bV cx (m2 au (mV 0) (mC (.int 0))) af (ac (m1 lf (mC (.int 1))))) (m2 au (mV 2) (m2 bG (mV 1) (mC (.int 26))))),(m2 bc (m2 au (mV 2) (m2 bG (m2 c5 (mV 1) (mC (.int 5))) (mC (.int 26)))) (bV cx (m2 au (mV 0) (m1 lf (mC (.int 1)))) (ac (mC (.int 1))) af))] [ac (W.d (am ae)),ac (W.d (.int d)),ac (W.d (.str jp)),af]=.ok (am ts):=by
  have c1:=MB one af (ac (-1));have c2:=MB two (ac 1) af;have b1:=o50 ca;have b2:=o50 cb;refine(rS (x:=.str (jb one af (ac (-1))++nC ca)) (y:=.str (nC cb++jb two (ac 1) af)) (aw (x:=.str (jb one af (ac (-1)))) (y:=.str (nC ca)) ((sN (f:=cx) (x:=.str one) (i:=-1) (aw rfl rfl hone) rfl).trans ((vG _ _ _).trans (aG (by omega)))) (aw rfl (aw rfl rfl ((jt _ _).trans (aG (by decide)))) xa) ((yk _ _).trans (aG (by omega))))
   (aw (x:=.str (nC cb)) (y:=.str (jb two (ac 1) af)) (aw rfl (aw (aw rfl rfl ((div_ii _ _).trans (aG (io (by decide) (by decide))))) rfl ((jt _ _).trans (aG (by decide)))) xb) ((pc (f:=cx) (x:=.str two) (i:=1) (aw rfl rfl Wa) rfl).trans ((vG _ _ _).trans (aG (by omega)))) ((yk _ _).trans (aG (by omega))))).trans ?_
  rw[ets];rfl
 rw[aM (e':=[ac (W.d (am ae)),ac (W.d (.int d)),ac (W.d (.str jp)),ac (W.d (am (ts++lv)))])
  (bD (aw (x:=am ts) Wc hl5 ((qF _ _).trans ((aG (by rw[aP,aP,ts2,xC];decide)).trans (by unfold am;rw[iM])))))]
 have cf:dE (.n 1) (cB (m2 cQ (mV 1) (mV 0))) (mV 1) [ac (.d (am ae)),af] ((ts++lv).map D.str)=.ok (fs.map D.str):=by rw[efs];exact gr D.str D.str _ _ λt _=>⟨[ac (.d (am ae)),ac (.d (.str t))],rfl,bB (aw rfl rfl (sS ae t)),λ_=>rfl⟩
 rw[aM (e':=[ac (W.d (am ae)),ac (W.d (.int d)),ac (W.d (.str jp)),ac (W.d (am fs))])
  (bD (fb (ρ:=[ac 0,af]) (et (a:=mV 3) (x:=am (ts++lv)) rfl rfl) (by rw[aP,dz,ts2,xC];decide) cf))]
 have hln:∀e:Mi.Env,mV 3 e=.ok (am fs)->mN ma [(mC (.int 3)),(mN bR [(mV 3)])] e=.ok (.int (min (3:Int) (fs.length:Int))):=λe h=>(nP rfl ((eB h).trans (by unfold am;rw[nA,aP]))).trans (Jw _ _);rw[dR (bu (aw (x:=am fs) rfl (aw (aw rfl rfl ((div_ii _ _).trans (aG (io (by decide) (by decide))))) (hln _ rfl) ((jt _ _).trans (aG Wb))) zix))];rfl
theorem Iu{α:Type}(xs:List α){k:Nat}(h:k<=xs.length):eP xs af (ac (k:Int))=xs.take k:=by
 unfold eP eo;simp only[tF,Dy];rw[a7 (by omega)]
 congr 1
 omega
theorem UL{ae:List Str}(nd:ae.Nodup)(hp:1<=ae.length)(h8:ae.length<=8)(hs:∀x∈ae,x.length<=8/\∀c∈x.cps.toList,c<128)(d:Int):∃n2:List Str,rN [.d (am ae),.d (.int d)]=.ok (.d (am n2))/\n2≠ae/\n2.length<=8:=by
 obtain⟨Ev,hE⟩ : ∃Ev:Option W->Option W->Mi.Env,Ev=λo2 o3=>[ac (W.d (am ae)),ac (W.d (.int d)),o2,o3]:=⟨_,rfl⟩;have len:∀(o2 o3:Option W),mN bR [(mV 0)] (Ev o2 o3)=.ok (.int (ae.length:Int)):=λo2 o3=>by rw[hE];exact On ae rfl
 have dv:∀(k:Int),0<k->k<1000000->∀(o2 o3:Option W),m2 c5 (mV 1) (mC (.int k)) (Ev o2 o3)=.ok (.int (d/k)):=λk k0 k1 o2 o3=>by rw[hE];exact aw rfl rfl ((div_ii _ _).trans (aG (io k0 (by omega))))
 have md:∀(k:Int) (o2 o3:Option W),cB (m2 bK (m2 bG (mV 1) (mC (.int 4))) (mC (.int k))) (Ev o2 o3)=.ok (decide (d%4=k)):=λk o2 o3=>by rw[hE];exact bB (aw (aw rfl rfl ((jt _ _).trans (aG (by decide)))) rfl (lJ _ _))
 have q0:=gi (d/4) (b:=(ae.length:Int)) (by omega);have q1:=gf (d/4) (b:=(ae.length:Int)) (by omega);obtain⟨k,hk⟩ : ∃k:Nat,d/4%(ae.length:Int)=(k:Int):=⟨(d/4%(ae.length:Int)).toNat,by omega⟩;have kl:k<ae.length:=by omega
 obtain⟨w,hw,wn⟩:=U9 hp h8 hs (d/32);have K:∀(o3:Option W),mV 2 (Ev (ac (W.d (.int (k:Int)))) o3)=.ok (.int (k:Int)):=λo3=>by rw[hE];rfl
 have N0:∀(o2 o3:Option W),mV 0 (Ev o2 o3)=.ok (am ae):=λo2 o3=>by rw[hE];rfl
 have upto:∀(o3:Option W),bV cx (mV 0) af (ac (mV 2)) (Ev (ac (W.d (.int (k:Int)))) o3)=.ok (am (ae.take k)):=λo3=>(sN (f:=cx) (N0 _ _) (K o3)).trans (by
  show Rs.ok (D.lst (eP (ae.map D.str) af (ac (k:Int))))=_;rw[Iu _ (by rw[aP];omega),<- v6];rfl)
 have from1:∀(o3:Option W),bV cx (mV 0) (ac (m2 bc (mV 2) (mC (.int 1)))) af (Ev (ac (W.d (.int (k:Int)))) o3)=.ok (am (ae.drop (k+1))):=λo3=>(pc (f:=cx) (N0 _ _) (aw (K o3) rfl (qL _ _))).trans (by
  show Rs.ok (D.lst (eP (ae.map D.str) (ac ((k:Int)+1)) af))=_;rw[show(k:Int)+1=((k+1:Nat):Int)by omega,B0,<- qU];rfl)
 have from0:∀(o3:Option W),bV cx (mV 0) (ac (mV 2)) af (Ev (ac (W.d (.int (k:Int)))) o3)=.ok (am (ae.drop k)):=λo3=>(pc (f:=cx) (N0 _ _) (K o3)).trans (by
  show Rs.ok (D.lst (eP (ae.map D.str) (ac (k:Int)) af))=_;rw[B0,<- qU];rfl)
 have wrd:∀(o3:Option W),mN b9 [(aN ou [(wD (mV 0)),(wD (m2 c5 (mV 1) (mC (.int 32))))])] (Ev (ac (W.d (.int (k:Int)))) o3)=.ok (am [w]):=λo3=>nz (call2 (f:=ou) (x:=.d (am ae)) (y:=.d (.int (d/32))) (bu (N0 _ _)) (bu (dv 32 (by decide) (by decide) _ _)) hw);have add:∀{a b:E} {e:Mi.Env} {xs ys:List Str},a e=.ok (am xs)->b e=.ok (am ys)->xs.length+ys.length<=1000->m2 bc a b e=.ok (am (xs++ys)):=λ{a b e xs ys} h1 h2 h3=>aw h1 h2 ((qF _ _).trans ((aG (by rw[aP,aP];omega)).trans (by unfold am;rw[iM])));have tk:(ae.take k).length=k:=by rw[i7];omega
 have dr:∀j,(ae.drop j).length=ae.length-j:=λj=>iy;have short:∀{n2:List Str},n2.length≠ae.length->n2≠ae:=λh e=>h (by rw[e]);unfold rN Gm;rw[gq];rw[show([ac (W.d (am ae)),ac (W.d (.int d))]++cu (4-2) af)=Ev af af by rw[hE];rfl];rw[aM (e':=Ev (ac (W.d (.int (k:Int)))) af) ((bD (aw (dv 4 (by decide) (by decide) _ _) (len _ _) ((jt _ _).trans (aG (by omega))))).trans (by rw[hk,hE];rfl))];have c0:=md 0 (ac (W.d (.int (k:Int)))) af;by_cases h0:d%4=0
 ·rw[cV h0]at c0;have r:=add (add (upto af) (wrd af) (by rw[tk];simp;omega)) (from1 af) (by rw[dz,tk,dr];simp;omega);refine⟨ae.take k++[w]++ae.drop (k+1),?_,λe=>wn (by rw[<- e];simp),by rw[dz,dz,tk,dr];simp;omega⟩;rw[kW ((fk c0).trans (dR (bu r)))];rfl
 rw[d6 h0]at c0;rw[aM ((dQ c0).trans rfl)];have gt1:∀(o2 o3:Option W),cB (m2 gV (mN bR [(mV 0)]) (mC (.int 1))) (Ev o2 o3)=.ok (decide ((1:Int)<(ae.length:Int))):=λo2 o3=>bB (aw (len _ _) rfl (yT _ _));have drp:∃n2,m2 bc (bV cx (mV 0) af (ac (mV 2))) (bV cx (mV 0) (ac (m2 bc (mV 2) (mC (.int 1)))) af) (Ev (ac (W.d (.int (k:Int)))) af)=.ok (am n2)/\n2≠ae/\n2.length<=8:=
  ⟨_,add (upto af) (from1 af) (by rw[tk,dr];omega),short (by rw[dz,tk,dr];omega),by rw[dz,tk,dr];omega⟩
 obtain⟨n3,hn3,ne3,l3⟩:=drp;have c1:=ll (md 1 (ac (W.d (.int (k:Int)))) af) λ_=>gt1 (ac (W.d (.int (k:Int)))) af;cases h1:(decide (d%4=1)&&decide ((1:Int)<(ae.length:Int)))with
 |true=>
  rw[h1]at c1;refine⟨n3,?_,ne3,l3⟩;rw[kW ((fk c1).trans (dR (bu hn3)))];rfl
 |false=>
  rw[h1]at c1;rw[aM ((dQ c1).trans rfl)];have c2:=ll (md 2 (ac (W.d (.int (k:Int)))) af) λ_=>gt1 (ac (W.d (.int (k:Int)))) af;cases h2:(decide (d%4=2)&&decide ((1:Int)<(ae.length:Int)))with
  |true=>
   rw[h2]at c2;have n1:(1:Int)<(ae.length:Int):=by rw[km,j6,j6]at h2;exact h2.2
   have p0:=gi (k:Int) (b:=(ae.length:Int)-1) (by omega);have p1:=gf (k:Int) (b:=(ae.length:Int)-1) (by omega);obtain⟨j,hj⟩ : ∃j:Nat,1+(k:Int)%((ae.length:Int)-1)=(j:Int):=⟨(1+(k:Int)%((ae.length:Int)-1)).toNat,by omega⟩;have s3:bf 3 (m2 bc (mC (.int 1)) (m2 bG (mV 2) (m2 gW (mN bR [(mV 0)]) (mC (.int 1))))) (Ev (ac (W.d (.int (k:Int)))) af)=.ok (.nx (Ev (ac (W.d (.int (k:Int)))) (ac (W.d (.int (j:Int)))))):=(bD (aw (x:=.int 1) rfl (aw (K af) (aw (len _ _) rfl (Gx _ _)) ((jt _ _).trans (aG (by omega)))) ((qL _ _).trans (by rw[hj])))).trans (by rw[hE];rfl);have J:mV 3 (Ev (ac (W.d (.int (k:Int)))) (ac (W.d (.int (j:Int)))))=.ok (.int (j:Int)):=by rw[hE];rfl
   have fj:bV cx (mV 0) (ac (mV 3)) af (Ev (ac (W.d (.int (k:Int)))) (ac (W.d (.int (j:Int)))))=.ok (am (ae.drop j)):=(pc (f:=cx) (N0 _ _) J).trans (by
    show Rs.ok (D.lst (eP (ae.map D.str) (ac (j:Int)) af))=_;rw[B0,<- qU];rfl)
   have uj:bV cx (mV 0) af (ac (mV 3)) (Ev (ac (W.d (.int (k:Int)))) (ac (W.d (.int (j:Int)))))=.ok (am (ae.take j)):=(sN (f:=cx) (N0 _ _) J).trans (by
    show Rs.ok (D.lst (eP (ae.map D.str) af (ac (j:Int))))=_;rw[Iu _ (by rw[aP];omega),<- v6];rfl)
   refine⟨ae.drop j++ae.take j,?_,λe=>?_,by rw[dz,dr,i7];omega⟩
   ·rw[kW ((fk c2).trans ((aM s3).trans (dR (bu (add fj uj (by rw[dr,i7];omega))))))];rfl
   ·have h0:(ae.drop j++ae.take j)[0]? = ae[0]?:=by rw[e]
    rw[yX (by rw[dr];omega),C8]at h0;have:=(List.getElem?_inj (by omega) nd).mp h0.symm;omega
  |false=>
   rw[h2]at c2;rw[aM ((dQ c2).trans rfl)];have c8:=bB (aw (b:=mC (.int 8)) (len (ac (W.d (.int (k:Int)))) af) rfl (lJ (ae.length:Int) 8));by_cases e8:(ae.length:Int)=8
   ·rw[cV e8]at c8;refine⟨n3,?_,ne3,l3⟩;rw[kW ((fk c8).trans (dR (bu hn3)))];rfl
   ·rw[d6 e8]at c8;refine⟨ae.take k++[w]++ae.drop k,?_,short (by rw[dz,dz,tk,dr];simp;omega),by rw[dz,dz,tk,dr];simp;omega⟩;rw[aM ((dQ c8).trans rfl)];rw[dR (bu (add (add (upto af) (wrd af) (by rw[tk];simp;omega)) (from0 af) (by rw[dz,tk,dr];simp;omega)))];rfl
end Mr
namespace Mr
open PySem Mi
open My (words gF gH)
theorem IE{n1 n2:List Str}(A B:List Ar)(ne:n1≠n2):qz [.d (ak n1 A),.d (ak n2 B)]=.ex ⟨"Unlike", []⟩:=by have ct:=J9 (bB (aw (a:=m2 au (mV 0) (mC (.int 0))) (b:=m2 au (mV 1) (mC (.int 0))) (e:=[ac (W.d (ak n1 A)),ac (W.d (ak n2 B))]) (aw rfl rfl (fP n1 A)) (aw rfl rfl (fP n2 B)) (yq n1 n2)));rw[d6 ne]at ct;unfold qz G8;rw[gq];rw[show([ac (W.d (ak n1 A)),ac (W.d (ak n2 B))]++cu (2-2) af)=[ac (W.d (ak n1 A)),ac (W.d (ak n2 B))]from rfl];rw[fk ct];rfl
theorem IT{n1 n2:List Str}(A B:List Ar)(ne:n1≠n2){way:Int}:lR [.d (.lst [ak n1 A,ak n2 B]),.d (.int way)]=.ok (.d (.lst [.str "Unlike"])):=by
 obtain⟨X,hX⟩ : ∃X,X=D.lst [ak n1 A,ak n2 B]:=⟨_,rfl⟩;have i0:∀(o2 o3:Option W),m2 au (mV 0) (mC (.int 0)) [ac (W.d X),ac (W.d (.int way)),o2,o3]=.ok (ak n1 A):=λ_ _=>by rw[hX];exact aw rfl rfl (by show cy (cC [ak n1 A,ak n2 B] 0)=_;rw[at0];rfl)
 have i1:∀(o2 o3:Option W),m2 au (mV 0) (mC (.int 1)) [ac (W.d X),ac (W.d (.int way)),o2,o3]=.ok (ak n2 B):=λ_ _=>by rw[hX];exact aw rfl rfl (by show cy (cC [ak n1 A,ak n2 B] 1)=_;rw[at1];rfl)
 have xs:sr [.d (ak n1 A),.d (ak n2 B)]=.ex ⟨"Unlike", []⟩:=by unfold sr GR;rw[gq];rw[show([ac (W.d (ak n1 A)),ac (W.d (ak n2 B))]++cu (2-2) af)=[ac (W.d (ak n1 A)),ac (W.d (ak n2 B))]from rfl];rw[HU (xK rfl rfl (IE A B ne))];rfl
 have xt:rQ [.d (ak n1 A),.d (ak n2 B)]=.ex ⟨"Unlike", []⟩:=by unfold rQ FS;rw[gq];rw[HU (xK (x:=.d (ak n1 A)) (y:=.d (ak n2 B)) rfl rfl (IE A B ne))];rfl
 rw[<- hX];have hb:(bq (cP (cB (m2 bK (mV 1) (mC (.int 0)))))
 (mj sr [(wD (m2 au (mV 0) (mC (.int 0)))),(wD (m2 au (mV 0) (mC (.int 1))))])
 (mj rQ [(wD (m2 au (mV 0) (mC (.int 0)))),(wD (m2 au (mV 0) (mC (.int 1))))])) [ac (W.d X),ac (W.d (.int way)),ac (W.d (.lst [])),af]=.ex ⟨"Unlike", []⟩:=by
  have ct:=J9 (bB (aw (a:=mV 1) (b:=mC (.int 0)) (e:=[ac (W.d X),ac (W.d (.int way)),ac (W.d (.lst [])),af]) rfl rfl (lJ way 0)));cases hw:decide (way=0)with
  |true=>rw[hw]at ct;exact(fk ct).trans (xK (bu (i0 _ _)) (bu (i1 _ _)) xs)
  |false=>rw[hw]at ct;exact(dQ ct).trans (xK (bu (i0 _ _)) (bu (i1 _ _)) xt)
 unfold lR KW;rw[gq];rw[show([ac (W.d X),ac (W.d (.int way))]++cu (4-2) af)=[ac (W.d X),ac (W.d (.int way)),af,af]from rfl];rw[aM (e':=[ac (W.d X),ac (W.d (.int way)),ac (W.d (.lst [])),af]) (bD (kF _))];have hh:=bD (i:=2) (i6 (f:=vF) (a:=wV 3) (e:=[ac (W.d X),ac (W.d (.int way)),ac (W.d (.lst [])),ac (.ex "Unlike")]) rfl P0);rw[aM (e':=[ac (W.d X),ac (W.d (.int way)),ac (W.d (.lst [.str "Unlike"])),af]) (QJ (z:=⟨"Unlike",[]⟩) (o:=.nx [ac (W.d X),ac (W.d (.int way)),ac (W.d (.lst [.str "Unlike"])),ac (.ex "Unlike")]) hb (cW ..) hh)];rw[dR (bu rfl)];rfl
theorem UT{ae:List Str}{A:List Ar}(G:Gd ae A)(hs:∀x∈ae,x.length<=8/\∀c∈x.cps.toList,c<128)(d:Int):qo [.d (ak ae A),.d (.int d)]=.ok (.d (.bl true)):=by
 obtain⟨n2,hn,ne,l8⟩:=UL G.nd G.pos G.le hs (d/2);obtain⟨B,hB⟩ : ∃B,B=d8 n2 A:=⟨_,rfl⟩;have so:kY [.d (am n2),.d (dm A)]=.ok (.d (ak n2 B)):=by rw[hB];exact Qi l8 rfl rfl λp=>Ap A p
 have i0:∀(o2:Option W),m2 au (mV 0) (mC (.int 0)) [ac (W.d (ak ae A)),ac (W.d (.int d)),o2]=.ok (a6 ae):=λ_=>aw rfl rfl (fP ae A);have i1:∀(o2:Option W),m2 au (mV 0) (mC (.int 1)) [ac (W.d (ak ae A)),ac (W.d (.int d)),o2]=.ok (dm A):=λ_=>aw rfl rfl (jU ae A);unfold qo IW;rw[gq];rw[show([ac (W.d (ak ae A)),ac (W.d (.int d))]++cu (3-2) af)=[ac (W.d (ak ae A)),ac (W.d (.int d)),af]from rfl];rw[aM (e':=[ac (W.d (ak ae A)),ac (W.d (.int d)),ac (W.d (.lst [ak ae A,ak n2 B]))]) (bD (rS rfl (call2 (f:=kY) (x:=.d (am n2)) (y:=.d (dm A)) (bu (call2 (f:=rN) (x:=.d (am ae)) (y:=.d (.int (d/2))) (bu ((eB (i0 _)).trans rfl)) (bu (aw rfl rfl ((div_ii _ _).trans (aG (io (by decide) (by decide)))))) hn)) (bu (i1 _)) so)))];have ct:=bB (aw (b:=mC (.int 1)) (aw (a:=mV 1) (b:=mC (.int 2)) (e:=[ac (W.d (ak ae A)),ac (W.d (.int d)),ac (W.d (.lst [ak ae A,ak n2 B]))]) rfl rfl ((jt _ _).trans (aG (by decide)))) rfl (lJ (d%2) 1));have dq:bK (.lst [.str "Unlike"]) (.lst [.str "Unlike"])=.ok (.bl true):=by rfl
 have fin:∀{m1 m2':List Str} {C E:List Ar},m1≠m2'->rV (br (wD (ie (m2 bK (aN lR [(wD (mV 2)),(wD (mC (.int 0)))]) (mN b9 [(mC (.str "Unlike"))])) (m2 bK (aN lR [(wD (mV 2)),(wD (mC (.int 1)))]) (mN b9 [(mC (.str "Unlike"))]))))) [ac (W.d (ak ae A)),ac (W.d (.int d)),ac (W.d (.lst [ak m1 C,ak m2' E]))]=.ok (.rt (.d (.bl true))):=λ{m1 m2' C E} nn=>
  CL (dR (bu (qD (p:=true) (q:=true) (aw (call2 (f:=lR) (x:=.d (.lst [ak m1 C,ak m2' E])) (y:=.d (.int 0)) rfl rfl (IT C E nn)) (nz rfl) dq) λ_=>aw (call2 (f:=lR) (x:=.d (.lst [ak m1 C,ak m2' E])) (y:=.d (.int 1)) rfl rfl (IT C E nn)) (nz rfl) dq)))
 cases hk:decide (d%2=1)with
 |false=>
  rw[hk]at ct;rw[aM ((dQ ct).trans rfl),fin (dW ne)];rfl
 |true=>
  rw[hk]at ct;rw[aM (e':=[ac (W.d (ak ae A)),ac (W.d (.int d)),ac (W.d (.lst [ak n2 B,ak ae A]))]) ((fk ct).trans rfl),fin ne];rfl
theorem G1:∀xs:List Str,A.mM (xs.map D.str)=true
 |[]=>rfl
 |x::r=>by rw[cM,A.mM,G1 r];rfl
theorem FF:∀xs:List Ar,A.mM (xs.map pairD)=true
 |[]=>rfl
 |x::r=>by rw[cM,A.mM,FF r];rfl
theorem Iq(ae:List Str)(A:List Ar):_root_.A.mG (ak ae A)=true:=by unfold ak a6 dm;rw[A.mG,A.mM,A.mG,A.mM,A.mG,G1,FF];rfl
theorem OB{i:Nat}{fn:Fn}{ws:List EW}{c1 c2 c3:C}{f1 f3 r:S}{e:Mi.Env}{vs:List W}{d:D}(h:cG ws e=.ok vs)(hn:nG vs=true)(hf:fn vs=.ok (.d d))(hs:uZ d=true)(hi:i<e.length)(h1:c1 (e.set i (ac (.d d)))=.ok false)(h2:c2 (e.set i (ac (.d d)))=.ok false):qK i fn ws c1 f1 c2 c3 f3 r e=r ((e.set i af).set i af):=by unfold qK;rw[h,aK,aG hn,hf,aK,o0,aK,aG ⟨hs,hi⟩,h1,aK,a7 dJ,h2,aK,a7 dJ]
theorem Sv{i:Nat}{fn:Fn}{ws:List EW}{c1 c2 c3:C}{f1 f3 r:S}{e:Mi.Env}{vs:List W}{d:D}(h:cG ws e=.ok vs)(hn:nG vs=true)(hf:fn vs=.ok (.d d))(hs:uZ d=true)(ht:xc d=true)(hi:i<e.length)(h1:c1 (e.set i (ac (.d d)))=.ok false)(h2:c2 (e.set i (ac (.d d)))=.ok true)(h3:c3 (e.set i (ac (.d d)))=.ok false):qK i fn ws c1 f1 c2 c3 f3 r e=r ((e.set i af).set i af):=by unfold qK;rw[h,aK,aG hn,hf,aK,o0,aK,aG ⟨hs,hi⟩,h1,aK,a7 dJ,h2,aK,a8 rfl,aG ht,h3,aK,a7 dJ]
abbrev Bt:S:=(aE (bf 6 (aN lT [(wD (m2 au (mV 3) (mC (.int 0)))),(wD (m2 au (mV 3) (mC (.int 1))))]))
 (qK 7 lG [(wD (m2 au (mV 3) (mC (.int 0)))),(wD (m2 au (mV 3) (mC (.int 1))))] (dY (dw (cB (m1 (h9 ["bool"]) (mV 6)))) (dY (cB (m2 gp (mV 6) (mV 4))) (cB (m2 gp (mV 4) (m2 sB (mV 7) (mC .non))))))
 (br (wD (mC (.bl false))))
 (cB (m2 Cp (mV 7) (mC .non))) (dw (cB (uS pV [(wD (mV 7)),(wD (mV 3))])))
 (br (wD (mC (.bl false))))
 (ul 3)))
theorem N3{ae:List Str}{A B:List Ar}(GA:Gd ae A)(GB:Gd ae B)(v0 v1 v2:W)(o5 o6 o7:Option W):∃o6',Bt [ac v0,ac v1,ac v2,ac (W.d (.lst [ak ae A,ak ae B])),ac (W.d (.bl (jG ae A B))),o5,o6,o7]=.ok (.nx [ac v0,ac v1,ac v2,ac (W.d (.lst [ak ae B,ak ae A])),ac (W.d (.bl (jG ae A B))),o5,o6',af]):=by
 obtain⟨s,hs⟩ : ∃s,s=jG ae A B:=⟨_,rfl⟩;have i0:∀(o6 o7:Option W),m2 au (mV 3) (mC (.int 0)) [ac v0,ac v1,ac v2,ac (W.d (.lst [ak ae A,ak ae B])),ac (W.d (.bl s)),o5,o6,o7]=.ok (ak ae A):=λ_ _=>aw rfl rfl (by show cy (cC [ak ae A,ak ae B] 0)=_;rw[at0];rfl);have i1:∀(o6 o7:Option W),m2 au (mV 3) (mC (.int 1)) [ac v0,ac v1,ac v2,ac (W.d (.lst [ak ae A,ak ae B])),ac (W.d (.bl s)),o5,o6,o7]=.ok (ak ae B):=λ_ _=>aw rfl rfl (by show cy (cC [ak ae A,ak ae B] 1)=_;rw[at1];rfl);have ss:=EO GA GB;rw[<- hs]at ss ⊢;refine⟨ac (.d (.bl s)),(aM (e':=[ac v0,ac v1,ac v2,ac (W.d (.lst [ak ae A,ak ae B])),ac (W.d (.bl s)),o5,ac (.d (.bl s)),o7]) (bD (call2 (f:=lT) (bu (i0 _ _)) (bu (i1 _ _)) ss))).trans ?_⟩;have ar:cG [(wD (m2 au (mV 3) (mC (.int 0)))),(wD (m2 au (mV 3) (mC (.int 1))))] [ac v0,ac v1,ac v2,ac (W.d (.lst [ak ae A,ak ae B])),ac (W.d (.bl s)),o5,ac (.d (.bl s)),o7]=.ok [.d (ak ae A),.d (ak ae B)]:=by rw[cG,bu (i0 _ _),aK,cG,bu (i1 _ _)];rfl
 have nw:nG [.d (ak ae A),.d (ak ae B)]=true:=by rw[nG,nG,Iq,Iq];rfl
 have ne:∀b:Bool,gp (.bl b) (.bl b)=.ok (.bl false):=λb=>by cases b<;>rfl
 have c1:∀{d:D},vm d=s->(dY (dw (cB (m1 (h9 ["bool"]) (mV 6)))) (dY (cB (m2 gp (mV 6) (mV 4))) (cB (m2 gp (mV 4) (m2 sB (mV 7) (mC .non)))))) [ac v0,ac v1,ac v2,ac (W.d (.lst [ak ae A,ak ae B])),ac (W.d (.bl s)),o5,ac (.d (.bl s)),ac (.d d)]=.ok false:=λ{d} h=>
  lg (p:=false) (q:=false) (lX (p:=true) rfl) λ_=>lg (p:=false) (q:=false) (bB (aw rfl rfl (ne s))) λ_=>bB (aw (x:=.bl s) (y:=.bl s) rfl (aw (x:=d) rfl rfl (by show Rs.ok (D.bl (vm d))=_;rw[h])) (ne s))
 cases hb:jG ae A B with
 |true=>
  have hs1:s=true:=hs.trans hb;have S:=vc.mp hb;rw[OB (d:=.non) ar nw (HJ GA GB S) rfl (by simp) (c1 (by rw[hs1];rfl)) rfl];rfl
 |false=>
  have hs1:s=false:=hs.trans hb;have nS:¬ Sm ae A B:=λS=>by rw[vc.mpr S]at hb;cases hb
  cases ha:mB ae A B with
  |nil=>exact absurd ((FX GA GB).mp ha) nS
  |cons q rr=>
   obtain⟨b,l⟩:=q;have ap:=Pj GA GB ha;obtain⟨x,y,hx,hy,h1,hp,np,O⟩:=RL (by cases b;exact GB;exact GA) (by cases b;exact GA;exact GB) ap;obtain⟨xn,yn⟩:=qq hp;have tl:=OJ GA GB ha h1 hx hy xn yn;have apk:=Q9 GA GB hx hy hp np O;obtain⟨aB,hh⟩ : ∃aB,aB=cZ (if b then A else B) (ja (if b then A else B) x y):=⟨_,rfl⟩;have hl:aB.length<=64:=by
    rw[hh];exact rR (by
     cases b
     ·exact GB.al
     ·exact GA.al)
   rw[<- hh]at tl apk;cases l with
   |nil=>simp at h1
   |cons l0 lr=>
    have sh:uZ (toD x y aB b (l0::lr))=true:=by show decide ((aB.map D.str).length<16777216)=true;rw[aP,j6];omega
    rw[Sv (d:=toD x y aB b (l0::lr)) ar nw tl sh rfl (by simp) (c1 (by rw[hs1];rfl)) rfl (lX (p:=true) (bB (Ry (f:=pV) (x:=.d (toD x y aB b (l0::lr))) (y:=.d (.lst [ak ae A,ak ae B])) rfl rfl apk rfl)))];rfl
theorem KL(ns:List Int)(hl:ns.length<=63):Bd [.d (.lst (ns.map D.int))]=.ok (.d (.bl true)):=by
 obtain⟨ae,A0,r,z5,IN,cw,mw,hm8,hnm⟩:=SA ns 8 (by decide) (by decide);rw[show((8:Nat):Int)=8 from rfl]at z5;have hs:∀x∈ae,x.length<=8/\∀c∈x.cps.toList,c<128:=λx hx=>by
  rw[hnm]at hx;obtain⟨l,hl,rfl⟩:=cX.mp hx;obtain⟨h1,h2,h3⟩:=gH cw mw hm8 l hl;exact⟨by rw[kx];exact h2,λc hc=>by have:=h3 c hc;omega⟩
 have hw:∀x∈ae,rA [.d (.str x)]=.ok (.d (.bl true)):=λx hx=>by
  rw[hnm]at hx;obtain⟨l,hl,rfl⟩:=cX.mp hx;exact QU (gH cw mw hm8 l hl)
 have G:=IN.gd hw;generalize A0.map (arrOf ae)=A at z5 G;obtain⟨c,hc⟩:=qc ns 32 (by decide);rw[show((32:Nat):Int)=32 from rfl]at hc;obtain⟨c3,hc3⟩:=qc ns 33 (by decide);rw[show((33:Nat):Int)=33 from rfl]at hc3;obtain⟨X,hX,RX⟩:=Pq G (c/2);have GB:=Gd.of G.nd G.pos G.le G.wd RX;generalize d8 ae X=B at hX GB;obtain⟨Ls,hLs⟩ : ∃Ls,Ls=D.lst (ns.map D.int):=⟨_,rfl⟩;rw[<- hLs]at z5 hc hc3 ⊢;unfold Bd Hy;rw[Ba];rw[show([ac (W.d Ls)]++cu (8-1) af)=[ac (W.d Ls),af,af,af,af,af,af,af]from rfl];rw[aM (e':=[ac (W.d Ls),ac (W.d (ak ae A)),af,af,af,af,af,af]) (bD (call2 rfl rfl z5))];rw[aM (e':=[ac (W.d Ls),ac (W.d (ak ae A)),ac (W.d (.int c)),af,af,af,af,af]) (bD (call2 rfl rfl hc))];rw[aM (e':=[ac (W.d Ls),ac (W.d (ak ae A)),ac (W.d (.int c)),ac (W.d (.lst [ak ae A,ak ae B])),af,af,af,af]) (bD (rS rfl (call2 (f:=rH) (x:=.d (ak ae A)) (y:=.d (.int (c/2))) rfl (bu (aw rfl rfl ((div_ii _ _).trans (aG (io (by decide) (by decide)))))) hX)))];have ct:=bB (aw (b:=mC (.int 1)) (aw (a:=mV 2) (b:=mC (.int 2)) (e:=[ac (W.d Ls),ac (W.d (ak ae A)),ac (W.d (.int c)),ac (W.d (.lst [ak ae A,ak ae B])),af,af,af,af]) rfl rfl ((jt _ _).trans (aG (by decide)))) rfl (lJ (c%2) 1));have rest:∀{P Q:List Ar},Gd ae P->Gd ae Q->(aE (bf 4 (ie (m2 bK (aN pB [(wD (m2 au (mV 3) (mC (.int 0))))]) (aN pB [(wD (m2 au (mV 3) (mC (.int 1))))])) (m2 bK (aN oF [(wD (m2 au (mV 3) (mC (.int 0))))]) (aN oF [(wD (m2 au (mV 3) (mC (.int 1))))]))))
 (aE (cU (fo (mC (.int 3))) (.n 5) Bt)
 (aE (bq (dw (cB (aN qo [(wD (mV 1)),(wD (aN ia [(wD (mV 0)),(wD (mC (.int 33)))]))])))
 (br (wD (mC (.bl false))))
 bw)
 (br (wD (ie (m2 Cq (aN lT [(wD (mV 1)),(wD (mV 1))]) (mC (.bl true))) (m2 sB (aN lG [(wD (mV 1)),(wD (mV 1))]) (mC .non)))))))) [ac (W.d Ls),ac (W.d (ak ae A)),ac (W.d (.int c)),ac (W.d (.lst [ak ae P,ak ae Q])),af,af,af,af]=.ok (.rt (.d (.bl true))):=λ{P Q} GP GQ=>by
  have x0:∀(P Q:List Ar) (o4 o5 o6 o7:Option W),m2 au (mV 3) (mC (.int 0)) [ac (W.d Ls),ac (W.d (ak ae A)),ac (W.d (.int c)),ac (W.d (.lst [ak ae P,ak ae Q])),o4,o5,o6,o7]=.ok (ak ae P):=λP Q _ _ _ _=>aw rfl rfl (by show cy (cC [ak ae P,ak ae Q] 0)=_;rw[at0];rfl);have x1:∀(P Q:List Ar) (o4 o5 o6 o7:Option W),m2 au (mV 3) (mC (.int 1)) [ac (W.d Ls),ac (W.d (ak ae A)),ac (W.d (.int c)),ac (W.d (.lst [ak ae P,ak ae Q])),o4,o5,o6,o7]=.ok (ak ae Q):=λP Q _ _ _ _=>aw rfl rfl (by show cy (cC [ak ae P,ak ae Q] 1)=_;rw[at1];rfl);rw[aM (e':=[ac (W.d Ls),ac (W.d (ak ae A)),ac (W.d (.int c)),ac (W.d (.lst [ak ae P,ak ae Q])),ac (W.d (.bl (jG ae P Q))),af,af,af]) (bD (qD (aw (i6 (bu (x0 _ _ _ _ _ _)) (FW GP.le)) (i6 (bu (x1 _ _ _ _ _ _)) (FW GQ.le)) (FJ _ _)) λ_=>aw (i6 (bu (x0 _ _ _ _ _ _)) (FI GP.le)) (i6 (bu (x1 _ _ _ _ _ _)) (FI GQ.le)) (Fx _ _)))];obtain⟨e',f1,P',Q',o5,o6,o7,he,GP',GQ'⟩:=iT (tg:=.n 5) (body:=Bt)
   (λi e=>∃(P Q:List Ar) (o5 o6 o7:Option W),e=[ac (W.d Ls),ac (W.d (ak ae A)),ac (W.d (.int c)),ac (W.d (.lst [ak ae P,ak ae Q])),ac (W.d (.bl (jG ae P Q))),o5,o6,o7]/\Gd ae P/\Gd ae Q) (dA 0 ((3:Nat):Int)) 0 (λi x e hx ⟨P,Q,o5,o6,o7,he,GP,GQ⟩=>by
    subst he;obtain⟨o6',f⟩:=N3 GP GQ (W.d Ls) (W.d (ak ae A)) (W.d (.int c)) (ac (.d x)) o6 o7;exact⟨[ac (W.d Ls),ac (W.d (ak ae A)),ac (W.d (.int c)),ac (W.d (.lst [ak ae P,ak ae Q])),ac (W.d (.bl (jG ae P Q))),ac (.d x),o6,o7],_,rfl,f,Q,P,_,_,_,by rw[Qb ae Q P],GQ,GP⟩) [ac (W.d Ls),ac (W.d (ak ae A)),ac (W.d (.int c)),ac (W.d (.lst [ak ae P,ak ae Q])),ac (W.d (.bl (jG ae P Q))),af,af,af] ⟨P,Q,af,af,af,rfl,GP,GQ⟩
  subst he;rw[show(3:Int)=((3:Nat):Int)from rfl];rw[aM ((eR (iL rfl (nI (by omega) (by omega)))).trans f1)];have un:=UT G hs c3;rw[aM ((dQ (lX (p:=true) (bB (call2 (f:=qo) (x:=.d (ak ae A)) (y:=.d (.int c3)) rfl (bu (call2 (f:=ia) (x:=.d Ls) (y:=.d (.int 33)) rfl rfl hc3)) un)))).trans rfl)];have sa:=EO G G;rw[show jG ae A A=true from vc.mpr (Sm.refl ae A)]at sa;exact dR (bu (qD (p:=true) (q:=true) (aw (call2 (f:=lT) (x:=.d (ak ae A)) (y:=.d (ak ae A)) rfl rfl sa) rfl rfl) λ_=>aw (call2 (f:=lG) (x:=.d (ak ae A)) (y:=.d (ak ae A)) rfl rfl (HJ G G (Sm.refl ae A))) rfl rfl))
 cases hk:decide (c%2=1)with
 |false=>
  rw[hk]at ct;rw[aM ((dQ ct).trans rfl),rest G GB];rfl
 |true=>
  rw[hk]at ct;rw[aM (e':=[ac (W.d Ls),ac (W.d (ak ae A)),ac (W.d (.int c)),ac (W.d (.lst [ak ae B,ak ae A])),af,af,af,af]) ((fk ct).trans rfl),rest GB G];rfl
end Mr
namespace pO
open PySem L2 PyProof.Rows
abbrev cN:ai:=239
abbrev tN:ai:=235
instance dN:A.cp:=⟨[(tN,xX "sorted_rows")],λc=>if c = "ArrowError" then 29 else if c = "WrongSize" then 42 else if c = "NoWord" then 54 else if c = "Twice" then 66 else if c = "NoName" then 78 else if c = "Ring" then 97 else if c = "Unlike" then 109 else if c = "NoArrow" then 121 else if c = "Locked" then 133 else if c = "NoTie" then 145 else if c = "NoSuch" then 157 else if c = "NoNet" then 176 else if c = "NoText" then 188 else if c = "NoRow" then 200 else if c = "NoLabel" then 212 else 0⟩
theorem walk{l:Dj}{q:bH}{loose:List Str}{XP:(Str->Option aj)->aY->Prop}{YP:bt->aY->Prop}{d:DefRec}{K:Params->aO}(hn:l.most=ac 63)(hdf:d.params.defaults=[])
 (hY:∀(w:bt) (h:aY),YP w h->(K w.params).In h) (hL:∀w:bt,IQ (K w.params)=true) (hK:∀w:bt,(K w.params).lookup tN=af) (hrec:∃d,(recsOf q).find? (λe=>e.name==("sorted_rows" : Str))=ac d) (htab:∀w:bt,PySem.W.tabIn (K w.params) "sorted_rows" = ac (cN,tN))
 (F:∀(w:bt) (mg:Str->Option aj) (fa:ai) (h:aY),(K w.params).In h->h.Ns mainGlobals mg->mg d.name=ac (.ref fa) ->
  ∃fd:bJ,(∀(s:az) (u:aj),oi s fd ⟨[u],[]⟩ [("_law_script",u)])/\∀base:aY,(K w.params).In base->base.Ns mainGlobals mg->BM mg base->kO base cN tN->bO l.prog w (K w.params) mg base aI 10 fa fd ["_law_script"] A.vJ) :
 PySem.W.WalkO q loose XP YP l.row.toRowW d [] (λf vs=>Dt f vs):=
 L2.Ug (x := "_law_script") (dn := "sorted_rows") (qn:=xX "sorted_rows") (k:=10) rfl hn hdf ⟨rfl,by decide,by decide⟩ hY (λw a o e c=>Qu (hL w) e c) hK hrec htab F
theorem ON{K:aO}{h:aY}{mg:Str->Option aj}(X:K.In h)(G:h.Ns mainGlobals mg)(Ea:dU K mainGlobals "len" = ac af)(Eb:dU K mainGlobals "range" = ac af)(Ec:dU K mainGlobals "max" = ac af)(Ed:dU K mainGlobals "min" = ac af)(Ee:dU K mainGlobals "tuple" = ac af)(Ef:dU K mainGlobals "list" = ac af)(Eg:dU K mainGlobals "isinstance" = ac af)(Eh:dU K mainGlobals "all" = ac af)(Ei:dU K mainGlobals "any" = ac af)(Ej:dU K mainGlobals "bool" = ac af)(Ek:dU K mainGlobals "str" = ac af)(El:dU K mainGlobals "int" = ac af)(Em:dU K mainGlobals "zip" = ac af)(En:dU K mainGlobals "enumerate" = ac af)(Eo:dU K mainGlobals "sorted" = ac af)(Ep:dU K mainGlobals "reversed" = ac af)(Er:dU K mainGlobals "set" = ac af):Txt mg:=⟨iA X G Ea,iA X G Eb,iA X G Ec,iA X G Ed,iA X G Ee,iA X G Ef,iA X G Eg,iA X G Eh,iA X G Ei,iA X G Ej,iA X G Ek,iA X G El,iA X G Em,iA X G En,iA X G Eo,iA X G Ep,iA X G Er⟩
structure EX(K:aO):Prop where
 MC:dU K mainGlobals "ArrowError" = ac (ac (.ref (dN.cl "ArrowError")))
 MD:dU K mainGlobals "WrongSize" = ac (ac (.ref (dN.cl "WrongSize")))
 ME:dU K mainGlobals "NoWord" = ac (ac (.ref (dN.cl "NoWord")))
 MF:dU K mainGlobals "Twice" = ac (ac (.ref (dN.cl "Twice")))
 MG:dU K mainGlobals "NoName" = ac (ac (.ref (dN.cl "NoName")))
 MH:dU K mainGlobals "Ring" = ac (ac (.ref (dN.cl "Ring")))
 Es:dU K mainGlobals "Unlike" = ac (ac (.ref (dN.cl "Unlike")))
 MI:dU K mainGlobals "NoArrow" = ac (ac (.ref (dN.cl "NoArrow")))
 MJ:dU K mainGlobals "Locked" = ac (ac (.ref (dN.cl "Locked")))
 MK:dU K mainGlobals "NoTie" = ac (ac (.ref (dN.cl "NoTie")))
 ML:dU K mainGlobals "NoSuch" = ac (ac (.ref (dN.cl "NoSuch")))
 MM:dU K mainGlobals "NoNet" = ac (ac (.ref (dN.cl "NoNet")))
 MN:dU K mainGlobals "NoText" = ac (ac (.ref (dN.cl "NoText")))
 MO:dU K mainGlobals "NoRow" = ac (ac (.ref (dN.cl "NoRow")))
 MP:dU K mainGlobals "NoLabel" = ac (ac (.ref (dN.cl "NoLabel")))
 Wd:Dp K (dN.cl "Unlike") [.type "ValueError",.type "Exception",.type "BaseException",.type "object"] "ValueError.__new__" = true
 v_:dU K mainGlobals "ValueError" = ac af
theorem U1{K:aO}{h:aY}{mg:Str->Option aj}(X:K.In h)(G:h.Ns mainGlobals mg)(z:EX K):Own mg h:=⟨Uq X G z.Es z.Wd,iB X G z.MC,iB X G z.MD,iB X G z.ME,iB X G z.MF,iB X G z.MG,iB X G z.MH,iB X G z.Es,iB X G z.MI,iB X G z.MJ,iB X G z.MK,iB X G z.ML,iB X G z.MM,iB X G z.MN,iB X G z.MO,iB X G z.MP,iA X G z.v_⟩
structure OA(K:aO):Prop where
 h0:og K (.ref (dN.cl "Unlike")) (.type "ValueError")=ac true
 h1:og K (.ref (dN.cl "Unlike")) (.ref (dN.cl "Unlike"))=ac true
 h2:tG K (.ref (dN.cl "Unlike")) (([dN.cl "NoSuch",dN.cl "NoText",dN.cl "NoTie",dN.cl "NoWord",dN.cl "Ring",dN.cl "Twice",dN.cl "WrongSize"]:List ai).map .ref)=ac false
 h3:tG K (.ref (dN.cl "Unlike")) (([dN.cl "Locked",dN.cl "NoArrow",dN.cl "NoLabel",dN.cl "NoName",dN.cl "NoNet",dN.cl "NoRow"]:List ai).map .ref)=ac false
 h4:Dl K (.ref (dN.cl "Unlike")) (.ref (dN.cl "ArrowError"))=ac true
theorem PH{K:aO}(ue:nM K (dN.cl "Unlike"))(z:OA K):wP K:=⟨(yI ⟨ue,z.h0⟩ yN),(yI ⟨ue,z.h1⟩ yN),(yI ⟨ue,z.h2⟩ yN),(yI ⟨ue,z.h3⟩ yN),(Tz z.h4 P9)⟩
theorem OF{l:Dj}{w:bt}{K:aO}{mg:Str->Option aj}{fa:ai}(hfa:mg "law" = ac (.ref fa))(T:Txt mg)(OK:EX K)(Kt:wP K)(MQ:cO K mg "refuse_strangers" CW ["names","asked"])(MR:cO K mg "are_tied" AU ["net","one","other"])(MS:cO K mg "pairs_of" An ["names"])(MT:cO K mg "ties_of" z6 ["net"])(Et:wT K mg "sorted_rows" Cw ["names","rows"] cN)(MU:cO K mg "corners_of" BJ ["net"])(Eu:cO K mg "refuse_unlike_names" yv ["first","second"])(Ew:cO K mg "say_same" xf ["first","second"])(MV:cO K mg "roads_apart" Bj ["first","second"])(MW:cO K mg "elders_of" CH ["net","name"])(MX:cO K mg "names_along" AG ["names","steps","name"])(MY:cO K mg "names_below" CO ["net","name"])(MZ:cO K mg "list_that_parts" CB ["net","one","other"])(Ex:cO K mg "told_apart" ya ["first","second"])(M0:cO K mg "_law_cell" Ch ["_law_script","_law_k"])(M1:cO K mg "_law_words" BE ["_law_cell_here","_law_many"])(M2:cO K mg "_law_ranks" BR ["_law_cell_here","_law_many"])(M3:cO K mg "_law_net" Aw ["_law_script","_law_most"])(M4:cO K mg "_law_elders" Cb ["_law_arrows","_law_name"])(M5:cO K mg "_law_covered" Bp ["_law_arrows"])(M6:cO K mg "_law_flipped" B9 ["_law_arrows","_law_arrow"])(M7:cO K mg "_law_comes_round" Cr ["_law_names_here","_law_arrows"])(M8:cO K mg "_law_spoiled" Bs ["_law_names_here","_law_arrows","_law_cell_here"])(M9:cO K mg "_law_sorted" Bz ["_law_names_here","_law_arrows"])(Na:cO K mg "_law_second" Cg ["_law_net_here","_law_cell_here"])(Nb:cO K mg "_law_tied" AH ["_law_net_here","_law_one","_law_other"])(Nc:cO K mg "_law_ties" AN ["_law_net_here"])(Nd:cO K mg "_law_corners" AM ["_law_net_here"])(Nf:cO K mg "_law_high" Ct ["_law_net_here","_law_some"])(Ng:cO K mg "_law_parted" BK ["_law_net_here","_law_one","_law_other","_law_held"])(Nh:cO K mg "_law_open" AY ["_law_net_here","_law_road","_law_one","_law_other","_law_held"])(Ni:cO K mg "_law_apart" Bh ["_law_told","_law_nets"])(Nj:cO K mg "_law_kinds" Bi ["_law_e"])(Nk:cO K mg "_law_refused" BY ["_law_nets","_law_way"])(Nl:cO K mg "_law_word" AD ["_law_names_here","_law_cell_here"])(Nm:cO K mg "_law_names" CQ ["_law_names_here","_law_cell_here"])(No:cO K mg "_law_unlike" By ["_law_net_here","_law_cell_here"])(Np:cO K mg "law" BW ["_law_script"]) :
 ∃fd:bJ,(∀(s:az) (u:aj),oi s fd ⟨[u],[]⟩ [("_law_script",u)])/\∀base:aY,K.In base->base.Ns mainGlobals mg->BM mg base->kO base cN tN->bO l.prog w K mg base aI 10 fa fd ["_law_script"] A.vJ:=
 cO.RT Np hfa λbase kb nb hB hC f fd F=>by
  have O:Own mg base:=U1 kb nb OK;have om:=MQ.cal (P:=l.prog) (w:=w) (base:=base) (CX:=aI) λf fd F=>NH F T;have tY:=MR.cal (P:=l.prog) (w:=w) (base:=base) (CX:=aI) λf fd F=>Qj F T om;have tZ:=MS.cal (P:=l.prog) (w:=w) (base:=base) (CX:=aI) λf fd F=>RU F T;have kT:=MT.cal (P:=l.prog) (w:=w) (base:=base) (CX:=aI) λf fd F=>TZ F T tY tZ;have DP:=Et.cal (P:=l.prog) (w:=w) (base:=base) (CX:=aI) λf fd F=>Pl F T hB hC (fg.mpr rfl);have kU:=MU.cal (P:=l.prog) (w:=w) (base:=base) (CX:=aI) λf fd F=>PR F T tY DP tZ;have t0:=Eu.cal (P:=l.prog) (w:=w) (base:=base) (CX:=aI) λf fd F=>SK F T;have t6:=Eu.cal (P:=l.prog) (w:=w) (base:=base) (CX:=fL l.prog w) λf fd F=>Q4 F T O;have zV:=Ew.cal (P:=l.prog) (w:=w) (base:=base) (CX:=aI) λf fd F=>OM F T kT kU t0;have D0:=Ew.cal (P:=l.prog) (w:=w) (base:=base) (CX:=fL l.prog w) λf fd F=>Rc F T O kT kU t6;have t7:=MV.cal (P:=l.prog) (w:=w) (base:=base) (CX:=aI) λf fd F=>PB F T kT kU;have DS:=MW.cal (P:=l.prog) (w:=w) (base:=base) (CX:=aI) λf fd F=>RJ F T om;have DR:=MX.cal (P:=l.prog) (w:=w) (base:=base) (CX:=aI) λf fd F=>Ua F T;have DT:=MY.cal (P:=l.prog) (w:=w) (base:=base) (CX:=aI) λf fd F=>Pc F T om DR;have t8:=MZ.cal (P:=l.prog) (w:=w) (base:=base) (CX:=aI) λf fd F=>QN F T DS DT;have zW:=Ex.cal (P:=l.prog) (w:=w) (base:=base) (CX:=aI) λf fd F=>NY F T t0 t7 t8;have D1:=Ex.cal (P:=l.prog) (w:=w) (base:=base) (CX:=fL l.prog w) λf fd F=>TJ F T O t7 t8 t6;have lP:=M0.cal (P:=l.prog) (w:=w) (base:=base) (CX:=aI) λf fd F=>R6 F T;have DU:=M1.cal (P:=l.prog) (w:=w) (base:=base) (CX:=aI) λf fd F=>Pf F T;have DV:=M2.cal (P:=l.prog) (w:=w) (base:=base) (CX:=aI) λf fd F=>SW F T;have D4:=M3.cal (P:=l.prog) (w:=w) (base:=base) (CX:=aI) λf fd F=>S7 F T lP DU DV;have zR:=M4.cal (P:=l.prog) (w:=w) (base:=base) (CX:=aI) λf fd F=>Qq F T;have DW:=M5.cal (P:=l.prog) (w:=w) (base:=base) (CX:=aI) λf fd F=>Uf F T zR;have t9:=M6.cal (P:=l.prog) (w:=w) (base:=base) (CX:=aI) λf fd F=>O5 F T;have zS:=M7.cal (P:=l.prog) (w:=w) (base:=base) (CX:=aI) λf fd F=>T4 F T;have DX:=M8.cal (P:=l.prog) (w:=w) (base:=base) (CX:=aI) λf fd F=>Sy F T t9 zS;have ua:=M9.cal (P:=l.prog) (w:=w) (base:=base) (CX:=aI) λf fd F=>Ov F T;have D5:=Na.cal (P:=l.prog) (w:=w) (base:=base) (CX:=aI) λf fd F=>Uo F T DW t9 DX ua;have oo:=Nb.cal (P:=l.prog) (w:=w) (base:=base) (CX:=aI) λf fd F=>Nr F T;have zX:=Nc.cal (P:=l.prog) (w:=w) (base:=base) (CX:=aI) λf fd F=>Sl F T oo;have zY:=Nd.cal (P:=l.prog) (w:=w) (base:=base) (CX:=aI) λf fd F=>QL F T oo;have ub:=Nf.cal (P:=l.prog) (w:=w) (base:=base) (CX:=aI) λf fd F=>U7 F T;have DY:=Ng.cal (P:=l.prog) (w:=w) (base:=base) (CX:=aI) λf fd F=>Qy F T ub;have DZ:=Nh.cal (P:=l.prog) (w:=w) (base:=base) (CX:=aI) λf fd F=>S9 F T oo ub;have D6:=Ni.cal (P:=l.prog) (w:=w) (base:=base) (CX:=aI) λf fd F=>Ue F T DY DZ;have D2:=Nj.Tq (P:=l.prog) (w:=w) (base:=base) λf fd F=>Ud F T O Kt;have zU:=Nk.cal (P:=l.prog) (w:=w) (base:=base) (CX:=aI) λf fd F=>Ow F T O Kt D0 D1 D2;have zT:=Nl.cal (P:=l.prog) (w:=w) (base:=base) (CX:=aI) λf fd F=>UX F T;have D3:=Nm.cal (P:=l.prog) (w:=w) (base:=base) (CX:=aI) λf fd F=>NB F T zT;have D7:=No.cal (P:=l.prog) (w:=w) (base:=base) (CX:=aI) λf fd F=>Pu F T ua zU D3;exact A.Qm (QR F T zV zW lP D4 D5 zX zY D6 D7) λns hl=>by first|exact Mr.KL ns|exact Mr.KL ns hl
end pO
namespace PySem.W.Fast
def tw11396243831082592320:=0
def tw14272687667622503488:=0
def tw13149880562959929472:=0
def tw13322030637341686944:=0
def tw16379301937007844608:=0
def tw9177234023868765504:=0
def tw6265919444408327552:=0
def tw238739011716943232:=0
def tw8326054206291343872:=0
def tw814222466889666048:=0
def tw15998549677354740288:=0
def tw18229932463574731360:=0
def tw13774369034050550400:=0
def tw2636780323173859296:=0
def tw4642954706712228865:=0
def tw2628922789915476001:=0
def tw1085506890656791617:=0
def tw9104635026565311617:=0
def tw8638685353333117089:=0
def tw11931244128582955393:=0
def tw17370589037375544929:=0
def tw5332273128755755617:=0
def tw14637066664085721729:=0
def tw9742667229695719041:=0
def tw13278163429263623841:=0
def tw6831539706851225313:=0
def tw6877140848374276865:=0
def tw16159372071484482401:=0
def tw8132528537561240481:=0
def tw7167538859725407394:=0
def tw1663847294024839362:=0
def tw15286321158973652226:=0
def tw17626952769798129986:=0
def tw16400433069289354562:=0
def tw15226474258878801282:=0
def tw11515423415880076706:=0
def tw1285596430075963874:=0
def tw14015449485501406690:=0
def tw3471877811230617090:=0
def tw17744021877112426018:=0
def tw2556406999266581090:=0
def tw4208357436958470786:=0
def tw12236008757369160386:=0
def tw9840092549539631938:=0
def tw12991283382319648578:=0
def tw1280731701517219682:=0
def tw5641745594139899842:=0
def tw8686227385441915874:=0
def tw13687460628033946594:=0
def tw15666790522777556995:=0
def tw10582118312465418371:=0
def tw2493316061164458179:=0
def tw13166045530925967715:=0
def tw2332308631256443267:=0
def tw2434799893701337635:=0
def tw11984751672309735235:=0
def tw13235412827897997123:=0
def tw4364315262110601059:=0
def tw3052102039843140483:=0
def tw7260454258786561028:=0
def tw11421557693932943396:=0
def tw133552046425499812:=0
def tw9050548953682275492:=0
def tw17098597392929640644:=0
def tw4856732770610775268:=0
def tw5125950802028869892:=0
def tw11770148548392129892:=0
def tw12306668815277456772:=0
def tw14110894303493067268:=0
def tw9619063339219960324:=0
def tw73828593971391172:=0
def tw5462564410714213188:=0
def tw16391523532303254372:=0
def tw11077274273535271941:=0
def tw5940673152429331461:=0
def tw13334998504864064581:=0
def tw18200788136829234341:=0
def tw1975875925599266053:=0
def tw5031801301695061381:=0
def tw2766734777855224453:=0
def tw3604545310116482725:=0
def tw14948366072323371813:=0
def tw3434649663382419237:=0
def tw1456417516537789285:=0
def tw4237533085055783014:=0
def tw15030764406348131462:=0
def tw9622970745408332998:=0
def tw17338376062417934662:=0
def tw16067317828906766726:=0
def tw5725398081458184774:=0
def tw15912501345670894182:=0
def tw250275016590566086:=0
def tw3360460128778607334:=0
def tw12660286999640195846:=0
def tw2173968892801047302:=0
def tw2428803971862565670:=0
def tw5444547876562755462:=0
def tw8787451002500895654:=0
def tw4942359545300176838:=0
def tw9318781289702065094:=0
def tw18197810956435104742:=0
def tw16393045262289172551:=0
def tw17575628793434168455:=0
def tw16042240498176082247:=0
def tw13999546699899532775:=0
def tw7874124631611635175:=0
def tw16192715457711962599:=0
def tw14735540138022863431:=0
def tw1646675426418070087:=0
def tw16731814536034203367:=0
def tw7616198438655067879:=0
def tw1260717598651446087:=0
def tw13086361521183929223:=0
def tw5154439082973385639:=0
def tw21583116372858855:=0
def tw470293220215723208:=0
def tw5549705965181509832:=0
def tw17274946297132928488:=0
def tw7171394885013990920:=0
def tw17714275455009937960:=0
def tw10208307022500660808:=0
def tw13521065622463485544:=0
def tw17374471608833839784:=0
def tw12912096655484453544:=0
def tw7785865934199202504:=0
def tw414151324556592872:=0
def tw4988413070788589288:=0
def tw8737932836412384072:=0
def tw1442031626817687432:=0
def tw8235516746793532328:=0
def tw7005497693427582888:=0
def tw962936267488753640:=0
def tw11381589023370617865:=0
def tw2187023978645465129:=0
def tw9362690547540759753:=0
def tw731270664186841417:=0
def tw10805389528147740169:=0
def tw5198131349092049513:=0
def tw10891029921595966121:=0
def tw16885255341160456937:=0
def tw5544916367096059721:=0
def tw5574977716434292617:=0
def tw3063334231331616745:=0
def tw8186027475819125770:=0
def tw17862439558631958666:=0
def tw5697632957284094154:=0
def tw3086234859640128906:=0
def tw17355622228676280746:=0
def tw16139535960772168202:=0
def tw10171252426232908330:=0
def tw8046955455603566314:=0
def tw12620358144004670218:=0
def tw3842522357926992682:=0
def tw13010622311476876074:=0
def tw3270429085724982250:=0
def tw14678670044580833387:=0
def tw624424194354133323:=0
def tw11505592922618705259:=0
def tw4565574676956227947:=0
def tw12294357032398733675:=0
def tw16465147025562940811:=0
def tw16681356864358580619:=0
def tw8158115695500432907:=0
def tw2269160394252614187:=0
def tw11216153074921570859:=0
def tw7111694879943261771:=0
def tw10999324009480350379:=0
def tw18038943394333397739:=0
def tw11998598741136522987:=0
def tw10477458971216167659:=0
def tw4535033923742565227:=0
def tw7653947402284112747:=0
def tw11695241986682970987:=0
def tw4751152415293339531:=0
def tw7368910748241605579:=0
def tw5882180884017964044:=0
def tw9569696748634707020:=0
def tw12250926268627191916:=0
def tw4507177304182388940:=0
def tw11850170020655950124:=0
def tw3141616009945575820:=0
def tw13882818219803583916:=0
def tw13184209311868858892:=0
def tw3629523954960065164:=0
def tw7981733069601430156:=0
def tw1100197967585071788:=0
def tw6628906006444347116:=0
def tw16798578000587876140:=0
def tw6849879715601641260:=0
def tw4221502680149924684:=0
def tw2351422179087319948:=0
def tw13821222636145567660:=0
def tw2804589274343915693:=0
def tw12508593225134740685:=0
def tw10268634648437427437:=0
def tw2297895601284795789:=0
def tw1719237740538737069:=0
def tw12808482549698433581:=0
def tw15867461170656606957:=0
def tw9046043534402266957:=0
def tw1990087630619009869:=0
def tw8360071145129950222:=0
def tw3537374192887955566:=0
def tw14347650540799286446:=0
def tw6631032012134427854:=0
def tw2288955628874462478:=0
def tw8162562847563127086:=0
def tw8416362729689719278:=0
def tw15330936295501437486:=0
def tw4222488942775928462:=0
def tw18125350725506317998:=0
def tw6473033850495520462:=0
def tw14607661236433855214:=0
def tw1458975136148627278:=0
def tw2430281517361240910:=0
def tw1911060673950845806:=0
def tw140654902564567982:=0
def tw16083762929923108814:=0
def tw8322243146856152079:=0
def tw2646806772638714959:=0
def tw9670255133748780143:=0
def tw8525387310495364239:=0
def tw15890353541134482607:=0
def tw10483794963107373231:=0
def tw6701692253482593615:=0
def tw17749109057832188303:=0
def tw12299099029260663247:=0
def tw769043518147821007:=0
def tw14932537194002321903:=0
def tw12297918649376502383:=0
def tw9231467159227215567:=0
def tw1503532202429453103:=0
def tw10338637796138871791:=0
def tw14604050105521019887:=0
def tw7783327975883613264:=0
def tw13466007904378315920:=0
def tw11336418895242754192:=0
def tw17016413694172201232:=0
def tw7116867003895055632:=0
def tw3308420188770906544:=0
def tw3744310803951745520:=0
def tw5507006008492925456:=0
def tw12709349540900316688:=0
def tw4468628022241519120:=0
def tw12269252434574953104:=0
def tw16145897902581765776:=0
def tw13962788309551604400:=0
def tw17511305024146627440:=0
def tw5318324733011011504:=0
def tw6988487245936835504:=0
def tw16004047991983280177:=0
def tw12464437168595149937:=0
def tw414966985792517329:=0
def tw8076398505737783505:=0
def tw8887192330933681457:=0
def tw1389365079317169521:=0
def tw7042350174577765809:=0
def tw10992639848663145969:=0
def tw4230103905241812465:=0
def tw11709170640531568177:=0
def tw13729938670542273137:=0
def tw12441896169415296689:=0
def tw421536294600141521:=0
def tw1629432936653302513:=0
def tw12256325323908578193:=0
def tw9359426989664844721:=0
def tw3822992117431020497:=0
def tw12840568482685409265:=0
def tw17468919228022800594:=0
def tw12968063091990709458:=0
def tw17760094079806877970:=0
def tw17407897464148514098:=0
def tw1331878040894861618:=0
def tw16227146485835110738:=0
def tw4277382256837945906:=0
def tw310067976975770194:=0
def tw1731078418477967986:=0
def tw17792416442698767986:=0
def tw11797526316092123794:=0
def tw13427537048790007506:=0
def tw10609670119827355378:=0
def tw14191927828006560626:=0
def tw6559822630914068370:=0
def tw14282863949212917714:=0
def tw9473636609961013234:=0
def tw1260763234485568787:=0
def tw1133936892462946611:=0
def tw8203674974792354099:=0
def tw4272820905389770131:=0
def tw2005794007588961971:=0
def tw11974524605528697619:=0
def tw13222938540126730099:=0
def tw7190588490980261843:=0
def tw11906724434475013107:=0
def tw10105365112044452851:=0
def tw79084720535176212:=0
def tw12363576022439528564:=0
def tw15391962992767718580:=0
def tw13893720710708326612:=0
def tw12516242030657296628:=0
def tw12149467985768952404:=0
def tw6363264263318129268:=0
def tw15398476010736528020:=0
def tw13661172301792610996:=0
def tw11503805202544788436:=0
def tw14978517437862987861:=0
def tw9844499998518496437:=0
def tw15845773774902381781:=0
def tw13249016619958116565:=0
def tw7509807678004391189:=0
def tw4722750890348550677:=0
def tw8918765868157834837:=0
def tw3813762231350264437:=0
def tw11195306218545525397:=0
def tw9352678364312209045:=0
def tw17839212465467304661:=0
def tw7476802090298493685:=0
def tw2617916192539481909:=0
def tw16753393032766662485:=0
def tw8125912973225561973:=0
def tw11064183749798258677:=0
def tw13269067851717941237:=0
def tw6021971642095083542:=0
def tw5860868599598944310:=0
def tw10558888197214270582:=0
def tw7011621748118879414:=0
def tw14802414903236463798:=0
def tw16783647956872127798:=0
def tw13383638335226682774:=0
def tw13081582983378436534:=0
def tw1929920556871724598:=0
def tw15440643857719749206:=0
def tw3141452712097483446:=0
def tw11215574563069768470:=0
def tw12134411402735736598:=0
def tw4022466450250698646:=0
def tw11969370063382318006:=0
def tw6314294330643133366:=0
def tw10466734578041511959:=0
def tw5533833129651012695:=0
def tw12670100373732744567:=0
def tw10914187411647345015:=0
def tw15222755288088201655:=0
def tw7018028610433164759:=0
def tw9561002299415891543:=0
def tw8323444475833252439:=0
def tw10772042343414823511:=0
def tw4583942678505670295:=0
def tw10158210388938969751:=0
def tw11409749399949980311:=0
def tw10557787194846035671:=0
def tw10591980695717819095:=0
def tw16206374218300865239:=0
def tw16332006130000496407:=0
def tw17879497705573463863:=0
def tw15530389299720146743:=0
def tw10160329657665879895:=0
def tw3449926248954230647:=0
def tw1208668779881068471:=0
def tw14547849064152431575:=0
def tw16882057643279238103:=0
def tw13251089320287136824:=0
def tw3961582723947960408:=0
def tw638246859223134424:=0
def tw16404648325928887768:=0
def tw10243477419073471992:=0
def tw15673265531905746552:=0
def tw13231640085233200888:=0
def tw7900012581405977432:=0
def tw9845444860617107513:=0
def tw13007953213153525881:=0
def tw3470960119939205337:=0
def tw13913350173246565625:=0
def tw8410923381942657337:=0
def tw2188252688130848089:=0
def tw4450852994050046329:=0
def tw6008947019486422425:=0
def tw1929774307246163609:=0
def tw2070104769991797529:=0
def tw5709703051093887801:=0
def tw11070018900888339546:=0
def tw1588561104444112986:=0
def tw2844798231859589338:=0
def tw3866835364034425274:=0
def tw15623801922819788282:=0
def tw16177414416380440058:=0
def tw3038253793164679738:=0
def tw10421625552838273658:=0
def tw8050347106004848346:=0
def tw5948844245170149242:=0
def tw15753115671685323674:=0
def tw2116269723664621562:=0
def tw15570883264151779322:=0
def tw11467332161376844827:=0
def tw9213134237418802491:=0
def tw5614238189555046875:=0
def tw6406303266071303675:=0
def tw13503983604956060507:=0
def tw16620737268294742076:=0
def tw16324650744802393180:=0
def tw18158507244197186748:=0
def tw12852375515223643356:=0
def tw1346584733756371196:=0
def tw9228994596996165884:=0
def tw7445079368403416412:=0
def tw14158705459609360956:=0
def tw7866234157872477756:=0
def tw2956522813203835612:=0
def tw8597831753919463164:=0
def tw12679671360487829308:=0
def tw16572774271629729628:=0
def tw15494964699766697820:=0
def tw16563723547644148572:=0
def tw7111339764661104765:=0
def tw7154626403592407389:=0
def tw12127611509353033085:=0
def tw9873274184798749213:=0
def tw3268217570436865597:=0
def tw143700026358400669:=0
def tw11218524543033609981:=0
def tw15318166686936992573:=0
def tw74187311977238461:=0
def tw15792337239979060318:=0
def tw14888815945281507454:=0
def tw12539635444177438846:=0
def tw16451470677520160958:=0
def tw14187314893713922398:=0
def tw15170367763060170142:=0
def tw757946282702082526:=0
def tw9815504944921032158:=0
def tw16186656566565915134:=0
def tw5441951831542075006:=0
def tw7546828854490059390:=0
def tw8507740666371261182:=0
def tw15179947138781857566:=0
def tw6795370178338911070:=0
def tw1812988923335812990:=0
def tw16342869838312097790:=0
def tw14073090014830451775:=0
def tw3018882023564196959:=0
def tw17562155531620973663:=0
def tw8260041099633945727:=0
def tw7875074395267315935:=0
def tw13391998305038469471:=0
def tw5401781226120681887:=0
def tw9892172140881888767:=0
def tw17219177979698284031:=0
def tw2934831056296318495:=0
def tw10409680207471210015:=0
def tw18179440172319207999:=0
def tw16533632114066269887:=0
def tw13712365998268060383:=0
def tw2657720031751648031:=0
def tw17718282493115869151:=0
def tw17840246424132661215:=0
def tw4527555543137062911:=0
def tw1377599536898006136:=0
def tw4035609790137006803:=0
def tw15002110893754588196:=0
end PySem.W.Fast
open PySem PySem.W PyProof.Rows
set_option maxRecDepth 100000 in
set_option maxHeartbeats 0 in
theorem PySem.Challenge.cw_arrowfind_k21_told_apart_walked_holds : PySem.Challenge.rw_arrowfind_k21_told_apart_walked.Holds := by
 w_on;o_law;k_head;(case hw=>w_witness2)
 k_fill
 refine pO.walk (l:=PySem.Challenge.rw_arrowfind_k21_told_apart_walked) rfl rfl (λw h Y=>PySem.W.km_in_of Y) ?L ?K ⟨_,rfl⟩ ?H ?F
 case L=>
  intro w
  kernel_rfl
 case K=>
  intro w
  kernel_rfl
 case H=>
  intro w
  kernel_rfl
 case F=>
  intro w mg fa h KX G hmg
  refine' pO.OF hmg ?T ?O ?Kt ?MQ ?MR ?MS ?MT ?Et ?MU ?Eu ?Ew ?MV ?MW ?MX ?MY ?MZ ?Ex ?M0 ?M1 ?M2 ?M3 ?M4 ?M5 ?M6 ?M7 ?M8 ?M9 ?Na ?Nb ?Nc ?Nd ?Nf ?Ng ?Nh ?Ni ?Nj ?Nk ?Nl ?Nm ?No ?Np
  case T=>
   refine' pO.ON KX G ?Ea ?Eb ?Ec ?Ed ?Ee ?Ef ?Eg ?Eh ?Ei ?Ej ?Ek ?El ?Em ?En ?Eo ?Ep ?Er
   (case Ea=>k_is)
   (case Eb=>k_is)
   (case Ec=>k_is)
   (case Ed=>k_is)
   (case Ee=>k_is)
   (case Ef=>k_is)
   (case Eg=>k_is)
   (case Eh=>k_is)
   (case Ei=>k_is)
   (case Ej=>k_is)
   (case Ek=>k_is)
   (case El=>k_is)
   (case Em=>k_is)
   (case En=>k_is)
   (case Eo=>k_is)
   (case Ep=>k_is)
   (case Er=>k_is)
  case O=>
   constructor
   (case MC=>kernel_rfl)
   (case MD=>kernel_rfl)
   (case ME=>kernel_rfl)
   (case MF=>kernel_rfl)
   (case MG=>kernel_rfl)
   (case MH=>kernel_rfl)
   (case Es=>kernel_rfl)
   (case MI=>kernel_rfl)
   (case MJ=>kernel_rfl)
   (case MK=>kernel_rfl)
   (case ML=>kernel_rfl)
   (case MM=>kernel_rfl)
   (case MN=>kernel_rfl)
   (case MO=>kernel_rfl)
   (case MP=>kernel_rfl)
   all_goals kernel_rfl
  case Kt=>
   refine' pO.PH ?ue ?z
   (case ue=>constructor<;>kernel_rfl)
   (case z=>constructor<;>kernel_rfl)
  case Et=>
   refine' L2.Qv (c:=pO.cN) KX G (λ_ _ _ _ _ _ us hl=>match us,hl with|[_,_],_=>rfl) ?a ?l ?c ?k
   (case a=>k_is);(case l=>k_is);(case c=>k_is);(case k=>k_is)
  all_goals
   first
    |(refine' L2.vo KX G (λ_ _ _ _ _ _ us hl=>match us,hl with|[_],_=>rfl) ?a ?l ?c ?k;(case a=>k_is);(case l=>k_is);(case c=>k_is);(case k=>k_is))
    |(refine' L2.vo KX G (λ_ _ _ _ _ _ us hl=>match us,hl with|[_,_],_=>rfl) ?a ?l ?c ?k;(case a=>k_is);(case l=>k_is);(case c=>k_is);(case k=>k_is))
    |(refine' L2.vo KX G (λ_ _ _ _ _ _ us hl=>match us,hl with|[_,_,_],_=>rfl) ?a ?l ?c ?k;(case a=>k_is);(case l=>k_is);(case c=>k_is);(case k=>k_is))
    |(refine' L2.vo KX G (λ_ _ _ _ _ _ us hl=>match us,hl with|[_,_,_,_],_=>rfl) ?a ?l ?c ?k;(case a=>k_is);(case l=>k_is);(case c=>k_is);(case k=>k_is))
    |(refine' L2.vo KX G (λ_ _ _ _ _ _ us hl=>match us,hl with|[_,_,_,_,_],_=>rfl) ?a ?l ?c ?k;(case a=>k_is);(case l=>k_is);(case c=>k_is);(case k=>k_is))
