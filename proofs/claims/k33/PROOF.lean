import PyProof.Rows.All
import Wide.All
import OpenK.AllK
import Wide.FinOn
import Lean
import PyProof.EqAt
import PyProof.EqKinds
import PyProof.TupleCall
import PySem.Str
import PyProof.NeKinds
import PyProof.Draws
import PyProof.EnumMake
import PyProof.ZipIter
import KE.KSortTup
import KE.KLam
import PyProof.Rows.SortStr
import PyProof.Rows.FactsT3
import PyProof.StrOps2
import KE.KDictList
import KE.KRevIter
import PyProof.CollectIter
import PyProof.TupleOfGen
import PyProof.Rows.StrNews2
import PyProof.Rows.StrFacts2
import PyProof.StrLawsRepr
import PyProof.Rows.StrCase
import PyProof.Rows.StrSplit
import PySem.Challenge.RW_arrowfind_k33_whole_chains_keep_partings
open List renaming length_map->aU,replicate->bZ,mem_cons_self->c6,mem_filter->cx,getElem?_eq_some_iff->eW,size_toArray->c7,getD_eq_getElem?_getD->fk,length_append->dC,mem_cons->cn,mem_cons_of_mem->er,getElem?_eq_getElem->fF,map_cons->cF,length_cons->dH,mem_singleton->eD,mem_map->cL,range->b0,mem_append->eg,getElem?_cons_zero->gV,getElem?_map->fm,mem_append_right->gW,length_filter_le->gX,getElem?_cons_succ->iD,map_append->fo,mem_range->fb,getElem?_set_ne->iE,length_take->gY,length_nil->gL,map_map->fG,toArray->fL,pairwise_map->iN,mem_append_left->jU,pairwise_cons->jx,nodup_cons->iO,length_drop->jy,nodup_append->kn,nil_append->jV,append_nil->ko,replicate_succ->m9,length_singleton->oq,filter_eq_self->ng,mem_flatMap->lb,pairwise_lt_range->pO,drop_eq_getElem_cons->re,map_nil->jz,flatMap_cons->nh,find?_cons->l5,mem_of_getElem?->pP,getElem?_set_self->rf,append_assoc->ot,pairwise_flatMap->rh,getElem?_of_mem->rj,length_set->ou,take_of_length_le->tO,length_pos_of_mem->tP,lookup_cons->pQ,getElem_mem->pR,cons_append->pT,any_cons->nk,mem_of_mem_drop->tQ,map_congr_left->tR,all_eq_true->rl,not_mem_nil->rm,flatten_cons->tT,length_range->tU,filter_congr->tV,getElem_inj->tW,lookup->oz,length_erase_of_mem->yz,idxOf_lt_length_iff->yA,forIn_cons->tX,set_cons_succ->vO,set_cons_zero->vP,drop_of_length_le->yB,drop_eq_nil_of_le->yC,getElem_of_mem->yD,replicate_zero->yE,length_reverse->yF,getElem?_append_left->Cz,drop_zero->vQ,pairwise_iff_getElem->CA,any_eq_false->yG,getElem?_take_of_lt->CB,pairwise_singleton->CC,filter_cons_of_pos->CD,filter_cons_of_neg->CG,map_take->vR,Pairwise->vS,nodup_range->yH,range_succ_eq_map->CH,filter_eq_nil_iff->CI,length_replicate->CJ,mem_erase_of_ne->CK,mem_of_mem_take->CL,nodup_nil->yI,filterMap_cons->CM,all_cons->yJ,getElem_idxOf->CN,map_drop->yK,eraseIdxIfInBounds_toArray->Lj,all_map->yL,eq_nil_of_length_eq_zero->Ll,ext_getElem->CO,of_mem_zip->CP,idxOf_lt_length_of_mem->Lm,getElem?_append_right->Ln,take_succ->CQ,getElem?_replicate->Lo,eraseIdx_cons_succ->Lp,any_map->CS,mem_iff_getElem?->Lq,length->CT,filter_sublist->Lr,mem_filterMap->Lu,find?_eq_none->Lv,getElem_range->Lw,getElem?_drop->Lx,foldl->CU,drop_sublist->Ly
open PySem.W renaming Frag->bb,mg_none_of->iP,nsIn->gA,CodeHd->lf,kia_one->l7,fnOf->l8,keepIn->pU,codeIn->tY,kla_obj->vT,mg_of->vU,tabObj->yM,methodObj->CV,instObj->CW,OpenLaw->CY,lookIn->CZ,kitOne->C0,cellsFrom_some->Lz,kitx_list->LA,kitx_dict->LB,plainGet->LC,findIn->LD,kla_fn->LF
open PySem.Heap renaming get?_push_of_some->cU,get?_push_size->fc,lt_size->du,size_push->tZ,SameBut->vV,get?_update_other->LG,get?_update_self->LH
open PySem renaming wpAny_bind->aY,Value->ai,Shared->aB,wpAny_pure->bT,Addr->ak,FuncData->bU,strKind->fq,boot_len->fY,sizeLine_eq->eK,Program->cp,wpAny_truthy_bool->lg,Around->cR,World->bI,Heap->bq,Expr->bw,mem_of_lookup->t0,wpAny_mono->ku,Stmt->bE,wpAny_passesOwn->rn,wpAny_holding->pV,codeAny_builtin->t5,codeAny_mono->rA,wpAny_Call_Name_kw->yN,tupleKind_room_in1->yO,Scope->gc,wpAny_pyIter_list->yP,call_meets->rB,Fin->rC,wpAny_standAt->vW,wpAny_call_entry->yQ,wpAny_execs_nil->yR,Builtin->nq,wpAny_loadPart'->yS,NameKind->pW,codeAny_call_builtin->C1,Paired->rD,wpAny_pyIter_tuple->C2,TriplesOk->t6,wpAny_newObj_type->C3,BindsTo->pY,wpAny_call->vX,wpAny_setState_of->C4,seqIndex_neg->yT,wpAny_isInstance->C5,noFill_tuple_add->C6,Arguments->vY,seqIndex_of->yU,wpAny_field->yV,isSubtype_type->C7,PlainAttrs->yW,wpAny_pyNext_tuple_item->LI,call->C8,wpAny_newList->C9,wpAny_callSpecial?_slot->LJ,plainId_quiet->Db,seq_tuple_add->De,wpAny_pyNext_tuple_end->LK,wpAny_pyIter_tupleiter->LL,wpAny_Call_method_late->LM
open Bool renaming false_ne_true->dR,eq_iff_iff->iQ,and_eq_true->jA,false_eq_true->rE,not_eq_true'->rF,and_false->t7,not_eq_true->yX,or_eq_true->yY,eq_false_iff->Df,not_true->Dg,or_eq_false_iff->LN
open Nat renaming le_refl->bJ,le_trans->c8,zero_add->dS,lt_of_lt_of_le->jb,ne_of_lt->fT,zero_le->gZ,lt_irrefl->oA,pow_le_pow_right->yZ,not_lt_zero->vZ,le_succ->t8,lt_succ_self->y0,le_add_right->y4,ne_of_gt->v3,reduceSub->y6,lt_succ_of_lt->Dh,not_lt->v4,le_of_lt->y7,min_eq_right->Di,min_eq_left->Dj,le_of_eq->Dk,le_total->Dl,mul_le_mul_right->LO
open PySem.PassesOwn renaming never->dN
open Classical renaming byContradiction->gN,propDecidable->v5
open PySem.F renaming plainAttrs_list->g6,slot_list_append->kw,type_list_append->kx,called_set->jd,slot_tuple_iterator_next->y8,slot_list_extend->y9,type_list_extend->za,args_tuple_add_2->Dm,entry_tuple_add->Dn,slot_tuple_add->Do,slot_list_lt->Dp,args_tuple_iterator_next_1->LP,entry_tuple_iterator_next->LQ,slot_tuple_index->LR,entry_type_call->LS,slot_list_index->LU,typeCall_set_1->LV,entry_set_init->LW,plainAttrs_str->LX,slot_list_pop->LY,type_list_pop->LZ,slot_str_join->L0,type_str_join->L1,slot_set_eq->L3
open Int renaming emod_lt_of_pos->gB,emod_nonneg->gC,toNat_natCast->jf,le_refl->v6,ofNat_lt->zb
open PySem.Str renaming empty->dc,join->l9,length->rG,ofString->rH
open Option renaming map_eq_some_iff->lh,isSome_map->Dq,getD_some->Dr,getD_none->L4
open Option.some renaming inj->iS
open Or renaming inl->cG,inr->ft
open PySem.Value renaming ref->ge,none->jg,str->lj,bool->oB,type->pZ,int->zc
open PySem.Builtin.SmallTypes renaming nextOf->t9
open List.Pairwise renaming imp_of_mem->ua,nil->zd,filter->Dt
open ForInStep renaming yield->nz
open PySem.Obj renaming mapSeq->iT,data_mapFields->L5
open Sum renaming inr->fu,inl->rJ
open Ne renaming symm->fv
open PySem.NameKind renaming free->nA,cell->Du
open PyProof.Rows renaming listItems_at->ll,callWith_type1->ze,boot_list->jW,boot_isinstance->rK,boot_tuple->ma,get?_update_seq->v7,IntsAre->lm,assignInOrder_cons->Dv,listUpdate_at->zf,risingS->L6,AllBare->qa,subscriptTail_builtinR->L7
open Array renaming perm_iff_toList_perm->v8,toList_append->v9,toList_inj->wa,length_toList->zg,getElem?_toList->Dw
open PySem.Heap.SameBut renaming update->ub
open List.cons renaming injEq->rL
open PyProof.Rows.F renaming plain_set_update_loop->Dx,entry_set_update_loop->L8
open PySem.Builtin.List renaming listTooLong->zh,listItems->L9
open True renaming intro->md
open False renaming elim->nC
open Prod.mk renaming injEq->rM
open PySem.Calls renaming callWith_builtin->zi,evalArgs_plain->Dy,Name_function_global->Ma,spliced_cons->Mb,spliced_nil->Mc
open Prod renaming ext->lq,fst->me,snd->mi
open PySem.Around renaming under_plainId->zj,frames_deeper->Md,under_plain->Me
open PySem.Builtin.Frozenset renaming updateFrom->Mf,walkUnseen->Mg,unchanged->Mh,subsetOf->Mj,isAnySet->Mk,sizeOf->Ml,addrOf->Mm,slot1->Mn
open Sum.inr renaming inj->wb
open PySem.Paired renaming length->zk
open PySem.Builtin.Str renaming strSliceIndices->Mp
open PySem.MeetsSeq renaming EqGives->Mq
open List.Perm renaming refl->Dz
open PySem.MeetsSeq3 renaming plain_eq_loop->zl
open Function renaming comp->DA
open PySem.SeqAt.EqAt renaming int_str->Ms,str_int->Mt
open PySem.SeqRoads2.EqGives renaming str->VX
open Array.Perm renaming refl->Mu
open Iff renaming rfl->wc
open PySem.Code renaming quiet_builtin->Mv
open Option renaming some->ac,none->af
abbrev ce:=@decide_eq_true
abbrev cS:=@decide_eq_false
abbrev ba:=@if_neg
abbrev bc:=@if_pos
abbrev i7:=@decide_eq_true_eq
abbrev kJ:=@decide_eq_true_iff
abbrev kK:=@beq_self_eq_true
abbrev qp:=@decide_eq_false_iff_not
abbrev oR:=@decide_eq_decide
abbrev iU:=@if_false
abbrev uR:=@beq_eq_false_iff_ne
abbrev mO:=@beq_iff_eq
abbrev i9:=@if_true
abbrev uJ:=@of_decide_eq_true
set_option maxRecDepth 100000
set_option maxHeartbeats 4000000
set_option Elab.async false
set_option linter.all false
namespace L2
open PySem PySem.Spec PyProof.Rows
abbrev Key:=Sum Int Str
def tJ:Key->ai->Bool
 |.inl k,v=>Value.isInt k v
 |.inr x,v=>Value.isStrOf x v
def N7(w:bI):Key->Int
 |.inl k=>hashInt k
 |.inr x=>hashStr w x
theorem nY:∀{k:Key} {v:ai},tJ k v=true->(∃i t,k=rJ i/\v=zc i t)\/(∃x t,k=fu x/\v=lj x t)
 |.inl i,v,h=>by
  obtain⟨t,e⟩:=Value.isInt_shape (k:=i) (v:=v) h;exact .inl ⟨i,t,rfl,e⟩
 |.inr x,v,h=>by
  obtain⟨t,e⟩:=Value.isStrOf_shape (x:=x) (v:=v) h;exact .inr ⟨x,t,rfl,e⟩
theorem Qj(i:Int)(t:Tok):tJ (.inl i) (.int i t)=true:=by simp[tJ,Value.isInt]
theorem Q4(x:Str)(t:Tok):tJ (.inr x) (.str x t)=true:=by simp[tJ,Value.isStrOf]
theorem Uw(a b:Int):decide ((rJ a:Key)=rJ b)=(a==b):=by
 by_cases e:a=b
 ·subst e;simp
 ·have h:¬ (rJ a:Key)=rJ b:=λq=>e (Sum.inl.inj q);rw[cS h];exact(uR.mpr e).symm
theorem Rp(a b:Str):decide ((fu a:Key)=fu b)=decide (a=b):=by
 by_cases e:a=b
 ·subst e;simp
 ·have h:¬ (fu a:Key)=fu b:=λq=>e (wb q);rw[cS h,cS e]
theorem QM(a:Int)(b:Str):decide ((rJ a:Key)=fu b)=false:=cS (λq=>nomatch q)
theorem Qq(a:Str)(b:Int):decide ((fu a:Key)=rJ b)=false:=cS (λq=>nomatch q)
def i6(prog:cp)(w:bI):PySem.KeyKind prog w Key where
 is:=tJ
 hash:=N7 w
 inj:=λv a b ha hb=>by
  rcases nY ha with ⟨i,t,rfl,rfl⟩|⟨x,t,rfl,rfl⟩
  ·rcases nY hb with ⟨j,u,rfl,e⟩|⟨y,u,rfl,e⟩
   ·injection e with e1 _;rw[e1]
   ·exact nomatch e
  ·rcases nY hb with ⟨j,u,rfl,e⟩|⟨y,u,rfl,e⟩
   ·exact nomatch e
   ·injection e with e1 _;rw[e1]
 byValue:=λk v h=>by
  rcases nY h with ⟨i,t,rfl,rfl⟩|⟨x,t,rfl,rfl⟩<;>rfl
 pyHash:=λhv h=>by
  rcases nY hv with ⟨i,t,rfl,rfl⟩|⟨x,t,rfl,rfl⟩
  ·exact wpAny_pyHash_int h
  ·exact wpAny_pyHash_str h
 eqBool:=λhu hv h=>by
  rcases nY hu with ⟨i,t,rfl,rfl⟩|⟨x,t,rfl,rfl⟩
  ·rcases nY hv with ⟨j,u,rfl,rfl⟩|⟨y,u,rfl,rfl⟩
   ·rw[Uw]at h;exact wpAny_eqBool_int h
   ·rw[QM]at h;exact Ms i t y u _ _ _ _ h
  ·rcases nY hv with ⟨j,u,rfl,rfl⟩|⟨y,u,rfl,rfl⟩
   ·rw[Qq]at h;exact Mt x t j u _ _ _ _ h
   ·rw[Rp]at h;exact wpAny_eqBool_str h
 «strs»:=λk x t v h=>by
  rcases nY h with ⟨i,u,rfl,e⟩|⟨y,u,rfl,e⟩
  ·exact nomatch e
  ·injection e with e1 _;subst e1;cases v<;>rfl
theorem Om(prog:cp)(w:bI)(i:Int)(t:Tok):(i6 prog w).is (.inl i) (.int i t)=true:=Qj i t
theorem RV(prog:cp)(w:bI)(x:Str)(t:Tok):(i6 prog w).is (.inr x) (.str x t)=true:=Q4 x t
inductive V where
 |non|bl (b:Bool)|int (i:Int)|str (x:Str)|byt (b:Array UInt8)|flt (b:UInt64)|ref (a:ak)|ty (n:String)
 deriving DecidableEq
def RelV:V->ai->Prop
 |.non,u=>u=jg
 |.bl b,u=>u=oB b
 |.int i,u=>∃t,u=zc i t
 |.str x,u=>∃t,u=lj x t
 |.byt b,u=>∃t,u=Value.bytes b t
 |.flt b,u=>∃t,u=Value.float b t
 |.ref a,u=>u=ge a
 |.ty n,u=>u=pZ n
abbrev Vals:List V->List ai->Prop:=rD RelV
theorem Vals.length{xs:List V}{us:List ai}(r:Vals xs us):xs.length=us.length:=zk r
theorem Vals.get:∀{xs:List V} {us:List ai} {i:Nat} {x:V},Vals xs us->xs[i]? = ac x->∃u,us[i]? = ac u/\RelV x u
 |_,_,_,_,.nil,e=>by simp at e
 |_,_,0,_,.cons r _,e=>by simp at e;subst e;exact⟨_,rfl,r⟩
 |_,_,i+1,x,.cons _ t,e=>by
  obtain⟨u,h1,h2⟩:=Vals.get (i:=i) (x:=x) t (by simpa using e);exact⟨u,by simpa using h1,h2⟩
theorem Vals.set{x:V}{u:ai}(r:RelV x u):∀{xs:List V} {us:List ai} (i:Nat),Vals xs us->Vals (xs.set i x) (us.set i u)
 |_,_,_,.nil=>.nil
 |_,_,0,.cons _ t=>.cons r t
 |_,_,i+1,.cons q t=>.cons q (Vals.set r i t)
theorem Vals.append:∀{xs ys:List V} {us ws:List ai},Vals xs us->Vals ys ws->Vals (xs++ys) (us++ws)
 |_,_,_,_,.nil,s=>s
 |_,_,_,_,.cons r t,s=>.cons r (Vals.append t s)
theorem Vals.take:∀{xs:List V} {us:List ai} (n:Nat),Vals xs us->Vals (xs.take n) (us.take n)
 |_,_,0,_=>.nil
 |_,_,_+1,.nil=>.nil
 |_,_,n+1,.cons r t=>.cons r (Vals.take n t)
theorem Vals.drop:∀{xs:List V} {us:List ai} (n:Nat),Vals xs us->Vals (xs.drop n) (us.drop n)
 |_,_,0,r=>r
 |_,_,_+1,.nil=>.nil
 |_,_,n+1,.cons _ t=>Vals.drop n t
def lW:Option V->Option ai->Prop
 |some v,ac u=>RelV v u
 |none,af=>True
 |_,_=>False
def KV{κ:Type}:List (κ×V)->List (κ×ai)->Prop:=rD λ(p:κ×V) (q:κ×ai)=>p.1=q.1/\RelV p.2 q.2
def kV:Key->V
 |.inl i=>.int i
 |.inr x=>.str x
def sx(h:bq)(a:ak)(au:Array ai):Prop:=∃o,h.get? a=ac o/\o.cls=.type "tuple" /\ o.dict=af/\∃n,o.data=.seq au n
theorem sx.tup{h:bq}{a:ak}{au:Array ai}(x:sx h a au):IsTup h a au:=let ⟨o,e,c,_,d⟩:=x;⟨o,e,c,d⟩
theorem sx.new(h:bq)(au:Array ai):sx (h.push { cls:=.type "tuple", data:=.seq au }) h.objs.size au:=⟨_,fc _ rfl,rfl,rfl,_,rfl⟩
inductive HO where
 /-- a list -/
 |lst (xs:List V)
 /-- a tuple (never changes) -/
 |tup (xs:List V)
 /-- a dict whose keys are ints and texts;one whose keys are tuples of ints and texts (the empty one is both) -/
 |dK (az:List (Key×V))|dT (az:List (List Key×V))
 /-- a set of ints: au members,au size -/
 |set (S:Int->Bool) (n:Nat)
 /-- an instance of the class at C,au dict at dx,au attributes -/
 |ins (C dx:ak) (fs:List (Str×V))
 /-- the dict of the instance at x -/
 |own (x:ak)
 /-- the dict of an exception -/
 |xd (fs:List (Str×V))
 /-- a bound method,f of x -/
 |met (f x:ak)
 /-- a range object lo,lo+1,.. below hi -/
 |rng (lo hi:Int)
 /-- a thing that is known to the object (the script;a dict while a loop walks it): read,never written while it is so -/
 |frz (o:Obj) (u:HO)
 /-- a code object's table -/
 |tbl (w:Str) (ps:Array ai)
 /-- any other thing,by what is true of au one object (a def of one's own: WE a S n:=HO.ext λh=>..) -/
 |ext (φ : bq->Prop)
abbrev Hp:=ak->Option HO
def upd(H:Hp)(a:ak)(o:HO):Hp:=λb=>if b=a then ac o else H b
theorem cM{H:Hp}{a:ak}{o:HO}:upd H a o a=ac o:=by unfold upd;rw[bc rfl]
theorem bh{H:Hp}{a b:ak}{o:HO}(h:b≠a):upd H a o b=H b:=by unfold upd;rw[ba h]
theorem RH{H:Hp}{a b:ak}{o u:HO}(h:H a=ac o)(h':H b=ac u)(d:o≠u):a≠b:=by intro e;subst e;rw[h]at h';exact d (iS h')
theorem eh{H:Hp}{a b:ak}{o:HO}(h:H a=ac o)(h':H b=af):a≠b:=by intro e;subst e;rw[h]at h';cases h'
section
variable(P:cp)(w:bI)
def eP(H:Hp)(h:bq)(a:ak):HO->Prop
 |.lst xs=>xs.length<=sizeLine/\∃(au:List ai) (n:Nat),Vals xs au/\h.get? a=ac { cls:=.type "list", data:=.seq au.toArray n }
 |.tup xs=>xs.length<=sizeLine/\∃au:List ai,Vals xs au/\sx h a au.toArray
 |.dK az=>az.length<=sizeLine/\(a==sysModules)=false/\∃vs,KV az vs/\h.DictOf (i6 P w) a vs
 | .dT az=>az.length<=sizeLine/\(a==sysModules)=false/\∃xs:List (List Key×ak×ai),
  rD (λ(p:List Key×V) (q:List Key×ak×ai)=>p.1=q.1/\H q.2.1=ac (.tup (p.1.map kV))/\RelV p.2 q.2.2) az xs /\
  ∃o es ep,h.get? a=ac o/\o.ExactDict/\o.data=.dict es ep/\es.toList=xs.map (entryOfKey (tupleKind (i6 P w)))/\(xs.map (·.1)).Nodup
 |.set S n=>h.SetOf (intKind P w) a S n
 | .ins C dx fs=>H dx=ac (.own a)/\fs.length<=1000/\dx≠a/\h.get? a=ac (CW C dx) /\
  ∃mA,h.Ns1 dx mA/\(∀f,lW (fs.lookup f) (mA f))/\PySem.Within mA (fs.map (·.1))
 |.own _=>∃o,h.get? a=ac o
 |.xd fs=>∃mA,h.Ns1 a mA/\∀f,lW (fs.lookup f) (mA f)
 |.rng lo hi=>∃t u v,h.get? a=ac { cls:=.type "range", data:=.fields #[.int lo t,.int hi u,.int 1 v] }
 |.frz o u=>h.get? a=ac o/\eP H h a u
 |.tbl _ ps=>h.get? a=ac { cls:=.none,data:=.fields ps }
 |.met f x=>h.get? a=ac (CV (.ref f) (.ref x))
 |.ext φ=>φ h/\(∃o,h.get? a=ac o)/\∀h1 h2:bq,φ h1->(∀o,h1.get? a=ac o->h2.get? a=ac o)->φ h2
def eC(H:Hp)(h:bq):Prop:=∀a o,H a=ac o->eP P w H h a o
end
section
variable{P:cp}{w:bI}{H H':Hp}{h h':bq}{a:ak}{o:HO}
theorem eP.lt(x:eP P w H h a o):a<h.objs.size:=by
 cases o with
 |lst xs=>obtain⟨_,_,_,_,e⟩:=x;exact du e
 |tup xs=>obtain⟨_,_,_,p⟩:=x;exact p.tup.lt
 |dK az=>obtain⟨_,_,_,_,o,_,_,e,_⟩:=x;exact du e
 |dT az=>obtain⟨_,_,_,_,o,_,_,e,_⟩:=x;exact du e
 |set S n=>obtain⟨o,_,_,_,e,_⟩:=x;exact du e
 |ins C dx fs=>obtain⟨_,_,_,e,_⟩:=x;exact du e
 |own y=>obtain⟨_,e⟩:=x;exact du e
 |xd fs=>obtain⟨_,⟨_,_,_,e,_⟩,_⟩:=x;exact du e
 |rng lo hi=>obtain⟨_,_,_,e⟩:=x;exact du e
 |frz ob u=>obtain⟨e,_⟩:=x;exact du e
 |tbl w ps=>exact du (show h.get? a=ac _ from x)
 |met f y=>exact du (show h.get? a=ac _ from x)
 |ext φ=>obtain⟨_,⟨_,e⟩,_⟩:=x;exact du e
theorem Paired.AG{α β:Type}{F G:α->β->Prop}:∀{l₁:List α} {l₂:List β},rD F l₁ l₂->(∀a b,F a b->G a b)->rD G l₁ l₂
 |_,_,.nil,_=>.nil
 |_,_,.cons r t,f=>.cons (f _ _ r) (Paired.AG t f)
theorem eP.stay(x:eP P w H h a o)(k:∀b u,(b=a\/H b=ac (.own a))->h.get? b=ac u->h'.get? b=ac u)
 (ho:∀b,H b=ac (.own a)->H' b=ac (.own a)) (ht:∀b xs,H b=ac (.tup xs)->H' b=ac (.tup xs)):eP P w H' h' a o:=by
 induction o with
 |lst xs=>obtain⟨z,au,n,r,e⟩:=x;exact⟨z,au,n,r,k _ _ (.inl rfl) e⟩
 |tup xs=>obtain⟨z,au,r,ob,e,c⟩:=x;exact⟨z,au,r,ob,k _ _ (.inl rfl) e,c⟩
 |dK az=>obtain⟨z,y,vs,r,ob,es,ep,e,c⟩:=x;exact⟨z,y,vs,r,ob,es,ep,k _ _ (.inl rfl) e,c⟩
 |dT az=>
  obtain⟨z,y,xs,r,ob,es,ep,e,c⟩:=x;exact⟨z,y,xs,Paired.AG r λp q z=>⟨z.1,ht _ _ z.2.1,z.2.2⟩,ob,es,ep,k _ _ (.inl rfl) e,c⟩
 |set S n=>obtain⟨ob,es,ep,t,e,c⟩:=x;exact⟨ob,es,ep,t,k _ _ (.inl rfl) e,c⟩
 |ins C dx fs=>
  obtain⟨d,z,ne,e,mA,⟨od,es,ep,e2,c⟩,r⟩:=x;exact⟨ho _ d,z,ne,k _ _ (.inl rfl) e,mA,⟨od,es,ep,k _ _ (.inr d) e2,c⟩,r⟩
 |own y=>obtain⟨ob,e⟩:=x;exact⟨ob,k _ _ (.inl rfl) e⟩
 |xd fs=>obtain⟨mA,⟨od,es,ep,e,c⟩,r⟩:=x;exact⟨mA,⟨od,es,ep,k _ _ (.inl rfl) e,c⟩,r⟩
 |rng lo hi=>obtain⟨t,u,v,e⟩:=x;exact⟨t,u,v,k _ _ (.inl rfl) e⟩
 |frz ob u ih=>obtain⟨e,q⟩:=x;exact⟨k _ _ (.inl rfl) e,ih q⟩
 |tbl w ps=>
  have e:h.get? a=ac { cls:=.none,data:=.fields ps }:=x;show h'.get? a=ac { cls:=.none,data:=.fields ps };exact k a _ (.inl rfl) e
 |met f y=>
  have e:h.get? a=ac (CV (.ref f) (.ref y)):=x;show h'.get? a=ac (CV (.ref f) (.ref y));exact k a _ (.inl rfl) e
 |ext φ=>obtain⟨p,⟨o,e⟩,st⟩:=x;exact⟨st _ _ p λo q=>k _ _ (.inl rfl) q,⟨o,k _ _ (.inl rfl) e⟩,st⟩
theorem eC.lt(x:eC P w H h)(e:H a=ac o):a<h.objs.size:=(x a o e).lt
theorem eC.fresh(x:eC P w H h)(e:h.objs.size<=a):H a=af:=by
 cases q:H a with
 |none=>rfl
 |some u=>exact absurd (jb (x.lt q) e) (oA _)
theorem eC.kept(x:eC P w H h)(k:∀b u,h.get? b=ac u->h'.get? b=ac u):eC P w H h':=λa o e=>
 (x a o e).stay (λb u _ q=>k b u q) (λ_ q=>q) λ_ _ q=>q
theorem eC.laid(x:eC P w H h)(k:∀b u,h.get? b=ac u->h'.get? b=ac u)(hp:h.objs.size<=a)(new:eP P w (upd H a o) h' a o):eC P w (upd H a o) h':=λb u e=>by
 have hn:=x.fresh hp;by_cases hb:b=a
 ·subst hb;rw[cM]at e;cases e;exact new
 ·rw[bh hb]at e;exact(x b u e).stay (λc v _ q=>k c v q) (λc q=>by rw[bh (eh q hn)];exact q) λc xs q=>by rw[bh (eh q hn)];exact q
end
def Rd(H:Hp)(a:ak)(u:HO):Prop:=H a=ac u\/∃o,H a=ac (.frz o u)
theorem Rd.ok{P:cp}{w:bI}{H:Hp}{h:bq}{a:ak}{u:HO}(r:Rd H a u)(x:eC P w H h):eP P w H h a u:=by
 rcases r with r|⟨o,r⟩
 ·exact x a u r
 ·obtain⟨_,q⟩:=x a _ r;exact q
def u3:Option HO->Prop
 |some (.lst _)=>True
 |some (.dK _)=>True
 |some (.dT _)=>True
 |some (.set _ _)=>True
 |some (.ins _ _ _)=>True
 |some (.ext _)=>True
 |_=>False
section
variable{P:cp}{w:bI}{H:Hp}{h h':bq}{x e:ak}{o':HO}
theorem eC.write(ok:eC P w H h)(mu:u3 (H x))(he:e=x\/H e=ac (.own x))(k:∀b u,b≠e->h.get? b=ac u->h'.get? b=ac u)(heo:∃u,h'.get? e=ac u)
 (new:eP P w (upd H x o') h' x o'):eC P w (upd H x o') h':=λb u q=>by
 have Mw:∀c y,H c=ac (.own y)->c≠x:=λc y r z=>by subst z;rw[r]at mu;exact mu
 have VY:∀c xs,H c=ac (.tup xs)->c≠x:=λc xs r z=>by subst z;rw[r]at mu;exact mu
 by_cases hb:b=x
 ·subst hb;rw[cM]at q;cases q;exact new
 ·rw[bh hb]at q;by_cases hbe:b=e
  ·have q':H b=ac (.own x):=by
    rcases he with z|z
    ·exact absurd (hbe.trans z) hb
    ·rw[hbe];exact z
   rw[q]at q';cases q';obtain⟨v,hv⟩:=heo;exact⟨v,by rw[hbe];exact hv⟩
  ·refine(ok b u q).stay (λc v hc r=>k c v ?_ r) (λc r=>by rw[bh (Mw c b r)];exact r) λc xs r=>by rw[bh (VY c xs r)];exact r
   rcases hc with rfl|hc
   ·exact hbe
   ·rintro rfl;rcases he with z|z
    ·exact Mw c b hc z
    ·rw[hc]at z;cases z;exact hb rfl
end
structure Un(fs ex:List ak)(H H':Hp)(h h':bq):Prop where
 keep:∀b o,h.get? b=ac o->H b=af->b∉fs->b∉ex->h'.get? b=ac o
 slot:∀b o,h.get? b=ac o->H b=af->b∈fs->b∉ex->∃sl,h'.get? b=ac { o with slots:=sl }
 free:∀b o,h.get? b=ac o->H b=af->b∉ex->H' b=af
 there:∀b o,h.get? b=ac o->b∉ex->∃o',h'.get? b=ac o'
 tups:∀b xs,H b=ac (.tup xs)->H' b=ac (.tup xs)
 nE:∀b o u,H b=ac (.frz o u)->H' b=ac (.frz o u)
 nF:∀b w ps,H b=ac (.tbl w ps)->∃more,H' b=ac (.tbl w (ps++more))
section
variable{fs fs' ex ex':List ak}{H H1 H2:Hp}{h h1 h2 h':bq}{a x e:ak}{o:HO}
theorem Un.any(u:Un fs ex H H1 h h1){b:ak}{ob:Obj}(q:h.get? b=ac ob)(n:H b=af)(hx:b∉ex):∃sl,h1.get? b=ac { ob with slots:=sl }:=by
 by_cases hb:b∈fs
 ·exact u.slot b ob q n hb hx
 ·exact⟨ob.slots,u.keep b ob q n hb hx⟩
theorem Un.kept(k:∀b u,h.get? b=ac u->h'.get? b=ac u):Un fs ex H H h h':=⟨λb ob q _ _ _=>k b ob q,λb ob q _ _ _=>⟨ob.slots,k b ob q⟩,λ_ _ _ n _=>n,λb ob q _=>⟨ob,k b ob q⟩,λ_ _ q=>q,λ_ _ _ q=>q,λ_ w ps q=>⟨#[],by rw[q];simp⟩⟩
theorem Un.refl:Un fs ex H H h h:=Un.kept λ_ _ q=>q
theorem Un.laid(k:∀b u,h.get? b=ac u->h'.get? b=ac u)(hp:h.objs.size<=a)(hn:H a=af):Un fs ex H (upd H a o) h h' where
 keep:=λb u q _ _ _=>k b u q
 slot:=λb u q _ _ _=>⟨u.slots,k b u q⟩
 free:=λb u q n _=>by rw[bh (fT (jb (du q) hp))];exact n
 there:=λb u q _=>⟨u,k b u q⟩
 tups:=λb xs q=>by rw[bh (eh q hn)];exact q
 nE:=λb u xs q=>by rw[bh (eh q hn)];exact q
 nF:=λb w ps q=>⟨#[],by rw[bh (eh q hn),q];simp⟩
theorem Un.write(mu:u3 (H x))(he:e=x\/H e=ac (.own x))(k:∀b u,b≠e->h.get? b=ac u->h'.get? b=ac u)(heo:∃u,h'.get? e=ac u):Un fs ex H (upd H x o) h h':=by
 have hx:∀b,H b=af->b≠x:=λb n z=>by subst z;rw[n]at mu;exact mu
 have hb:∀b,H b=af->b≠e:=λb n z=>by
  subst z;rcases he with r|r
  ·exact hx b n r
  ·rw[n]at r;cases r
 have hm:∀b u,H b=ac u->¬ u3 (ac u)->b≠x:=λb u q nm z=>by subst z;rw[q]at mu;exact nm mu
 refine⟨λb u q n _ _=>k b u (hb b n) q,λb u q n _ _=>⟨u.slots,k b u (hb b n) q⟩,λb u q n _=>by rw[bh (hx b n)];exact n,λb u q _=>?_,
  λb xs q=>by rw[bh (hm b _ q λz=>z)];exact q,λb u xs q=>by rw[bh (hm b _ q λz=>z)];exact q,λb w ps q=>⟨#[],by rw[bh (hm b _ q λz=>z),q];simp⟩⟩
 by_cases hbe:b=e
 ·subst hbe;exact heo
 ·exact⟨u,k b u hbe q⟩
end
def xI(h:bq)(H:Hp):List ak:=(b0 h.objs.size).filter λa=>(H a).isSome
def lL(h:bq)(H:Hp):bq:=PySem.W.hideAll h (xI h H)
theorem PY(h:bq)(H:Hp):(lL h H).objs.size=h.objs.size:=PySem.W.hideAll_size _ _
theorem TH{h:bq}{H:Hp}{b:ak}{o:Obj}(e:h.get? b=ac o)(n:H b=af):(lL h H).get? b=ac o:=
 PySem.W.hideAll_get _ e λhm=>by
  have q:(H b).isSome=true:=(cx.mp hm).2;rw[n]at q;simp at q
theorem Um{h:bq}{H:Hp}{b:ak}{o:Obj}(e:(lL h H).get? b=ac o):h.get? b=ac o/\H b=af:=by
 have e':h.get? b=ac o:=PySem.W.of_hideAll (xI h H) e;refine⟨e',?_⟩;cases q:H b with
 |none=>rfl
 |some x=>
  have hm:b∈xI h H:=cx.mpr ⟨fb.mpr (du e'),by simp[q]⟩;have z:(lL h H).get? b=af:=PySem.W.hideAll_none (xI h H) hm;rw[z]at e;cases e
structure Mod(K:bb)(mg:Str->Option ai)(base:bq):Prop where
 kin:K.In base
 glob:base.Ns mainGlobals mg
 blt:∃mb,base.Ns builtinsNs mb/\∀x:Str,x ≠ "__name__" -> mb x=bootBuiltins x
 nolimit:base.NoLimit
structure Cx where
 prog:cp
 w:bI
 K:bb
 mg:Str->Option ai
 base:bq
 A:cR
 N:List Str
 s₀:aB
 H₀:Hp
 env:Env
 outer:List Env
 stack:List Env
 ex:List ak
 fn:Str->Bool
 calm:Bool
 pn:List (ak×Obj)
 xe:ai->aB->Prop
def frs(l:List Env):List ak:=l.filterMap (·.frame)
abbrev Cx.fs(X:Cx):List ak:=frs X.outer
def vn(sc:gc)(x:Str):Prop:=sc.names.lookup x=ac .local\/sc.names.lookup x=ac .cell\/sc.names.lookup x=ac .free
def Loc(sc:gc)(x:Str):Prop:=sc.names.lookup x=ac .local\/sc.names.lookup x=ac .cell
def Look(env:Env)(h:bq)(m:Str->Option ai)(x:Str)(u:ai):Prop:=(env.kindOf x=ac .local/\m x=ac u)\/((env.kindOf x=ac .cell\/env.kindOf x=ac .free)/\∃c,env.cells.lookup x=ac c/\h.IsCell c (ac u))
structure Cx.Ok(X:Cx):Prop where
 mod:Mod X.K X.mg X.base
 kind:X.env.scope.kind=.function
 glob:X.env.globals=mainGlobals
 blt:X.env.builtins=builtinsNs
 above:X.s₀.heap.objs.size<=X.env.locals
 inj:∀x y c,X.env.cells.lookup x=ac c->X.env.cells.lookup y=ac c->x=y
 has:∀x,(X.env.kindOf x=ac .cell\/X.env.kindOf x=ac .free)->∃c,X.env.cells.lookup x=ac c
 cab:∀x c,X.fn x=true->X.env.cells.lookup x=ac c->X.s₀.heap.objs.size<=c
 hd:X.calm=true->X.A.handled=af
 frames:X.A.frames=ac X.stack
 stk:X.stack=X.outer\/(X.stack=X.env::X.outer/\X.env.frame=ac X.env.locals)
 exf:∀b∈X.ex,b≠X.env.locals/\∀x c,X.env.cells.lookup x=ac c->c≠b
 bs:∀b o,X.base.get? b=ac o->X.s₀.heap.get? b=ac o/\X.H₀ b=af
 bsz:X.base.objs.size<=X.s₀.heap.objs.size
 we:∀b o,X.base.get? b=ac o->b∉X.ex
 zm:∀b∈X.ex,b∉X.fs
 lY:X.s₀.heap.FunFrames X.base X.outer
 frf:∀b∈X.fs,X.H₀ b=af
structure Inv(X:Cx)(ah:List (ak×Obj))(σ:List (Option V))(H:Hp)(s:aB):Prop where
 ok:X.Ok
 os:s.os=X.s₀.os
 bare:qa s.gens
 base:Un X.fs X.ex X.H₀ H X.s₀.heap s.heap
 loc:∃m,s.heap.Ns X.env.locals m/\∀(i:Nat) (x:Str) (v:V),X.N[i]? = ac x->σ[i]? = ac (ac v)->vn X.env.scope x->∃u,RelV v u/\Look X.env s.heap m x u
 cell:∀x c,X.env.cells.lookup x=ac c->∃v,s.heap.IsCell c v
 free:H X.env.locals=af
 lr:∀x c,X.env.cells.lookup x=ac c->H c=af
 pin:∀p∈X.pn++ah,s.heap.get? p.1=ac p.2/\H p.1=af/\p.1≠X.env.locals/\p.1∉X.fs/\∀v,p.2.data≠.cell v
 hok:eC X.prog X.w H s.heap
 len:σ.length=X.N.length
section
variable{X:Cx}{ah:List (ak×Obj)}{σ:List (Option V)}{H H':Hp}{s:aB}{h':bq}
theorem Cx.Ok.TK(ok:X.Ok){b:ak}{o:Obj}(e:X.base.get? b=ac o):b∉X.fs:=λhb=>by
 have:=(ok.lY.mem hb).1;rw[e]at this;cases this
theorem Inv.bs(I:Inv X ah σ H s):∀b o,X.base.get? b=ac o->s.heap.get? b=ac o/\H b=af:=λb o e=>
 ⟨I.base.keep b o (I.ok.bs b o e).1 (I.ok.bs b o e).2 (I.ok.TK e) (I.ok.we b o e),I.base.free b o (I.ok.bs b o e).1 (I.ok.bs b o e).2 (I.ok.we b o e)⟩
theorem Inv.bk(I:Inv X ah σ H s):∀b o,X.base.get? b=ac o->s.heap.get? b=ac o:=λb o e=>(I.bs b o e).1
theorem Inv.mod(I:Inv X ah σ H s):Mod X.K X.mg X.base:=I.ok.mod
theorem Inv.iI(I:Inv X ah σ H s):X.K.In s.heap:=I.ok.mod.kin.keeps I.bk
theorem Inv.nolimit(I:Inv X ah σ H s):s.heap.NoLimit:=I.ok.mod.nolimit.keeps I.bk
theorem Inv.lt(I:Inv X ah σ H s):X.env.locals<s.heap.objs.size:=let ⟨_,hn,_⟩:=I.loc;hn.lt
theorem Inv.sz(I:Inv X ah σ H s):X.s₀.heap.objs.size<=s.heap.objs.size:=c8 I.ok.above (y7 I.lt)
theorem Inv.Uy(I:Inv X ah σ H s){a:ak}(h:s.heap.objs.size<=a):a∉X.fs:=λhb=>by
 obtain⟨_,o,ho,_⟩:=I.ok.lY.mem hb;exact absurd (jb (du ho) (c8 I.sz h)) (oA _)
theorem Inv.qD(I:Inv X ah σ H s):∀x c,X.env.cells.lookup x=ac c->c≠X.env.locals:=λx c e z=>by
 obtain⟨v,o,ho,hd⟩:=I.cell x c e;obtain⟨m,⟨o',es,ep,ho',hd',_⟩,_⟩:=I.loc;rw[z,ho']at ho;cases ho;rw[hd']at hd;cases hd
theorem Inv.lY(I:Inv X ah σ H s):s.heap.FunFrames X.base X.outer:=by
 have all:∀(l:List Env),(∀b∈frs l,b∈X.fs)->X.s₀.heap.FunFrames X.base l->s.heap.FunFrames X.base l:=by
  intro l
  induction l with
  |nil=>intro _ _;trivial
  |cons env r ih=>
   intro hs hl;obtain⟨hk,⟨L,o,hf,hn,ho,hd⟩,hr⟩:=hl;have hL:L∈X.fs:=hs L (by unfold frs;rw[CM,hf];exact c6);obtain⟨sl,e⟩:=I.base.slot L o ho (I.ok.frf L hL) hL λz=>I.ok.zm L z hL;exact⟨hk,⟨L,_,hf,hn,e,hd⟩,ih (λb hb=>hs b (by unfold frs;rw[CM,hf];exact er _ hb)) hr⟩
 exact all X.outer (λ_ hb=>hb) I.ok.lY
theorem Inv.stack(I:Inv X ah σ H s):s.heap.FunFrames X.base X.stack:=by
 rcases I.ok.stk with e|⟨e,hf⟩
 ·rw[e];exact I.lY
 ·rw[e];obtain⟨m,hn,_⟩:=I.loc;refine .cons (by rw[I.ok.kind];decide) hf hn ?_ I.lY;exact Heap.get?_none_of_le (c8 I.ok.bsz I.ok.above)
theorem Inv.xc(I:Inv X ah σ H s):∀b∈frs X.stack,b∈X.env.locals::X.fs:=λb hb=>by
 rcases I.ok.stk with e|⟨e,hf⟩
 ·rw[e]at hb;exact er _ hb
 ·rw[e]at hb;unfold frs at hb;rw[CM,hf]at hb;exact hb
theorem Inv.AX(I:Inv X ah σ H s):∀b∈frs X.stack,H b=af:=λb hb=>by
 rcases cn.mp (I.xc b hb)with e|hb
 ·rw[e];exact I.free
 ·obtain⟨_,o,ho,_⟩:=I.ok.lY.mem hb;exact I.base.free b o ho (I.ok.frf b hb) λz=>I.ok.zm b z hb
theorem Inv.step{g':Array GenState}{t':Nat}{d':Drawn}{ch:List ak}(I:Inv X ah σ H s)
 (hch:∀b∈ch,(b∈X.ex\/X.s₀.heap.objs.size<=b)/\b≠X.env.locals/\(∀x c,X.env.cells.lookup x=ac c->c≠b)/\∀p∈X.pn++ah,p.1≠b)
 (keep:∀b o,b≠X.env.locals->b∉X.fs->b∉ch->s.heap.get? b=ac o->H b=af->h'.get? b=ac o)
 (slot:∀b o,b≠X.env.locals->b∈X.fs->b∉ch->s.heap.get? b=ac o->H b=af->∃sl,h'.get? b=ac { o with slots:=sl }) (free:∀b o,b∉ch->s.heap.get? b=ac o->H b=af->H' b=af)
 (there:∀b o,b∉ch->s.heap.get? b=ac o->∃o',h'.get? b=ac o')
 (tups:∀b xs,H b=ac (.tup xs)->H' b=ac (.tup xs)) (nE:∀b o u,H b=ac (.frz o u)->H' b=ac (.frz o u)) (nF:∀b w ps,H b=ac (.tbl w ps)->∃more,H' b=ac (.tbl w (ps++more)))
 (ns:∀m,s.heap.Ns X.env.locals m->h'.Ns X.env.locals m) (hok:eC X.prog X.w H' h') (hg:qa g') :
 Inv X ah σ H' { s with heap:=h',gens:=g',drawn:=d',toks:=t' }:=by
 have neL:∀b o,X.s₀.heap.get? b=ac o->b≠X.env.locals:=λb o e=>fT (jb (du e) I.ok.above);have neC:∀b o,X.s₀.heap.get? b=ac o->b∉X.ex->b∉ch:=λb o e hx hb=>by
  rcases(hch b hb).1 with z|z
  ·exact hx z
  ·exact absurd (jb (du e) z) (oA _)
 have cellK:∀x c,X.env.cells.lookup x=ac c->∀v,s.heap.IsCell c v->h'.IsCell c v:=λx c e v ⟨o,ho,hd⟩=>by
  have nch:c∉ch:=λz=>(hch c z).2.2.1 x c e rfl;by_cases hc:c∈X.fs
  ·obtain⟨sl,q⟩:=slot c o (I.qD x c e) hc nch ho (I.lr x c e);exact⟨_,q,hd⟩
  ·exact⟨o,keep c o (I.qD x c e) hc nch ho (I.lr x c e),hd⟩
 refine⟨I.ok,I.os,hg,⟨λb o e n hb hx=>?_,λb o e n hb hx=>?_,λb o e n hx=>?_,λb o e hx=>?_,λb xs e=>tups b xs (I.base.tups b xs e),λb o xs e=>nE b o xs (I.base.nE b o xs e),λb w ps e=>?_⟩,?_,λx c e=>?_,?_,λx c e=>?_,λp hp=>?_,hok,I.len⟩
 ·exact keep b o (neL b o e) hb (neC b o e hx) (I.base.keep b o e n hb hx) (I.base.free b o e n hx)
 ·obtain⟨sl,e1⟩:=I.base.slot b o e n hb hx;obtain⟨sl',e2⟩:=slot b _ (neL b o e) hb (neC b o e hx) e1 (I.base.free b o e n hx);exact⟨sl',e2⟩
 ·obtain⟨o',e1⟩:=I.base.there b o e hx;exact free b o' (neC b o e hx) e1 (I.base.free b o e n hx)
 ·obtain⟨o',e1⟩:=I.base.there b o e hx;exact there b o' (neC b o e hx) e1
 ·obtain⟨m1,e1⟩:=I.base.nF b w ps e;obtain⟨m2,e2⟩:=nF b w _ e1;exact⟨m1++m2,by rw[e2,Array.append_assoc]⟩
 ·obtain⟨m,hn,hl⟩:=I.loc;refine⟨m,ns m hn,λi x v e1 e2 e3=>?_⟩;obtain⟨u,r,l⟩:=hl i x v e1 e2 e3;refine⟨u,r,?_⟩;rcases l with l|⟨k,c,e,z⟩
  ·exact .inl l
  ·exact .inr ⟨k,c,e,cellK x c e _ z⟩
 ·obtain⟨v,z⟩:=I.cell x c e;exact⟨v,cellK x c e v z⟩
 ·obtain⟨m,⟨o,_,_,ho,_⟩,_⟩:=I.loc;exact free _ o (λz=>(hch _ z).2.1 rfl) ho I.free
 ·obtain⟨v,o,ho,hd⟩:=I.cell x c e;exact free c o (λz=>(hch c z).2.2.1 x c e rfl) ho (I.lr x c e)
 ·obtain⟨e,n,ne,nf,d⟩:=I.pin p hp;have nch:p.1∉ch:=λz=>(hch p.1 z).2.2.2 p hp rfl;exact⟨keep p.1 p.2 ne nf nch e n,free p.1 p.2 nch e n,ne,nf,d⟩
theorem Inv.un{t':Nat}(I:Inv X ah σ H s)(u:Un X.fs [] H H' s.heap h')(hok:eC X.prog X.w H' h'):Inv X ah σ H' { s with heap:=h',toks:=t' }:=by
 obtain⟨m,⟨o,es,ep,ho,r⟩,_⟩:=id I.loc;obtain⟨sl,hL⟩:=u.any ho I.free (by simp);exact I.step (g':=s.gens) (d':=s.drawn) (ch:=[]) (λ_ z=>nomatch z) (λb o _ hb _ e n=>u.keep b o e n hb (by simp)) (λb o _ hb _ e n=>u.slot b o e n hb (by simp)) (λb o _ e n=>u.free b o e n (by simp)) (λb o _ e=>u.there b o e (by simp)) u.tups u.nE u.nF (λm' hm=>by
  obtain⟨o',es',ep',ho',r'⟩:=hm;rw[ho]at ho';cases ho';exact⟨_,es',ep',hL,r'⟩) hok I.bare
theorem Inv.call{g':Array GenState}{t':Nat}{d':Drawn}{ch:List ak}(I:Inv X ah σ H s)(u:Un (frs X.stack) ch H H' s.heap h')(hok:eC X.prog X.w H' h')(hg:qa g')
 (hch:∀b∈ch,(b∈X.ex\/X.s₀.heap.objs.size<=b)/\b≠X.env.locals/\(∀x c,X.env.cells.lookup x=ac c->c≠b)/\∀p∈X.pn++ah,p.1≠b) :
 Inv X ah σ H' { s with heap:=h',gens:=g',drawn:=d',toks:=t' }:=by
 obtain⟨m,⟨o,es,ep,ho,r⟩,_⟩:=id I.loc;obtain⟨sl,hL⟩:=u.any ho I.free λz=>(hch _ z).2.1 rfl;exact I.step (ch:=ch) hch (λb o hL hb hc e n=>u.keep b o e n (λz=>(cn.mp (I.xc b z)).elim hL hb) hc) (λb o _ _ hc e n=>u.any e n hc) (λb o hc e n=>u.free b o e n hc) (λb o hc e=>u.there b o e hc) u.tups u.nE u.nF (λm' hm=>by
  obtain⟨o',es',ep',ho',r'⟩:=hm;rw[ho]at ho';cases ho';exact⟨_,es',ep',hL,r'⟩) hok hg
theorem Inv.turned{t':Nat}{it:ak}(I:Inv X ah σ H s)(k:∀b o,b≠it->s.heap.get? b=ac o->h'.get? b=ac o)(hn:H it=af)(hL:it≠X.env.locals)
 (h1:it∈X.ex\/X.s₀.heap.objs.size<=it) (h2:∀x c,X.env.cells.lookup x=ac c->c≠it) (h3:∀p∈X.pn++ah,p.1≠it):Inv X ah σ H { s with heap:=h',toks:=t' }:=by
 have nit:∀b u,H b=ac u->b≠it:=λb u e z=>by rw[z,hn]at e;cases e
 refine I.step (g':=s.gens) (d':=s.drawn) (ch:=[it]) (λb hb=>?_) (λb o _ _ hc e _=>k b o (λz=>hc (by simp[z])) e) (λb o _ _ hc e _=>⟨o.slots,k b o (λz=>hc (by simp[z])) e⟩) (λ_ _ _ _ n=>n)
  (λb o hc e=>⟨o,k b o (λz=>hc (by simp[z])) e⟩) (λ_ _ e=>e) (λ_ _ _ e=>e) (λb w ps e=>⟨#[],by rw[e];simp⟩) (λm hm=>?_) (λb u e=>?_) I.bare
 ·have e:b=it:=by simpa using hb
  subst e;exact⟨h1,hL,h2,h3⟩
 ·obtain⟨o,es,ep,ho,r⟩:=hm;exact⟨o,es,ep,k _ o (fv hL) ho,r⟩
 ·refine(I.hok b u e).stay (λc v hc q=>k c v ?_ q) (λ_ q=>q) λ_ _ q=>q;rcases hc with z|z
  ·rw[z];exact nit b u e
  ·exact nit c _ z
theorem Inv.tok(I:Inv X ah σ H s)(t:Nat):Inv X ah σ H { s with toks:=t }:=I.un (h':=s.heap) (t':=t) Un.refl I.hok
theorem Inv.kept{t':Nat}(I:Inv X ah σ H s)(k:∀b u,s.heap.get? b=ac u->h'.get? b=ac u):Inv X ah σ H { s with heap:=h',toks:=t' }:=I.un (Un.kept k) (I.hok.kept k)
theorem Inv.laid{a:ak}{o:HO}{t':Nat}(I:Inv X ah σ H s)(k:∀b u,s.heap.get? b=ac u->h'.get? b=ac u)(hp:s.heap.objs.size<=a)(new:eP X.prog X.w (upd H a o) h' a o) :
 Inv X ah σ (upd H a o) { s with heap:=h',toks:=t' }:=I.un (Un.laid k hp (I.hok.fresh hp)) (I.hok.laid k hp new)
theorem Inv.write{x e:ak}{o:HO}{t':Nat}(I:Inv X ah σ H s)(mu:u3 (H x))(he:e=x\/H e=ac (.own x))(k:∀b u,b≠e->s.heap.get? b=ac u->h'.get? b=ac u)(heo:∃u,h'.get? e=ac u)
 (new:eP X.prog X.w (upd H x o) h' x o):Inv X ah σ (upd H x o) { s with heap:=h',toks:=t' }:=I.un (Un.write mu he k heo) (I.hok.write mu he k heo new)
theorem Inv.weak{σ':List (Option V)}(I:Inv X ah σ H s)(hl:σ'.length = σ.length)(w:∀(i:Nat) v,σ'[i]? = ac (ac v)->σ[i]? = ac (ac v)):Inv X ah σ' H s:=⟨I.ok,I.os,I.bare,I.base,let ⟨m,hn,hl'⟩:=I.loc;⟨m,hn,λi x v e1 e2 e3=>hl' i x v e1 (w i v e2) e3⟩,I.cell,I.free,I.lr,I.pin,I.hok,hl.trans I.len⟩
theorem Inv.Cn{uc:List (ak×Obj)}(I:Inv X ah σ H s)(h:∀p∈uc,s.heap.get? p.1=ac p.2/\H p.1=af/\p.1≠X.env.locals/\p.1∉X.fs/\∀v,p.2.data≠.cell v):Inv X uc σ H s:=⟨I.ok,I.os,I.bare,I.base,I.loc,I.cell,I.free,I.lr,λp hp=>(eg.mp hp).elim (λz=>I.pin p (jU _ z)) (h p),I.hok,I.len⟩
theorem II{N:List Str}(hN:N.Nodup){i j:Nat}{x:Str}(a:N[i]? = ac x)(b:N[j]? = ac x):i=j:=by obtain⟨h1,e1⟩:=eW.mp a;obtain⟨h2,e2⟩:=eW.mp b;exact(tW hN).mp (e1.trans e2.symm)
theorem Gf{M:Model}{A:cR}{E:ai->aB->Prop}{i:Nat}{x:Str}{v:V}{u:ai}{Q:Unit->aB->Prop}(I:Inv X ah σ H s)(hN:X.N.Nodup)(hi:X.N[i]? = ac x)(hx:Loc X.env.scope x)(r:RelV v u)
 (h:∀s',Inv X ah (σ.set i (ac v)) H s'->(∃a,vV a s.heap s'.heap/\(a=X.env.locals\/X.env.cells.lookup x=ac a))->Q () s') (hf:X.fn x=true\/X.env.scope.names.lookup x=ac .local:=by first|exact .inl rfl|exact .inr rfl|assumption):wpAny M A (storeName X.env x u) Q E s:=by
 obtain⟨m,hn,hl⟩:=id I.loc;have hcls:(X.env.scope.kind==.class||(X.env.scope.kind==.module&&X.env.locals != X.env.globals))=false:=by rw[I.ok.kind];rfl
 have hiσ:i < σ.length:=by rw[I.len];exact(eW.mp hi).1
 have qD:=I.qD;have tracked:∀{a:ak} {h':bq},(∃o,s.heap.get? a=ac o/\H a=af)->vV a s.heap h'->eC X.prog X.w H h':=λ{a h'} ha hs b ob e=>by
  obtain⟨_,_,hfree⟩:=ha;refine(I.hok b ob e).stay (λc w' hc q=>(hs.2 c ?_).trans q) (λ_ q=>q) λ_ _ q=>q;rintro rfl;rcases hc with rfl|hc
  ·rw[hfree]at e;cases e
  ·rw[hfree]at hc;cases hc
 rcases hx with hk|hk
 ·refine wpAny_storeName_local hk hn (λh' hn' hs=>?_) hcls;obtain⟨oL,_,_,hoL,_⟩:=id hn;refine h _ ⟨I.ok,I.os,I.bare,⟨λb o e n hb hx=>?_,λb o e n hb hx=>?_,I.base.free,λb o e hx=>?_,I.base.tups,I.base.nE,I.base.nF⟩,⟨_,hn',λj y v' e1 e2 e3=>?_⟩,λy c e=>?_,I.free,I.lr,λp hp=>?_,tracked ⟨oL,hoL,I.free⟩ hs,by simpa using I.len⟩ ⟨_,hs,.inl rfl⟩
  ·exact(hs.2 b (fT (jb (du e) I.ok.above))).trans (I.base.keep b o e n hb hx)
  ·obtain⟨sl,e1⟩:=I.base.slot b o e n hb hx;exact⟨sl,(hs.2 b (fT (jb (du e) I.ok.above))).trans e1⟩
  ·obtain⟨o',e1⟩:=I.base.there b o e hx;exact⟨o',(hs.2 b (fT (jb (du e) I.ok.above))).trans e1⟩
  ·by_cases hj:j=i
   ·subst hj;rw[hi]at e1;cases e1;rw[rf hiσ]at e2;cases e2;exact⟨u,r,.inl ⟨hk,by simp⟩⟩
   ·rw[iE (fv hj)]at e2;obtain⟨u',r',q⟩:=hl j y v' e1 e2 e3;refine⟨u',r',?_⟩;rcases q with ⟨k,e⟩|⟨k,c,e,z⟩
    ·refine .inl ⟨k,?_⟩;have:y≠x:=λe=>hj (II hN e1 (e ▸ hi));simp[this,e]
    ·exact .inr ⟨k,c,e,z.sameBut hs (qD y c e)⟩
  ·obtain⟨w',z⟩:=I.cell y c e;exact⟨w',z.sameBut hs (qD y c e)⟩
  ·obtain⟨e,n,ne,nf,d⟩:=I.pin p hp;exact⟨(hs.2 p.1 ne).trans e,n,ne,nf,d⟩
 ·have hfn:X.fn x=true:=by
   rcases hf with z|z
   ·exact z
   ·rw[z]at hk;cases hk
  obtain⟨c,hc⟩:=I.ok.has x (.inl hk);obtain⟨w',z⟩:=I.cell x c hc;refine wpAny_storeName_cell I.ok.kind hk hc z (λh' hc' hs=>?_);obtain⟨oc,hoc,VZ⟩:=id z;refine h { s with heap:=h' } ⟨I.ok,I.os,I.bare,⟨λb o e n hb hx=>?_,λb o e n hb hx=>?_,I.base.free,λb o e hx=>?_,I.base.tups,I.base.nE,I.base.nF⟩,⟨m,hn.sameBut hs (fv (qD x c hc)),λj y v' e1 e2 e3=>?_⟩,λy c' e=>?_,I.free,I.lr,λp hp=>?_,tracked ⟨oc,hoc,I.lr x c hc⟩ hs,by simpa using I.len⟩ ⟨c,hs,.inr hc⟩
  ·exact(hs.2 b (fT (jb (du e) (I.ok.cab x c hfn hc)))).trans (I.base.keep b o e n hb hx)
  ·obtain⟨sl,e1⟩:=I.base.slot b o e n hb hx;exact⟨sl,(hs.2 b (fT (jb (du e) (I.ok.cab x c hfn hc)))).trans e1⟩
  ·obtain⟨o',e1⟩:=I.base.there b o e hx;exact⟨o',(hs.2 b (fT (jb (du e) (I.ok.cab x c hfn hc)))).trans e1⟩
  ·by_cases hj:j=i
   ·subst hj;rw[hi]at e1;cases e1;rw[rf hiσ]at e2;cases e2;exact⟨u,r,.inr ⟨.inl hk,c,hc,hc'⟩⟩
   ·rw[iE (fv hj)]at e2;obtain⟨u',r',q⟩:=hl j y v' e1 e2 e3;refine⟨u',r',?_⟩;rcases q with q|⟨k,c',e,z'⟩
    ·exact .inl q
    ·refine .inr ⟨k,c',e,z'.sameBut hs ?_⟩;rintro rfl;exact hj (II hN e1 (I.ok.inj _ _ _ e hc ▸ hi))
  ·by_cases hcc:c'=c
   ·subst hcc;exact⟨_,hc'⟩
   ·obtain⟨w2,z2⟩:=I.cell y c' e;exact⟨w2,z2.sameBut hs hcc⟩
  ·obtain⟨e,n,ne,nf,d⟩:=I.pin p hp;refine⟨(hs.2 p.1 ?_).trans e,n,ne,nf,d⟩;intro q;rw[q,hoc]at e;have q':oc=p.2:=iS e;exact d w' (by rw[<- q'];exact VZ)
theorem yb{M:Model}{A:cR}{E:ai->aB->Prop}{i:Nat}{x:Str}{v:V}{u:ai}{Q:Unit->aB->Prop}(I:Inv X ah σ H s)(hN:X.N.Nodup)(hi:X.N[i]? = ac x)(hx:Loc X.env.scope x)(r:RelV v u)
 (h:∀s',Inv X ah (σ.set i (ac v)) H s'->Q () s') (hf:X.fn x=true\/X.env.scope.names.lookup x=ac .local:=by first|exact .inl rfl|exact .inr rfl|assumption):wpAny M A (storeName X.env x u) Q E s:=
 Gf I hN hi hx r (λs' I' _=>h s' I') hf
theorem Inv.call'{s':aB}{ch:List ak}(I:Inv X ah σ H s)(ho:s'.os=s.os)(u:Un (frs X.stack) ch H H' s.heap s'.heap)(hok:eC X.prog X.w H' s'.heap)(hg:qa s'.gens)
 (hch:∀b∈ch,(b∈X.ex\/X.s₀.heap.objs.size<=b)/\b≠X.env.locals/\(∀x c,X.env.cells.lookup x=ac c->c≠b)/\∀p∈X.pn++ah,p.1≠b):Inv X ah σ H' s':=by
 obtain⟨h',g',d',t',o'⟩:=s';have e:o'=s.os:=ho;subst e;exact I.call (g':=g') (t':=t') (d':=d') u hok hg hch
end
abbrev XK:=ai->Option ak->Hp->Prop
abbrev St:=List (Option V)
abbrev VK:=V->Hp->Prop
abbrev TE:=St->Hp->VK->Prop
abbrev TT:=St->Hp->(Bool->Hp->Prop)->Prop
abbrev TA:=St->Hp->(List V->Hp->Prop)->Prop
structure Ends where
 nx:St->Hp->Prop
 rt:VK
 bk:St->Hp->Prop:=λ_ _=>False
 ct:St->Hp->Prop:=λ_ _=>False
abbrev TS:=Ends->St->Hp->Prop
def EP(X:Cx)(ah:List (ak×Obj))(σ:St)(Q:VK)(u:ai)(s':aB):Prop:=∃v H',Inv X ah σ H' s'/\RelV v u/\Q v H'
def TP(X:Cx)(ah:List (ak×Obj))(σ:St)(Q:Bool->Hp->Prop)(b:Bool)(s':aB):Prop:=∃H',Inv X ah σ H' s'/\Q b H'
def AP(X:Cx)(ah:List (ak×Obj))(σ:St)(Q:List V->Hp->Prop)(us:List ai)(s':aB):Prop:=∃vs H',Inv X ah σ H' s'/\Vals vs us/\Q vs H'
def SP(X:Cx)(ah:List (ak×Obj))(D:Ends)(f:Flow)(s':aB):Prop:=
 match f with
 |.next=>∃σ' H',Inv X ah σ' H' s'/\D.nx σ' H'
 |.brk=>∃σ' H',Inv X ah σ' H' s'/\D.bk σ' H'
 |.cont=>∃σ' H',Inv X ah σ' H' s'/\D.ct σ' H'
 |.ret u=>∃v σ' H',Inv X ah σ' H' s'/\RelV v u/\D.rt v H'
def PE(X:Cx)(e:bw)(t:TE):Prop:=∀(ah:List (ak×Obj)) (s:aB) (σ:St) (H:Hp) (Q:VK),Inv X ah σ H s->t σ H Q->wpAny (model X.prog X.w) X.A (eval e X.env) (EP X ah σ Q) X.xe s
def PT(X:Cx)(e:bw)(t:TT):Prop:=∀(ah:List (ak×Obj)) (s:aB) (σ:St) (H:Hp) (Q:Bool->Hp->Prop),Inv X ah σ H s->t σ H Q->wpAny (model X.prog X.w) X.A (isTrue e X.env (eval e X.env)) (TP X ah σ Q) X.xe s
def PW(X:Cx)(e:bw)(t:TT):Prop:=∀(whole:Sem ai) (ah:List (ak×Obj)) (s:aB) (σ:St) (H:Hp) (Q:Bool->Hp->Prop),Inv X ah σ H s->t σ H Q->wpAny (model X.prog X.w) X.A (isTrue e X.env whole) (TP X ah σ Q) X.xe s
theorem PW.pt{X:Cx}{e:bw}{t:TT}(h:PW X e t):PT X e t:=h _
def PA(X:Cx)(es:List bw)(t:TA):Prop:=∀(pos:Pos) (ah:List (ak×Obj)) (s:aB) (σ:St) (H:Hp) (Q:List V->Hp->Prop),Inv X ah σ H s->t σ H Q->wpAny (model X.prog X.w) X.A (spliced (backTo pos (starEach es X.env))) (AP X ah σ Q) X.xe s
def PS(X:Cx)(st:bE)(t:TS):Prop:=∀(ah:List (ak×Obj)) (s:aB) (σ:St) (H:Hp) (D:Ends),Inv X ah σ H s->t D σ H->wpAny (model X.prog X.w) X.A (exec st X.env) (SP X ah D) X.xe s
def iZ(X:Cx)(st:List bE)(t:TS):Prop:=∀(ah:List (ak×Obj)) (s:aB) (σ:St) (H:Hp) (D:Ends),Inv X ah σ H s->t D σ H->wpAny (model X.prog X.w) X.A (execs st X.env) (SP X ah D) X.xe s
theorem bg{α:Type}{t:Sem α}{Q Q':α->aB->Prop}{M:Model}{A:cR}{E:ai->aB->Prop}{s:aB}(h:wpAny M A t Q E s)(hQ:∀a s,Q a s->Q' a s):wpAny M A t Q' E s:=ku h hQ λ_ _ x=>x
section
variable{X:Cx}
def io(i:Nat):TE:=λσ H Q=>∃v,σ[i]? = ac (ac v)/\Q v H
def tC(v:V):TE:=λ_ H Q=>Q v H
theorem Tn{i:Nat}{x:Str}{pos:Pos}(hN:X.N[i]? = ac x)(hv:vn X.env.scope x)(hd:(x==("__debug__" : Str))=false:=by decide)(hcd:(x==("__classdict__" : Str))=false:=by decide):PE X (.Name x pos) (io i):=by
 intro ah s σ H Q I h;obtain⟨v,e,h⟩:=h;obtain⟨m,hn,hl⟩:=I.loc;obtain⟨u,r,l⟩:=hl i x v hN e hv;have fin:EP X ah σ Q u s:=⟨v,H,I,r,h⟩;rcases l with ⟨hk,hm⟩|⟨hk,c,hc,hcell⟩
 ·exact wpAny_Name (wpAny_loadName_local I.ok.kind hk hn hm fin) hd
 ·rcases hk with hk|hk
  ·exact wpAny_Name (wpAny_loadName_cell I.ok.kind hk hc hcell fin) hd
  ·exact wpAny_Name (wpAny_loadName_free I.ok.kind hk hc hcell fin hcd) hd
theorem aJ{i j pos}:PE X (.Constant (.int i) j pos) (tC (.int i)):=λ_ _ _ H _ I h=>wpAny_Constant_int ⟨.int i,H,I.tok _,⟨_,rfl⟩,h⟩
theorem gq{b j pos}:PE X (.Constant (.bool b) j pos) (tC (.bl b)):=λ_ _ _ H _ I h=>Constant_bool ⟨.bl b,H,I,rfl,h⟩
theorem wO{j pos}:PE X (.Constant .none j pos) (tC .non):=λ_ _ _ H _ I h=>Constant_none ⟨.non,H,I,rfl,h⟩
theorem vp{x j pos}:PE X (.Constant (.str x) j pos) (tC (.str x)):=λ_ _ _ H _ I h=>Calls.Constant_str ⟨.str x,H,I.tok _,⟨_,rfl⟩,h⟩
def Gl(X:Cx)(x:Str):Prop:=X.env.kindOf x=ac .globalImplicit
theorem IH{E:ai->aB->Prop}{ah:List (ak×Obj)}{s:aB}{σ:St}{H:Hp}{x:Str}{u:ai}{pos:Pos}{Q:ai->aB->Prop}(I:Inv X ah σ H s)(hg:Gl X x)(hm:X.mg x=ac u)(h:Q u s)
 (hd:(x==("__debug__" : Str))=false:=by decide):wpAny (model X.prog X.w) X.A (eval (.Name x pos) X.env) Q E s:=
 Ma I.ok.kind hg (Calls.loadGlobal_global (by rw[I.ok.glob];exact I.mod.glob.keeps I.bk) hm h) hd
theorem qk{E:ai->aB->Prop}{ah:List (ak×Obj)}{s:aB}{σ:St}{H:Hp}{x:Str}{u:ai}{pos:Pos}{Q:ai->aB->Prop}(I:Inv X ah σ H s)(hg:Gl X x)(hm:X.mg x=af)(hv:bootBuiltins x=ac u)(h:Q u s)
 (hn:x ≠ "__name__" := by decide) (hd:(x==("__debug__" : Str))=false:=by decide):wpAny (model X.prog X.w) X.A (eval (.Name x pos) X.env) Q E s:=by
 obtain⟨mb,h1,h2⟩:=I.mod.blt;exact Ma I.ok.kind hg (Calls.loadGlobal_builtin (by rw[I.ok.glob];exact I.mod.glob.keeps I.bk) hm (by rw[I.ok.blt];exact h1.keeps I.bk) ((h2 x hn).trans hv) h) hd
theorem AC{x:Str}{v:V}{u:ai}{pos:Pos}(hg:Gl X x)(hm:X.mg x=ac u)(r:RelV v u)(hd:(x==("__debug__" : Str))=false:=by decide):PE X (.Name x pos) (tC v):=λ_ _ _ H _ I h=>IH I hg hm ⟨v,H,I,r,h⟩ hd
theorem Ov{x:Str}{v:V}{u:ai}{pos:Pos}(hg:Gl X x)(hm:X.mg x=af)(hv:bootBuiltins x=ac u)(r:RelV v u)(hn:x ≠ "__name__" := by decide)(hd:(x==("__debug__" : Str))=false:=by decide):PE X (.Name x pos) (tC v):=λ_ _ _ H _ I h=>qk I hg hm hv ⟨v,H,I,r,h⟩ hn hd
variable{a b:bw}{ta tb:TE}{pos:Pos}
def PC(X:Cx)(op:CmpOp)(a b:bw)(t:TE):Prop:=
 ∀(ah:List (ak×Obj)) (s:aB) (σ:St) (H:Hp) (Q:VK),Inv X ah σ H s->t σ H Q ->
  wpAny (model X.prog X.w) X.A (eval a X.env) (λv s₁=>wpAny (model X.prog X.w) X.A (eval b X.env) (λu s₂=>wpAny (model X.prog X.w) X.A (compareOp op v u) (EP X ah σ Q) X.xe s₂) X.xe s₁) X.xe s
def tB(t:TE):TT:=λσ H Q=>t σ H λx H1=>∃c,x=.bl c/\Q c H1
theorem wB{op:CmpOp}{t:TE}(h:PC X op a b t)(h1:behindInMarks op b=false:=by first|exact WF _ (by decide) (by decide)|rfl):PT X (.Compare a [op] [b] pos) (tB t):=by intro ah s σ H Q I hw;refine wpAny_isTrue_Compare1 (bg (h ah s σ H _ I hw) λv s1 h1=>bg h1 λu s2 h2=>bg h2 λc s3 ⟨x,H1,I1,r1,q1⟩=>?_) h1;obtain⟨d,rfl,q⟩:=q1;cases r1;exact lg ⟨H1,I1,q⟩
theorem gP{e:bw}{t:TE}(h:PE X e t)(he:∀whole,isTrue e X.env whole=(do let v <- whole;standAt e.pos;holding [v] (truthy v)):=by intro _;rfl):PT X e (tB t):=by intro ah s σ H Q I hw;refine isTrue_plain (bg (h ah s σ H _ I hw) λv s1 ⟨x,H1,I1,r1,q1⟩=>?_) (he _);obtain⟨d,rfl,q⟩:=q1;cases r1;exact lg ⟨H1,I1,q⟩
variable{tA tB':TT}{rest:List bw}
def Is(t u:TT):TT:=λσ H Q=>t σ H λc H1=>if c=true then u σ H1 Q else Q false H1
def Kq(t u:TT):TT:=λσ H Q=>t σ H λc H1=>if c=true then Q true H1 else u σ H1 Q
def G7(t:TT):TT:=λσ H Q=>t σ H λc H1=>Q (!c) H1
theorem pw_and1(ha:PT X a tA):PW X (.BoolOp .And [a] pos) tA:=by
 intro wh ah s σ H Q I h;refine isTrue_and (bg (ha ah s σ H Q I h) λc s1 e=>?_);cases c with
 |true=>exact isTrue_and_nil e
 |false=>exact e
theorem pw_or1(ha:PT X a tA):PW X (.BoolOp .Or [a] pos) tA:=by
 intro wh ah s σ H Q I h;refine isTrue_or (bg (ha ah s σ H Q I h) λc s1 e=>?_);cases c with
 |false=>exact isTrue_or_nil e
 |true=>exact e
theorem pw_and(ha:PT X a tA)(hb:PW X (.BoolOp .And (b::rest) pos) tB'):PW X (.BoolOp .And (a::b::rest) pos) (Is tA tB'):=by
 intro wh ah s σ H Q I h;refine isTrue_and (bg (ha ah s σ H _ I h) λc s1 ⟨H1,I1,q1⟩=>?_);cases c with
 |true=>exact hb wh ah s1 σ H1 Q I1 q1
 |false=>exact⟨H1,I1,q1⟩
theorem pw_or(ha:PT X a tA)(hb:PW X (.BoolOp .Or (b::rest) pos) tB'):PW X (.BoolOp .Or (a::b::rest) pos) (Kq tA tB'):=by
 intro wh ah s σ H Q I h;refine isTrue_or (bg (ha ah s σ H _ I h) λc s1 ⟨H1,I1,q1⟩=>?_);cases c with
 |true=>exact⟨H1,I1,q1⟩
 |false=>exact hb wh ah s1 σ H1 Q I1 q1
theorem iJ(ha:PT X a tA):PT X (.UnaryOp .Not a pos) (G7 tA):=by intro ah s σ H Q I h;exact isTrue_not (ha ah s σ H (λc H1=>Q (!c) H1) I h)
def Et(ta tb:TE):TE:=λσ H Q=>ta σ H λx H1=>∃c,x=.bl c/\if c=true then tb σ H1 Q else Q (.bl false) H1
def HZ(ta tb:TE):TE:=λσ H Q=>ta σ H λx H1=>∃c,x=.bl c/\if c=true then Q (.bl true) H1 else tb σ H1 Q
def IE(ta:TE):TE:=λσ H Q=>ta σ H λx H1=>∃c,x=.bl c/\Q (.bl (!c)) H1
theorem uy{op}{t:TE}(h:PE X a t):PE X (.BoolOp op [a] pos) t:=λah s σ H Q I hw=>BoolOp_one (h ah s σ H Q I hw)
theorem zR(ha:PE X a ta)(hb:PE X (.BoolOp .And (b::rest) pos) tb):PE X (.BoolOp .And (a::b::rest) pos) (Et ta tb):=by
 intro ah s σ H Q I h;refine BoolOp_and (bg (ha ah s σ H _ I h) λv s1 ⟨x,H1,I1,r1,q1⟩=>?_);obtain⟨c,rfl,q1⟩:=q1;cases r1;refine lg ?_;cases c with
 |true=>exact hb ah s1 σ H1 Q I1 q1
 |false=>exact⟨.bl false,H1,I1,rfl,q1⟩
theorem ES(ha:PE X a ta)(hb:PE X (.BoolOp .Or (b::rest) pos) tb):PE X (.BoolOp .Or (a::b::rest) pos) (HZ ta tb):=by
 intro ah s σ H Q I h;refine BoolOp_or (bg (ha ah s σ H _ I h) λv s1 ⟨x,H1,I1,r1,q1⟩=>?_);obtain⟨c,rfl,q1⟩:=q1;cases r1;refine lg ?_;cases c with
 |false=>exact hb ah s1 σ H1 Q I1 q1
 |true=>exact⟨.bl true,H1,I1,rfl,q1⟩
theorem QC(ha:PE X a ta):PE X (.UnaryOp .Not a pos) (IE ta):=by intro ah s σ H Q I h;refine UnaryOp_ (bg (ha ah s σ H _ I h) λv s1 ⟨x,H1,I1,r1,q1⟩=>?_);obtain⟨c,rfl,q1⟩:=q1;cases r1;exact not_of (lg ⟨.bl (!c),H1,I1,rfl,q1⟩)
def E7(t:TT)(ta tb:TE):TE:=λσ H Q=>t σ H λc H1=>if c=true then ta σ H1 Q else tb σ H1 Q
theorem HS{c:bw}(hc:PT X c tA)(ha:PE X a ta)(hb:PE X b tb):PE X (.IfExp c a b pos) (E7 tA ta tb):=by
 intro ah s σ H Q I h;refine wpAny_IfExp (bg (hc ah s σ H _ I h) λd s1 ⟨H1,I1,q1⟩=>?_);cases d with
 |true=>exact ha ah s1 σ H1 Q I1 q1
 |false=>exact hb ah s1 σ H1 Q I1 q1
end
def fK(K:bb)(H:Hp)(a:ak)(xs:List V):Prop:=
 Rd H a (.lst xs) \/
  ∃(o:Obj) (au:Array ai) (n:Nat),K.lookup a=ac o/\o.cls=.type "list" /\ o.dict=af/\o.data=.seq au n/\au.size<=sizeLine/\Vals xs au.toList
def fQ(K:bb)(H:Hp)(a:ak)(xs:List V):Prop:=
 Rd H a (.tup xs) \/
  ∃(o:Obj) (au:Array ai) (n:Nat),K.lookup a=ac o/\o.cls=.type "tuple" /\ o.data=.seq au n/\au.size<=sizeLine/\Vals xs au.toList
def VQ:ai->Option V
 |.none=>ac .non
 |.bool b=>ac (.bl b)
 |.int i _=>ac (.int i)
 |.str x _=>ac (.str x)
 |.bytes b _=>ac (.byt b)
 |.float b _=>ac (.flt b)
 |.ref a=>ac (.ref a)
 |.type n=>ac (.ty n)
 |_=>af
theorem RelV.abs{x:V}{u:ai}(r:RelV x u):VQ u=ac x:=by
 cases x with
 |non=>cases r;rfl
 |bl _=>cases r;rfl
 |int _=>obtain⟨t,rfl⟩:=r;rfl
 |str _=>obtain⟨t,rfl⟩:=r;rfl
 |byt _=>obtain⟨t,rfl⟩:=r;rfl
 |flt _=>obtain⟨t,rfl⟩:=r;rfl
 |ref _=>cases r;rfl
 |ty _=>cases r;rfl
theorem RelV.inj{x y:V}{u:ai}(r:RelV x u)(q:RelV y u):x=y:=iS (r.abs.symm.trans q.abs)
theorem Vals.inj:∀{xs ys:List V} {us:List ai},Vals xs us->Vals ys us->xs=ys
 |_,_,_,.nil,.nil=>rfl
 |_,_,_,.cons r t,.cons r' t'=>by rw[r.inj r',Vals.inj t t']
section
variable{X:Cx}{ah:List (ak×Obj)}{σ:St}{H:Hp}{s:aB}{a:ak}{xs ys:List V}
theorem Inv.list(I:Inv X ah σ H s)(h:fK X.K H a xs):∃au:List ai,Vals xs au/\PlainL s.heap a au.toArray/\xs.length<=sizeLine:=by
 rcases h with h|⟨o,au,n,hk,hc,hd,hs,hz,r⟩
 ·obtain⟨z,au,n,r,e⟩:=h.ok I.hok;exact⟨au,r,⟨_,n,e,rfl,rfl,rfl⟩,z⟩
 ·refine⟨au.toList,r,⟨o,n,I.iI a o hk,hc,hd,by simpa using hs⟩,?_⟩;have e:=r.length;simp only[zg]at e;omega
theorem Inv.tuple(I:Inv X ah σ H s)(h:fQ X.K H a xs):∃au:List ai,Vals xs au/\IsTup s.heap a au.toArray/\xs.length<=sizeLine:=by
 rcases h with h|⟨o,au,n,hk,hc,hs,hz,r⟩
 ·obtain⟨z,au,r,p⟩:=h.ok I.hok;exact⟨au,r,p.tup,z⟩
 ·refine⟨au.toList,r,⟨o,I.iI a o hk,hc,n,by simpa using hs⟩,?_⟩;have e:=r.length;simp only[zg]at e;omega
theorem Inv.BQ(I:Inv X ah σ H s)(h:fK X.K H a xs)(h':fK X.K H a ys):xs=ys:=by
 obtain⟨au,r,⟨o,n,e,_,_,d⟩,_⟩:=I.list h;obtain⟨its',r',⟨o',n',e',_,_,d'⟩,_⟩:=I.list h';rw[e]at e';cases e';rw[d]at d';injection d' with d1 _;have:au=its':=by simpa using congrArg Array.toList d1
 subst this;exact r.inj r'
theorem Inv.AL(I:Inv X ah σ H s)(h:fQ X.K H a xs)(h':fQ X.K H a ys):xs=ys:=by
 obtain⟨au,r,⟨o,e,_,n,d⟩,_⟩:=I.tuple h;obtain⟨its',r',⟨o',e',_,n',d'⟩,_⟩:=I.tuple h';rw[e]at e';cases e';rw[d]at d';injection d' with d1 _;have:au=its':=by simpa using congrArg Array.toList d1
 subst this;exact r.inj r'
end
abbrev Cx.wish(X:Cx)(E:ai->aB->Prop):Cx:={ X with xe:=E }
abbrev Cx.lz(X:Cx):Cx:=X.wish λ_ _=>False
theorem Cx.Ok.wish{X:Cx}(ok:X.Ok)(E:ai->aB->Prop):(X.wish E).Ok:=⟨ok.mod,ok.kind,ok.glob,ok.blt,ok.above,ok.inj,ok.has,ok.cab,ok.hd,ok.frames,ok.stk,ok.exf,ok.bs,ok.bsz,ok.we,ok.zm,ok.lY,ok.frf⟩
theorem Cx.Ok.pM{X:Cx}{E:ai->aB->Prop}(ok:(X.wish E).Ok):X.Ok:=⟨ok.mod,ok.kind,ok.glob,ok.blt,ok.above,ok.inj,ok.has,ok.cab,ok.hd,ok.frames,ok.stk,ok.exf,ok.bs,ok.bsz,ok.we,ok.zm,ok.lY,ok.frf⟩
section
variable{X:Cx}{ah:List (ak×Obj)}{σ:St}{H:Hp}{s:aB}{E:ai->aB->Prop}
theorem Inv.wish(I:Inv X ah σ H s)(E:ai->aB->Prop):Inv (X.wish E) ah σ H s:=⟨I.ok.wish E,I.os,I.bare,I.base,I.loc,I.cell,I.free,I.lr,I.pin,I.hok,I.len⟩
theorem Inv.pM(I:Inv (X.wish E) ah σ H s):Inv X ah σ H s:=⟨I.ok.pM,I.os,I.bare,I.base,I.loc,I.cell,I.free,I.lr,I.pin,I.hok,I.len⟩
theorem SP.pM{D:Ends}{f:Flow}{s':aB}(h:SP (X.wish E) ah D f s'):SP X ah D f s':=by
 cases f with
 |next=>obtain⟨σ',H',I,q⟩:=h;exact⟨σ',H',I.pM,q⟩
 |brk=>obtain⟨σ',H',I,q⟩:=h;exact⟨σ',H',I.pM,q⟩
 |cont=>obtain⟨σ',H',I,q⟩:=h;exact⟨σ',H',I.pM,q⟩
 |ret u=>obtain⟨v,σ',H',I,r,q⟩:=h;exact⟨v,σ',H',I.pM,r,q⟩
theorem iZ.lz{st:List bE}{t:TS}(h:iZ X.lz st t):iZ X st t:=λah s σ H D I hw=>
 ku (h ah s σ H D (I.wish _) hw) (λ_ _ q=>q.pM) λ_ _ z=>nC z
end
section
variable{X:Cx}{st:bE}{rest:List bE}{t u:TS}{e:bw}{te:TE}{pos:Pos}
def Iy:TS:=λD σ H=>D.nx σ H
def Ga(t u:TS):TS:=λD σ H=>t { D with nx:=u D } σ H
theorem dj:iZ X [] Iy:=λ_ _ σ H _ I h=>yR ⟨σ,H,I,h⟩
theorem aM(h1:PS X st t)(h2:iZ X rest u):iZ X (st::rest) (Ga t u):=by
 intro ah s σ H D I h;refine wpAny_execs_cons (bg (h1 ah s σ H { D with nx:=u D } I h) λf s1 q=>?_);cases f with
 |next=>
  obtain⟨σ',H',I',q⟩:=q;exact h2 ah s1 σ' H' D I' q
 |ret v=>exact q
 |brk=>exact q
 |cont=>exact q
theorem aV(h1:PS X st t):iZ X [st] t:=by
 intro ah s σ H D I h;refine wpAny_execs_cons (bg (h1 ah s σ H D I h) λf s1 q=>?_);cases f with
 |next=>exact yR q
 |ret v=>exact q
 |brk=>exact q
 |cont=>exact q
theorem Inv.quiet{ah:List (ak×Obj)}{σ:St}{H:Hp}{s:aB}(I:Inv X ah σ H s):interactive X.env=false:=by simp[interactive,I.ok.kind]
def vE(te:TE):TS:=λD σ H=>te σ H λ_ H1=>D.nx σ H1
theorem fz(he:PE X e te)(hs:swapsWith e af pos.line X.env=pure false:=by rfl):PS X (.Expr e pos) (vE te):=by intro ah s σ H D I h;exact wpAny_Expr_any (bg (he ah s σ H _ I h) λv s1 ⟨x,H1,I1,r1,q1⟩=>⟨σ,H1,I1,q1⟩) I.quiet hs
def qG(te:TE):TS:=λD σ H=>te σ H D.rt
theorem bW(he:PE X e te):PS X (.Return (ac e) pos) (qG te):=by intro ah s σ H D I h;exact wpAny_Return_some (bg (he ah s σ H _ I h) λv s1 ⟨x,H1,I1,r1,q1⟩=>⟨x,σ,H1,I1,r1,q1⟩)
def Ey(c:TT)(t u:TS):TS:=λD σ H=>c σ H λb H1=>if b=true then t D σ H1 else u D σ H1
theorem cX{c:bw}{a b:List bE}{tc:TT}(hc:PT X c tc)(ha:iZ X a t)(hb:iZ X b u):PS X (.If c a b pos) (Ey tc t u):=by
 intro ah s σ H D I h;refine wpAny_If (bg (hc ah s σ H _ I h) λd s1 ⟨H1,I1,q1⟩=>?_);cases d with
 |true=>exact ha ah s1 σ H1 D I1 q1
 |false=>exact hb ah s1 σ H1 D I1 q1
def EU:TS:=λ_ _ _=>False
theorem lQ:PS X st EU:=λ_ _ _ _ _ _ h=>h.elim
end
abbrev TG:=V->St->Hp->(St->Hp->Prop)->Prop
abbrev kO:=List V->St->Hp->(St->Hp->Prop)->Prop
def PG(X:Cx)(target:bw)(t:TG):Prop:=
 ∀(ah:List (ak×Obj)) (s:aB) (σ:St) (H:Hp) (v:V) (u:ai) (Q:St->Hp->Prop),Inv X ah σ H s->RelV v u->t v σ H Q ->
  wpAny (model X.prog X.w) X.A (assign target X.env u) (λ_ s'=>∃σ' H',Inv X ah σ' H' s'/\Q σ' H') X.xe s
def wU(X:Cx)(ts:List bw)(t:kO):Prop:=
 ∀(ah:List (ak×Obj)) (s:aB) (σ:St) (H:Hp) (vs:List V) (us:List ai) (Q:St->Hp->Prop),Inv X ah σ H s->Vals vs us->t vs σ H Q ->
  wpAny (model X.prog X.w) X.A (assignInOrder ((assignEach ts X.env).map (·.2)) us) (λ_ s'=>∃σ' H',Inv X ah σ' H' s'/\Q σ' H') X.xe s
abbrev Ae:=V->V->V->Hp->(Hp->Prop)->Prop
def E3(X:Cx)(t:Ae):Prop:=
 ∀(ah:List (ak×Obj)) (s:aB) (σ:St) (H:Hp) (o i v:V) (ov iv u:ai) (Q:Hp->Prop),Inv X ah σ H s->RelV o ov->RelV i iv->RelV v u->t o i v H Q ->
  wpAny (model X.prog X.w) X.A (setItem ov iv u) (λ_ s'=>∃H',Inv X ah σ H' s'/\Q H') X.xe s
section
variable{X:Cx}{pos:Pos}
def ju(i:Nat):TG:=λv σ H Q=>Q (σ.set i (ac v)) H
theorem cK{i:Nat}{x:Str}(hN:X.N.Nodup)(hi:X.N[i]? = ac x)(hx:Loc X.env.scope x)(hf:X.fn x=true\/X.env.scope.names.lookup x=ac .local:=by first|exact .inl rfl|exact .inr rfl|assumption):PG X (.Name x pos) (ju i):=by intro ah s σ H v u Q I r h;exact wpAny_assign_Name (yb I hN hi hx r (λs' I'=>⟨_,H,I',h⟩) hf)
def u7:kO:=λvs σ H Q=>vs=[]/\Q σ H
def uU(t:TG)(u:kO):kO:=λvs σ H Q=>∃v r,vs=v::r/\t v σ H λσ' H'=>u r σ' H' Q
theorem g7:wU X [] u7:=by intro ah s σ H vs us Q I r h;obtain⟨e,h⟩:=h;subst e;cases r;exact assignInOrder_nil ⟨σ,H,I,h⟩
theorem dG{e:bw}{es:List bw}{t:TG}{u:kO}(h1:PG X e t)(h2:wU X es u)
 (hs:(assignEach (e::es) X.env).map (·.2)=assign e X.env::(assignEach es X.env).map (·.2):=by rfl):wU X (e::es) (uU t u):=by
 intro ah s σ H vs us Q I r h;obtain⟨v,vr,e1,h⟩:=h;subst e1;cases r with
 |cons r rr=>
  rw[hs];refine Dv (bg (h1 ah s σ H _ _ _ I r h) λ_ s1 ⟨σ1,H1,I1,q1⟩=>?_);exact h2 ah s1 σ1 H1 _ _ Q I1 rr q1
def Cm(K:bb)(n:Nat)(t:kO):TG:=λv σ H Q=>∃a xs,v=.ref a/\fQ K H a xs/\xs.length=n/\t xs σ H Q
theorem hW{es:List bw}{k:Nat}{t:kO}{n:Nat}(hc:X.calm=true)(h:wU X es t)
 (hn:(assignEach es X.env).length=n:=by rfl) (hst:(assignEach es X.env).findIdx? (·.1)=af:=by rfl):PG X (.Tuple es k pos) (Cm X.K n t):=by
 intro ah s σ H v u Q I r hw;obtain⟨a,xs,e1,hq,hl,hw⟩:=hw;subst e1;cases r;obtain⟨au,rv,ht,hz⟩:=I.tuple hq;refine assign_Tuple_tuple (I.ok.hd hc) ht (by simp[hn,<- hl,rv.length]) hst λh' hx=>?_;have I1:Inv X ah σ H { s with heap:=h' }:=I.kept (t':=s.toks) λb o e=>hx b o (fT (du e)) e;exact h ah _ σ H xs _ Q I1 (by simpa using rv) hw
def HI(to ti:TE)(t:Ae):TG:=λv σ H Q=>to σ H λo H1=>ti σ H1 λi H2=>t o i v H2 λH3=>Q σ H3
theorem Ks{o i:bw}{to ti:TE}{t:Ae}(ho:PE X o to)(hi:PE X i ti)(hs:E3 X t)
 (ha:∀v,assign (.Subscript o i pos) X.env v=(do
  let ov <- holding [v] (eval o X.env);let iv <- holding [v,ov] (eval i X.env)
  standAt pos
  holding [v,ov,iv] (setItem ov iv v)
  release [v,ov,iv] []):=by intro _;rfl):PG X (.Subscript o i pos) (HI to ti t):=by
 intro ah s σ H v u Q I r h;rw[ha];refine aY (pV (bg (ho ah s σ H _ I h) λov s1 ⟨x,H1,I1,r1,q1⟩=>?_));refine aY (pV (bg (hi ah s1 σ H1 _ I1 q1) λiv s2 ⟨y,H2,I2,r2,q2⟩=>?_));refine aY (vW (aY (pV (bg (hs ah s2 σ H2 x y v ov iv u _ I2 r1 r2 r q2) λ_ s3 ⟨H3,I3,q3⟩=>?_))));exact wpAny_release ⟨σ,H3,I3,q3⟩
def mT(te:TE)(g:TG):TS:=λD σ H=>te σ H λx H1=>g x σ H1 D.nx
theorem sQ{tg e:bw}{te:TE}{g:TG}(he:PE X e te)(hg:PG X tg g)(hs:swapsWithSole [tg] e pos.line X.env=pure false:=by rfl)(hw:swappedStores [tg] e X.env=pure af:=by rfl)
 (h1:(assignEach [tg] X.env).map (·.2)=[assign tg X.env]:=by rfl):PS X (.Assign [tg] e pos) (mT te g):=by
 intro ah s σ H D I h;refine wpAny_Assign_stores (bg (he ah s σ H _ I h) λv s1 ⟨x,H1,I1,r1,q1⟩=>?_) hs hw;rw[h1];exact bg (hg ah s1 σ H1 x v _ I1 r1 q1) λ_ s2 q=>q
theorem kQ{i:Nat}{x:Str}{e:bw}{te:TE}{pos':Pos}(hN:X.N.Nodup)(hi:X.N[i]? = ac x)(hx:Loc X.env.scope x)(he:PE X e te)(hs:swapsWith e (ac (.Name x pos')) pos.line X.env=pure false:=by rfl)(hf:X.fn x=true\/X.env.scope.names.lookup x=ac .local:=by first|exact .inl rfl|exact .inr rfl|assumption) :
 PS X (.Assign [.Name x pos'] e pos) (mT te (ju i)):=by
 intro ah s σ H D I h;refine wpAny_Assign_Name (bg (he ah s σ H _ I h) λv s1 ⟨y,H1,I1,r1,q1⟩=>?_) hs;exact yb I1 hN hi hx r1 (λs2 I2=>⟨_,H1,I2,q1⟩) hf
def J6(i j:Nat)(ta:TA):TS:=λD σ H=>ta σ H λvs H1=>∃v w,vs=[v,w]/\D.nx ((σ.set i (ac v)).set j (ac w)) H1
theorem Uj{i j:Nat}{x y:Str}{a b:bw}{ta:TA}{px py pt:Pos}{kt k2 pt2}(hc:X.calm=true)(hN:X.N.Nodup)(hi:X.N[i]? = ac x)(hj:X.N[j]? = ac y)(hij:i≠j)
 (hx:X.env.scope.names.lookup x=ac .local) (hy:X.env.scope.names.lookup y=ac .local) (ha:PA X [a,b] ta)
 (hw:swappedStores [.Tuple [.Name x px,.Name y py] kt pt] (.Tuple [a,b] k2 pt2) X.env=pure (ac [x,y]))
 (hs:swapsWithSole [.Tuple [.Name x px,.Name y py] kt pt] (.Tuple [a,b] k2 pt2) pos.line X.env=pure false:=by rfl) :
 PS X (.Assign [.Tuple [.Name x px,.Name y py] kt pt] (.Tuple [a,b] k2 pt2) pos) (J6 i j ta):=by
 intro ah s σ H D I h;rw[exec_Assign_arm];refine aY (vW ?_);rw[hs];refine aY (bT ?_);rw[ba (by decide)];refine aY (Tuple_ (bg (ha _ ah s σ H _ I h) λus s1 ⟨vs,H1,I1,r1,q1⟩=>?_));obtain⟨v,w,e1,q1⟩:=q1;subst e1;obtain⟨u1,u2,rfl,rv,rw'⟩ : ∃u1 u2,us=[u1,u2]/\RelV v u1/\RelV w u2:=by
  cases r1 with
  |cons p q=>
   cases q with
   |cons p' q'=>
    cases q';exact⟨_,_,rfl,p,p'⟩
 refine C3 ?_ (by show 2<=sizeLine;decide);have I2:Inv X ah σ H1 { s1 with heap:=s1.heap.push { cls:=.type "tuple",data:=.seq [u1,u2].toArray } }:=I1.kept (t':=s1.toks) λb o e=>cU _ e;rw[hw];refine aY (bT ?_);show wpAny (model X.prog X.w) X.A (do rule "assign.swapped-stores"; let items <- unpackItems (.ref s1.heap.objs.size) 2 af;assignInOrder [λv=>bindName X.env y v,λv=>bindName X.env x v] items.reverse;pure Flow.next) _ _ _;refine aY (wpAny_rule (aY (unpackItems_tuple (items:=#[u1,u2]) (I.ok.hd hc) (IsTup.new s1.heap _) λh' hx'=>?_)));have I3:=I2.kept (h':=h') (t':=s1.toks) λb o e=>hx' b o (fT (du e)) e;show wpAny _ _ (assignInOrder [λv=>bindName X.env y v,λv=>bindName X.env x v] [u2,u1] >>= λ_=>pure Flow.next) _ _ _;refine aY (Dv (wpAny_bindName (yb I3 hN hj (.inl hy) rw' (λs2 I4=>?_) (.inr hy))));refine Dv (wpAny_bindName (yb I4 hN hi (.inl hx) rv (λs3 I5=>assignInOrder_nil (bT ?_)) (.inr hx)));rw[List.set_comm _ _ (fv hij)]at I5;exact⟨_,H1,I5,q1⟩
end
section
variable{X:Cx}{pos:Pos}
def F1(c:TT)(tb:TS):TS:=λD σ H=>∃W:Nat->St->Hp->Prop,(∃m,W m σ H)/\∀m σ H,W m σ H ->
 c σ H λb H1=>if b=true then∃N:St->Hp->Prop,(∀σ' H',N σ' H'->∃m',m'<m/\W m' σ' H')/\tb { D with nx:=N,ct:=N,bk:=D.nx } σ H1 else D.nx σ H1
theorem AM{c:bw}{body:List bE}{tc:TT}{tb:TS}(hp:PassesOwn (model X.prog X.w) X.A X.env X.xe)(hc:PT X c tc)(hb:iZ X body tb):PS X (.While c body [] pos) (F1 tc tb):=by
 intro ah s σ H D I h;obtain⟨W,⟨m0,w0⟩,turn⟩:=h;refine wpAny_While (codeAny_whileLoop (λn s'=>∃σ' H',Inv X ah σ' H' s'/\W n σ' H') ?_ m0 ⟨σ,H,I,w0⟩);rintro n s1 ⟨σ1,H1,I1,w1⟩;refine rn hp (bg (hc ah s1 σ1 H1 _ I1 (turn n σ1 H1 w1)) λb s2 ⟨H2,I2,q2⟩=>?_);cases b with
 |true=>
  obtain⟨N,hN,q2⟩:=q2;rw[bc rfl];refine rn hp (bg (hb ah s2 σ1 H2 _ I2 q2) λf s3 q3=>?_);cases f with
  |next=>
   obtain⟨σ3,H3,I3,n3⟩:=q3;obtain⟨m',hm,w3⟩:=hN σ3 H3 n3;exact⟨m',hm,σ3,H3,I3,w3⟩
  |cont=>
   obtain⟨σ3,H3,I3,n3⟩:=q3;obtain⟨m',hm,w3⟩:=hN σ3 H3 n3;exact⟨m',hm,σ3,H3,I3,w3⟩
  |brk=>exact q3
  |ret v=>exact q3
 |false=>
  rw[ba dR];exact yR ⟨σ1,H2,I2,q2⟩
end
structure It where
 go:Nat->Hp->Prop
 yld:Nat->Hp->V->Hp->Prop
 stop:Nat->Hp->Prop
def gR(X:Cx)(ah:List (ak×Obj))(H:Hp)(b:ak):Prop:=H b=af/\b≠X.env.locals/\b∉X.fs/\(b∈X.ex\/X.s₀.heap.objs.size<=b)/\(∀x c,X.env.cells.lookup x=ac c->c≠b)/\∀p∈X.pn++ah,p.1≠b
theorem Inv.jS{X:Cx}{ah:List (ak×Obj)}{σ:St}{H H':Hp}{s:aB}{b:ak}(I:Inv X ah σ H s)(hb:s.heap.objs.size<=b)(hn:H' b=af):gR X ah H' b:=by
 refine⟨hn,v3 (jb I.lt hb),I.Uy hb,.inr (c8 I.sz hb),λx c e z=>?_,λp hp z=>?_⟩
 ·obtain⟨v,q⟩:=I.cell x c e;exact absurd (jb q.lt (by rw[z];exact hb)) (oA _)
 ·exact absurd (jb (du (I.pin p hp).1) (by rw[z];exact hb)) (oA _)
structure Turn(P:cp)(w:bI)(K:bb)(tg:bw)(J:It)(fp:List ak)(it:ak)(tn:Nat->bq->Prop):Prop where
 mem:it∈fp
 obj:∀i h,tn i h->∀b∈fp,∃o,h.get? b=ac o/\∀v,o.data≠.cell v
 keep:∀i h h',tn i h->(∀b∈fp,∀o,h.get? b=ac o->h'.get? b=ac o)->tn i h'
 item:∀(X:Cx),X.prog=P->X.w=w->X.K=K->X.calm=true->∀(i:Nat) (ah:List (ak×Obj)) (s:aB) (σ:St) (H:Hp) (E:ai->aB->Prop),Inv X ah σ H s->(∀b∈fp,gR X ah H b)->tn i s.heap->J.go i H ->
  wpAny (model P w) X.A (pyNext (.ref it)) (λr s1=>∃u,r=ac u /\
   wpAny (model P w) X.A (letOwnedTupleGo tg (.ref it) u) (λ_ s2=>∃x H',Inv X ah σ H' s2/\RelV x u/\J.yld i H x H'/\tn (i+1) s2.heap/\∀b∈fp,H' b=af) E s1) E s
 done:∀(X:Cx),X.prog=P->X.w=w->X.K=K->X.calm=true->∀(i:Nat) (ah:List (ak×Obj)) (s:aB) (σ:St) (H:Hp) (E:ai->aB->Prop),Inv X ah σ H s->(∀b∈fp,gR X ah H b)->tn i s.heap->J.stop i H ->
  wpAny (model P w) X.A (pyNext (.ref it)) (λr s1=>r=af/\Inv X ah σ H s1) E s
 self:∀(A:cR) (i:Nat) (s:aB) (Q:ai->aB->Prop) (E:ai->aB->Prop),tn i s.heap->Q (.ref it) s->wpAny (model P w) A (pyIter (.ref it)) Q E s
abbrev TI:=St->Hp->(It->Hp->Prop)->Prop
def PIE(X:Cx)(ah:List (ak×Obj))(σ:St)(tg:bw)(R:It->Hp->Prop)(itv:ai)(s2:aB):Prop:=∃(it:ak) (fp:List ak) (tn:Nat->bq->Prop) (J:It) (H':Hp),itv=.ref it/\Inv X ah σ H' s2/\Turn X.prog X.w X.K tg J fp it tn/\tn 0 s2.heap/\(∀b∈fp,gR X ah H' b)/\R J H'
def PI(X:Cx)(tg iter:bw)(wi:TI):Prop:=
 ∀(ah:List (ak×Obj)) (s:aB) (σ:St) (H:Hp) (R:It->Hp->Prop),Inv X ah σ H s->wi σ H R ->
  wpAny (model X.prog X.w) X.A (eval iter X.env) (λv s1=>wpAny (model X.prog X.w) X.A (pyIter v) (PIE X ah σ tg R) X.xe s1) X.xe s
theorem xX{M:Model}{A:cR}{E:ai->aB->Prop}{s:aB}{tg:bw}{it:ak}{u:ai}{o:Obj}{n:String}{vs:Array ai}{Q:Unit->aB->Prop}(ho:s.heap.get? it=ac o)(hc:o.cls=.type n)(hd:o.data=.fields vs)
 (hn:["enumerate","zip","dict_itemiterator","dict_reverseitemiterator","odict_iterator","itertools.zip_longest","itertools.pairwise"].contains n=false) (hQ:Q () s):wpAny M A (letOwnedTupleGo tg (.ref it) u) Q E s:=by
 unfold letOwnedTupleGo;cases tg<;>first
  |exact bT hQ
  | (cases u<;>first
   |exact bT hQ
   | (refine aY (wpAny_load ho ?_)
      rw[hc,hd];show wpAny M A (if(["enumerate","zip","dict_itemiterator","dict_reverseitemiterator","odict_iterator","itertools.zip_longest","itertools.pairwise"].contains n&&vs[0]? == ac (rawInt _))=true then _ else _) Q E s;rw[ba (by intro h;rw[hn,Bool.false_and]at h;cases h)];exact bT hQ))
def vv(K:bb)(a:ak):It:=⟨λi H=>∃xs x,fK K H a xs/\xs[i]? = ac x,λi H x H'=>H'=H/\∀xs,fK K H a xs->xs[i]? = ac x,λi H=>∃xs,fK K H a xs/\xs.length<=i⟩
def vC(K:bb)(a:ak):It:=⟨λi H=>∃xs x,fQ K H a xs/\xs[i]? = ac x,λi H x H'=>H'=H/\∀xs,fQ K H a xs->xs[i]? = ac x,λi H=>∃xs,fQ K H a xs/\xs.length<=i⟩
def oZ(lo:Int)(n:Nat):It:=⟨λi _=>i<n,λi H x H'=>H'=H/\x=.int (lo+i),λi _=>n<=i⟩
theorem Ta{P:cp}{w:bI}{K:bb}{tg:bw}(a it:ak):Turn P w K tg (vv K a) [it] it (λi h=>h.IsListIter it a i) where
 mem:=by simp
 obj:=λi h st b hb=>by
  have e:b=it:=by simpa using hb
  subst e;obtain⟨o,e,c,d⟩:=st;exact⟨o,e,λv z=>by rw[d]at z;cases z⟩
 keep:=λi h h' st k=>st.at λo e=>k it (by simp) o e
 item:=by intro X hP hw hK hc i ah s σ H E I hf st hg;subst hP hw hK;obtain⟨xs,x,hq,hx⟩:=hg;obtain⟨au,rv,p,hz⟩:=I.list hq;obtain⟨u,hu,ru⟩:=rv.get hx;obtain⟨f0,f1,f2,f3,f4,f5⟩:=hf it (by simp);refine wpAny_pyNext_list_item st p.isList (x:=u) (by simpa using hu) λh' st' sb=>?_;have I1:Inv X ah σ H { s with heap:=h' }:=I.turned (t':=s.toks) (λb o hb e=>(sb.2 b hb).trans e) f0 f1 f3 f4 f5;obtain⟨o,e,c,d⟩:=id st';exact⟨u,rfl,xX (s:={ s with heap:=h' }) e c d (by decide) ⟨x,H,I1,ru,⟨rfl,λys hy=>by rw[I.BQ hy hq];exact hx⟩,st',λb hb=>(hf b hb).1⟩⟩
 done:=by intro X hP hw hK hc i ah s σ H E I hf st hg;subst hP hw hK;obtain⟨xs,hq,hx⟩:=hg;obtain⟨au,rv,p,hz⟩:=I.list hq;obtain⟨f0,f1,f2,f3,f4,f5⟩:=hf it (by simp);have hl:=rv.length;exact wpAny_pyNext_list_end (I.ok.hd hc) st p.isList (by simp;omega) λh' eb=>⟨rfl,I.turned (t':=s.toks) (λb o hb e=>eb b o hb e) f0 f1 f3 f4 f5⟩
 self:=λ_ _ _ _ _ st h=>wpAny_pyIter_listiter st h
theorem Ot{P:cp}{w:bI}{K:bb}{tg:bw}(a it:ak):Turn P w K tg (vC K a) [it] it (λi h=>h.IsTupleIter it a i) where
 mem:=by simp
 obj:=λi h st b hb=>by
  have e:b=it:=by simpa using hb
  subst e;obtain⟨o,e,c,d⟩:=st;exact⟨o,e,λv z=>by rw[d]at z;cases z⟩
 keep:=λi h h' st k=>st.at λo e=>k it (by simp) o e
 item:=by intro X hP hw hK hc i ah s σ H E I hf st hg;subst hP hw hK;obtain⟨xs,x,hq,hx⟩:=hg;obtain⟨au,rv,p,hz⟩:=I.tuple hq;obtain⟨u,hu,ru⟩:=rv.get hx;obtain⟨f0,f1,f2,f3,f4,f5⟩:=hf it (by simp);refine LI st (show s.heap.IsTuple a au.toArray from p) (x:=u) (by simpa using hu) λh' st' sb=>?_;have I1:Inv X ah σ H { s with heap:=h' }:=I.turned (t':=s.toks) (λb o hb e=>(sb.2 b hb).trans e) f0 f1 f3 f4 f5;obtain⟨o,e,c,d⟩:=id st';exact⟨u,rfl,xX (s:={ s with heap:=h' }) e c d (by decide) ⟨x,H,I1,ru,⟨rfl,λys hy=>by rw[I.AL hy hq];exact hx⟩,st',λb hb=>(hf b hb).1⟩⟩
 done:=by intro X hP hw hK hc i ah s σ H E I hf st hg;subst hP hw hK;obtain⟨xs,hq,hx⟩:=hg;obtain⟨au,rv,p,hz⟩:=I.tuple hq;obtain⟨f0,f1,f2,f3,f4,f5⟩:=hf it (by simp);have hl:=rv.length;exact LK (I.ok.hd hc) st (show s.heap.IsTuple a au.toArray from p) (by simp;omega) λh' eb=>⟨rfl,I.turned (t':=s.toks) (λb o hb e=>eb b o hb e) f0 f1 f3 f4 f5⟩
 self:=λ_ _ _ _ _ st h=>LL st h
theorem TZ{P:cp}{w:bI}{K:bb}{tg:bw}(it:ak)(lo:Int)(n:Nat):Turn P w K tg (oZ lo n) [it] it (λi h=>IsRangeIter h it (lo+(i:Nat)*1) ((n:Int)-(i:Nat)) 1) where
 mem:=by simp
 obj:=λi h st b hb=>by
  have e:b=it:=by simpa using hb
  subst e;exact⟨_,st,λv z=>by
   have z':Data.fields _=Data.cell v:=z;cases z'⟩
 keep:=λi h h' st k=>k it (by simp) _ st
 item:=by intro X hP hw hK hc i ah s σ H E I hf st hg;subst hP hw hK;obtain⟨f0,f1,f2,f3,f4,f5⟩:=hf it (by simp);have W:=Walks.range (prog:=X.prog) (w:=X.w) (I.ok.hd hc) it lo 1 n;refine W.item i s _ _ hg st λv h' tk hv st' kk=>?_;obtain⟨t,rfl⟩:=hv;have I1:Inv X ah σ H { s with heap:=h',toks:=tk }:=I.turned (λb o hb e=>kk b o (by simpa using hb) e) f0 f1 f3 f4 f5;refine⟨_,rfl,xX (s:={ s with heap:=h',toks:=tk }) (n := "range_iterator") st' rfl rfl (by decide) ⟨.int (lo+i),H,I1,⟨t,?_⟩,⟨rfl,rfl⟩,st',λb hb=>(hf b hb).1⟩⟩;rw[Int.mul_one]
 done:=by intro X hP hw hK hc i ah s σ H E I hf st hg;subst hP hw hK;obtain⟨f0,f1,f2,f3,f4,f5⟩:=hf it (by simp);exact wpAny_pyNext_range_end (I.ok.hd hc) st (by have:n<=i:=hg;omega) λh' eb=>⟨rfl,I.turned (t':=s.toks) (λb o hb e=>eb b o hb e) f0 f1 f3 f4 f5⟩
 self:=λ_ _ _ _ _ st h=>wpAny_pyIter_rangeiter st h
section
variable{X:Cx}{tg:bw}
def Gk(K:bb)(tl:TE):TI:=λσ H R=>tl σ H λx H1=>∃a,x=.ref a/\(∃xs,fK K H1 a xs)/\R (vv K a) H1
def JA(K:bb)(tl:TE):TI:=λσ H R=>tl σ H λx H1=>∃a,x=.ref a/\(∃xs,fQ K H1 a xs)/\R (vC K a) H1
theorem PB{l:bw}{tl:TE}(hl:PE X l tl):PI X tg l (Gk X.K tl):=by
 intro ah s σ H R I h;refine bg (hl ah s σ H _ I h) λv s1 ⟨x,H1,I1,r1,q1⟩=>?_;obtain⟨a,e,⟨xs,hq⟩,q⟩:=q1;subst e;cases r1;obtain⟨au,rv,p,hz⟩:=I1.list hq;refine yP p.isList ?_;refine⟨s1.heap.objs.size,[s1.heap.objs.size],_,_,H1,rfl,I1.kept (t':=s1.toks) λb o e=>cU _ e,Ta a _,⟨_,fc _ rfl,rfl,rfl⟩,λb hb=>?_,q⟩;have e:b=s1.heap.objs.size:=by simpa using hb
 subst e;exact I1.jS (bJ _) (I1.hok.fresh (bJ _))
theorem NJ{l:bw}{tl:TE}(hl:PE X l tl):PI X tg l (JA X.K tl):=by
 intro ah s σ H R I h;refine bg (hl ah s σ H _ I h) λv s1 ⟨x,H1,I1,r1,q1⟩=>?_;obtain⟨a,e,⟨xs,hq⟩,q⟩:=q1;subst e;cases r1;obtain⟨au,rv,p,hz⟩:=I1.tuple hq;refine C2 (show s1.heap.IsTuple a au.toArray from p) ?_;refine⟨s1.heap.objs.size,[s1.heap.objs.size],_,_,H1,rfl,I1.kept (t':=s1.toks) λb o e=>cU _ e,Ot a _,⟨_,fc _ rfl,rfl,rfl⟩,λb hb=>?_,q⟩;have e:b=s1.heap.objs.size:=by simpa using hb
 subst e;exact I1.jS (bJ _) (I1.hok.fresh (bJ _))
theorem Jg{ah:List (ak×Obj)}{σ:St}{H:Hp}{s:aB}{R:It->Hp->Prop}{E:ai->aB->Prop}{lo hi:Int}{t u v:Tok}{tk:Nat}(I:Inv X ah σ H s)(h1:-(2 ^ 62)<=lo)(h2:lo<2 ^ 62)(h3:-(2 ^ 62)<=hi)(h4:hi<2 ^ 62)
 (q:R (oZ lo (hi-lo).toNat) H):wpAny (model X.prog X.w) X.A (pyIter (.ref s.heap.objs.size)) (PIE X ah σ tg R) E { s with heap:=s.heap.push { cls:=.type "range", data:=.fields #[.int lo t,.int hi u,.int 1 v] },toks:=tk }:=by
 refine wpAny_pyIter_range (IsRange.new ..) (small_one h1 h2 h3 h4) ?_;have I1:Inv X ah σ H { s with heap:=s.heap.push { cls:=.type "range",data:=.fields #[.int lo t,.int hi u,.int 1 v] },toks:=tk }:=I.kept λb o e=>cU _ e;refine⟨(s.heap.push { cls:=.type "range",data:=.fields #[.int lo t,.int hi u,.int 1 v] }).objs.size,[(s.heap.push { cls:=.type "range", data:=.fields #[.int lo t,.int hi u,.int 1 v] }).objs.size],_,_,H,rfl,
  I1.kept (t':=tk) λb o e=>cU _ e,TZ _ lo (hi-lo).toNat,?_,λb hb=>?_,q⟩
 ·have e1:lo+((0:Nat):Int)*1=lo:=by simp
  have e2:(((hi-lo).toNat:Nat):Int)-((0:Nat):Int)=Builtin.Range.rangeSize lo hi 1:=by rw[rangeSize_one];split<;>omega
  show IsRangeIter _ _ (lo+((0:Nat):Int)*1) ((((hi-lo).toNat:Nat):Int)-((0:Nat):Int)) 1;rw[e1,e2];exact fc _ rfl
 ·have e:b=(s.heap.push { cls:=.type "range", data:=.fields #[.int lo t,.int hi u,.int 1 v] }).objs.size:=by simpa using hb
  subst e;exact I1.jS (bJ _) (I1.hok.fresh (bJ _))
def Ft(ta:TA):TI:=λσ H R=>ta σ H λvs H1=>∃j:Int,vs=[.int j]/\-(2 ^ 62)<=j/\j<2 ^ 62/\R (oZ 0 j.toNat) H1
def EN(ta:TA):TI:=λσ H R=>ta σ H λvs H1=>∃i j:Int,vs=[.int i,.int j]/\(-(2 ^ 62)<=i/\i<2 ^ 62/\-(2 ^ 62)<=j/\j<2 ^ 62)/\R (oZ i (j-i).toNat) H1
theorem gJ{a:bw}{ta:TA}{p pos:Pos}(hg:Gl X "range")(hm:X.mg "range" = af)(ha:PA X [a] ta)(hs:starEach [a] X.env=[(false,eval a X.env)]:=by rfl):PI X tg (.Call (.Name "range" p) [a] [] pos) (Ft ta):=by
 intro ah s σ H R I h;refine Call_ (qk I hg hm boot_range (ze (bg (ha pos ah s σ H _ I h) λus s1 ⟨vs,H1,I1,r1,q1⟩=>?_) hs rfl));obtain⟨j,e,q1,q2,q⟩:=q1;subst e;cases r1 with
 |cons r rr=>
  cases rr;obtain⟨t,rfl⟩:=r;exact call_range_1 (Jg I1 (by omega) (by omega) q1 q2 (by simpa using q))
theorem NH{a b:bw}{ta:TA}{p pos:Pos}(hg:Gl X "range")(hm:X.mg "range" = af)(ha:PA X [a,b] ta)(hs:starEach [a,b] X.env=[(false,eval a X.env),(false,eval b X.env)]:=by rfl)(hs2:starEach [b] X.env=[(false,eval b X.env)]:=by rfl) :
 PI X tg (.Call (.Name "range" p) [a,b] [] pos) (EN ta):=by
 intro ah s σ H R I h;refine Call_ (qk I hg hm boot_range (ze (bg (ha pos ah s σ H _ I h) λus s1 ⟨vs,H1,I1,r1,q1⟩=>?_) (by rw[hs,hs2]) (by rw[hs2];rfl)));obtain⟨i,j,e,⟨q1,q2,q3,q4⟩,q⟩:=q1;subst e;cases r1 with
 |cons r rr=>
  cases rr with
  |cons r' rr=>
   cases rr;obtain⟨t,rfl⟩:=r;obtain⟨t',rfl⟩:=r';exact call_range_2 (Jg I1 q1 q2 q3 q4 q)
def HP(wi:TI)(g:TG)(tb:TS):TS:=λD σ H=>wi σ H λJ H1=>∃W:Nat->Nat->St->Hp->Prop,(∃m,W 0 m σ H1)/\∀i m σ H,W i m σ H ->
 (J.stop i H/\D.nx σ H)\/(J.go i H/\∃N:St->Hp->Prop,(∀σ' H',N σ' H'->∃m',m'<m/\W (i+1) m' σ' H')/\∀x H',J.yld i H x H'->g x σ H' λσ2 H2=>tb { D with nx:=N,ct:=N,bk:=D.nx } σ2 H2)
def wX(fp:List ak)(h:bq):List (ak×Obj):=fp.filterMap λb=>(h.get? b).map λo=>(b,o)
theorem sG{fp:List ak}{h:bq}{b:ak}{o:Obj}(hb:b∈fp)(e:h.get? b=ac o):(b,o)∈wX fp h:=Lu.mpr ⟨b,hb,by rw[e];rfl⟩
theorem Ur{fp:List ak}{h:bq}{p:ak×Obj}(hp:p∈wX fp h):p.1∈fp/\h.get? p.1=ac p.2:=by
 obtain⟨b,hb,e⟩:=Lu.mp hp;cases q:h.get? b with
 |none=>rw[q]at e;cases e
 |some o=>
  rw[q]at e;have e':(b,o)=p:=iS e;subst e';exact⟨hb,q⟩
theorem Inv.pinned{ah:List (ak×Obj)}{σ:St}{H:Hp}{s:aB}{fp:List ak}(I:Inv X ah σ H s)(hf:∀b∈fp,gR X ah H b)(ho:∀b∈fp,∃o,s.heap.get? b=ac o/\∀v,o.data≠.cell v):Inv X (ah++wX fp s.heap) σ H s:=
 I.Cn λp hp=>(eg.mp hp).elim (λz=>I.pin p (gW _ z)) λz=>by
  obtain⟨hb,e⟩:=Ur z;obtain⟨f0,f1,f2,_⟩:=hf p.1 hb;obtain⟨o,e',d⟩:=ho p.1 hb;rw[e]at e';cases e';exact⟨e,f0,f1,f2,d⟩
theorem Inv.sW{ah pl:List (ak×Obj)}{σ:St}{H:Hp}{s:aB}(I:Inv X (ah++pl) σ H s):Inv X ah σ H s:=I.Cn λp hp=>I.pin p (gW _ (jU _ hp))
theorem d5{iter:bw}{body:List bE}{wi:TI}{g:TG}{tb:TS}{pos:Pos}(hp:PassesOwn (model X.prog X.w) X.A X.env X.xe)(hc:X.calm=true)(hi:PI X tg iter wi)(hg:PG X tg g)(hb:iZ X body tb)
 (hs:∀x,foldedSetIterable iter X.env x=pure x:=by intro _;rfl):PS X (.For tg iter body [] pos) (HP wi g tb):=by
 intro ah s σ H D I h;refine wpAny_For (bg (hi ah s σ H _ I h) λv s1 h1=>bg h1 λitv s2 h2=>?_) hs;obtain⟨it,fp,tn,J,H2,e,I2,T,st2,f2,W,⟨m0,w0⟩,turn⟩:=h2;subst e;have stat:∀{H':Hp},(∀b∈fp,H' b=af)->∀b∈fp,gR X ah H' b:=λhn b hb=>⟨hn b hb,(f2 b hb).2⟩;refine codeAny_forLoop_any (λn s'=>∃i σ' H',Inv X ah σ' H' s'/\tn i s'.heap/\(∀b∈fp,H' b=af)/\W i n σ' H') ?_ m0 ⟨0,σ,H2,I2,st2,λb hb=>(f2 b hb).1,w0⟩;rintro n s3 ⟨i,σ3,H3,I3,st3,fr3,w3⟩;rcases turn i n σ3 H3 w3 with ⟨stop,qn⟩|⟨go,N,hN,step⟩
 ·refine rn hp (bg (T.done X rfl rfl rfl hc i ah s3 σ3 H3 X.xe I3 (stat fr3) st3 stop) λr s4 ⟨hr,I4⟩=>?_);subst hr;exact yR ⟨σ3,H3,I4,qn⟩
 ·refine rn hp (bg (T.item X rfl rfl rfl hc i ah s3 σ3 H3 X.xe I3 (stat fr3) st3 go) λr s4 ⟨u,hr,h4⟩=>?_);subst hr;refine rn hp (bg h4 λ_ s5 ⟨x,H5,I5,r5,y5,st5,fr5⟩=>?_);have I5':=I5.pinned (stat fr5) (T.obj _ _ st5);refine rn hp (bg (hg _ s5 σ3 H5 x u _ I5' r5 (step x H5 y5)) λ_ s6 ⟨σ6,H6,I6,q6⟩=>?_);refine rn hp (bg (hb _ s6 σ6 H6 _ I6 q6) λf s7 q7=>?_);have again:∀{σ7:St} {H7:Hp},Inv X (ah++wX fp s5.heap) σ7 H7 s7->N σ7 H7->∃m,m<n/\∃i σ' H',Inv X ah σ' H' s7/\tn i s7.heap/\(∀b∈fp,H' b=af)/\W i m σ' H':=λ{σ7 H7} I7 n7=>by
   obtain⟨m',hm,w7⟩:=hN σ7 H7 n7;refine⟨m',hm,i+1,σ7,H7,I7.sW,T.keep _ _ _ st5 λb hb o e=>(I7.pin (b,o) (gW _ (gW _ (sG hb e)))).1,λb hb=>?_,w7⟩;obtain⟨o,e,d⟩:=T.obj _ _ st5 b hb;exact(I7.pin (b,o) (gW _ (gW _ (sG hb e)))).2.1
  cases f with
  |next=>obtain⟨σ7,H7,I7,n7⟩:=q7;exact again I7 n7
  |cont=>obtain⟨σ7,H7,I7,n7⟩:=q7;exact again I7 n7
  |brk=>obtain⟨σ7,H7,I7,q7⟩:=q7;exact⟨σ7,H7,I7.sW,q7⟩
  |ret v=>obtain⟨x7,σ7,H7,I7,r7,q7⟩:=q7;exact⟨x7,σ7,H7,I7.sW,r7,q7⟩
end
abbrev R2:=V->V->Hp->VK->Prop
def dq(X:Cx)(f:ai->ai->Sem ai)(r:R2):Prop:=
 ∀(ah:List (ak×Obj)) (s:aB) (σ:St) (H:Hp) (x y:V) (v u:ai) (Q:VK),Inv X ah σ H s->RelV x v->RelV y u->r x y H Q ->
  wpAny (model X.prog X.w) X.A (f v u) (EP X ah σ Q) X.xe s
def Bj(X:Cx)(f:ai->Sem ai)(r:V->Hp->VK->Prop):Prop:=
 ∀(ah:List (ak×Obj)) (s:aB) (σ:St) (H:Hp) (x:V) (v:ai) (Q:VK),Inv X ah σ H s->RelV x v->r x H Q ->
  wpAny (model X.prog X.w) X.A (f v) (EP X ah σ Q) X.xe s
def gu(X:Cx)(f:ai)(r:List V->Hp->VK->Prop):Prop:=
 ∀(ah:List (ak×Obj)) (s:aB) (σ:St) (H:Hp) (xs:List V) (us:List ai) (Q:VK),Inv X ah σ H s->Vals xs us->r xs H Q ->
  wpAny (model X.prog X.w) X.A (call f us) (EP X ah σ Q) X.xe s
def QB(X:Cx)(r:V->Hp->(Bool->Hp->Prop)->Prop):Prop:=
 ∀(ah:List (ak×Obj)) (s:aB) (σ:St) (H:Hp) (x:V) (v:ai) (Q:Bool->Hp->Prop),Inv X ah σ H s->RelV x v->r x H Q ->
  wpAny (model X.prog X.w) X.A (truthy v) (TP X ah σ Q) X.xe s
def oY(r:R2)(ta tb:TE):TE:=λσ H Q=>ta σ H λx H1=>tb σ H1 λy H2=>r x y H2 Q
def Fe(r:V->Hp->VK->Prop)(ta:TE):TE:=λσ H Q=>ta σ H λx H1=>r x H1 Q
def rI(C:Int->Int->Prop)(g:Int->Int->V):R2:=λx y H Q=>∃i j,x=.int i/\y=.int j/\C i j/\Q (g i j) H
def kM(g:Int->Int->V):R2:=λx y H Q=>∃i j,x=.int i/\y=.int j/\Q (g i j) H
def rU(g:Int->V):V->Hp->VK->Prop:=λx H Q=>∃i,x=.int i/\Q (g i) H
section
variable{X:Cx}{a b c:bw}{ta tb tc:TE}{pos:Pos}
theorem zY(ha:PE X a ta)(hb:PE X b tb){ah:List (ak×Obj)}{s:aB}{σ:St}{H:Hp}{R:V->V->Hp->Prop}(I:Inv X ah σ H s)
 (h:ta σ H λx H1=>tb σ H1 λy H2=>R x y H2) {Q:ai->aB->Prop} {f:ai->ai->Sem ai}
 (hf:∀v u s2 x y H2,Inv X ah σ H2 s2->RelV x v->RelV y u->R x y H2->wpAny (model X.prog X.w) X.A (f v u) Q X.xe s2) :
 wpAny (model X.prog X.w) X.A (eval a X.env) (λv s₁=>wpAny (model X.prog X.w) X.A (eval b X.env) (λu s₂=>wpAny (model X.prog X.w) X.A (f v u) Q X.xe s₂) X.xe s₁) X.xe s:=by
 refine bg (ha ah s σ H _ I h) λv s1 ⟨x,H1,I1,r1,q1⟩=>?_;refine bg (hb ah s1 σ H1 _ I1 q1) λu s2 ⟨y,H2,I2,r2,q2⟩=>?_;exact hf v u s2 x y H2 I2 r1 r2 q2
theorem a7{op:Operator}{r:R2}(ho:dq X (binaryOp op) r)(ha:PE X a ta)(hb:PE X b tb):PE X (.BinOp a op b pos) (oY r ta tb):=by intro ah s σ H Q I h;exact wpAny_BinOp (zY ha hb I h λv u s2 x y H2 I2 rx ry q=>ho ah s2 σ H2 x y v u Q I2 rx ry q)
theorem JI{op:UnaryOp}{r:V->Hp->VK->Prop}(ho:Bj X (unaryOp op) r)(ha:PE X a ta):PE X (.UnaryOp op a pos) (Fe r ta):=by intro ah s σ H Q I h;exact UnaryOp_ (bg (ha ah s σ H _ I h) λv s1 ⟨x,H1,I1,r1,q1⟩=>ho ah s1 σ H1 x v Q I1 r1 q1)
theorem yh{f:ai->ai->Sem ai}{C:Int->Int->Prop}{g:Int->Int->Int}
 (rule:∀(i j:Int) (t u:Tok) (s:aB) (Q:ai->aB->Prop) (E:ai->aB->Prop),C i j->Q (.int (g i j) s.toks) { s with toks:=s.toks+1 }->wpAny (model X.prog X.w) X.A (f (.int i t) (.int j u)) Q E s) :
 dq X f (rI C λi j=>.int (g i j)):=by
 intro ah s σ H x y v u Q I rx ry h;obtain⟨i,j,rfl,rfl,hc,q⟩:=h;obtain⟨t,rfl⟩:=rx;obtain⟨t',rfl⟩:=ry;exact rule i j t t' s _ _ hc ⟨.int (g i j),H,I.tok _,⟨_,rfl⟩,q⟩
theorem Ka{f:ai->ai->Sem ai}{g:Int->Int->Int}
 (rule:∀(i j:Int) (t u:Tok) (s:aB) (Q:ai->aB->Prop) (E:ai->aB->Prop),Q (.int (g i j) s.toks) { s with toks:=s.toks+1 }->wpAny (model X.prog X.w) X.A (f (.int i t) (.int j u)) Q E s) :
 dq X f (kM λi j=>.int (g i j)):=by
 intro ah s σ H x y v u Q I rx ry h;obtain⟨i,j,rfl,rfl,q⟩:=h;obtain⟨t,rfl⟩:=rx;obtain⟨t',rfl⟩:=ry;exact rule i j t t' s _ _ ⟨.int (g i j),H,I.tok _,⟨_,rfl⟩,q⟩
theorem BD{f:ai->ai->Sem ai}{g:Int->Int->Bool}
 (rule:∀(i j:Int) (t u:Tok) (s:aB) (Q:ai->aB->Prop) (E:ai->aB->Prop),Q (.bool (g i j)) s->wpAny (model X.prog X.w) X.A (f (.int i t) (.int j u)) Q E s) :
 dq X f (kM λi j=>.bl (g i j)):=by
 intro ah s σ H x y v u Q I rx ry h;obtain⟨i,j,rfl,rfl,q⟩:=h;obtain⟨t,rfl⟩:=rx;obtain⟨t',rfl⟩:=ry;exact rule i j t t' s _ _ ⟨.bl (g i j),H,I,rfl,q⟩
def Lb(i j:Int):Prop:=0<=j/\j<=1000000/\i.natAbs<2 ^ 64
def wQ(i j:Int):Prop:=(-(2 ^ 64)<i/\i<2 ^ 64)\/(-(2 ^ 64)<j/\j<2 ^ 64)
theorem wQ.ok{i j:Int}(h:wQ i j):IntMulOk i j:=by
 rcases h with ⟨h1,h2⟩|⟨h1,h2⟩
 ·exact .of_left (intBits_le_64 h1 h2)
 ·exact .of_right (intBits_le_64 h1 h2)
theorem Rj:dq X (binaryOp .Add) (kM λi j=>.int (i+j)):=Ka λ_ _ _ _ _ _ _ q=>add_int q
theorem nX:dq X (binaryOp .Sub) (kM λi j=>.int (i-j)):=Ka λ_ _ _ _ _ _ _ q=>sub_int q
theorem j7:dq X (binaryOp .Mult) (rI wQ λi j=>.int (i*j)):=yh λ_ _ _ _ _ _ _ hc q=>mul_int q hc.ok
theorem eY:dq X (binaryOp .Mod) (rI (λ_ j=>0<j) λi j=>.int (i%j)):=yh λi j _ _ _ _ _ hc q=>by
 have h1:(0:Int)<j:=hc;exact mod_int' (by omega) (by rw[Int.fmod_eq_emod_of_nonneg i (by omega)];exact q)
theorem U2:dq X (binaryOp .LShift) (rI Lb λi j=>.int (i*2 ^ j.toNat)):=yh λ_ _ _ _ _ _ _ hc q=>lshift_int_small hc.1 hc.2.1 hc.2.2 q
theorem Q2{f:ai->Sem ai}{g:Int->Int}
 (rule:∀(i:Int) (t:Tok) (s:aB) (Q:ai->aB->Prop) (E:ai->aB->Prop),Q (.int (g i) s.toks) { s with toks:=s.toks+1 }->wpAny (model X.prog X.w) X.A (f (.int i t)) Q E s) :
 Bj X f (rU λi=>.int (g i)):=by
 intro ah s σ H x v Q I rx h;obtain⟨i,rfl,q⟩:=h;obtain⟨t,rfl⟩:=rx;exact rule i t s _ _ ⟨.int (g i),H,I.tok _,⟨_,rfl⟩,q⟩
theorem Jd:Bj X (unaryOp .USub) (rU λi=>.int (-i)):=Q2 λ_ _ _ _ _ q=>neg_int q
end
section
variable{X:Cx}{a b c:bw}{ta tb tc:TE}{pos:Pos}
theorem wY{ah:List (ak×Obj)}{σ:St}{H:Hp}{s:aB}{Q:VK}{k k':Bool}(I:Inv X ah σ H s)(q:Q (.bl k) H)(e:k=k'):EP X ah σ Q (.bool k') s:=by subst e;exact⟨.bl k,H,I,rfl,q⟩
theorem Qc:dq X (compareOp .Lt) (kM λi j=>.bl (decide (i<j))):=BD λ_ _ _ _ _ _ _ q=>lt_int q
theorem yq:dq X (compareOp .LtE) (kM λi j=>.bl (decide (i<=j))):=BD λ_ _ _ _ _ _ _ q=>le_int q
theorem Qb:dq X (compareOp .Gt) (kM λi j=>.bl (decide (j<i))):=BD λ_ _ _ _ _ _ _ q=>gt_int q
theorem UW:dq X (compareOp .Lt) (λx y H Q=>∃i j,x=.str i/\y=.str j/\Q (.bl (decide (i.cps.toList<j.cps.toList))) H):=by intro ah s σ H x y v u Q I rx ry h;obtain⟨i,j,rfl,rfl,q⟩:=h;obtain⟨t,rfl⟩:=rx;obtain⟨t',rfl⟩:=ry;exact lt_str (wY I q rfl)
theorem QT:dq X (compareOp .In) (λx y H Q=>∃i j,x=.str i/\y=.str j/\Q (.bl (!(Builtin.Str.occurrences j i 0 j.length 1).isEmpty)) H):=by intro ah s σ H x y v u Q I rx ry h;obtain⟨i,j,rfl,rfl,q⟩:=h;obtain⟨t,rfl⟩:=rx;obtain⟨t',rfl⟩:=ry;exact in_str (wY I q rfl)
theorem ND:dq X (compareOp .IsNot) (λx y H Q=>y=.non/\Q (.bl (!decide (x=.non))) H):=by
 intro ah s σ H x y v u Q I rx ry h;obtain⟨rfl,q⟩:=h;cases ry;refine isnot_none_gen (wY I q ?_);cases x<;>first
  |(cases rx;rfl)
  |(obtain⟨t,rfl⟩:=rx;rfl)
theorem dq.or{f:ai->ai->Sem ai}{r r':R2}(h:dq X f r)(h':dq X f r'):dq X f (λx y H Q=>r x y H Q\/r' x y H Q):=by
 intro ah s σ H x y v u Q I rx ry q;rcases q with q|q
 ·exact h ah s σ H x y v u Q I rx ry q
 ·exact h' ah s σ H x y v u Q I rx ry q
theorem c9(b:bw){op:CmpOp}(h:op≠.In:=by decide)(h2:op≠.NotIn:=by decide):behindInMarks op b=false:=by
 have e1:(op==CmpOp.In)=false:=by cases op<;>first|rfl|exact absurd rfl h
 have e2:(op==CmpOp.NotIn)=false:=by cases op<;>first|rfl|exact absurd rfl h2
 cases b<;>simp[behindInMarks,e1,e2]
theorem jE{op:CmpOp}{r:R2}(ho:dq X (compareOp op) r)(ha:PE X a ta)(hb:PE X b tb)(hm:behindInMarks op b=false):PE X (.Compare a [op] [b] pos) (oY r ta tb):=by intro ah s σ H Q I h;exact wpAny_Compare1 (zY ha hb I h λv u s2 x y H2 I2 rx ry q=>ho ah s2 σ H2 x y v u Q I2 rx ry q) hm
def A4(t:TE):TT:=λσ H Q=>t σ H λx H'=>∃k,x=.bl k/\Q k H'
theorem bR{op:CmpOp}{r:R2}(ho:dq X (compareOp op) r)(ha:PE X a ta)(hb:PE X b tb)(hm:behindInMarks op b=false):PT X (.Compare a [op] [b] pos) (A4 (oY r ta tb)):=by
 intro ah s σ H Q I h;refine wpAny_isTrue_Compare1 (bg (ha ah s σ H _ I h) λv s1 ⟨x,H1,I1,r1,q1⟩=>bg (hb ah s1 σ H1 _ I1 q1) λu s2 ⟨y,H2,I2,r2,q2⟩=>
  bg (ho ah s2 σ H2 x y v u _ I2 r1 r2 q2) λc s3 ⟨z,H3,I3,r3,k,e,q3⟩=>?_) hm
 subst e;cases r3;exact lg ⟨H3,I3,q3⟩
def Ch(r r':R2)(ta tb tc:TE):TE:=λσ H Q=>ta σ H λx H1=>tb σ H1 λy H2=>r x y H2 λz H3=>∃k,z=.bl k /\
 (if k=true then tc σ H3 λw' H4=>r' y w' H4 Q else Q (.bl false) H3)
theorem S9{op op':CmpOp}{r r':R2}(ho:dq X (compareOp op) r)(ho':dq X (compareOp op') r')(ha:PE X a ta)(hb:PE X b tb)(hc:PE X c tc)
 (hm:lastMarks [op,op'] [b,c]=false:=by with_unfolding_all rfl):PE X (.Compare a [op,op'] [b,c] pos) (Ch r r' ta tb tc):=by
 intro ah s σ H Q I h;refine Compare_chain (bg (ha ah s σ H _ I h) λv s1 ⟨x,H1,I1,r1,q1⟩=>chain_link (bg (hb ah s1 σ H1 _ I1 q1) λu s2 ⟨y,H2,I2,r2,q2⟩=>
  bg (ho ah s2 σ H2 x y v u _ I2 r1 r2 q2) λd s3 ⟨z,H3,I3,r3,k,e,q3⟩=>?_)) hm
 subst e;cases r3;refine lg ?_;cases k with
 |false=>exact ite_ff ⟨.bl false,H3,I3,rfl,q3⟩
 |true=>exact ite_tt (chain_last (bg (hc ah s3 σ H3 _ I3 q3) λw' s4 ⟨z',H4,I4,r4,q4⟩=>ho' ah s4 σ H4 y z' u w' Q I4 r2 r4 q4))
theorem NY{op op':CmpOp}{r r':R2}(ho:dq X (compareOp op) r)(ho':dq X (compareOp op') r')(ha:PE X a ta)(hb:PE X b tb)(hc:PE X c tc)
 (hm:lastMarks [op,op'] [b,c]=false:=by with_unfolding_all rfl):PT X (.Compare a [op,op'] [b,c] pos) (A4 (Ch r r' ta tb tc)):=by
 intro ah s σ H Q I h;refine isTrue_chain (bg (ha ah s σ H _ I h) λv s1 ⟨x,H1,I1,r1,q1⟩=>test_link (bg (hb ah s1 σ H1 _ I1 q1) λu s2 ⟨y,H2,I2,r2,q2⟩=>
  bg (ho ah s2 σ H2 x y v u _ I2 r1 r2 q2) λd s3 ⟨z,H3,I3,r3,k,e,q3⟩=>?_)) hm
 subst e;cases r3;refine lg ?_;cases k with
 |false=>
  obtain⟨k',e',q'⟩:=q3;cases e';exact ite_ff ⟨H3,I3,q'⟩
 |true=>
  refine ite_tt (test_last (bg (hc ah s3 σ H3 _ I3 q3) λw' s4 ⟨z',H4,I4,r4,q4⟩=>bg (ho' ah s4 σ H4 y z' u w' _ I4 r2 r4 q4) λd' s5 ⟨z2,H5,I5,r5,k2,e2,q5⟩=>?_));subst e2;cases r5;exact lg ⟨H5,I5,q5⟩
def z5(K:bb)(x:V)(H:Hp)(k:Bool):Prop:=
 match x with
 |.non=>k=false
 |.bl b=>k=b
 |.int i=>k=(i != 0)
 |.str y=>y.length<=sizeLine/\k=((y.length:Int) != 0)
 |.byt y=>y.size<=sizeLine/\k=((y.size:Int) != 0)
 |.ref p=>(∃xs,fK K H p xs/\k = !xs.isEmpty)\/(∃xs,fQ K H p xs/\k = !xs.isEmpty)\/∃az,H p=ac (.dK az)/\k = !az.isEmpty
 |_=>False
theorem S3{κ:Type}{az:List (κ×V)}{vs:List (κ×ai)}(r:KV az vs):(!vs.isEmpty) = !az.isEmpty:=by cases r<;>rfl
theorem J5{xs:List V}{au:List ai}(r:Vals xs au):(!au.toArray.isEmpty) = !xs.isEmpty:=by cases r<;>simp
theorem tM:(sizeLine:Nat)<2 ^ 63:=by rw[eK];decide
theorem NC:QB X (λx H Q=>∃k,z5 X.K x H k/\Q k H):=by
 intro ah s σ H x v Q I rx h;obtain⟨k,e,q⟩:=h;have hl:=tM;have hs:sizeLine=16777216:=eK;cases x with
 |non=>
  cases rx;have e':k=false:=e;subst e';exact truthy_none ⟨H,I,q⟩
 |bl b=>
  cases rx;have e':k=b:=e;subst e';exact lg ⟨H,I,q⟩
 |int i=>
  obtain⟨t,rfl⟩:=rx;have e':k=(i != 0):=e;subst e';exact PySem.P.truthy_int ⟨H,I,q⟩
 |str y=>
  obtain⟨t,rfl⟩:=rx;obtain⟨hy,e'⟩ : y.length<=sizeLine/\k=((y.length:Int) != 0):=e;subst e';exact PySem.P.truthy_str (by omega) ⟨H,I.tok _,q⟩
 |byt y=>
  obtain⟨t,rfl⟩:=rx;obtain⟨hy,e'⟩ : y.size<=sizeLine/\k=((y.size:Int) != 0):=e;subst e';exact PySem.W.truthy_bytes (by omega) ⟨H,I.tok _,q⟩
 |ref p=>
  cases rx;have e':(∃xs,fK X.K H p xs/\k = !xs.isEmpty)\/(∃xs,fQ X.K H p xs/\k = !xs.isEmpty)\/∃az,H p=ac (.dK az)/\k = !az.isEmpty:=e;rcases e' with ⟨xs,hx,e'⟩|⟨xs,hx,e'⟩|⟨az,hx,e'⟩
  ·subst e';obtain⟨au,r,pl,hz⟩:=I.list hx;have hlen:=r.length;exact wpAny_truthy_list pl.isList (by simp only[c7];omega) ⟨H,I.tok _,by rw[J5 r];exact q⟩
  ·subst e';obtain⟨au,r,pl,hz⟩:=I.tuple hx;have hlen:=r.length;exact truthy_tuple pl (by simp only[c7];omega) ⟨H,I.tok _,by rw[J5 r];exact q⟩
  ·subst e';obtain⟨hz,hS,vs,r,m⟩ : az.length<=sizeLine/\(p==sysModules)=false/\∃vs,KV az vs/\s.heap.DictOf (i6 X.prog X.w) p vs:=I.hok p _ hx;have hlen:az.length=vs.length:=zk r;exact wpAny_truthy_dict hS m (by omega) ⟨H,I.tok _,by rw[S3 r];exact q⟩
 |_=>exact(show False from e).elim
theorem wI(ha:PE X a ta)(he:∀whole,isTrue a X.env whole=(do let v <- whole;standAt a.pos;holding [v] (truthy v))) :
 PT X a (λσ H Q=>ta σ H λx H'=>∃k,z5 X.K x H' k/\Q k H'):=by
 intro ah s σ H Q I h;exact isTrue_plain (bg (ha ah s σ H _ I h) λv s1 ⟨x,H1,I1,r1,q1⟩=>NC ah s1 σ H1 x v Q I1 r1 q1) (he _)
theorem US:dq X (binaryOp .Add) (λx y H Q=>∃i j,x=.str i/\y=.str j/\i.length+j.length<=sizeLine/\Q (.str (i++j)) H):=by intro ah s σ H x y v u Q I rx ry h;obtain⟨i,j,rfl,rfl,hz,q⟩:=h;obtain⟨t,rfl⟩:=rx;obtain⟨t',rfl⟩:=ry;exact add_str (λt' tk=>⟨.str (i++j),H,I.tok _,⟨_,rfl⟩,q⟩) hz
theorem vals1{x:V}{us:List ai}(r:Vals [x] us):∃u,us=[u]/\RelV x u:=by
 cases r with
 |cons r1 r2=>cases r2;exact⟨_,rfl,r1⟩
theorem vals2{x y:V}{us:List ai}(r:Vals [x,y] us):∃u w',us=[u,w']/\RelV x u/\RelV y w':=by
 cases r with
 |cons r1 r2=>
  cases r2 with
  |cons r3 r4=>cases r4;exact⟨_,_,rfl,r1,r3⟩
theorem OI(hc:X.calm=true):gu X (.builtin "max") (λxs H Q=>∃i j,xs=[.int i,.int j]/\Q (.int (if j>i then j else i)) H):=by
 intro ah s σ H xs us Q I r h;obtain⟨i,j,rfl,q⟩:=h;obtain⟨u,w',rfl,⟨t,rfl⟩,⟨t',rfl⟩⟩:=vals2 r;refine max_two_ints (I.ok.hd hc) λh' tk k=>⟨_,H,I.kept k,?_,q⟩;by_cases hj:j>i
 ·rw[bc hj,bc hj];exact⟨_,rfl⟩
 ·rw[ba hj,ba hj];exact⟨_,rfl⟩
theorem Sq(hc:X.calm=true):gu X (.builtin "min") (λxs H Q=>∃i j,xs=[.int i,.int j]/\Q (.int (if j<i then j else i)) H):=by
 intro ah s σ H xs us Q I r h;obtain⟨i,j,rfl,q⟩:=h;obtain⟨u,w',rfl,⟨t,rfl⟩,⟨t',rfl⟩⟩:=vals2 r;refine min_two_ints (I.ok.hd hc) λh' tk k=>⟨_,H,I.kept k,?_,q⟩;by_cases hj:j<i
 ·rw[bc hj,bc hj];exact⟨_,rfl⟩
 ·rw[ba hj,ba hj];exact⟨_,rfl⟩
theorem OV:gu X (.type "int") (λxs H Q=>(∃i,xs=[.int i]/\Q (.int i) H)\/∃k,xs=[.bl k]/\Q (.int (if k then 1 else 0)) H):=by
 intro ah s σ H xs us Q I r h;rcases h with ⟨i,rfl,q⟩|⟨k,rfl,q⟩
 ·obtain⟨u,rfl,t,rfl⟩:=vals1 r;exact call_int_int ⟨.int i,H,I,⟨_,rfl⟩,q⟩
 ·obtain⟨u,rfl,r1⟩:=vals1 r;cases r1;exact call_int_bool ⟨.int (if k then 1 else 0),H,I.tok _,⟨_,rfl⟩,q⟩
def ER(K:bb)(x:V)(H:Hp)(n:Nat):Prop:=
 match x with
 |.str y=>y.length<=sizeLine/\n=y.length
 |.byt y=>y.size<=sizeLine/\n=y.size
 |.ref p=>(∃xs,fK K H p xs/\n=xs.length)\/∃xs,fQ K H p xs/\n=xs.length
 |_=>False
theorem NZ:gu X (.builtin "len") (λxs H Q=>∃x n,xs=[x]/\ER X.K x H n/\Q (.int n) H):=by
 intro ah s σ H xs us Q I r h;obtain⟨x,n,rfl,e,q⟩:=h;obtain⟨u,rfl,rx⟩:=vals1 r;have hl:=tM;have hs:sizeLine=16777216:=eK;cases x with
 |str y=>
  obtain⟨t,rfl⟩:=rx;obtain⟨hy,e'⟩ : y.length<=sizeLine/\n=y.length:=e;subst e';exact len_str (by omega) ⟨.int _,H,I.tok _,⟨_,rfl⟩,q⟩
 |byt y=>
  obtain⟨t,rfl⟩:=rx;obtain⟨hy,e'⟩ : y.size<=sizeLine/\n=y.size:=e;subst e';exact PySem.W.len_bytes (by omega) ⟨.int _,H,I.tok _,⟨_,rfl⟩,q⟩
 |ref p=>
  cases rx;have e':(∃xs,fK X.K H p xs/\n=xs.length)\/∃xs,fQ X.K H p xs/\n=xs.length:=e;rcases e' with ⟨xs,hx,e'⟩|⟨xs,hx,e'⟩
  ·subst e';obtain⟨au,r',pl,hz⟩:=I.list hx;have hlen:=r'.length;exact Calls.call_len_list pl.isList (by simp only[c7];omega) ⟨.int xs.length,H,I.tok _,⟨_,by simp only[c7];rw[hlen]⟩,q⟩
  ·subst e';obtain⟨au,r',pl,hz⟩:=I.tuple hx;have hlen:=r'.length;exact len_tuple pl (by simp only[c7];omega) ⟨.int xs.length,H,I.tok _,⟨_,by simp only[c7];rw[hlen]⟩,q⟩
 |_=>exact(show False from e).elim
end
structure Aq(h:bq)(x dx C:ak)(mA:Str->Option ai):Prop where
 obj:h.get? x=ac (CW C dx)
 ns:h.Ns1 dx mA
 ne:dx≠x
theorem Rz{h:bq}{dx:ak}{mA:Str->Option ai}(n:h.Ns1 dx mA):∃od,h.get? dx=ac od/\∀name,CZ name od=ac (mA name):=by
 obtain⟨o,es,ep,ho,hd,hk,_,hm⟩:=n;refine⟨o,ho,λname=>?_⟩;have e:=hm name;unfold nsFind findBy at e;rw[<- Array.find?_toList]at e;unfold CZ;rw[hd];dsimp only;split
 ·rename_i y q;rw[q]at e;exact congrArg ac e
 ·rename_i q;rw[q]at e;have a:es.toList.any (·.refKey)=false:=by
   rw[yG];intro y hy;obtain⟨z,t,hkey⟩:=hk y (Array.mem_toList_iff.mp hy);simp[DictEntry.refKey,hkey]
  have a':¬ es.toList.any (·.refKey)=true:=by rw[a];exact dR
  rw[ba a'];exact congrArg ac e
theorem Aq.look{h:bq}{x dx C:ak}{mA:Str->Option ai}(I:Aq h x dx C mA):∃od,PySem.W.InstAt h x (CW C dx) C (ac od)/\∀name,CZ name od=ac (mA name):=
 let ⟨od,ho,hl⟩:=Rz I.ns
 ⟨od,⟨I.obj,rfl,rfl,ho⟩,hl⟩
theorem lW.some_of{v:V}{o:Option ai}(r:lW (ac v) o):∃u,o=ac u/\RelV v u:=by
 cases o with
 |none=>exact(show False from r).elim
 |some u=>exact⟨u,rfl,r⟩
section
variable{P:cp}{w:bI}{H H':Hp}{h h':bq}{a C dx:ak}{fs fs':List (Str×V)}
theorem OY(hok:eC P w H h)(e:H a=ac (.ins C dx fs)):∃mA,Aq h a dx C mA/\(∀f,lW (fs.lookup f) (mA f))/\PySem.Within mA (fs.map (·.1))/\fs.length<=1000/\H dx=ac (.own a):=by obtain⟨d,z,ne,ob,mA,n,r,q⟩:=(show eP P w H h a (.ins C dx fs)from hok a _ e);exact⟨mA,⟨ob,n,ne⟩,r,q,z,d⟩
end
structure Ck(K:bb)(C:ak):Prop where
 pg:LC K C dc=true
 hd:PySem.W.hasDictIn K C=true
 po:PySem.W.plainOver K C=true
 sa:LD K (.ref C) "__setattr__" = ac (ac (.builtin "object.__setattr__"))
theorem Ck.get{K:bb}{C:ak}(c:Ck K C)(f:Str):LC K C f=true:=c.pg
section
variable{X:Cx}{ah:List (ak×Obj)}{σ:St}{H:Hp}{s:aB}{A:cR}{E:ai->aB->Prop}{Q:ai->aB->Prop}{c:ai}{b:Bool}
inductive jT(K:bb)(H:Hp):V->ai->Prop where
 |non:jT K H .non (.type "NoneType")
 |bl (x:Bool):jT K H (.bl x) (.type "bool")
 |int (i:Int):jT K H (.int i) (.type "int")
 |str (x:Str):jT K H (.str x) (.type "str")
 |flt (x:UInt64):jT K H (.flt x) (.type "float")
 |lst {a:ak} {xs:List V} (e:H a=ac (.lst xs)):jT K H (.ref a) (.type "list")
 |frz {a:ak} {o:Obj} {xs:List V} (e:H a=ac (.frz o (.lst xs))):jT K H (.ref a) (.type "list")
 |tup {a:ak} {xs:List V} (e:H a=ac (.tup xs)):jT K H (.ref a) (.type "tuple")
 |dK {a:ak} {az:List (Key×V)} (e:H a=ac (.dK az)):jT K H (.ref a) (.type "dict")
 |dT {a:ak} {az:List (List Key×V)} (e:H a=ac (.dT az)):jT K H (.ref a) (.type "dict")
 | ins {a C dx:ak} {fs:List (Str×V)} (e:H a=ac (.ins C dx fs)) (cl:Ck K C) (ha:LD K (.ref C) "__class__" = ac (ac (.builtin "object.__class__")))
  (hn:PySem.W.specialIn K (.builtin "object.__class__") "__get__" = ac (ac (.builtin "getset_descriptor.__get__"))) (htk:PySem.W.takesIn K (.builtin "object.__class__")=ac true)
  (hm:PySem.W.mroIn K C (.type "object")=ac true):jT K H (.ref a) (.ref C)
theorem TJ{x:V}{u t:ai}(I:Inv X ah σ H s)(rx:RelV x u)(ty:jT X.K H x t)(e:C0 X.K t c=ac b)(h:∀tk,Q (.bool b) { s with toks:=tk }) :
 wpAny (model X.prog X.w) A (call (.builtin "isinstance") [u,c]) Q E s:=by
 cases ty with
 |non=>cases(show u=jg from rx);exact l7 PySem.W.kitx_none I.iI md e (λz=>nomatch z) h
 |bl y=>cases(show u=oB y from rx);exact l7 PySem.W.kitx_bool I.iI md e (λz=>nomatch z) h
 |int i=>obtain⟨t,q⟩:=(show∃t,u=zc i t from rx);cases q;exact l7 PySem.W.kitx_int I.iI md e (λz=>nomatch z) h
 |str y=>obtain⟨t,q⟩:=(show∃t,u=lj y t from rx);cases q;exact l7 PySem.W.kitx_str I.iI md e (λz=>nomatch z) h
 |flt y=>obtain⟨t,q⟩:=(show∃t,u=Value.float y t from rx);cases q;exact l7 PySem.W.kitx_float I.iI md e (λz=>nomatch z) h
 | @lst a xs ea=>
  cases(show u=ge a from rx);obtain⟨_,_,n,_,h1⟩:=(show eP X.prog X.w H s.heap a (.lst xs)from I.hok a _ ea);exact l7 LA I.iI ⟨_,h1,rfl⟩ e (λz=>nomatch z) h
 | @frz a ob xs ea=>
  cases(show u=ge a from rx);obtain⟨_,_,_,n,_,h1⟩:=(show eP X.prog X.w H s.heap a (.frz ob (.lst xs))from I.hok a _ ea);exact l7 LA I.iI ⟨_,h1,rfl⟩ e (λz=>nomatch z) h
 | @tup a xs ea=>
  cases(show u=ge a from rx);obtain⟨_,_,_,p⟩:=(show eP X.prog X.w H s.heap a (.tup xs)from I.hok a _ ea);obtain⟨o,h1,h2,_⟩:=p;exact l7 PySem.W.kitx_tuple I.iI ⟨o,h1,h2⟩ e (λz=>nomatch z) h
 | @dK a az ea=>
  cases(show u=ge a from rx);obtain⟨_,_,vs,_,p⟩:=(show eP X.prog X.w H s.heap a (.dK az)from I.hok a _ ea);obtain⟨o,es,ep,h1,h2,_⟩:=p;exact l7 LB I.iI ⟨o,h1,h2.1⟩ e (λz=>nomatch z) h
 | @dT a az ea=>
  cases(show u=ge a from rx);obtain⟨_,_,xs,_,o,es,ep,h1,h2,_⟩:=(show eP X.prog X.w H s.heap a (.dT az)from I.hok a _ ea);exact l7 LB I.iI ⟨o,h1,h2.1⟩ e (λz=>nomatch z) h
 | @ins a C dx fs ea cl ha hn htk hm=>
  cases(show u=ge a from rx);obtain⟨mA,O,_⟩:=OY I.hok ea;obtain⟨od,J,_⟩:=O.look;exact l7 (PySem.W.kitx_own (cl.get _) cl.hd ha hn htk hm) I.iI J e (λz=>nomatch z) h
end
structure e5(k:Nat)(A:cR):Prop where
 hd:A.handled=af
 dp:A.depth+3*k+5<recursionLimit
 un:A.units+16*k+200<cLine
theorem e5.mono{j k:Nat}{A:cR}(r:e5 k A)(h:j<=k):e5 j A:=⟨r.hd,by have:=r.dp;omega,by have:=r.un;omega⟩
theorem e5.deeper{k:Nat}{A:cR}(r:e5 (k+1) A)(env:Env):e5 k (A.deeper env):=⟨r.hd,by have:=r.dp;show A.depth+1+3*k+5<_;omega,by have:=r.un;show A.units+3+16*k+200<_;omega⟩
theorem e5.in1{k:Nat}{A:cR}(r:e5 (k+1) A):e5 k A.in1:=⟨r.hd,by have:=r.dp;show A.depth+3*k+5<_;omega,by have:=r.un;show A.units+1+16*k+200<_;omega⟩
theorem e5.depth{k:Nat}{A:cR}(r:e5 k A):A.depth<recursionLimit:=by have:=r.dp;omega
theorem e5.units{k:Nat}{A:cR}(r:e5 k A):A.units+64<cLine:=by have:=r.un;omega
def iF:TA:=λ_ H Q=>Q [] H
def hV(ta:TE)(tr:TA):TA:=λσ H Q=>ta σ H λx H1=>tr σ H1 λxs H2=>Q (x::xs) H2
section
variable{X:Cx}{e:bw}{es:List bw}{te:TE}{t:TA}{pos:Pos}
theorem be:PA X [] iF:=λ_ _ _ _ H Q I h=>Mc ⟨[],H,I,.nil,h⟩
theorem aA(ha:PE X e te)(hr:PA X es t)(hs:starEach (e::es) X.env=(false,eval e X.env)::starEach es X.env:=by rfl):PA X (e::es) (hV te t):=by intro pos ah s σ H Q I h;rw[hs];show wpAny _ _ (spliced ((false,eval e X.env)::backTo pos (starEach es X.env))) _ _ s;refine Mb (bg (ha ah s σ H _ I h) λu s1 ⟨x,H1,I1,r1,q1⟩=>?_);exact bg (hr pos ah s1 σ H1 _ I1 q1) λus s2 ⟨xs,H2,I2,r2,q2⟩=>⟨x::xs,H2,I2,.cons r1 r2,q2⟩
def FQ(t:TA):TE:=λσ H Q=>t σ H λxs H1=>xs.length<=sizeLine/\∀p,H1 p=af->Q (.ref p) (upd H1 p (.tup xs))
def B9(t:TA):TE:=λσ H Q=>t σ H λxs H1=>xs.length<=sizeLine/\∀p,H1 p=af->Q (.ref p) (upd H1 p (.lst xs))
theorem dJ{x1}(h:PA X es t):PE X (.Tuple es x1 pos) (FQ t):=by intro ah s σ H Q I hq;refine wpAny_Tuple_spliced (bg (h pos ah s σ H _ I hq) λus s1 ⟨xs,H1,I1,r,z,q⟩=>⟨by rw[<- r.length];exact z,?_⟩);have hf:H1 s1.heap.objs.size=af:=I1.hok.fresh (bJ _);refine⟨.ref s1.heap.objs.size,upd H1 s1.heap.objs.size (.tup xs),I1.laid (t':=s1.toks) (λb u e=>cU _ e) (bJ _) ?_,rfl,q _ hf⟩;exact⟨z,us,r,⟨_,fc _ rfl,rfl,rfl,_,rfl⟩⟩
theorem d9(h:PA X es t):PE X (.List es pos) (B9 t):=by intro ah s σ H Q I hq;refine wpAny_List_spliced (bg (h pos ah s σ H _ I hq) λus s1 ⟨xs,H1,I1,r,z,q⟩=>⟨by rw[<- r.length];exact z,?_⟩);have hf:H1 s1.heap.objs.size=af:=I1.hok.fresh (bJ _);refine⟨.ref s1.heap.objs.size,upd H1 s1.heap.objs.size (.lst xs),I1.laid (t':=s1.toks) (λb u e=>cU _ e) (bJ _) ?_,rfl,q _ hf⟩;exact⟨z,us,0,r,fc _ rfl⟩
end
abbrev Sp:=List V->Hp->VK->XK->Prop
abbrev jt:=List Env->Hp->aB->XK->ai->aB->Prop
structure wy(P:cp)(w:bI)(K:bb)(mg:Str->Option ai)(base:bq)(A:cR)(outer:List Env)(s:aB)(H:Hp):Prop where
 frames:A.frames=ac outer
 mod:Mod K mg base
 bs:∀b o,base.get? b=ac o->s.heap.get? b=ac o/\H b=af
 bsz:base.objs.size<=s.heap.objs.size
 lY:s.heap.FunFrames base outer
 frf:∀b∈frs outer,H b=af
 hok:eC P w H s.heap
 bare:qa s.gens
def CE(outer:List Env)(P:cp)(w:bI)(H:Hp)(s:aB)(Q:VK)(u:ai)(s':aB):Prop:=∃v H',s'.os=s.os/\qa s'.gens/\Un (frs outer) [] H H' s.heap s'.heap/\eC P w H' s'.heap/\RelV v u/\Q v H'
def CR(CX:jt)(outer:List Env)(P:cp)(w:bI)(H:Hp)(s:aB)(Q:VK)(E:XK)(r:Result)(s':aB):Prop:=
 match r with
 |.ok (.ret u)=>CE outer P w H s Q u s'
 |.ok _=>False
 |.error e=>CX outer H s E e s'
structure bN(P:cp)(w:bI)(K:bb)(mg:Str->Option ai)(base:bq)(CX:jt)(k:Nat)(f:ak)(fd:bU)(ps:List Str)(sp:Sp):Prop where
 len:∀vs H Q E,sp vs H Q E->vs.length=ps.length
 run:∀(A:cR) (outer:List Env) (s:aB) (H:Hp) (args:Args) (us:List ai) (vs:List V) (Q:VK) (E:XK),e5 k A->wy P w K mg base A outer s H->pY s fd args (ps.zip us)->Vals vs us->sp vs H Q E ->
  codeAny (model P w) A (.call (.ref f) args) (CR CX outer P w H s Q E) s
theorem bN.imp{P:cp}{w:bI}{K:bb}{mg:Str->Option ai}{base:bq}{CX:jt}{k:Nat}{f:ak}{fd:bU}{ps:List Str}{sp sp':Sp}(F:bN P w K mg base CX k f fd ps sp)
 (h:∀vs H Q E,sp' vs H Q E->sp vs H Q E):bN P w K mg base CX k f fd ps sp':=
 ⟨λvs H Q E q=>F.len vs H Q E (h _ _ _ _ q),λA outer s H args us vs Q E hr he hb hv hs=>F.run A outer s H args us vs Q E hr he hb hv (h _ _ _ _ hs)⟩
section
variable{X:Cx}{ah:List (ak×Obj)}{σ:St}{H:Hp}{s s':aB}
theorem Inv.env0(I:Inv X ah σ H s):wy X.prog X.w X.K X.mg X.base X.A X.stack s H:=⟨I.ok.frames,I.ok.mod,I.bs,c8 I.ok.bsz I.sz,I.stack,I.AX,I.hok,I.bare⟩
theorem Inv.after{Q:VK}{u:ai}(I:Inv X ah σ H s)(h:CE X.stack X.prog X.w H s Q u s'):EP X ah σ Q u s':=by obtain⟨v,H',os,bare,un,hok,r,q⟩:=h;obtain⟨hh,g,d,t,os'⟩:=s';obtain rfl:os'=s.os:=os;exact⟨v,H',I.call (h':=hh) (g':=g) (d':=d) (t':=t) (ch:=[]) un hok bare (λb z=>absurd z (by simp)),r,q⟩
end
def oI(sp:Sp)(dvs:List V)(E:XK)(t:TA):TE:=λσ H Q=>t σ H λvs H1=>sp (vs++dvs) H1 Q E
def Binds(K:bb)(fd:bU)(ps:List Str)(ds:List ai):Prop:=∀(s:aB) (us:List ai),K.In s.heap->(us++ds).length=ps.length->pY s fd ⟨us,[]⟩ (ps.zip (us++ds))
theorem Binds.all{K:bb}{fd:bU}{ps:List Str}(h:∀us:List ai,us.length=ps.length->bindArgs fd ⟨us,[]⟩=pure (ps.zip us)):Binds K fd ps []:=λs us _ hl=>by
 rw[ko]at hl ⊢;exact .of_eq (h us hl)
def xO(CX:jt)(X:Cx)(E:XK):Prop:=∀(ah:List (ak×Obj)) (σ:St) (H:Hp) (s:aB) (e:ai) (s':aB),Inv X ah σ H s->CX X.stack H s E e s'->X.xe e s'
section
variable{X:Cx}{CX:jt}{k:Nat}{f C:ak}{fd:bU}{ps:List Str}{sp:Sp}{dvs:List V}{ds:List ai}{E:XK}{x m:Str}{p pos apos:Pos}{e o:bw}{es:List bw}{ta:TE}{t:TA}
theorem OZ{ah:List (ak×Obj)}{σ:St}{H:Hp}{s:aB}{Q:VK}{us:List ai}{vs:List V}(F:bN X.prog X.w X.K X.mg X.base CX k f fd ps sp)(hr:e5 k X.A)(hb:Binds X.K fd ps ds)(hd:Vals dvs ds)(hx:xO CX X E)
 (I:Inv X ah σ H s) (r:Vals vs us) (h:sp (vs++dvs) H Q E):wpAny (model X.prog X.w) X.A (call (.ref f) us) (EP X ah σ Q) X.xe s:=by
 have r2:Vals (vs++dvs) (us++ds):=r.append hd;have hl:(us++ds).length=ps.length:=by rw[<- r2.length];exact F.len _ _ _ _ h
 refine vX (rA (F.run X.A X.stack s H ⟨us,[]⟩ (us++ds) (vs++dvs) Q E hr I.env0 (hb s us I.iI hl) r2 h) λr s' hq=>?_);cases r with
 |error e=>exact hx ah σ H s e s' I hq
 |ok fl=>
  cases fl with
  |ret u=>exact I.after hq
  |next=>exact nC hq
  |brk=>exact nC hq
  |cont=>exact nC hq
theorem NL(F:bN X.prog X.w X.K X.mg X.base CX k f fd ps sp)(hr:e5 k X.A)(hg:Gl X x)(hm:X.mg x=ac (.ref f))(hk:pU X.K (.ref f)=true)(hb:Binds X.K fd ps ds)(hd:Vals dvs ds)(hx:xO CX X E)
 (ha:PA X (e::es) t) (hdb:(x==("__debug__" : Str))=false:=by decide) (he:starEach (e::es) X.env=(false,eval e X.env)::starEach es X.env:=by rfl) (hpl:(backTo pos (starEach es X.env)).any (·.1)=false:=by rfl) :
 PE X (.Call (.Name x p) (e::es) [] pos) (oI sp dvs E t):=by
 intro ah s σ H Q I h;refine yN (IH I hg hm ?_ hdb);refine PySem.W.callWith_K (h₀:=X.base) I.ok.mod.kin hk (bg (ha pos ah s σ H _ I h) λus s1 ⟨vs,H1,I1,r,q⟩=>⟨I1.iI,?_⟩) he hpl;exact OZ F hr hb hd hx I1 r q
end
structure cD(N P:List Str)(sc:gc):Prop where
 kind:sc.kind=.function
 co:sc.isCoroutine=false
 gen:sc.isGenerator=false
 nd:N.Nodup
 pre:N.take P.length=P
 par:∀x∈P,sc.names.lookup x=ac .local\/sc.names.lookup x=ac .cell
 V0:∀y∈sc.names,y.2≠.free
theorem JJ{kindOf:Str->Option pW}{x:Str}:∀{binds:List (Str×ai)} {m:Str->Option ai},(∀v,(x,v)∉binds)->bindL kindOf binds m x=m x
 |[],_,_=>rfl
 |(n,v)::r,m,h=>by
  unfold bindL;rw[JJ λw hw=>h w (er _ hw)];split
  ·have:x≠n:=by rintro rfl;exact h v c6
   simp[this]
  ·rfl
theorem HR{kindOf:Str->Option pW}{x:Str}:∀{binds:List (Str×ai)} {m:Str->Option ai},(∀v,(x,v)∉binds)->bindC kindOf binds m x=m x
 |[],_,_=>rfl
 |(n,v)::r,m,h=>by
  unfold bindC;rw[HR λw hw=>h w (er _ hw)];split
  ·rfl
  ·have:x≠n:=by rintro rfl;exact h v c6
   simp[this]
theorem Jo{kindOf:Str->Option pW}{x:Str}{v:ai}:∀{P:List Str} {vs:List ai} {i:Nat} {m:Str->Option ai},P.Nodup->P[i]? = ac x->vs[i]? = ac v->kindOf x=ac .local ->
 bindL kindOf (P.zip vs) m x=ac v
 |[],_,_,_,_,h,_,_=>by simp at h
 |_::_,[],_,_,_,_,h,_=>by simp at h
 |p::P,w::vs,0,m,nd,h1,h2,hk=>by
  simp at h1 h2;subst h1;subst h2;show bindL kindOf ((p,w)::P.zip vs) m p=_;unfold bindL;rw[JJ λv hv=>(iO.mp nd).1 (CP hv).1,bc hk];simp
 |p::P,w::vs,i+1,m,nd,h1,h2,hk=>by
  show bindL kindOf ((p,w)::P.zip vs) m x=_;unfold bindL;exact Jo (i:=i) (iO.mp nd).2 (by simpa using h1) (by simpa using h2) hk
theorem E2{kindOf:Str->Option pW}{x:Str}{v:ai}:∀{P:List Str} {vs:List ai} {i:Nat} {m:Str->Option ai},P.Nodup->P[i]? = ac x->vs[i]? = ac v->kindOf x≠ac .local ->
 bindC kindOf (P.zip vs) m x=ac v
 |[],_,_,_,_,h,_,_=>by simp at h
 |_::_,[],_,_,_,_,h,_=>by simp at h
 |p::P,w::vs,0,m,nd,h1,h2,hk=>by
  simp at h1 h2;subst h1;subst h2;show bindC kindOf ((p,w)::P.zip vs) m p=_;unfold bindC;rw[HR λv hv=>(iO.mp nd).1 (CP hv).1,ba hk];simp
 |p::P,w::vs,i+1,m,nd,h1,h2,hk=>by
  show bindC kindOf ((p,w)::P.zip vs) m x=_;unfold bindC;exact E2 (i:=i) (iO.mp nd).2 (by simpa using h1) (by simpa using h2) hk
def start(N:List Str)(vs:List V):St:=vs.map ac++bZ (N.length-vs.length) af
def nK(CX:jt)(P:cp)(w:bI)(K:bb)(mg:Str->Option ai)(base:bq)(N:List Str)(qual:Str)(scope:gc)(f:ak)(cd:ai)(A:cR)(outer:List Env)(s:aB)(H:Hp)(E:XK):Cx where
 prog:=P
 w:=w
 K:=K
 mg:=mg
 base:=base
 A:=A.deeper (envOfC qual scope s.heap.objs.size f cd)
 N:=N
 s₀:=s
 H₀:=H
 env:=envOfC qual scope s.heap.objs.size f cd
 outer:=outer
 stack:=envOfC qual scope s.heap.objs.size f cd::outer
 ex:=[]
 calm:=true
 fn:=λ_=>true
 pn:=[]
 xe:=λe s'=>wpAny (model P w) (A.deeper (envOfC qual scope s.heap.objs.size f cd)) (leaving (envOfC qual scope s.heap.objs.size f cd) e) (λ_ s''=>CX outer H s E e s'') (λe' s''=>CX outer H s E e' s'') s'
theorem FT{sc:gc}{n:Nat}{x:Str}(h:sc.names.lookup x=ac .cell):∃c,(cellsFrom n sc.names []).lookup x=ac c:=by have q:=Lz sc.names n [] (.inl h);exact Option.isSome_iff_exists.mp q
theorem O1{CX:jt}{P:cp}{w:bI}{K:bb}{mg:Str->Option ai}{base:bq}{N ps:List Str}{qual:Str}{scope:gc}{f:ak}{cd:ai}{A:cR}{outer:List Env}{s s1:aB}{H:Hp}{E:XK}{us:List ai}{vs:List V}
 (S:cD N ps scope) (hd:A.handled=af) (e0:wy P w K mg base A outer s H) (hl:vs.length=ps.length) (r:Vals vs us)
 (x:InCallC s s.heap.objs.size (bindL (envOfC qual scope s.heap.objs.size f cd).kindOf (ps.zip us) λ_=>af) (cellsFrom (s.heap.objs.size+1) scope.names []) (bindC (envOfC qual scope s.heap.objs.size f cd).kindOf (ps.zip us) λ_=>af) s1) :
 Inv (nK CX P w K mg base N qual scope f cd A outer s H E) [] (start N vs) H s1:=by
 have hpl:ps.length<=N.length:=by have:=congrArg CT S.pre;rw[gY]at this;omega
 obtain⟨h1,tk,rfl,hk⟩:=x.done;have noA:∀b:ak,b∉(nK CX P w K mg base N qual scope f cd A outer s H E).ex:=λb z=>absurd (show b∈([]:List ak)from z) (by simp);refine⟨⟨e0.mod,S.kind,rfl,rfl,bJ _,λy z c h1 h2=>?_,λy hy=>?_,λy c _ h=>?_,λ_=>hd,Md e0.frames,.inr ⟨rfl,rfl⟩,λb z=>absurd z (noA b),e0.bs,e0.bsz,λb _ _=>noA b,λb z=>absurd z (noA b),e0.lY,e0.frf⟩,
  rfl,e0.bare,Un.kept hk,⟨_,x.toInCall.ns,λi y v h1 h2 h3=>?_⟩,λy c h=>⟨_,x.cell y c h⟩,e0.hok.fresh (bJ _),λy c h=>?_,λp hp=>absurd (show p∈([]:List (ak×Obj))from hp) (by simp),e0.hok.kept hk,?_⟩
 ·exact name_of_addr x.apart (t0 h1) (t0 h2)
 ·have hy:scope.names.lookup y=ac .cell\/scope.names.lookup y=ac .free:=hy;rcases hy with hy|hy
  ·exact FT hy
  ·exact absurd rfl (S.V0 _ (t0 hy))
 ·exact y7 (x.above y c (t0 h))
 ·have hi:i<vs.length:=by
   unfold start at h2;by_cases hi:i<vs.length
   ·exact hi
   ·rw[Ln (by simpa using hi)]at h2;rw[Lo]at h2;split at h2<;>cases h2
  have ha:vs[i]? = ac v:=by
   unfold start at h2;rw[Cz (by simpa using hi),fm]at h2;cases e:vs[i]? with
   |none=>rw[e]at h2;cases h2
   |some a=>rw[e]at h2;cases h2;rfl
  obtain⟨u,hu,rv⟩:=r.get ha;have hp:ps[i]? = ac y:=by rw[<- S.pre,CB (by omega)];exact h1
  have ndP:ps.Nodup:=by rw[<- S.pre];exact S.nd.sublist (List.take_sublist _ _)
  refine⟨u,rv,?_⟩;rcases S.par y (pP hp)with k|k
  ·exact .inl ⟨k,Jo ndP hp hu k⟩
  ·obtain⟨c,e⟩:=FT (n:=s.heap.objs.size+1) k;refine .inr ⟨.inl k,c,e,?_⟩;have q:=x.cell y c e;rw[E2 ndP hp hu (by show scope.names.lookup y≠_;rw[k];decide)]at q;exact q
 ·exact e0.hok.fresh (y7 (x.above y c (t0 h)))
 ·unfold start;show _=N.length;rw[dC,aU,CJ];omega
theorem F5{CX:jt}{P:cp}{w:bI}{K:bb}{mg:Str->Option ai}{base:bq}{k:Nat}{f:ak}{name qual:Str}{params:vY}{body:List bE}{scope:gc}{dV kV doc pm cdv ct oc:ai}{an od:Option ak}
 {osl:Array (Option ai)} {N ps:List Str} {sp:Sp} (lk:K.lookup f=ac ⟨oc,od,.func (l8 name qual params body scope dV kV doc pm an cdv ct),osl⟩) (hcd:tY K cdv qual=true) (S:cD N ps scope)
 (len:∀vs H Q E,sp vs H Q E->vs.length=ps.length)
 (hbody:∀(A:cR) (outer:List Env) (s:aB) (H:Hp) (vs:List V) (Q:VK) (E:XK),e5 k (A.deeper (envOfC qual scope s.heap.objs.size f cdv))->sp vs H Q E ->
  ∃t,iZ (nK CX P w K mg base N qual scope f cdv A outer s H E) body t/\t { nx:=λ_ H'=>Q .non H',rt:=Q } (start N vs) H) :
 bN P w K mg base CX (k+1) f (l8 name qual params body scope dV kV doc pm an cdv ct) ps sp:=by
 refine⟨len,λA outer s H args us vs Q E hr e0 hb r hsp=>?_⟩;have hl:=len _ _ _ _ hsp;have KX:K.In s.heap:=e0.mod.kin.keeps λb o e=>(e0.bs b o e).1;have lim:s.heap.NoLimit:=e0.mod.nolimit.keeps λb o e=>(e0.bs b o e).1;have hkind:∀y∈ps.zip us,scope.names.lookup y.1=ac .local\/(scope.names.lookup y.1=ac .cell/\((cellsFrom (s.heap.objs.size+1) scope.names []).lookup y.1).isSome=true):=λ⟨n,v⟩ hy=>by
  rcases S.par n (CP hy).1 with q|q
  ·exact .inl q
  ·exact .inr ⟨q,Lz _ _ _ (.inl q)⟩
 refine codeAny_call_function hr.depth (KX _ _ lk) rfl S.co S.gen rfl (PySem.W.codeRec_of KX hcd) (hb _ _ _ _ ?_);refine wpAny_newFunctionEnv_cells S.kind hkind λenv he s1 x=>?_;subst he;refine⟨lim.keeps x.toInCall.keep,codeAny_func ?_⟩;obtain⟨t,ht,hq⟩:=hbody A outer s H vs Q E (hr.deeper _) hsp;have I:Inv (nK CX P w K mg base N qual scope f cdv A outer s H E) [] (start N vs) H s1:=O1 S hr.hd e0 hl r x;refine ku (ht [] s1 (start N vs) H _ I hq) (λfl s' hs=>?_) λe s' hs=>hs;have fin:∀{σ':St} {H':Hp} {v:V} {u:ai},Inv (nK CX P w K mg base N qual scope f cdv A outer s H E) [] σ' H' s'->RelV v u->Q v H'->CE outer P w H s Q u s':=
  λ{σ' H' v u} J rv q=>⟨v,H',J.os,J.bare,J.base,J.hok,rv,q⟩
 cases fl with
 |ret u=>
  obtain⟨v,σ',H',J,rv,q⟩:=hs;exact fin J rv q
 |next=>
  obtain⟨σ',H',J,q⟩:=hs;exact fin (v:=V.non) (u:=jg) J rfl q
 |brk=>
  obtain⟨_,_,_,q⟩:=hs;exact nC q
 |cont=>
  obtain⟨_,_,_,q⟩:=hs;exact nC q
section
variable{X:Cx}{x:Str}{p pos:Pos}{e:bw}{es:List bw}{t:TA}{id T:String}{r:List V->Hp->VK->Prop}
def pH(r:List V->Hp->VK->Prop)(t:TA):TE:=λσ H Q=>t σ H λvs H1=>r vs H1 Q
theorem dD(hc:gu X (.builtin id) r)(hg:Gl X x)(hm:X.mg x=af)(hv:bootBuiltins x=ac (.builtin id))(ha:PA X (e::es) t)(hn:x ≠ "__name__" := by decide)(hdb:(x==("__debug__" : Str))=false:=by decide)
 (he:starEach (e::es) X.env=(false,eval e X.env)::starEach es X.env:=by rfl) (hpl:(backTo pos (starEach es X.env)).any (·.1)=false:=by rfl):PE X (.Call (.Name x p) (e::es) [] pos) (pH r t):=by
 intro ah s σ H Q I h;refine yN (qk I hg hm hv ?_ hn hdb);exact PyProof.Rows.callWith_builtin1 (bg (ha pos ah s σ H _ I h) λus s1 ⟨vs,H1,I1,r1,q1⟩=>hc ah s1 σ H1 vs us Q I1 r1 q1) he hpl
theorem fg(hc:gu X (.type T) r)(hg:Gl X x)(hm:X.mg x=af)(hv:bootBuiltins x=ac (.type T))(ha:PA X (e::es) t)(hn:x ≠ "__name__" := by decide)(hdb:(x==("__debug__" : Str))=false:=by decide)
 (he:starEach (e::es) X.env=(false,eval e X.env)::starEach es X.env:=by rfl) (hpl:(backTo pos (starEach es X.env)).any (·.1)=false:=by rfl):PE X (.Call (.Name x p) (e::es) [] pos) (pH r t):=by
 intro ah s σ H Q I h;refine yN (qk I hg hm hv ?_ hn hdb);exact ze (bg (ha pos ah s σ H _ I h) λus s1 ⟨vs,H1,I1,r1,q1⟩=>hc ah s1 σ H1 vs us Q I1 r1 q1) he hpl
end
end L2
namespace HT
open PySem PyProof.Rows
section
variable{prog:cp}{w:bI}{A:cR}{E:ai->aB->Prop}{s:aB}
def eV(n d:Nat):Option Int->Nat
 |none=>d
 |some v=>if v<0 then(v+(n:Int)).toNat else min v.toNat n
theorem IQ(n d:Nat)(hd:d<=n)(o:Option Int):eV n d o<=n:=by
 cases o with
 |none=>exact hd
 |some v=>
  show(if v<0 then(v+(n:Int)).toNat else min v.toNat n)<=n;by_cases hv:v<0
  ·rw[bc hv];omega
  ·rw[ba hv];exact Nat.min_le_right _ _
end
end HT
namespace L2
open PySem PySem.Spec PyProof.Rows
abbrev TO:=St->Hp->(Option Int->Hp->Prop)->Prop
def PO(X:Cx)(e:Option bw)(t:TO):Prop:=
 ∀(ah:List (ak×Obj)) (s:aB) (σ:St) (H:Hp) (Q:Option Int->Hp->Prop),Inv X ah σ H s->t σ H Q ->
  wpAny (model X.prog X.w) X.A (evalPart e X.env) (λu s'=>∃o H',Inv X ah σ H' s'/\IsPart u o/\Q o H') X.xe s
def K2:TO:=λ_ H Q=>Q af H
def Kw(t:TE):TO:=λσ H Q=>t σ H λx H1=>∃i,x=.int i/\Q (ac i) H1
section
variable{X:Cx}{e:bw}{te:TE}{lo hi:Option bw}{tl th:TO}{pos p2:Pos}
theorem kZ:PO X af K2:=by intro ah s σ H Q I h;rw[evalPart_none];exact bT ⟨af,H,I,.none,h⟩
theorem jP(h:PE X e te):PO X (ac e) (Kw te):=by intro ah s σ H Q I hw;rw[evalPart_some];refine bg (h ah s σ H _ I hw) λu s1 ⟨x,H1,I1,r1,q1⟩=>?_;obtain⟨i,rfl,q⟩:=q1;obtain⟨t,rfl⟩:=r1;exact⟨ac i,H1,I1,.int i t,q⟩
def mr(X:Cx)(r:V->Option Int->Option Int->Hp->VK->Prop):Prop:=
 ∀(ah:List (ak×Obj)) (s:aB) (σ:St) (H:Hp) (x:V) (v vl vu:ai) (lo hi:Option Int) (sl:ak) (Q:VK),Inv X ah σ H s->RelV x v->s.heap.IsSliceOf sl vl vu .none->IsPart vl lo->IsPart vu hi->r x lo hi H Q ->
  ∃T id,typeLookup (.type T) "__getitem__" = pure (ac (.builtin id))/\s.TypeIs v T/\wpAny (model X.prog X.w) X.A (getItem v (.ref sl)) (EP X ah σ Q) X.xe s
theorem mr.or{r r':V->Option Int->Option Int->Hp->VK->Prop}(h:mr X r)(h':mr X r'):mr X (λx lo hi H Q=>r x lo hi H Q\/r' x lo hi H Q):=by
 intro ah s σ H x v vl vu lo hi sl Q I rx hs pl pu q;rcases q with q|q
 ·exact h ah s σ H x v vl vu lo hi sl Q I rx hs pl pu q
 ·exact h' ah s σ H x v vl vu lo hi sl Q I rx hs pl pu q
def Gj(r:V->Option Int->Option Int->Hp->VK->Prop)(te:TE)(tl th:TO):TE:=λσ H Q=>te σ H λx H1=>tl σ H1 λl H2=>th σ H2 λu H3=>r x l u H3 Q
theorem j5{r:V->Option Int->Option Int->Hp->VK->Prop}(hr:mr X r)(he:PE X e te)(hl:PO X lo tl)(hu:PO X hi th):PE X (.Subscript e (.Slice lo hi af p2) pos) (Gj r te tl th):=by intro ah s σ H Q I h;refine Subscript_ (bg (he ah s σ H _ I h) λv s1 ⟨x,H1,I1,r1,q1⟩=>?_);refine wpAny_Slice (bg (hl ah s1 σ H1 _ I1 q1) λvl s2 ⟨l,H2,I2,pl,q2⟩=>bg (hu ah s2 σ H2 _ I2 q2) λvu s3 ⟨u,H3,I3,pu,q3⟩=>?_);rw[evalPart_none];refine bT ?_;have I4:Inv X ah σ H3 { s3 with heap:=s3.heap.push { cls:=.type "slice",data:=.fields #[vl,vu,.none] } }:=I3.kept (t':=s3.toks) λb ob q=>cU _ q;obtain⟨T,id,hT,ht,hg⟩:=hr ah { s3 with heap:=s3.heap.push { cls:=.type "slice",data:=.fields #[vl,vu,.none] } } σ H3 x v vl vu l u s3.heap.objs.size Q I4 r1 (Heap.IsSliceOf.new ..) pl pu q3;show wpAny (model X.prog X.w) X.A (subscriptTail e (.Slice lo hi af p2) v (.ref s3.heap.objs.size)) (EP X ah σ Q) X.xe { s3 with heap:=s3.heap.push { cls:=.type "slice", data:=.fields #[vl,vu,.none] } };exact tail_any (ops:=[.ref s3.heap.objs.size,v]) ht hT hg (by with_unfolding_all rfl)
def sO(xs:List V)(lo hi:Option Int):List V:=(xs.drop (HT.eV xs.length 0 lo)).take (HT.eV xs.length xs.length hi-HT.eV xs.length 0 lo)
theorem VD(xs:List V)(lo hi:Option Int):(sO xs lo hi).length<=xs.length:=by unfold sO;rw[gY,jy];omega
end
def f7(n:Nat)(i:Int):Option Nat:=if 0<=i then(if i<n then ac i.toNat else af)else if -(n:Int)<=i then ac (i+n).toNat else af
def eo{α:Type}(xs:List α)(i:Int):Option α:=(f7 xs.length i).bind λj=>xs[j]?
theorem G0{n:Nat}{i:Int}{j:Nat}(h:f7 n i=ac j):seqIndex? i n=ac j/\j<n/\-(n:Int)<=i/\i<n:=by
 unfold f7 at h;by_cases h0:0<=i
 ·rw[bc h0]at h;by_cases h1:i<n
  ·rw[bc h1]at h;have e:i.toNat=j:=iS h;exact⟨by rw[yU h0 h1,e],by omega,by omega,h1⟩
  ·rw[ba h1]at h;cases h
 ·rw[ba h0]at h;by_cases h1:-(n:Int)<=i
  ·rw[bc h1]at h;have e:(i+n).toNat=j:=iS h;exact⟨by rw[yT (by omega) h1,e],by omega,h1,by omega⟩
  ·rw[ba h1]at h;cases h
theorem Aa{α:Type}{xs:List α}{i:Int}{v:α}(h:eo xs i=ac v):∃j,seqIndex? i xs.length=ac j/\xs[j]? = ac v/\j<xs.length/\-(xs.length:Int)<=i/\i<xs.length:=by
 unfold eo at h;cases e:f7 xs.length i with
 |none=>rw[e]at h;cases h
 |some j=>
  rw[e]at h;obtain⟨h1,h2,h3,h4⟩:=G0 e;exact⟨j,h1,h,h2,h3,h4⟩
def GH(b:bw):Prop:=∀o i,subscripted b false o i=operate [o,i] (getItem o i)
def n5(X:Cx)(r:R2):Prop:=
 ∀(value slice:bw) (ah:List (ak×Obj)) (s:aB) (σ:St) (H:Hp) (x y:V) (v u:ai) (Q:VK),Inv X ah σ H s->RelV x v->RelV y u->r x y H Q ->
  subscripted slice false v u=operate [v,u] (getItem v u)->wpAny (model X.prog X.w) X.A (subscriptTail value slice v u) (EP X ah σ Q) X.xe s
def oa(X:Cx)(id:String)(r:V->List V->Hp->VK->Prop):Prop:=
 ∀(ah:List (ak×Obj)) (s:aB) (σ:St) (H:Hp) (x:V) (xs:List V) (v:ai) (us:List ai) (Q:VK),Inv X ah σ H s->RelV x v->Vals xs us->r x xs H Q ->
  wpAny (model X.prog X.w) X.A (call (.builtin id) (v::us)) (EP X ah σ Q) X.xe s
section
variable{X:Cx}{a b:bw}{ta tb:TE}{pos:Pos}
theorem n5.or{r r':R2}(h:n5 X r)(h':n5 X r'):n5 X (λx y H Q=>r x y H Q\/r' x y H Q):=by
 intro value slice ah s σ H x y v u Q I rx ry q hs;rcases q with q|q
 ·exact h value slice ah s σ H x y v u Q I rx ry q hs
 ·exact h' value slice ah s σ H x y v u Q I rx ry q hs
theorem oE{r:R2}(hr:n5 X r)(ha:PE X a ta)(hb:PE X b tb)(hs:GH b):PE X (.Subscript a b pos) (oY r ta tb):=by intro ah s σ H Q I h;exact Subscript_ (zY ha hb I h λv u s2 x y H2 I2 rx ry q=>hr a b ah s2 σ H2 x y v u Q I2 rx ry q (hs _ _))
def HA(K:bb):R2:=λx y H Q=>∃p xs i v,x=.ref p/\y=.int i/\fK K H p xs/\eo xs i=ac v/\Q v H
def Hq(K:bb):R2:=λx y H Q=>∃p xs i v,x=.ref p/\y=.int i/\fQ K H p xs/\eo xs i=ac v/\Q v H
def FH:R2:=λx y H Q=>∃z i c,x=.str z/\y=.int i/\z.length<=sizeLine/\eo z.cps.toList i=ac c/\Q (.str ⟨#[c]⟩) H
theorem QO:n5 X (HA X.K):=by
 intro value slice ah s σ H x y v u Q I rx ry h hs;obtain⟨p,xs,i,z,rfl,rfl,hq,he,q⟩:=h;cases rx;obtain⟨t,rfl⟩:=ry;obtain⟨au,r,pl,hz⟩:=I.list hq;obtain⟨j,h1,h2,h3,h4,h5⟩:=Aa he;obtain⟨w,ew,rw'⟩:=r.get h2;have hl:=r.length;have hn:=tM;have fin:EP X ah σ Q w s:=⟨z,H,I,rw',q⟩;by_cases h0:0<=i
 ·have hj:i.toNat=j:=by
   rw[yU h0 h5]at h1;exact iS h1
  exact item_listR pl.isList h0 (by omega) (by rw[hj];simpa using ew) fin hs
 ·have hj:(i+(au.toArray.size:Int)).toNat=j:=by
   rw[yT (by omega) h4]at h1;rw[c7,<- hl];exact iS h1
  exact L7 (x:=w) pl.isList.typeIs slot_list_getitem.lookup
   (wpAny_getItem_list_neg (Q:=λr s'=>r=w/\EP X ah σ Q r s') pl.isList (by omega) (by rw[c7]<;>omega) (by omega) (by rw[hj];simpa using ew) ⟨rfl,fin⟩) hs
theorem T7:n5 X (Hq X.K):=by
 intro value slice ah s σ H x y v u Q I rx ry h hs;obtain⟨p,xs,i,z,rfl,rfl,hq,he,q⟩:=h;cases rx;obtain⟨t,rfl⟩:=ry;obtain⟨au,r,pl,hz⟩:=I.tuple hq;obtain⟨j,h1,h2,h3,h4,h5⟩:=Aa he;obtain⟨w,ew,rw'⟩:=r.get h2;have hl:=r.length;have hn:=tM;have fin:EP X ah σ Q w s:=⟨z,H,I,rw',q⟩;exact L7 (x:=w) pl.typeIs slot_tuple_getitem.lookup
  (getItem_tuple (j:=j) (Q:=λr s'=>r=w/\EP X ah σ Q r s') pl (by omega) (by omega) (by rw[c7,<- hl];exact h1) (by simpa using ew) ⟨rfl,fin⟩) hs
theorem Pe:n5 X FH:=by
 intro value slice ah s σ H x y v u Q I rx ry h hs;obtain⟨z,i,c,rfl,rfl,hz,he,q⟩:=h;obtain⟨t,rfl⟩:=rx;obtain⟨t',rfl⟩:=ry;obtain⟨j,h1,h2,h3,h4,h5⟩:=Aa he;have hl:z.cps.toList.length=z.length:=by simp[rG]
 rw[hl]at h1 h4 h5;have hn:=tM;exact tail_any (typeIs_str s z t) slot_str_getitem.lookup (getItem_str (c:=c) (by
  have e1:decide (i < -(2 ^ 63:Int))=false:=cS (by omega);have e2:decide (i >= 2 ^ 63)=false:=cS (by omega);rw[e1,e2,Bool.or_false]) (by rw[h1];simpa using h2) ⟨.str ⟨#[c]⟩,H,I.tok _,⟨_,rfl⟩,q⟩) hs
def Cd(K:bb):R2:=λx y H Q=>HA K x y H Q\/Hq K x y H Q\/FH x y H Q
theorem oT:n5 X (Cd X.K):=QO.or (T7.or Pe)
theorem UQ(au:List ai)(n j:Nat)(u:ai):iT (·.setIfInBounds j u) { cls:=.type "list",data:=.seq au.toArray n }={ cls:=.type "list", data:=.seq (au.set j u).toArray n }:=by simp[iT]
theorem Inv.lst{ah:List (ak×Obj)}{σ:St}{H:Hp}{s:aB}{p:ak}{xs:List V}(I:Inv X ah σ H s)(h:H p=ac (.lst xs)) :
 ∃(au:List ai) (n:Nat),Vals xs au/\s.heap.get? p=ac { cls:=.type "list", data:=.seq au.toArray n }/\xs.length<=sizeLine:=by
 obtain⟨z,au,n,r,e⟩:=I.hok p _ h;exact⟨au,n,r,e,z⟩
theorem Inv.Pj{ah:List (ak×Obj)}{σ:St}{H:Hp}{s:aB}{p:ak}{xs ys:List V}{au its':List ai}{n n':Nat}{f:Obj->Obj}(I:Inv X ah σ H s)(h:H p=ac (.lst xs))
 (ho:s.heap.get? p=ac { cls:=.type "list",data:=.seq au.toArray n }) (hf:f { cls:=.type "list",data:=.seq au.toArray n }={ cls:=.type "list", data:=.seq its'.toArray n' }) (r:Vals ys its') (hz:ys.length<=sizeLine) (t:Nat) :
 Inv X ah σ (upd H p (.lst ys)) { s with heap:=s.heap.update p f,toks:=t }:=by
 have e:(s.heap.update p f).get? p=ac { cls:=.type "list", data:=.seq its'.toArray n' }:=by rw[LH f ho (by rw[hf]<;>rfl),hf]
 refine I.write (x:=p) (e:=p) (by rw[h];trivial) (.inl rfl) (λb u hb q=>(LG _ _ (fv hb)).trans q) ⟨_,e⟩ ?_;exact⟨hz,its',n',r,e⟩
def J1:V->V->V->Hp->(Hp->Prop)->Prop:=λo i v H Q=>∃p xs k j,o=.ref p/\i=.int k/\H p=ac (.lst xs)/\f7 xs.length k=ac j/\Q (upd H p (.lst (xs.set j v)))
theorem set_list:E3 X J1:=by
 intro ah s σ H o i v ov iv u Q I ro ri rv h;obtain⟨p,xs,k,j,rfl,rfl,hp,hj,q⟩:=h;cases ro;obtain⟨t,rfl⟩:=ri;obtain⟨au,n,r,ho,hz⟩:=I.lst hp;obtain⟨h1,h2,h3,h4⟩:=G0 hj;have hl:=r.length;have hn:=tM;have I':Inv X ah σ (upd H p (.lst (xs.set j v))) { s with heap:=s.heap.update p (iT (·.setIfInBounds j u)) }:=
  I.Pj hp ho (UQ au n j u) (r.set rv j) (by rw[ou];exact hz) s.toks
 by_cases h0:0<=k
 ·have hk:k.toNat=j:=by
   rw[yU h0 h4]at h1;exact iS h1
  exact PySem.W.ki_setAt ho h0 (by omega) (by rw[c7,<- hl];exact h4) (by rw[hk];exact⟨_,I',q⟩)
 ·have hk:(k+(au.toArray.size:Int)).toNat=j:=by
   rw[yT (by omega) h3]at h1;rw[c7,<- hl];exact iS h1
  exact PySem.W.ki_setBack ho (by omega) (by rw[c7,<- hl];exact h3) (by omega) (by rw[hk];exact⟨_,I',q⟩)
theorem Vs(lo hi:Option Int)(n:Nat):(sliceBounds lo hi af n).1=((HT.eV n 0 lo:Nat):Int)/\(sliceBounds lo hi af n).2.1=((HT.eV n n hi:Nat):Int)/\(sliceBounds lo hi af n).2.2=1:=by
 refine⟨?_,?_,rfl⟩
 ·cases lo with
  |none=>simp[sliceBounds,HT.eV]
  |some i=>
   simp only[sliceBounds,HT.eV,L4,show(1:Int)>0 by decide,i9];by_cases h:i<0
   ·simp only[h,i9]<;>omega
   ·simp only[h,iU]<;>omega
 ·cases hi with
  |none=>simp[sliceBounds,HT.eV]
  |some i=>
   simp only[sliceBounds,HT.eV,L4,show(1:Int)>0 by decide,i9];by_cases h:i<0
   ·simp only[h,i9]<;>omega
   ·simp only[h,iU]<;>omega
theorem UU(au:List ai)(lo hi:Option Int):slicePick au.toArray lo hi af=((au.drop (HT.eV au.length 0 lo)).take (HT.eV au.length au.length hi-HT.eV au.length 0 lo)).toArray:=by obtain⟨h1,h2,h3⟩:=Vs lo hi au.toArray.size;unfold slicePick;rw[h1,h2,h3];simp only[sliceRange_one,pick_run,c7]<;>rfl
def By(K:bb):V->Option Int->Option Int->Hp->VK->Prop:=λx lo hi H Q=>∃a xs,x=.ref a/\fK K H a xs/\∀p,H p=af->Q (.ref p) (upd H p (.lst (sO xs lo hi)))
theorem G1:mr X (By X.K):=by intro ah s σ H x v vl vu lo hi sl Q I rx hs pl pu h;obtain⟨a,xs,rfl,hx,q⟩:=h;cases rx;obtain⟨au,r,ht,hz⟩:=I.list hx;have hlen:=r.length;refine⟨"list", _,slot_list_getitem.lookup,ht.isList.typeIs,?_⟩;refine wpAny_getItem_list_slice ht.isList hs pl pu .none (by simp) ?_ (by rw[c7]<;>omega);rw[UU,<- hlen];refine⟨.ref s.heap.objs.size,_,I.laid (t':=s.toks) (o:=.lst (sO xs lo hi)) (λb ob q=>cU _ q) (bJ _) ?_,rfl,q _ (I.hok.fresh (bJ _))⟩;exact⟨c8 (VD xs lo hi) hz,_,0,(r.drop (HT.eV xs.length 0 lo)).take (HT.eV xs.length xs.length hi-HT.eV xs.length 0 lo),fc _ rfl⟩
def A5:V->Bool
 |.non=>true
 |.bl _=>true
 |.int _=>true
 |.str _=>true
 |_=>false
def FF:V->V->Bool
 |.non,.non=>true
 |.bl a,.bl b=>a==b
 |.bl a,.int b=>(if a then 1 else 0)==b
 |.int a,.bl b=>a==(if b then 1 else 0)
 |.int a,.int b=>a==b
 |.str a,.str b=>a==b
 |_,_=>false
theorem U5{A:cR}{s:aB}{y x:V}{u v:ai}(ry:RelV y u)(rx:RelV x v)(fy:A5 y=true)(fx:A5 x=true):SeqAt.EqAt A s u v (FF y x):=by
 cases y with
 |non=>
  cases ry;cases x with
  |non=>cases rx;exact SeqAt.EqAt.same _
  |bl b=>cases rx;exact SeqAt.EqAt.none_bool b
  |int b=>obtain⟨t,rfl⟩:=rx;exact SeqAt.EqAt.none_int b t
  |str b=>obtain⟨t,rfl⟩:=rx;exact SeqAt.EqAt.none_str b t
  |_=>exact absurd (show false=true from fx) dR
 |bl a=>
  cases ry;cases x with
  |non=>cases rx;exact SeqAt.EqAt.bool_none a
  |bl b=>cases rx;exact SeqAt.EqAt.bool_bool a b
  |int b=>obtain⟨t,rfl⟩:=rx;exact SeqAt.EqAt.bool_int a b t
  |str b=>obtain⟨t,rfl⟩:=rx;exact SeqAt.EqAt.bool_str a b t
  |_=>exact absurd (show false=true from fx) dR
 |int a=>
  obtain⟨t',rfl⟩:=ry;cases x with
  |non=>cases rx;exact SeqAt.EqAt.int_none a t'
  |bl b=>cases rx;exact SeqAt.EqAt.int_bool a t' b
  |int b=>obtain⟨t,rfl⟩:=rx;exact SeqAt.EqAt.int_int a t' b t
  |str b=>obtain⟨t,rfl⟩:=rx;exact Ms a t' b t
  |_=>exact absurd (show false=true from fx) dR
 |str a=>
  obtain⟨t',rfl⟩:=ry;cases x with
  |non=>cases rx;exact SeqAt.EqAt.str_none a t'
  |bl b=>cases rx;exact SeqAt.EqAt.str_bool a t' b
  |int b=>obtain⟨t,rfl⟩:=rx;exact Mt a t' b t
  |str b=>obtain⟨t,rfl⟩:=rx;exact SeqAt.EqAt.str_str a t' b t
  |_=>exact absurd (show false=true from fx) dR
 |_=>exact absurd (show false=true from fy) dR
theorem Tt:gu X (.type "list") (λxs H Q=>∃p ys,xs=[.ref p]/\(fK X.K H p ys\/fQ X.K H p ys)/\∀l,H l=af->Q (.ref l) (upd H l (.lst ys))):=by
 intro ah s σ H xs us Q I r h;obtain⟨p,ys,rfl,hq,q⟩:=h;obtain⟨u,rfl,rx⟩:=vals1 r;cases rx;have fin:∀(au:List ai),Vals ys au->ys.length<=sizeLine->∀(h':bq) (c':Nat),(∀b o',s.heap.get? b=ac o'->h'.get? b=ac o') ->
  h'.get? s.heap.objs.size=ac { cls:=.type "list", dict:=af,data:=.seq au.toArray c',slots:=#[] }->EP X ah σ Q (.ref s.heap.objs.size) { s with heap:=h' }:=λau r' hz h' c' kp e=>
  ⟨.ref s.heap.objs.size,_,I.laid (t':=s.toks) kp (bJ _) (show eP X.prog X.w _ h' _ (.lst ys)from⟨hz,au,c',r',e⟩),rfl,q _ (I.hok.fresh (bJ _))⟩
 rcases hq with hq|hq
 ·obtain⟨au,r',pl,hz⟩:=I.list hq;have hlen:=r'.length;obtain⟨o,ho,hc,n,hd⟩:=pl.isList;exact call_list_seq p (.inl rfl) ho hc hd (λh' c' kp e=>fin au r' hz h' c' kp e) (by simp only[c7]<;>omega)
 ·obtain⟨au,r',pl,hz⟩:=I.tuple hq;have hlen:=r'.length;obtain⟨o,ho,hc,n,hd⟩:=pl;exact call_list_seq p (.inr rfl) ho hc hd (λh' c' kp e=>fin au r' hz h' c' kp e) (by simp only[c7]<;>omega)
theorem SJ:gu X (.type "tuple") (λxs H Q=>∃p ys,xs=[.ref p]/\((fK X.K H p ys/\∀l,H l=af->Q (.ref l) (upd H l (.tup ys)))\/(fQ X.K H p ys/\Q (.ref p) H))):=by
 intro ah s σ H xs us Q I r h;obtain⟨p,ys,rfl,h⟩:=h;obtain⟨u,rfl,rx⟩:=vals1 r;cases rx;rcases h with ⟨hq,q⟩|⟨hq,q⟩
 ·obtain⟨au,r',pl,hz⟩:=I.list hq;have hlen:=r'.length;refine call_tuple_list pl.isList (λh' kp=>?_) (by simp only[c7]<;>omega);have I1:Inv X ah σ H { s with heap:=h' }:=I.kept (t':=s.toks) kp;have I2:Inv X ah σ (upd H h'.objs.size (.tup ys)) { s with heap:=h'.push { cls:=.type "tuple", data:=.seq au.toArray } }:=
   I1.laid (t':=s.toks) (λb o e=>cU _ e) (bJ _) (show eP X.prog X.w _ _ _ (.tup ys)from⟨hz,au,r',sx.new _ _⟩)
  exact⟨.ref h'.objs.size,_,I2,rfl,q _ (I1.hok.fresh (bJ _))⟩
 ·obtain⟨au,r',pl,hz⟩:=I.tuple hq;exact call_tuple_same pl ⟨.ref p,H,I,rfl,q⟩
def xS(K:bb)(T:String)(x:V)(H:Hp):Prop:=match x with
 |.str _=>T = "str"
 |.int _=>T = "int"
 | .ref p=>(T = "list" /\ ∃xs,fK K H p xs)\/(T = "tuple" /\ ∃o,K.lookup p=ac o/\o.cls=.type "tuple" /\ o.dict=af) \/
  (T = "dict" /\ ((∃az,H p=ac (.dK az))\/∃az,H p=ac (.dT az)))\/(T = "set" /\ ∃S n,H p=ac (.set S n))
 |_=>False
theorem Cv{ah:List (ak×Obj)}{σ:St}{H:Hp}{s:aB}{T:String}{x:V}{v:ai}(I:Inv X ah σ H s)(r:RelV x v)(ty:xS X.K T x H) :
 s.TypeIs v T/\∀a,v=.ref a->∃ob,s.heap.get? a=ac ob/\ob.dict=af:=by
 cases x with
 |str z=>
  obtain⟨t,rfl⟩:=r;cases(show T = "str" from ty);exact⟨typeIs_str s z t,λ_ e=>nomatch e⟩
 |int i=>
  obtain⟨t,rfl⟩:=r;cases(show T = "int" from ty);exact⟨typeIs_int s i t,λ_ e=>nomatch e⟩
 |ref p=>
  cases r;rcases ty with ⟨rfl,xs,hq⟩|⟨rfl,o,hk,hc,hd⟩|⟨rfl,hk⟩|⟨rfl,S,n,hk⟩
  ·obtain⟨au,_,pl,_⟩:=I.list hq;refine⟨pl.isList.typeIs,λa e=>?_⟩;cases e;obtain⟨o,n,e,c,hd,_⟩:=pl;exact⟨o,e,hd⟩
  ·refine⟨⟨o,I.iI p o hk,hc⟩,λa e=>?_⟩;cases e;exact⟨o,I.iI _ o hk,hd⟩
  ·have z:∃o,s.heap.get? p=ac o/\o.ExactDict:=by
    rcases hk with ⟨az,hk⟩|⟨az,hk⟩
    ·obtain⟨_,_,_,_,o,_,_,e,ex,_⟩:=I.hok p _ hk;exact⟨o,e,ex⟩
    ·obtain⟨_,_,_,_,o,_,_,e,ex,_⟩:=I.hok p _ hk;exact⟨o,e,ex⟩
   obtain⟨o,e,ex⟩:=z;refine⟨⟨o,e,ex.1⟩,λa e2=>?_⟩;cases e2;exact⟨o,e,ex.2.1⟩
  ·obtain⟨o,_,_,_,e,ex,_⟩:=I.hok p _ hk;refine⟨⟨o,e,ex.1⟩,λa e2=>?_⟩;cases e2;exact⟨o,e,ex.2.1⟩
 |_=>exact nC ty
def KN(K:bb)(T:String)(r:V->List V->Hp->VK->Prop)(to:TE):TE:=λσ H Q=>to σ H λx H1=>xS K T x H1/\r x [] H1 Q
def sP(K:bb)(T:String)(r:V->List V->Hp->VK->Prop)(to:TE)(t:TA):TE:=λσ H Q=>to σ H λx H1=>xS K T x H1/\t σ H1 λxs H2=>r x xs H2 Q
variable{o e:bw}{es:List bw}{to:TE}{t:TA}{name:Str}{apos cpos:Pos}{T id:String}{r:V->List V->Hp->VK->Prop}
theorem UX(pa:yW T)(slot:Slot T name id)(hty:typeOf (.builtin id)=pure (.type "method_descriptor"))(hm:oa X id r)(ho:PE X o to)
 (hbase:attributeBase o name X.env (eval o X.env)=eval o X.env:=by rfl) (hline:(apos.endLine==cpos.line)=true:=by rfl):PE X (.Call (.Attribute o name apos) [] [] cpos) (KN X.K T r to):=by
 intro ah s σ H Q I h;refine wpAny_Call_method0_late hbase hline (bg (ho ah s σ H _ I h) λv s1 ⟨x,H1,I1,r1,ty,q1⟩=>?_);obtain⟨h1,h2⟩:=Cv I1 r1 ty;exact⟨T,id,pa,slot,hty,h1,h2,zi rfl (PySem.evalArgs_none (hm ah s1 σ H1 x [] v [] Q I1 r1 .nil q1))⟩
theorem gQ(pa:yW T)(slot:Slot T name id)(hty:typeOf (.builtin id)=pure (.type "method_descriptor"))(hm:oa X id r)(ho:PE X o to)(ha:PA X (e::es) t)
 (hbase:attributeBase o name X.env (eval o X.env)=eval o X.env:=by rfl)
 (hfew:((backTo cpos (starEach (e::es) X.env)).all (λx=>!x.1)&&(backToKw cpos (keywordEach [] X.env)).all (λx=>x.1.isSome)
  && decide ((e::es).length+([]:List Keyword).length+(if([]:List Keyword).isEmpty then 0 else 1)<30))=true:=by rfl)
 (hline:(apos.endLine==cpos.line)=true:=by rfl) (hs:starEach (e::es) X.env=(false,eval e X.env)::starEach es X.env:=by rfl) (hplain:(backTo cpos (starEach es X.env)).any (·.1)=false:=by rfl) :
 PE X (.Call (.Attribute o name apos) (e::es) [] cpos) (sP X.K T r to t):=by
 intro ah s σ H Q I h;refine LM hbase hfew hline rfl (bg (ho ah s σ H _ I h) λv s1 ⟨x,H1,I1,r1,ty,q1⟩=>?_);obtain⟨h1,h2⟩:=Cv I1 r1 ty;refine⟨T,id,pa,slot,hty,h1,h2,?_⟩;have hA:=ha cpos ah s1 σ H1 _ I1 q1;rw[hs]at hA ⊢;refine zi (by show(false||(backTo cpos (starEach es X.env)).any (·.1))=false;rw[hplain]<;>rfl) (Dy ?_);exact bg hA λus s2 ⟨vs,H2,I2,r2,q2⟩=>hm ah s2 σ H2 x vs v us Q I2 r1 r2 q2
end
def xQ(X:Cx)(id:String)(r:V->List V->Hp->VK->Prop):Prop:=
 ∀(ah:List (ak×Obj)) (s:aB) (σ:St) (H:Hp) (x:V) (xs:List V) (v:ai) (us:List ai) (Q:VK),Inv X ah σ H s->RelV x v->Vals xs us->r x xs H Q ->
  wpAny (model X.prog X.w) X.A (call (.builtin id) (v::us)) (EP X ah σ Q) X.xe s
theorem Vals.one:∀{x:V} {us:List ai},Vals [x] us->∃u,us=[u]/\RelV x u
 |_,_,.cons r .nil=>⟨_,rfl,r⟩
theorem Vals.zero:∀{us:List ai},Vals [] us->us=[]
 |_,.nil=>rfl
theorem Vals.dropLast{xs:List V}{us:List ai}(h:Vals xs us):Vals xs.dropLast us.dropLast:=by
 induction h with
 |nil=>exact .nil
 |cons r t ih=>
  cases t with
  |nil=>exact .nil
  |cons q t'=>exact .cons r ih
theorem Vals.eraseIdx:∀{xs:List V} {us:List ai} (i:Nat),Vals xs us->Vals (xs.eraseIdx i) (us.eraseIdx i)
 |_,_,_,.nil=>.nil
 |_,_,0,.cons _ t=>t
 |_,_,i+1,.cons r t=>.cons r (Vals.eraseIdx i t)
theorem Vals.rep{xs:List V}{us:List ai}(h:Vals xs us):∀k:Nat,Vals (bZ k xs).flatten (bZ k us).flatten
 |0=>.nil
 |k+1=>by
  rw[m9,m9,tT,tT];exact Vals.append h (Vals.rep h k)
theorem Us{α:Type}(l:List α):l.eraseIdx (l.length-1)=l.dropLast:=by
 induction l with
 |nil=>rfl
 |cons a r ih=>
  cases r with
  |nil=>rfl
  |cons b r=>
   have e:(a::b::r).length-1=((b::r).length-1)+1:=by have h1:(a::b::r).length=r.length+2:=rfl;have h2:(b::r).length=r.length+1:=rfl;omega
   rw[e,Lp,ih]
   all_goals rfl
theorem Kj{α:Type}:∀(l:List α) (i:Nat),(l.eraseIdx i).length<=l.length
 |[],_=>bJ _
 |_::_,0=>t8 _
 |_::r,i+1=>Nat.succ_le_succ (Kj r i)
theorem foldl_rep(au:List ai):∀(k:Nat) (acc:List ai),
 CU (λx1 x2=>x1++x2) acc.toArray (bZ k au.toArray)=(acc++(bZ k au).flatten).toArray
 |0,acc=>by simp
 |k+1,acc=>by
  have e:acc.toArray++au.toArray=(acc++au).toArray:=by simp
  have e2:(acc++au)++(bZ k au).flatten=acc++(bZ (k+1) au).flatten:=by rw[m9,tT,ot]
  rw[<- e2,<- foldl_rep au k (acc++au),<- e,m9,List.foldl_cons]
section
variable{X:Cx}{ah:List (ak×Obj)}{σ:St}{H:Hp}{s:aB}{l b:ak}{xs ys zs:List V}
theorem Inv.yk{au its':List ai}{n:Nat}{f:Array ai->Array ai}{t':Nat}(I:Inv X ah σ H s)(hH:H l=ac (.lst xs))
 (e:s.heap.get? l=ac { cls:=.type "list", data:=.seq au.toArray n }) (hf:f au.toArray=its'.toArray) (hv:Vals ys its') (hz:ys.length<=sizeLine) :
 Inv X ah σ (upd H l (.lst ys)) { s with heap:=s.heap.update l (iT f),toks:=t' }:=by
 have q:=PySem.IsL.update e f;rw[hf]at q;refine I.write (x:=l) (e:=l) (by rw[hH];exact trivial) (.inl rfl) (λb' u hb hu=>(LG s.heap (iT f) (fv hb)).trans hu) ⟨_,q⟩ ?_;exact⟨hz,its',_,hv,q⟩
theorem Inv.GJ{au:List ai}{t':Nat}(I:Inv X ah σ H s)(hv:Vals ys au)(hz:ys.length<=sizeLine) :
 Inv X ah σ (upd H s.heap.objs.size (.lst ys)) { s with heap:=s.heap.push { cls:=.type "list", data:=.seq au.toArray },toks:=t' }:=
 I.laid (λ_ _ q=>cU _ q) (bJ _) ⟨hz,au,0,hv,fc _ rfl⟩
theorem Inv.fresh(I:Inv X ah σ H s):H s.heap.objs.size=af:=I.hok.fresh (bJ _)
theorem Inv.uv(I:Inv X ah σ H s)(hH:H l=ac (.lst xs)):xs.length<=sizeLine/\∃(au:List ai) (n:Nat),Vals xs au/\xs.length=au.length/\s.heap.get? l=ac { cls:=.type "list", data:=.seq au.toArray n }:=by obtain⟨z,au,n,r,e⟩:=I.hok l _ hH;exact⟨z,au,n,r,r.length,e⟩
theorem EI{n:Nat}(h:n<=sizeLine):zh n=false:=by unfold zh;exact cS (by omega)
end
section
variable{X:Cx}
def BK:V->List V->Hp->VK->Prop:=λx vs H Q=>∃l xs y,x=.ref l/\vs=[y]/\H l=ac (.lst xs)/\xs.length<sizeLine/\Q .non (upd H l (.lst (xs++[y])))
theorem ke:xQ X "list.append" BK:=by intro ah s σ H x vs v us Q I rx rv h;obtain⟨l,xs,y,rfl,rfl,hH,hz,q⟩:=h;cases rx;obtain⟨u,rfl,ru⟩:=rv.one;obtain⟨z,au,n,r,hl,e⟩:=I.uv hH;refine rB F.slot_list_append ⟨_,e,rfl⟩ F.entry_list_append (F.args_list_append_2 _ _) (PySem.list_append l au.toArray n u (by rw[c7];omega)) ⟨e,?_⟩;refine⟨.non,_,I.yk (its':=au++[u]) hH e (by simp) (r.append (.cons ru .nil)) ?_,rfl,q⟩;rw[dC,oq];omega
def Li:V->List V->Hp->VK->Prop:=λx vs H Q=>∃l xs y,x=.ref l/\vs=[]/\H l=ac (.lst xs)/\xs[xs.length-1]? = ac y/\Q y (upd H l (.lst xs.dropLast))
theorem Uo:xQ X "list.pop" Li:=by
 intro ah s σ H x vs v us Q I rx rv h;obtain⟨l,xs,y,rfl,rfl,hH,hy,q⟩:=h;cases rx;have hus:=rv.zero;subst hus;obtain⟨z,au,n,r,hl,e⟩:=I.uv hH;obtain⟨u,hu,ru⟩:=r.get hy;have hy':au.toArray[au.toArray.size-1]? = ac u:=by show au.toArray[au.length-1]? = ac u;rw[<- Dw,<- hl];exact hu
 refine rB F.slot_list_pop ⟨_,e,rfl⟩ F.entry_list_pop (F.args_list_pop_1 _) (MeetsSeq.list_pop_last l au.toArray n u hy' (by rw[c7];omega)) ⟨e,?_⟩;refine⟨y,_,I.yk (its':=au.dropLast) hH e ?_ r.dropLast ?_,ru,q⟩
 ·show au.toArray.eraseIdxIfInBounds (au.toArray.size-1)=au.dropLast.toArray;rw[c7,Lj,Us]
 ·rw[List.length_dropLast];omega
def Jj:V->List V->Hp->VK->Prop:=λx vs H Q=>∃l xs i k y,x=.ref l/\vs=[.int i]/\H l=ac (.lst xs)/\-(2 ^ 63)<=i/\i<2 ^ 63/\seqIndex? i xs.length=ac k/\xs[k]? = ac y/\Q y (upd H l (.lst (xs.eraseIdx k)))
theorem R8:xQ X "list.pop" Jj:=by
 intro ah s σ H x vs v us Q I rx rv h;obtain⟨l,xs,i,k,y,rfl,rfl,hH,h1,h2,hk,hy,q⟩:=h;cases rx;obtain⟨u,rfl,ru⟩:=rv.one;obtain⟨t,rfl⟩:=ru;obtain⟨z,au,n,r,hl,e⟩:=I.uv hH;obtain⟨w,hw,rw'⟩:=r.get hy;refine rB F.slot_list_pop ⟨_,e,rfl⟩ F.entry_list_pop (F.args_list_pop_2 _ _)
  (MeetsSeq.list_pop_at l au.toArray n i t k w (fitsIndex_both h1 h2) (by rw[c7,<- hl];exact hk) (by rw[<- Dw];exact hw) (by rw[c7];omega)) ⟨e,?_⟩
 refine⟨y,_,I.yk (its':=au.eraseIdx k) hH e ?_ (r.eraseIdx k) ?_,rw',q⟩
 ·show au.toArray.eraseIdxIfInBounds k=(au.eraseIdx k).toArray;rw[Lj]
 ·have:=Kj xs k;omega
def Tw:R2:=λx y H Q=>∃l k xs,x=.ref l/\y=.int k/\H l=ac (.lst xs)/\-(2 ^ 63)<=k/\k<2 ^ 63/\xs.length*k.toNat<=sizeLine /\
 ∀p,H p=af->Q (.ref p) (upd H p (.lst (bZ k.toNat xs).flatten))
theorem len_rep{α:Type}(xs:List α)(k:Nat):(bZ k xs).flatten.length=k*xs.length:=by
 induction k with
 |zero=>simp
 |succ k ih=>rw[m9,tT,dC,ih,Nat.succ_mul,Nat.add_comm]
theorem Pc:dq X (binaryOp .Mult) Tw:=by
 intro ah s σ H x y v u Q I rx ry h;obtain⟨l,k,xs,rfl,rfl,hH,h1,h2,hz,q⟩:=h;cases rx;obtain⟨t,rfl⟩:=ry;obtain⟨z,au,n,r,hl,e⟩:=I.uv hH;have hlen:au.toArray.size*k.toNat<=sizeLine:=by rw[c7,<- hl];exact hz
 have V1:¬ au.toArray.size*k.toNat>(2 ^ 63-1)/8:=by
  have:(sizeLine:Nat)<=(2 ^ 63-1)/8:=by decide
  omega
 have hfit:¬ (!Builtin.List.listFitsIndex k)=true:=by rw[fitsIndex_both h1 h2];exact dR
 have ud:¬ zh (au.toArray.size*k.toNat)=true:=by rw[EI hlen];exact dR
 have hnew:CU (λx1 x2=>x1++x2) #[] (bZ (if au.toArray.isEmpty=true then 0 else k.toNat) au.toArray)=(bZ k.toNat au).flatten.toArray:=by
  have f0:∀m:Nat,CU (λx1 x2=>x1++x2) #[] (bZ m au.toArray)=(bZ m au).flatten.toArray:=λm=>by
   have:=foldl_rep au m [];rw[jV]at this;exact this
  rw[f0];cases au with
  |nil=>simp
  |cons a r'=>rw[ba (by simp)]
 refine wpAny_binaryOp_repeat_ref (T := "list") (U := "int") (by decide) ⟨_,e,rfl⟩ (λs'=>typeIs_int s' k t) noFill_list_mul F.fills_int_mul F.slot_int_rmul repeat_list F.slot_int_index.lookup
  (rB F.slot_int_rmul (typeIs_int s k t) F.entry_int_rmul (F.args_int_rmul_2 _ _) (int___rmul___int_list k t l au.toArray n)
   ⟨e,rfl,⟨_,e,rfl⟩,rB F.slot_list_mul ⟨_,e,rfl⟩ F.entry_list_mul (F.args_list_mul_2 _ _) (AutoListH.list___mul___list_int_3 l au.toArray n k t hfit V1 ud) ⟨e,?_⟩⟩)
 rw[hnew];exact⟨.ref _,_,I.GJ (t':=s.toks) (r.rep k.toNat) (by rw[len_rep,Nat.mul_comm];exact hz),rfl,q _ I.fresh⟩
end
section
variable{κ:Type}[DecidableEq κ]
def jj(az:List (κ×V))(k:κ):Option V:=(az.find? λkv=>decide (kv.1=k)).map (·.2)
def putK(az:List (κ×V))(k:κ)(v:V):List (κ×V):=if(az.any λkv=>decide (kv.1=k))=true then az.map (λkv=>if kv.1=k then(kv.1,v)else kv)else az++[(k,v)]
theorem zN{p:κ×V}{r:List (κ×V)}{k:κ}(e:p.1=k):jj (p::r) k=ac p.2:=by simp[jj,l5,e]
theorem zO{p:κ×V}{r:List (κ×V)}{k:κ}(e:¬ p.1=k):jj (p::r) k=jj r k:=by simp[jj,l5,e]
theorem Ju(k:κ):∀az:List (κ×V),(az.any λkv=>decide (kv.1=k))=(jj az k).isSome
 |[]=>rfl
 |p::r=>by
  rw[nk];by_cases e:p.1=k
  ·simp only[zN e,ce e,Bool.true_or,Option.isSome_some]
  ·rw[zO e,cS e,Bool.false_or];exact Ju k r
theorem Bi(az:List (κ×V))(k:κ)(v:V):(putK az k v).length<=az.length+1:=by
 unfold putK;split
 ·rw[aU];omega
 ·rw[dC,dH,gL];omega
theorem lW.vJ{o:Option V}{u:Option ai}(r:lW o u):o.isSome=u.isSome:=by
 cases o with
 | none=>cases u with
  |none=>rfl
  |some _=>exact(show False from r).elim
 | some _=>cases u with
  |none=>exact(show False from r).elim
  |some _=>rfl
theorem KV.val{az:List (κ×V)}{vs:List (κ×ai)}(r:KV az vs)(k:κ):lW (jj az k) (valueAt vs k):=by
 unfold KV at r
 induction r with
 |nil=>exact md
 | @cons p q ps qs h t ih=>
  obtain⟨h1,h2⟩:=h;by_cases e:p.1=k
  ·have e':q.1=k:=h1.symm.trans e;have b:valueAt (q::qs) k=ac q.2:=by simp[valueAt,l5,e']
   rw[zN e,b];exact h2
  ·have e':¬ q.1=k:=λz=>e (h1.trans z);have b:valueAt (q::qs) k=valueAt qs k:=by simp[valueAt,l5,e']
   rw[zO e,b];exact ih
theorem KV.any{az:List (κ×V)}{vs:List (κ×ai)}(r:KV az vs)(k:κ):(az.any λkv=>decide (kv.1=k))=vs.any λkv=>decide (kv.1=k):=by
 unfold KV at r
 induction r with
 |nil=>rfl
 |cons h t ih=>rw[nk,nk,ih,h.1]
theorem KV.repl{az:List (κ×V)}{vs:List (κ×ai)}(r:KV az vs)(k:κ){y:V}{u:ai}(ry:RelV y u) :
 KV (az.map λkv=>if kv.1=k then(kv.1,y)else kv) (vs.map λkv=>if kv.1=k then(kv.1,u)else kv):=by
 unfold KV at r ⊢
 induction r with
 |nil=>exact .nil
 | @cons p q ps qs h t ih=>
  rw[cF,cF];refine .cons ?_ ih;obtain⟨h1,h2⟩:=h;by_cases e:p.1=k
  ·rw[bc e,bc (h1.symm.trans e)];exact⟨h1,ry⟩
  ·rw[ba e,ba (λz=>e (h1.trans z))];exact⟨h1,h2⟩
theorem KV.put{az:List (κ×V)}{vs:List (κ×ai)}(r:KV az vs)(k:κ){y:V}{u:ai}(ry:RelV y u):KV (putK az k y) (stored vs k u):=by
 unfold putK stored;rw[r.any k];by_cases e:(vs.any λkv=>decide (kv.1=k))=true
 ·rw[bc e,bc e];exact r.repl k ry
 ·rw[ba e,ba e];exact Paired.snoc r ⟨rfl,ry⟩
theorem KV.length{az:List (κ×V)}{vs:List (κ×ai)}(r:KV az vs):az.length=vs.length:=zk r
end
theorem sN{P:cp}{w:bI}{k:Key}{u:ai}(r:RelV (kV k) u):(i6 P w).is k u=true:=by
 cases k with
 |inl i=>obtain⟨t,e⟩:=(show∃t,u=zc i t from r);subst e;exact Om P w i t
 |inr x=>obtain⟨t,e⟩:=(show∃t,u=lj x t from r);subst e;exact RV P w x t
theorem Iu{P:cp}{w:bI}:∀{ks:List Key} {us:List ai},Vals (ks.map kV) us->ItemsAre (i6 P w) ks us
 |[],_,r=>by rw[jz]at r;cases r;exact .nil
 |k::ks,_,r=>by
  rw[cF]at r;cases r with
  |cons h t=>exact .cons (sN h) (Iu t)
abbrev KT(H:Hp):List (List Key×V)->List (List Key×ak×ai)->Prop:=rD λp q=>p.1=q.1/\H q.2.1=ac (.tup (p.1.map kV))/\RelV p.2 q.2.2
theorem KT.val{H:Hp}{az:List (List Key×V)}{xs:List (List Key×ak×ai)}(r:KT H az xs)(k:List Key):lW (jj az k) ((atKey xs k).map (·.2)):=by
 induction r with
 |nil=>exact md
 | @cons p q ps qs h t ih=>
  obtain⟨h1,_,h2⟩:=h;by_cases e:p.1=k
  ·have e':q.1=k:=h1.symm.trans e;have b:atKey (q::qs) k=ac q.2:=by simp[atKey,l5,e']
   rw[zN e,b];exact h2
  ·have e':¬ q.1=k:=λz=>e (h1.trans z);have b:atKey (q::qs) k=atKey qs k:=by simp[atKey,l5,e']
   rw[zO e,b];exact ih
theorem KT.repl{H:Hp}{az:List (List Key×V)}{xs:List (List Key×ak×ai)}(r:KT H az xs)(k:List Key){y:V}{u:ai}(ry:RelV y u) :
 KT H (az.map λkv=>if kv.1=k then(kv.1,y)else kv) (xs.map (putAt k u)):=by
 induction r with
 |nil=>exact .nil
 | @cons p q ps qs h t ih=>
  rw[cF,cF];refine .cons ?_ ih;obtain⟨h1,h2,h3⟩:=h;unfold putAt;by_cases e:p.1=k
  ·rw[bc e,bc (h1.symm.trans e)];exact⟨h1,h2,ry⟩
  ·rw[ba e,ba (λz=>e (h1.trans z))];exact⟨h1,h2,h3⟩
theorem KT.put{H:Hp}{az:List (List Key×V)}{xs:List (List Key×ak×ai)}(r:KT H az xs)(k:List Key){b:ak}{y:V}{u:ai}(hb:H b=ac (.tup (k.map kV)))(ry:RelV y u) :
 KT H (putK az k y) (storedH xs k b u):=by
 have e:(az.any λkv=>decide (kv.1=k))=(atKey xs k).isSome:=by rw[Ju,(r.val k).vJ,Dq]
 unfold putK storedH;rw[e];by_cases q:(atKey xs k).isSome=true
 ·rw[bc q,bc q];exact r.repl k ry
 ·rw[ba q,ba q];exact Paired.snoc r ⟨rfl,hb,ry⟩
theorem KT.keeps{H H':Hp}{az:List (List Key×V)}{xs:List (List Key×ak×ai)}(r:KT H az xs)(ht:∀b ys,H b=ac (.tup ys)->H' b=ac (.tup ys)):KT H' az xs:=Paired.AG r λ_ _ z=>⟨z.1,ht _ _ z.2.1,z.2.2⟩
section
variable{P:cp}{w:bI}{H:Hp}{h:bq}{a:ak}
theorem JG{u:HO}(ok:eC P w H h)(e:Rd H a u):eP P w H h a u:=e.ok ok
theorem ve{az:List (Key×V)}(ok:eC P w H h)(e:Rd H a (.dK az)):az.length<=sizeLine/\(a==sysModules)=false/\∃vs,KV az vs/\h.DictOf (i6 P w) a vs:=show eP P w H h a (.dK az)from JG ok e
theorem KL{az:List (Key×V)}(ok:eC P w H h)(e:H a=ac (.dK az)):az.length<=sizeLine/\(a==sysModules)=false/\∃vs,KV az vs/\h.DictOf (i6 P w) a vs:=ve ok (.inl e)
theorem uA{ks:List Key}(ok:eC P w H h)(e:H a=ac (.tup (ks.map kV))):(tupleKind (i6 P w)).is h ks a:=by obtain⟨_,au,r,o,h1,h2,_,n,h3⟩:=(show eP P w H h a (.tup (ks.map kV))from ok a _ e);exact⟨o,au.toArray,n,h1,h2,h3,by simpa using Iu r⟩
theorem u4{az:List (List Key×V)}(ok:eC P w H h)(e:Rd H a (.dT az)):az.length<=sizeLine/\(a==sysModules)=false /\
 ∃xs,KT H az xs/\h.DictOfH (tupleKind (i6 P w)) a xs:=by
 obtain⟨z,y,xs,r,o,es,ep,h1,h2,h3,h4,h5⟩:=(show eP P w H h a (.dT az)from JG ok e);refine⟨z,y,xs,r,o,es,ep,h1,h2,h3,h4,λx hx=>?_,h5⟩;have all:∀{l:List (List Key×V)} {m:List (List Key×ak×ai)},KT H l m->∀x∈m,(tupleKind (i6 P w)).is h x.1 x.2.1:=by
  intro l m q
  induction q with
  |nil=>intro x hx;exact nomatch hx
  | @cons p q ps qs hq t ih=>
   intro x hx;rcases cn.mp hx with e|hx
   ·subst e;exact uA ok (by rw[<- hq.1];exact hq.2.1)
   ·exact ih x hx
 exact all r x hx
theorem Ry{az:List (List Key×V)}(ok:eC P w H h)(e:H a=ac (.dT az)):az.length<=sizeLine/\(a==sysModules)=false /\
 ∃xs,KT H az xs/\h.DictOfH (tupleKind (i6 P w)) a xs:=u4 ok (.inl e)
end
def jM(H:Hp)(a:ak)(y:V)(r:Option V):Prop:=(∃az k,Rd H a (.dK az)/\y=kV k/\r=jj az k)\/∃az k b,Rd H a (.dT az)/\y=.ref b/\H b=ac (.tup (k.map kV))/\r=jj az k
def pq(H:Hp)(a:ak)(y v:V)(H':Hp):Prop:=
 (∃az k,H a=ac (.dK az)/\y=kV k/\az.length<sizeLine/\H'=upd H a (.dK (putK az k v))) \/
 ∃az k b,H a=ac (.dT az)/\y=.ref b/\H b=ac (.tup (k.map kV))/\az.length<sizeLine/\H'=upd H a (.dT (putK az k v))
theorem jM.k{H:Hp}{a:ak}{az:List (Key×V)}{k:Key}(e:H a=ac (.dK az)):jM H a (kV k) (jj az k):=.inl ⟨az,k,.inl e,rfl,rfl⟩
theorem jM.t{H:Hp}{a b:ak}{az:List (List Key×V)}{k:List Key}(e:H a=ac (.dT az))(eb:H b=ac (.tup (k.map kV))):jM H a (.ref b) (jj az k):=.inr ⟨az,k,b,.inl e,rfl,eb,rfl⟩
theorem pq.k{H:Hp}{a:ak}{az:List (Key×V)}{k:Key}{v:V}(e:H a=ac (.dK az))(hl:az.length<sizeLine):pq H a (kV k) v (upd H a (.dK (putK az k v))):=.inl ⟨az,k,e,rfl,hl,rfl⟩
theorem pq.t{H:Hp}{a b:ak}{az:List (List Key×V)}{k:List Key}{v:V}(e:H a=ac (.dT az))(eb:H b=ac (.tup (k.map kV)))(hl:az.length<sizeLine) :
 pq H a (.ref b) v (upd H a (.dT (putK az k v))):=.inr ⟨az,k,b,e,rfl,eb,hl,rfl⟩
section
variable{X:Cx}{ah:List (ak×Obj)}{σ:St}{H:Hp}{s:aB}{a:ak}{y v:V}{u r:ai}{o:Option V}{A:cR}{E:ai->aB->Prop}
theorem Inv.big(I:Inv X ah σ H s):sysModules<s.heap.objs.size:=by have h:mainGlobals<s.heap.objs.size:=(I.mod.glob.keeps I.bk).lt;exact Nat.lt_trans (by decide) h
theorem Pk{Q:ai->aB->Prop}(hu:A.units+1<cLine)(I:Inv X ah σ H s)(g:jM H a y (ac v))(ry:RelV y u)(h:∀w' s',Inv X ah σ H s'->RelV v w'->Q w' s') :
 wpAny (model X.prog X.w) A (getItem (.ref a) u) Q E s:=by
 rcases g with ⟨az,k,e,ey,l⟩|⟨az,k,b,e,ey,eb,l⟩
 ·subst ey;obtain⟨z,hd,vs,rel,dd⟩:=ve I.hok e;obtain⟨w',hw,rw'⟩:=lW.some_of (v:=v) (o:=valueAt vs k) (by rw[l];exact rel.val k);exact wpAny_getItem_of (sN ry) dd.mapOf hw (h w' _ (I.tok _) rw')
 ·subst ey;cases(show u=ge b from ry);obtain⟨z,hd,xs,rel,dd⟩:=u4 I.hok e;obtain⟨w',hw,rw'⟩:=lW.some_of (v:=v) (o:=(atKey xs k).map (·.2)) (by rw[l];exact rel.val k);obtain⟨p,hp,hp2⟩:=lh.mp hw;refine wpAny_getItem_heap (yO hu) (uA I.hok eb) dd hp ?_;rw[hp2];exact h w' _ (I.tok _) rw'
theorem UO{Q:ai->aB->Prop}(hu:A.units+1<cLine)(I:Inv X ah σ H s)(g:jM H a y o)(ry:RelV y u)(h:∀s',Inv X ah σ H s'->Q (.bool o.isSome) s') :
 wpAny (model X.prog X.w) A (compareOp .In u (.ref a)) Q E s:=by
 rcases g with ⟨az,k,e,ey,l⟩|⟨az,k,b,e,ey,eb,l⟩
 ·subst ey;obtain⟨z,hd,vs,rel,dd⟩:=ve I.hok e;refine wpAny_in_of (sN ry) hd dd.mapOf ?_;rw[<- (rel.val k).vJ,<- l];exact h _ (I.tok _)
 ·subst ey;cases(show u=ge b from ry);obtain⟨z,hd,xs,rel,dd⟩:=u4 I.hok e;refine wpAny_in_heap (yO hu) (uA I.hok eb) hd dd ?_;have q:=(rel.val k).vJ;rw[Dq]at q;rw[<- q,<- l];exact h _ (I.tok _)
theorem TN{Q:ai->aB->Prop}(hu:A.units+1<cLine)(I:Inv X ah σ H s)(g:jM H a y o)(ry:RelV y u)(h:∀s',Inv X ah σ H s'->Q (.bool (!o.isSome)) s') :
 wpAny (model X.prog X.w) A (compareOp .NotIn u (.ref a)) Q E s:=by
 rcases g with ⟨az,k,e,ey,l⟩|⟨az,k,b,e,ey,eb,l⟩
 ·subst ey;obtain⟨z,hd,vs,rel,dd⟩:=ve I.hok e;refine wpAny_notIn_of (sN ry) hd dd.mapOf ?_;rw[<- (rel.val k).vJ,<- l];exact h _ (I.tok _)
 ·subst ey;cases(show u=ge b from ry);obtain⟨z,hd,xs,rel,dd⟩:=u4 I.hok e;refine wpAny_notIn_heap (yO hu) (uA I.hok eb) hd dd ?_;have q:=(rel.val k).vJ;rw[Dq]at q;rw[<- q,<- l];exact h _ (I.tok _)
theorem A0{h':bq}{t':Nat}{ob:HO}(I:Inv X ah σ H s)(mu:u3 (H a))(hs:vV a s.heap h')(he:∃q,h'.get? a=ac q)(new:eP X.prog X.w (upd H a ob) h' a ob) :
 Inv X ah σ (upd H a ob) { s with heap:=h',toks:=t' }:=
 I.write (x:=a) (e:=a) mu (.inl rfl) (λb q hb z=>(hs.2 b hb).trans z) he new
theorem Kh{P:cp}{w:bI}{H':Hp}{h':bq}{az:List (Key×V)}{vs:List (Key×ai)}(z:az.length<=sizeLine)(hd:(a==sysModules)=false)(rel:KV az vs)(dd:h'.DictOf (i6 P w) a vs) :
 eP P w H' h' a (.dK az):=⟨z,hd,vs,rel,dd⟩
theorem OL{H':Hp}{Q:Unit->aB->Prop}(hu:A.units+1<cLine)(I:Inv X ah σ H s)(g:pq H a y v H')(ry:RelV y u)(rv:RelV v r)(h:∀s',Inv X ah σ H' s'->Q () s') :
 wpAny (model X.prog X.w) A (setItem (.ref a) u r) Q E s:=by
 rcases g with ⟨az,k,e,ey,l,eH⟩|⟨az,k,b,e,ey,eb,l,eH⟩
 ·subst ey eH;obtain⟨z,hd,vs,rel,dd⟩:=KL I.hok e;have hz:vs.length<=sizeLine:=by rw[<- rel.length];exact z
  have hl:(putK az k v).length<=sizeLine:=by have:=Bi az k v;omega
  refine wpAny_setItem_pairs (hsz:=hz) (sN ry) dd λh' dd' hs=>h _ ?_;have he:∃q,h'.get? a=ac q:=let ⟨q,_,_,hq,_⟩:=dd';⟨q,hq⟩;exact A0 I (by rw[e];exact md) hs he (Kh hl hd (rel.put k rv) dd')
 ·subst ey eH;cases(show u=ge b from ry);obtain⟨z,hd,xs,rel,dd⟩:=Ry I.hok e;have hz:xs.length<=sizeLine:=by rw[<- zk rel];exact z
  have hl:(putK az k v).length<=sizeLine:=by have:=Bi az k v;omega
  refine wpAny_setItem_heap (hsz:=hz) (yO hu) (uA I.hok eb) dd λh' dd' hs=>h _ ?_;obtain⟨q,es,ep,hq,h2,h3,h4,_,h5⟩:=dd';refine A0 I (by rw[e];exact md) hs ⟨q,hq⟩ ⟨hl,hd,_,(rel.put k eb rv).keeps λc ys ec=>?_,q,es,ep,hq,h2,h3,h4,h5⟩;rw[bh (RH ec e (λz=>nomatch z))];exact ec
end
def Jx(i:bw):Prop:=∀ov iv,subscripted i false ov iv=operate [ov,iv] (getItem ov iv)
theorem Qz{prog:cp}{w:bI}{A:cR}{E:ai->aB->Prop}{s:aB}{env:Env}{value slice:bw}{pos:Pos}{T id:String}{Q:ai->aB->Prop}
 (hl:typeLookup (.type T) "__getitem__" = pure (ac (.builtin id))) (hs:Jx slice)
 (h:wpAny (model prog w) A (eval value env) (λo s₁=>wpAny (model prog w) A (eval slice env) (λi s₂=>s₂.TypeIs o T/\wpAny (model prog w) A (getItem o i) Q E s₂) E s₁) E s) :
 wpAny (model prog w) A (eval (.Subscript value slice pos) env) Q E s:=by
 refine Subscript_ (ku h (λo s₁ h₁=>ku h₁ (λi s₂ h₂=>?_) λ_ _ x=>x) λ_ _ x=>x);obtain⟨hT,h₂⟩:=h₂;unfold subscriptTail;refine aY ?_;rw[getitemInPython_of_ne hT.not_modules];refine aY (wpAny_specialOf hT hl ?_);have fin:wpAny (model prog w) A (subscripted slice false o i) (λr s₃=>wpAny (model prog w) A (letTemporaryGo value o r >>= λ_=>pure r) Q E s₃) E s₂:=by rw[hs o i];exact wpAny_operating (ku h₂ (λr s₃ h₃=>aY (wpAny_letTemporaryGo (bT h₃))) λ_ _ x=>x)
 first
  |exact bT (aY fin)
  |exact aY (bT (aY fin))
  |exact aY fin
theorem Tr{X:Cx}{ah:List (ak×Obj)}{σ:St}{H:Hp}{s:aB}{a:ak}{y:V}{o:Option V}(I:Inv X ah σ H s)(g:jM H a y o):s.TypeIs (.ref a) "dict":= by
 rcases g with ⟨az,k,e,_,_⟩|⟨az,k,b,e,_,_,_⟩
 ·obtain⟨_,_,vs,_,dd⟩:=ve I.hok e;exact dd.typeIs
 ·obtain⟨_,_,xs,_,dd⟩:=u4 I.hok e;exact dd.typeIs
def GI(td ty:TE):TE:=λσ H Q=>td σ H λx H1=>ty σ H1 λy H2=>∃a v,x=.ref a/\jM H2 a y (ac v)/\Q v H2
def GO(ty td:TE):TE:=λσ H Q=>ty σ H λy H1=>td σ H1 λx H2=>∃a o,x=.ref a/\jM H2 a y o/\Q (.bl o.isSome) H2
def FX(ty td:TE):TE:=λσ H Q=>ty σ H λy H1=>td σ H1 λx H2=>∃a o,x=.ref a/\jM H2 a y o/\Q (.bl (!o.isSome)) H2
def f9(td ty tv:TE):TS:=λD σ H=>tv σ H λv H1=>td σ H1 λx H2=>ty σ H2 λy H3=>∃a H4,x=.ref a/\pq H3 a y v H4/\D.nx σ H4
section
variable{X:Cx}{o i e value:bw}{pos pos' tpos:Pos}{td ty tv:TE}
theorem FJ(hu:X.A.units+1<cLine)(ho:PE X o td)(hi:PE X i ty)(hs:Jx i):PE X (.Subscript o i pos) (GI td ty):=by intro ah s σ H Q I h;refine Qz PySem.F.slot_dict_getitem.lookup hs (bg (ho ah s σ H _ I h) λu s1 ⟨x,H1,I1,rx,q1⟩=>bg (hi ah s1 σ H1 _ I1 q1) λiv s2 ⟨y,H2,I2,ry,a,v,ex,g,q2⟩=>?_);subst ex;obtain rfl:u=ge a:=rx;exact⟨Tr I2 g,Pk hu I2 g ry λw' s3 I3 rw'=>⟨v,H2,I3,rw',q2⟩⟩
theorem Ci(hu:X.A.units+1<cLine)(hi:PE X i ty)(ho:PE X o td):PC X .In i o (GO ty td):=by intro ah s σ H Q I h;refine bg (hi ah s σ H _ I h) λiv s1 ⟨y,H1,I1,ry,q1⟩=>bg (ho ah s1 σ H1 _ I1 q1) λu s2 ⟨x,H2,I2,rx,a,ov,ex,g,q2⟩=>?_;subst ex;obtain rfl:u=ge a:=rx;exact UO hu I2 g ry λs3 I3=>⟨.bl ov.isSome,H2,I3,rfl,q2⟩
theorem ON(hu:X.A.units+1<cLine)(hi:PE X i ty)(ho:PE X o td):PC X .NotIn i o (FX ty td):=by intro ah s σ H Q I h;refine bg (hi ah s σ H _ I h) λiv s1 ⟨y,H1,I1,ry,q1⟩=>bg (ho ah s1 σ H1 _ I1 q1) λu s2 ⟨x,H2,I2,rx,a,ov,ex,g,q2⟩=>?_;subst ex;obtain rfl:u=ge a:=rx;exact TN hu I2 g ry λs3 I3=>⟨.bl (!ov.isSome),H2,I3,rfl,q2⟩
theorem uK(hu:X.A.units+1<cLine)(ho:PE X o td)(hi:PE X i ty)(hv:PE X value tv)(hs:swapsWith value (ac (.Subscript o i pos')) pos.line X.env=pure false) :
 PS X (.Assign [.Subscript o i pos'] value pos) (f9 td ty tv):=by
 intro ah s σ H D I h;refine wpAny_Assign_Subscript (bg (hv ah s σ H _ I h) λr s1 ⟨v,H1,I1,rv,q1⟩=>bg (ho ah s1 σ H1 _ I1 q1) λu s2 ⟨x,H2,I2,rx,q2⟩=>bg (hi ah s2 σ H2 _ I2 q2) λiv s3 ⟨y,H3,I3,ry,a,H4,ex,g,q3⟩=>?_) hs;subst ex;obtain rfl:u=ge a:=rx;exact OL hu I3 g ry rv λs4 I4=>⟨σ,H4,I4,q3⟩
end
theorem HQ{P:cp}{w:bI}{H:Hp}(h:bq)(hb:sysModules<h.objs.size):eP P w H (h.push { cls:=.type "dict", data:=.dict #[] }) h.objs.size (.dK []):=⟨gZ _,uR.mpr (fv (fT hb)),[],.nil,Heap.DictOf.new h⟩
theorem QW{P:cp}{w:bI}{H:Hp}(h:bq)(hb:sysModules<h.objs.size):eP P w H (h.push { cls:=.type "dict", data:=.dict #[] }) h.objs.size (.dT []):=⟨gZ _,uR.mpr (fv (fT hb)),[],.nil,_,#[],0,fc _ rfl,⟨rfl,rfl,rfl⟩,rfl,rfl,yI⟩
def Km:TE:=λ_ H Q=>∀p,H p=af->Q (.ref p) (upd H p (.dK []))
def IG:TE:=λ_ H Q=>∀p,H p=af->Q (.ref p) (upd H p (.dT []))
section
variable{X:Cx}{pos:Pos}
theorem K5:PE X (.Dict [] [] pos) Km:=λah s σ H Q I h=>
 wpAny_Dict_empty ⟨.ref s.heap.objs.size,_,I.laid (a:=s.heap.objs.size) (o:=.dK []) (t':=s.toks) (λ_ _ q=>cU _ q) (bJ _) (HQ s.heap I.big),rfl,h _ (I.hok.fresh (bJ _))⟩
theorem UT:PE X (.Dict [] [] pos) IG:=λah s σ H Q I h=>
 wpAny_Dict_empty ⟨.ref s.heap.objs.size,_,I.laid (a:=s.heap.objs.size) (o:=.dT []) (t':=s.toks) (λ_ _ q=>cU _ q) (bJ _) (QW s.heap I.big),rfl,h _ (I.hok.fresh (bJ _))⟩
end
def Bb:List (TE×TE)->St->Hp->(List (V×V)->Hp->Prop)->Prop
 |[],_,H,Q=>Q [] H
 |(tk,tv)::r,σ,H,Q=>tk σ H λx H1=>tv σ H1 λy H2=>Bb r σ H2 λps H3=>Q ((x,y)::ps) H3
abbrev VV:List (V×V)->List (ai×ai)->Prop:=rD λp q=>RelV p.1 q.1/\RelV p.2 q.2
def xK(X:Cx)(pos:Pos)(keys:List (Option bw))(values:List bw)(trs:List (TE×TE)):Prop:=
 ∀(ah:List (ak×Obj)) (s:aB) (σ:St) (H:Hp) (Q:List (V×V)->Hp->Prop),Inv X ah σ H s->Bb trs σ H Q ->
  wpAny (model X.prog X.w) X.A (evalPairs (pairTrees keys values X.env pos)) (λvs s'=>∃ps H',Inv X ah σ H' s'/\VV ps vs/\Q ps H') X.xe s
theorem Pq{X:Cx}{pos:Pos}:xK X pos [] [] []:=λah s σ H Q I h=>pairTrees_nil_walk ⟨[],H,I,.nil,h⟩
theorem Tx{X:Cx}{pos:Pos}{k v:bw}{ks:List (Option bw)}{vs:List bw}{tk tv:TE}{trs:List (TE×TE)}(hk:PE X k tk)(hv:PE X v tv)(hr:xK X pos ks vs trs) :
 xK X pos (ac k::ks) (v::vs) ((tk,tv)::trs):=λah s σ H Q I h=>
 pairTrees_cons_walk (bg (hk ah s σ H _ I h) λu s1 ⟨x,H1,I1,rx,q1⟩=>bg (hv ah s1 σ H1 _ I1 q1) λw2 s2 ⟨y,H2,I2,ry,q2⟩=>
  bg (hr ah s2 σ H2 _ I2 q2) λws s3 ⟨ps,H3,I3,rel,q3⟩=>⟨(x,y)::ps,H3,I3,.cons ⟨rx,ry⟩ rel,q3⟩)
def uN(az more:List (Key×V)):List (Key×V):=more.foldl (λacc kv=>putK acc kv.1 kv.2) az
theorem KV.merge:∀{more:List (Key×V)} {rs:List (Key×ai)} {az:List (Key×V)} {vs:List (Key×ai)},KV more rs->KV az vs->KV (uN az more) (merged vs rs):=by
 intro more rs az vs r;unfold KV at r
 induction r generalizing az vs with
 |nil=>intro q;exact q
 | @cons p q ps qs h t ih=>
  intro r0;have e:KV (putK az p.1 p.2) (stored vs q.1 q.2):=by have:=r0.put p.1 h.2;rw[<- h.1];exact this
  exact ih e
theorem K1:∀(more az:List (Key×V)),(uN az more).length<=az.length+more.length
 |[],az=>by show az.length<=az.length+0;omega
 |p::r,az=>by
  have h1:=K1 r (putK az p.1 p.2);have h2:=Bi az p.1 p.2;show(uN (putK az p.1 p.2) r).length<=_;rw[dH];omega
theorem KW{P:cp}{w:bI}:∀{az:List (Key×V)} {ws:List (ai×ai)},VV (az.map λkv=>(kV kv.1,kv.2)) ws->∃rs,Carries (i6 P w) ws rs/\KV az rs
 |[],_,r=>by rw[jz]at r;cases r;exact⟨[],md,.nil⟩
 |p::az,_,r=>by
  rw[cF]at r;cases r with
  | @cons a b as bs h t=>
   obtain⟨rs,c,q⟩:=KW (P:=P) (w:=w) t;obtain⟨b1,b2⟩:=b;exact⟨(p.1,b2)::rs,⟨sN h.1,rfl,c⟩,.cons ⟨rfl,h.2⟩ q⟩
def BV(trs:List (TE×TE)):TE:=λσ H Q=>∀p,H p=af->Bb trs σ (upd H p (.dK [])) λps H2=>H2 p=ac (.dK [])/\∃az:List (Key×V),ps=az.map (λkv=>(kV kv.1,kv.2))/\az.length<=15/\Q (.ref p) (upd H2 p (.dK (uN [] az)))
theorem SQ{X:Cx}{pos:Pos}{keys:List (Option bw)}{values:List bw}{trs:List (TE×TE)}(h:xK X pos keys values trs)(hall:keys.all (·.isSome)=true)(hl:keys.length=values.length)(h0:keys≠[])
 (h15:keys.length<=15):PE X (.Dict keys values pos) (BV trs):=by
 intro ah s σ H Q I q;have hn:=I.hok.fresh (bJ s.heap.objs.size);have I1:=I.laid (a:=s.heap.objs.size) (o:=.dK []) (h':=s.heap.push { cls:=.type "dict", data:=.dict #[] }) (t':=s.toks) (λ_ _ q=>cU _ q) (bJ _) (HQ s.heap I.big);refine wpAny_Dict_walk (knd:=i6 X.prog X.w) hall hl h0 h15 (bg (h ah _ σ _ _ I1 (q _ hn)) λws s2 ⟨ps,H2,I2,rel,e,az,ep,lk,q2⟩=>?_);subst ep;obtain⟨rs,c,rk⟩:=KW (P:=X.prog) (w:=X.w) rel;obtain⟨z,hd,vs0,r0,dd⟩:=KL I2.hok e;cases r0;refine⟨rs,c,dd,λh' dd' hs=>⟨.ref s.heap.objs.size,_,?_,rfl,q2⟩⟩;have hz:(uN [] az).length<=sizeLine:=by have h1:=K1 az [];rw[gL]at h1;rw[eK];omega
 have he:∃q,h'.get? s.heap.objs.size=ac q:=let ⟨q,_,_,hq,_⟩:=dd';⟨q,hq⟩;exact A0 I2 (by rw[e];exact md) hs he (Kh hz hd (rk.merge .nil) dd')
end L2
namespace Att
open PySem PySem.W PySem.Calls PyProof.Rows
theorem U8{P:Params}{h:bq}:∀(ns:List Int) (vs:List ai),WellAll P h vs (ns.map WData.int)->lm vs ns:=by
 intro ns
 induction ns with
 |nil=>
  intro vs w;rw[jz]at w;cases w;exact .nil
 |cons n ns ih=>
  intro vs w;rw[cF]at w;cases w with
  |cons a b=>
   cases a;exact .cons _ _ (ih _ b)
theorem UZ{l:OpenLaw}{n:Nat}(hn:l.most=ac n){P:Params}{h:bq}{args:List WData}{vals:List ai}
 (hpre:l.row.toRowW.claim.pre args=true) (hwl:WellAll P h vals args) :
 ∃a vs ns,vals=[ge a]/\args=[WData.list (ns.map WData.int)]/\h.get? a=ac { cls:=.type "list", data:=.seq vs.toArray }/\lm vs ns/\ns.length<=n:=by
 have hsh:WShape.hasAll [] args [.list .int]=true:=(pre_splitW hpre).1;have hc:l.pre.holds [] { args:=args }=true:=(pre_splitW hpre).2;obtain⟨d,r,rfl,h1,h2⟩:=hasAllW_cons hsh;obtain rfl:=hasAllW_nil h2;obtain⟨xs,rfl,h3⟩:=hasW_list h1;obtain⟨ns,rfl⟩:=items_int h3;have hlen:ns.length<=n:=by
  unfold OpenLaw.pre at hc;have h4:(WTm.not (.lt (.lit (.int (n:Int))) (.len (.arg 0)))).holds [] { args:=[.list (ns.map .int)] }=true:=by have h4:=(holds_andW hc).1;rw[hn]at h4;exact h4
  have h5:=condW_of h4 (w_not (w_lt w_lit (w_len_list (w_arg rfl))));rw[aU]at h5;refine Nat.le_of_not_lt λq=>?_;have q':(n:Int)<((ns.length:Nat):Int):=by omega
  first
   |(rw[ce q']at h5;exact absurd h5 (by decide))
   |(simp at h5;omega)
 cases hwl with
 |cons w1 w2=>
  cases w2;cases w1 with
  |list ho hall=>exact⟨_,_,ns,rfl,rfl,ho,U8 ns _ hall,hlen⟩
theorem Sb(l:OpenLaw)(args:List WData):l.row.toRowW.claim.post args (.bool true) args=true:=
 postW_of (r:=l.row.toRowW) (X:=(true==true))
  (show WShape.has [] (.bool true) .bool=true by first|rfl|decide|simp[WShape.has,WShape.arms,WShape.armsAll])
  (show(WTm.eq .res (.lit (.bool true))).value [] { args:=args,res:=ac (.bool true),after:=args }=ac (.bool (true==true))from w_eq_bool (w_res rfl) w_lit) rfl
theorem Qu{l:OpenLaw}{n:Nat}{q:cp}{loose:List Str}{XP:(Str->Option ai)->bq->Prop}{YP:bI->bq->Prop}{d:DefRec}
 (hn:l.most=ac n) (hdf:d.params.defaults=[])
 (call:∀(w:bI) (s₀ s₁:aB) (mg mb:Str->Option ai) (fa:ak) (o:Obj) (pm cd doc:ai) (a:ak) (vs:List ai) (ns:List Int),
  Ground q loose [] XP w s₀ mg mb s₁.heap->YP w s₁.heap ->
  s₁.heap.get? fa=ac o->o.data=.func (docDef d.name d.params d.body d.scope pm cd doc)->s₁.heap.CodeRec cd d.name->mg d.name=ac (.ref fa) ->
  s₁.heap.get? a=ac { cls:=.type "list", data:=.seq vs.toArray }->lm vs ns->ns.length<=n->s₁.gens = #[] ->
  codeAny (model l.prog w) callerA (.call (.ref fa) ⟨[.ref a],[]⟩) (λr s'=>r=.ok (.ret (.bool true))/\OldK s₁.heap s'.heap/\s'.os=s₁.os/\qa s'.gens) s₁) :
 WalkO q loose XP YP l.row.toRowW d [] (λf vs=>C8 f vs):=by
 intro w s₀ s₁ mg mb G Y fa o pm cd doc dV kV ho hd hcd hD hmg hg args vals as hpre hlay hrd hwl hlo;obtain rfl:dV=.none:=Dflts.none hD hdf;obtain rfl:kV=.none:=Dflts.noKw hD;obtain⟨a,vs,ns,rfl,rfl,hobj,hints,hlen⟩:=UZ hn hpre hwl;refine enter_call (rA (call w s₀ s₁ mg mb fa o pm cd doc a vs ns G Y ho (fd_plain hd) hcd hmg hobj hints hlen hg) λr s' hq=>?_);obtain⟨rfl,h2,h3,h4⟩:=hq;exact⟨.inl ⟨.bool true,.bool true,[],rfl,λ_=>rfl,.bool true,Sb l _,λ_=>⟨zd,λ_ hm=>(nomatch hm)⟩⟩,h2,h3,h4⟩
end Att
namespace L2
open PySem PySem.Spec PyProof.Rows
theorem J4:∀{vs:List ai} {ns:List Int},lm vs ns->Vals (ns.map V.int) vs
 |_,_,.nil=>.nil
 |_,_,.cons n t h=>.cons ⟨t,rfl⟩ (J4 h)
def oh(s:bE):vY:=match s with
 |.FunctionDef _ a _ _ _ _ _ _ _ _=>a
 |_=>{ posonlyargs:=[],args:=[],vararg:=af,kwonlyargs:=[],kw_defaults:=[],kwarg:=af,defaults:=[] }
def kj(s:bE):List bE:=match s with
 |.FunctionDef _ _ b _ _ _ _ _ _ _=>b
 |_=>[]
def bH(s:bE):gc:=match s with
 |.FunctionDef _ _ _ _ _ _ sc _ _ _=>sc
 |_=>{ kind:=.function,names:=[],isGenerator:=false,isCoroutine:=false }
abbrev aX:jt:=λ_ _ _ _ _ _=>False
abbrev E0:XK:=λ_ _ _=>False
theorem Vg{X:Cx}:xO aX X E0:=λ_ _ _ _ _ _ _ h=>h.elim
structure cy(K:bb)(x qual:Str)(st:bE)(f:ak)(fd:bU):Prop where
 ex:∃(oc:ai) (od:Option ak) (kV doc pm:ai) (an:Option ak) (cdv ct:ai) (osl:Array (Option ai)),
  fd=l8 x qual (oh st) (kj st) (bH st) .none kV doc pm an cdv ct/\K.lookup f=ac ⟨oc,od,.func fd,osl⟩/\tY K cdv qual=true
 kp:pU K (.ref f)=true
section
variable{P:cp}{w:bI}{K:bb}{mg:Str->Option ai}{base:bq}
theorem cy.ok{x qual:Str}{st:bE}{f:ak}{fd:bU}{N ps:List Str}{k:Nat}{sp:Sp}(F:cy K x qual st f fd)(S:cD N ps (bH st))(len:∀vs H Q E,sp vs H Q E->vs.length=ps.length)
 (hbody:∀(cdv:ai) (A:cR) (outer:List Env) (s:aB) (H:Hp) (vs:List V) (Q:VK) (E:XK),e5 k (A.deeper (envOfC qual (bH st) s.heap.objs.size f cdv))->sp vs H Q E ->
  ∃t,iZ (nK aX P w K mg base N qual (bH st) f cdv A outer s H E).lz (kj st) t/\t { nx:=λ_ H'=>Q .non H',rt:=Q } (start N vs) H):bN P w K mg base aX (k+1) f fd ps sp:=by
 obtain⟨oc,od,kV,doc,pm,an,cdv,ct,osl,rfl,lk,hcd⟩:=F.ex;refine F5 lk hcd S len λA outer s H vs Q E hr hsp=>?_;obtain⟨t,h,q⟩:=hbody cdv A outer s H vs Q E hr hsp;exact⟨t,h.lz,q⟩
theorem cy.binds{x qual:Str}{st:bE}{f:ak}{fd:bU}{ps:List Str}(F:cy K x qual st f fd)
 (h:∀(kV doc pm:ai) (an:Option ak) (cdv ct:ai) (us:List ai),us.length=ps.length->bindArgs (l8 x qual (oh st) (kj st) (bH st) .none kV doc pm an cdv ct) ⟨us,[]⟩=pure (ps.zip us)):Binds K fd ps []:=by
 obtain⟨oc,od,kV,doc,pm,an,cdv,ct,osl,rfl,lk,hcd⟩:=F.ex;exact .all (h kV doc pm an cdv ct)
theorem IY{x qual:Str}{st:bE}{f:ak}{oc:ai}{od an:Option ak}{osl:Array (Option ai)}{kV doc pm cdv ct:ai}(l:K.lookup f=ac ⟨oc,od,.func (l8 x qual (oh st) (kj st) (bH st) .none kV doc pm an cdv ct),osl⟩)
 (c:tY K cdv qual=true) (k:pU K (.ref f)=true):cy K x qual st f (l8 x qual (oh st) (kj st) (bH st) .none kV doc pm an cdv ct):=⟨⟨oc,od,kV,doc,pm,an,cdv,ct,osl,rfl,l,c⟩,k⟩
end
theorem zI{A:cR}{k:Nat}(hr:e5 k A):A.units+1<cLine:=Nat.lt_of_le_of_lt (Nat.add_le_add_left (by decide:1<=64) _) hr.units
section
variable{X:Cx}
theorem pv(i:Nat){x:Str}{pos:Pos}(hN:X.N[i]? = ac x:=by rfl)(hv:vn X.env.scope x:=by first|exact cG rfl|exact ft (cG rfl)|exact ft (ft rfl))(hd:(x==("__debug__" : Str))=false:=by decide)
 (hcd:(x==("__classdict__" : Str))=false:=by decide):PE X (.Name x pos) (io i):=Tn hN hv hd hcd
end
theorem m4{A B:Prop}(h:B):if false=true then A else B:=by rw[ba dR];exact h
theorem ml{A B:Prop}(h:A):if true=true then A else B:=by rw[bc rfl];exact h
def eA(H H':Hp):Prop:=∀b o,H b=ac o->H' b=ac o
theorem eA.refl(H:Hp):eA H H:=λ_ _ h=>h
theorem eA.trans{H H1 H2:Hp}(a:eA H H1)(b:eA H1 H2):eA H H2:=λc o h=>b c o (a c o h)
theorem eA.free{H H':Hp}(e:eA H H'){l:ak}(h:H' l=Option.none):H l=Option.none:=by
 cases q:H l with
 |none=>rfl
 |some o=>
  rw[e l o q]at h;cases h
section
variable{prog:cp}{w:bI}{A:cR}{R:Result->aB->Prop}{s:aB}
theorem Q1{elt target iter:bw}{ifs:List bw}{scope:gc}{pos:Pos}{it acc:ai}{env:Env}(I:Nat->aB->Prop)
 (turn:∀n s,I n s->wpAny (model prog w) A (pyNext it) (λr s₁=>match r with
  |none=>R (.ok .next) s₁
  |some v=>wpAny (model prog w) A (letOwnedTupleGo target it v) (λ_ s₂=>wpAny (model prog w) A (assign target env v) (λ_ s₃=>
   wpAny (model prog w) A (forIn ifs true λc r=>if r=true then do let ok <- isTrue c env (eval c env);pure (nz ok)else pure (nz r)) (λok s₄=>
    if ok=true then wpAny (model prog w) A (eval elt env) (λx s₅=>
     wpAny (model prog w) A (call (.builtin "list.append") [acc,x]) (λ_ s₆=>∃m,m<n/\I m s₆) (λ_ _=>False) s₅) (λ_ _=>False) s₄
    else∃m,m<n/\I m s₄) (λ_ _=>False) s₃) (λ_ _=>False) s₂) (λ_ _=>False) s₁) (λ_ _=>False) s)
 (n:Nat) (h:I n s) :
 codeAny (model prog w) A (.compLoop (.ListComp elt [⟨target,iter,ifs,0⟩] scope pos) 0 it acc env) R s:=by
 refine codeAny_loop rfl I (λn s hI=>?_) n h;show wpAny _ A ((compTurn (.ListComp elt [⟨target,iter,ifs,0⟩] scope pos) 0 it acc env).onRaise (λx=>do noteFrame x env;theTreesLotGoes x)) _ _ s;refine wpAny_noted (ku (E:=λ_ _=>False) ?_ (λ_ _ q=>q) λ_ _ q=>q.elim);rw[compTurn_list];refine aY (vW (aY (bg (turn n s hI) λr s₁ h₁=>?_)));cases r with
 |none=>exact bT h₁
 |some v=>
  refine aY (bg h₁ λ_ s₂ h₂=>aY (bg h₂ λ_ s₃ h₃=>aY (bg h₃ λok s₄ h₄=>?_)));cases ok with
  |false=>exact bT ⟨rfl,h₄⟩
  |true=>exact aY (aY (bg h₄ λx s₅ h₅=>aY (bg h₅ λ_ s₆ h₆=>bT (bT ⟨rfl,h₆⟩))))
end
theorem eC.track{P:cp}{w:bI}{H:Hp}{h:bq}{a:ak}{o:HO}(x:eC P w H h)(hn:H a=af)(new:eP P w (upd H a o) h a o):eC P w (upd H a o) h:=λb u e=>by
 by_cases hb:b=a
 ·subst hb;rw[cM]at e;cases e;exact new
 ·rw[bh hb]at e;exact(x b u e).stay (λc v _ q=>q) (λc q=>by rw[bh (eh q hn)];exact q) λc xs q=>by rw[bh (eh q hn)];exact q
theorem lookup_mem{α:Type}:∀{l:List (Str×α)} {x:Str} {k:α},l.lookup x=ac k->(x,k)∈l
 |[],_,_,h=>by simp at h
 |(n,k')::r,x,k,h=>by
  rw[pQ]at h;cases hx:x==n with
  |true=>
   rw[hx]at h;have:x=n:=by simpa using hx
   cases h;subst this;exact c6
  |false=>rw[hx]at h;exact er _ (lookup_mem h)
theorem yc{env:Env}:∀{names:List (Str×pW)} {x:Str} {k:pW},
 (names.map λ(n,k)=>if(k==nA&&env.scope.kind==.function&&env.kindOf n==ac .cell)then(n,Du)else(n,k)).lookup x=ac k ->
 ∃k',names.lookup x=ac k'/\(k=k'\/(k'=.free/\k=.cell))
 |[],_,_,h=>by simp at h
 |(n,k0)::r,x,k,h=>by
  have ih:=@yc env r x k;have h':oz x ((if(k0==nA&&env.scope.kind==.function&&env.kindOf n==ac .cell)=true then(n,Du)else(n,k0)) ::
   (r.map λ(n,k)=>if(k==nA&&env.scope.kind==.function&&env.kindOf n==ac .cell)then(n,Du)else(n,k)))=ac k:=h
  by_cases hc:(k0==nA&&env.scope.kind==.function&&env.kindOf n==ac .cell)=true
  ·rw[bc hc,pQ]at h';rw[pQ];cases hx:x==n with
   |true=>
    rw[hx]at h';cases h';simp only[jA]at hc;exact⟨k0,rfl,.inr ⟨by simpa using hc.1.1,rfl⟩⟩
   |false=>rw[hx]at h';exact ih h'
  ·rw[ba hc,pQ]at h';rw[pQ];cases hx:x==n with
   |true=>rw[hx]at h';cases h';exact⟨_,rfl,.inl rfl⟩
   |false=>rw[hx]at h';exact ih h'
theorem Bx{env:Env}{f:(Str×pW)->List (Str×ak)->Sem (ForInStep (List (Str×ak)))}
 (hf:∀n k r,f (n,k) r=if(k==nA)=true then(cellOf env n >>= λa=>pure (nz ((n,a)::r)))else pure (nz r)) :
 ∀(names:List (Str×pW)) (acc:List (Str×ak)),(∀y∈names,y.2=.free->∃c,env.cells.lookup y.1=ac c)->(∀x c,acc.lookup x=ac c->env.cells.lookup x=ac c) ->
  ∃cl,forIn names acc f=pure cl/\(∀x c,cl.lookup x=ac c->env.cells.lookup x=ac c)/\(∀x,(∃c,acc.lookup x=ac c)->∃c,cl.lookup x=ac c)/\∀x,(x,nA)∈names->∃c,cl.lookup x=ac c
 |[],acc,_,hacc=>⟨acc,rfl,hacc,λ_ h=>h,λ_ h=>by simp at h⟩
 |(n,k)::r,acc,hn,hacc=>by
  have hr:∀y∈r,y.2=.free->∃c,env.cells.lookup y.1=ac c:=λy hy=>hn y (er _ hy);by_cases hk:(k==nA)=true
  ·have hk':k=.free:=by simpa using hk
   obtain⟨c,hc⟩:=hn (n,k) c6 hk';obtain⟨cl,e,h1,h2,h3⟩:=Bx hf r ((n,c)::acc) hr (λx c' h=>by
    rw[pQ]at h;cases hx:x==n with
    | true => rw [hx] at h; cases h; have : x = n := by simpa using hx
              subst this;exact hc
    |false=>rw[hx]at h;exact hacc x c' h)
   refine⟨cl,?_,h1,λx ⟨c',hx⟩=>h2 x ?_,λx hx=>?_⟩
   ·rw[tX,hf,bc hk];have:cellOf env n=pure c:=by unfold cellOf;rw[hc]
    rw[this];exact e
   ·rw[pQ];cases x==n with
    |true=>exact⟨_,rfl⟩
    |false=>exact⟨c',hx⟩
   ·rcases cn.mp hx with e|hx
    ·cases e;exact h2 _ ⟨c,by rw[pQ];simp⟩
    ·exact h3 x hx
  ·obtain⟨cl,e,h1,h2,h3⟩:=Bx hf r acc hr hacc;refine⟨cl,?_,h1,h2,λx hx=>?_⟩
   ·rw[tX,hf,ba hk];exact e
   ·rcases cn.mp hx with e|hx
    ·cases e;exact absurd rfl hk
    ·exact h3 x hx
theorem UL{sc:gc}{env:Env}(h:∀y∈sc.names,y.2=.free->∃c,env.cells.lookup y.1=ac c) :
 ∃cl,closureFor sc env=pure cl/\(∀x c,cl.lookup x=ac c->env.cells.lookup x=ac c)/\∀x,(x,nA)∈sc.names->∃c,cl.lookup x=ac c:=by
 obtain⟨cl,e,h1,_,h3⟩:=Bx (env:=env) (f:=λx r=>match x with|(name,kind)=>if(kind==nA)=true then(cellOf env name >>= λa=>pure (nz ((name,a)::r)))else pure (nz r))
  (λn k r=>rfl) sc.names [] h (λ_ _ h=>by simp at h)
 refine⟨cl,?_,h1,h3⟩;unfold closureFor;refine Eq.trans ?_ e;exact bind_pure _
def pick(ρ:List (Option Nat))(σ:St):St:=ρ.map λo=>o.bind λj=>(σ[j]?).join
def gU(X:Cx)(N':List Str)(sc:gc)(cl:List (Str×ak))(C:ak)(s:aB)(H:Hp)(fp:List ak):Cx:={ X with N:=N',s₀:=s,H₀:=H,env:=compEnvC sc cl C X.env,outer:=X.stack,ex:=fp,fn:=λ_=>false,xe:=λ_ _=>False }
structure dY(X:Cx)(N':List Str)(ρ:List (Option Nat))(sc:gc):Prop where
 kind:sc.kind=.function
 wf:∀y∈sc.names,y.2≠.cell
 names:∀y∈sc.names,y.2=.local->sc.names.lookup y.1=ac .local
 free:∀y∈sc.names,y.2=.free->(X.env.kindOf y.1=ac .cell\/X.env.kindOf y.1=ac .free)
 len:ρ.length=N'.length
 ix:∀(i j:Nat),ρ[i]? = ac (ac j)->∃x,N'[i]? = ac x/\X.N[j]? = ac x/\sc.names.lookup x=ac .free
def uL(X:Cx)(ifs:List bw)(t:TT):Prop:=
 ∀(ah:List (ak×Obj)) (s:aB) (σ:St) (H:Hp) (Q:Bool->Hp->Prop),Inv X ah σ H s->t σ H Q ->
  wpAny (model X.prog X.w) X.A (forIn ifs true λc r=>if r=true then do let ok <- isTrue c X.env (eval c X.env);pure (nz ok)else pure (nz r)) (TP X ah σ Q) X.xe s
def Kz:TT:=λ_ H Q=>Q true H
theorem jv{X:Cx}:uL X [] Kz:=λ_ _ _ H _ I h=>wpAny_tests_nil ⟨H,I,h⟩
theorem iy{X:Cx}{c:bw}{t:TT}(h:PT X c t):uL X [c] t:=λah s σ H Q I hw=>wpAny_tests_one (h ah s σ H Q I hw)
def u5(ρ:List (Option Nat))(g:TG):Prop:=∀v σ H Q,g v σ H Q->g v σ H λσ2 H2=>(σ2.length = σ.length/\∀(i j:Nat),ρ[i]? = ac (ac j)->σ2[i]? = σ[i]?)/\Q σ2 H2
def yx(ρ:List (Option Nat))(g:kO):Prop:=∀v σ H Q,g v σ H Q->g v σ H λσ2 H2=>(σ2.length = σ.length/\∀(i j:Nat),ρ[i]? = ac (ac j)->σ2[i]? = σ[i]?)/\Q σ2 H2
theorem fH{ρ:List (Option Nat)}{i:Nat}(h:ρ[i]? = ac af):u5 ρ (ju i):=λv σ H Q q=>by
 refine⟨⟨ou,λk j e=>?_⟩,q⟩;have:i≠k:=by intro z;subst z;rw[h]at e;cases e
 rw[iE this]
theorem qo{ρ:List (Option Nat)}:yx ρ u7:=λv σ H Q ⟨e,q⟩=>⟨e,⟨rfl,λ_ _ _=>rfl⟩,q⟩
theorem jD{ρ:List (Option Nat)}{i:Nat}{u:kO}(h:ρ[i]? = ac af)(hu:yx ρ u)(mu:∀v σ H Q Q',(∀a b,Q a b->Q' a b)->u v σ H Q->u v σ H Q'):yx ρ (uU (ju i) u):=λvs σ H Q ⟨v,r,e,q⟩=>by
 refine⟨v,r,e,?_⟩;refine mu _ _ _ _ _ (λa b ⟨⟨l,k⟩,z⟩=>⟨⟨l.trans ou,λi' j' e'=>(k i' j' e').trans ?_⟩,z⟩) (hu _ _ _ _ q);have:i≠i':=by intro z;subst z;rw[h]at e';cases e'
 rw[iE this]
theorem jG:∀v σ H Q Q',(∀a b,Q a b->Q' a b)->u7 v σ H Q->u7 v σ H Q':=λ_ _ _ _ _ m ⟨e,q⟩=>⟨e,m _ _ q⟩
theorem qU{i:Nat}{u:kO}(mu:∀v σ H Q Q',(∀a b,Q a b->Q' a b)->u v σ H Q->u v σ H Q'):∀v σ H Q Q',(∀a b,Q a b->Q' a b)->uU (ju i) u v σ H Q->uU (ju i) u v σ H Q':=λ_ _ _ _ _ m ⟨v,r,e,q⟩=>⟨v,r,e,mu _ _ _ _ _ m q⟩
theorem qj{ρ:List (Option Nat)}{K:bb}{n:Nat}{u:kO}(hu:yx ρ u):u5 ρ (Cm K n u):=λv σ H Q ⟨a,xs,e,hq,hl,q⟩=>⟨a,xs,e,hq,hl,hu _ _ _ _ q⟩
def P5(J:It)(ρ:List (Option Nat))(g:TG)(tc:TT)(te:TE)(σ:St)(H1:Hp)(Q:VK):Prop:=∃W:Nat->Nat->List V->Hp->Prop,(∃m,W 0 m [] H1)/\∀i m acc H,W i m acc H ->
 (J.stop i H/\∀p,H p=af->Q (.ref p) (upd H p (.lst acc))) \/
 (J.go i H/\acc.length<sizeLine/\∃N:List V->Hp->Prop,(∀acc' H',N acc' H'->∃m',m'<m/\W (i+1) m' acc' H') /\
  ∀x H',J.yld i H x H'->g x (pick ρ σ) H' λσ2 H2=>tc σ2 H2 λb H3=>if b=true then te σ2 H3 λy H4=>N (acc++[y]) H4 else N acc H3)
def yu(wi:TI)(ρ:List (Option Nat))(g:TG)(tc:TT)(te:TE):TE:=λσ H Q=>wi σ H λJ H1=>P5 J ρ g tc te σ H1 Q
section
variable{X:Cx}{elt tg iter:bw}{ifs:List bw}{sc:gc}{pos cpos:Pos}{N':List Str}{ρ:List (Option Nat)}{wi:TI}{g:TG}{tc:TT}{te:TE}
theorem Ho(hcalm:X.calm=true)(S:dY X N' ρ sc)(hi:PI X tg iter wi)
 (hg:∀cl C s H fp,PG (gU X N' sc cl C s H fp) tg g) (gk:u5 ρ g) (hc:∀cl C s H fp,uL (gU X N' sc cl C s H fp) ifs tc) (he:∀cl C s H fp,PE (gU X N' sc cl C s H fp) elt te)
 (hs:∀x,foldedSetIterable iter X.env x=pure x)
 (use:Option (ai->Sem Unit)) {R:ai->aB->Prop} {ah:List (ak×Obj)} {s:aB} {σ:St} {H:Hp} {Q:VK} (I:Inv X ah σ H s) (h:yu wi ρ g tc te σ H Q)
 (hR:∀s' D C H',Inv X ah σ H' s'->Q (.ref D) H'->(∃m,s'.heap.Ns C m)->gR X ah H' C->compPost (model X.prog X.w) X.A X.xe use R (.ref D) C (.ok .next) s') :
 wpAny (model X.prog X.w) X.A (comprehension (.ListComp elt [⟨tg,iter,ifs,0⟩] sc pos) sc X.env cpos (newList []) false (eval iter X.env) use) R X.xe s:=by
 obtain⟨cl,hcl,hsub,hall⟩:=UL (sc:=sc) (env:=X.env) λy hy hf=>I.ok.has y.1 (S.free y hy hf);refine wpAny_comprehension_free rfl hs hcl S.kind S.names (bg (hi ah s σ H _ I h) λv s1 h1=>bg h1 λitv s2 h2=>?_);obtain⟨it,fp,tn,J,H2,e,I2,T,st2,f2,W,⟨m0,w0⟩,turn⟩:=h2;subst e;refine C9 (items:=[]) ?_;refine wpAny_newFunctionEnv S.wf (by intro y hy;simp at hy) (λh₁ hns hsb=>?_) S.kind;dsimp only at hns hsb ⊢;generalize hH2:s2.heap.push { cls:=.type "list", data:=.seq ([]:List ai).toArray }=Hh at hns hsb ⊢;have hCs:Hh.objs.size=s2.heap.objs.size+1:=by rw[<- hH2,tZ]
 generalize hD:s2.heap.objs.size=D at *;generalize hCC:Hh.objs.size=C at *;have hDC:D≠C:=by omega
 have ltC:∀b:Nat,b<s2.heap.objs.size->b≠C/\b≠D/\b<D:=λb h=>by omega
 have ltD:∀b:Nat,b<D->b≠C/\b≠D:=λb h=>by omega
 have old:∀b o,s2.heap.get? b=ac o->h₁.get? b=ac o:=λb o e=>hsb.extBut b o (ltC b (du e)).1 (cU _ (by rw[<- hH2];exact cU _ e));have newD:h₁.get? D=ac { cls:=.type "list", data:=.seq ([]:List ai).toArray }:=hsb.extBut _ _ hDC (cU _ (by rw[<- hH2,<- hD];exact fc _ rfl));have ltb:∀b∈fp,b<D:=λb hb=>by
  obtain⟨o,e,_⟩:=T.obj _ _ st2 b hb;exact(ltC b (du e)).2.2
 have fD:gR X ah H2 D:=I2.jS (by omega) (I2.hok.fresh (by omega));have fC:gR X ah H2 C:=I2.jS (by omega) (I2.hok.fresh (by omega));have nst:∀b,b≠X.env.locals->b∉X.fs->b∉frs X.stack:=λb h1 h2 hb=>by
  rcases cn.mp (I2.xc b hb)with e|e
  ·exact h1 e
  ·exact h2 e
 have ok':(gU X N' sc cl C s2 H2 fp).Ok:=by
  refine⟨I2.ok.mod,S.kind,I2.ok.glob,I2.ok.blt,(by show s2.heap.objs.size<=C;omega),λx y c e1 e2=>I2.ok.inj x y c (hsub _ _ e1) (hsub _ _ e2),λx hx=>?_,λx c z=>(by cases z),I2.ok.hd,I2.ok.frames,.inl rfl,
   λb hb=>⟨(ltD b (ltb b hb)).1,λx c e=>(f2 b hb).2.2.2.2.1 x c (hsub _ _ e)⟩,I2.bs,(by show X.base.objs.size<=s2.heap.objs.size;exact c8 I2.ok.bsz I2.sz),λb o e hb=>?_,λb hb=>nst b (f2 b hb).2.1 (f2 b hb).2.2.1,I2.stack,I2.AX⟩
  ·have hx':∃k',sc.names.lookup x=ac k'/\(k'=.cell\/k'=.free):=by
    rcases hx with hx|hx
    ·obtain⟨k',e1,e2⟩:=yc (env:=X.env) (names:=sc.names) hx;rcases e2 with e2|⟨e2,_⟩
     ·exact⟨k',e1,.inl e2.symm⟩
     ·exact⟨k',e1,.inr e2⟩
    ·obtain⟨k',e1,e2⟩:=yc (env:=X.env) (names:=sc.names) hx;rcases e2 with e2|⟨e2,_⟩
     ·exact⟨k',e1,.inr e2.symm⟩
     ·exact⟨k',e1,.inr e2⟩
   obtain⟨k',e1,e2⟩:=hx';have hm:=lookup_mem e1;rcases e2 with e2|e2
   ·exact absurd e2 (S.wf _ hm)
   ·subst e2;exact hall x hm
  ·rcases(f2 b hb).2.2.2.1 with z|z
   ·exact I2.ok.we b o e z
   ·exact absurd (jb (du e) (c8 I2.ok.bsz z)) (oA _)
 have Mx:∀p∈X.pn++ah,p.1<D:=λp hp=>(ltC p.1 (du (I2.pin p hp).1)).2.2;have V2:∀x c,cl.lookup x=ac c->c<D:=λx c e=>by
  obtain⟨v,q⟩:=I2.cell x c (hsub _ _ e);exact(ltC c q.lt).2.2
 have I':∀tk,Inv (gU X N' sc cl C s2 H2 fp) (ah++[(D,{ cls:=.type "list", data:=.seq ([]:List ai).toArray })]) (pick ρ σ) H2 { s2 with heap:=h₁,toks:=tk }:=λtk=>by
  refine⟨ok',rfl,I2.bare,Un.kept old,⟨_,hns,λi x v e1 e2 e3=>?_⟩,λx c e=>?_,fC.1,λx c e=>I2.lr x c (hsub _ _ e),λp hp=>?_,I2.hok.kept old,?_⟩
  ·have e2':∃j,ρ[i]? = ac (ac j)/\σ[j]? = ac (ac v):=by
    unfold pick at e2;rw[fm]at e2;cases hr:ρ[i]? with
    |none=>rw[hr]at e2;cases e2
    |some o=>
     rw[hr]at e2;cases o with
     |none=>cases e2
     |some j=>
      refine⟨j,rfl,?_⟩;have e2:(σ[j]?).join=ac v:=iS e2;cases hq:σ[j]? with
      |none=>rw[hq]at e2;cases e2
      | some o' => rw [hq] at e2; have e2 : o' = ac v := e2
                   rw[e2]
   obtain⟨j,hj,hv⟩:=e2';obtain⟨y,ey,eN,ef⟩:=S.ix i j hj;have e1':N'[i]? = ac x:=e1;rw[ey]at e1';cases e1';obtain⟨m,hn,hl⟩:=I2.loc;have hm:=lookup_mem ef;have kX:=S.free _ hm rfl;obtain⟨u,ru,lk⟩:=hl j x v eN hv (by rcases kX with k|k;exact .inr (.inl k);exact .inr (.inr k));refine⟨u,ru,.inr ⟨?_,?_⟩⟩
   ·show(relabel sc X.env).names.lookup x=ac .cell\/(relabel sc X.env).names.lookup x=ac .free;rcases e3 with e3|e3|e3
    ·obtain⟨k',q1,q2⟩:=yc (env:=X.env) (names:=sc.names) e3;rw[ef]at q1;cases q1;rcases q2 with q2|⟨_,q2⟩<;>cases q2
    ·exact .inl e3
    ·exact .inr e3
   ·obtain⟨c,hc'⟩:=hall x hm;refine⟨c,hc',?_⟩;rcases lk with ⟨k,_⟩|⟨_,c',ec,z⟩
    ·rcases kX with k'|k'<;>(rw[k]at k';cases k')
    ·rw[hsub _ _ hc']at ec;cases ec;obtain⟨o,ho,hd⟩:=z;exact⟨o,old _ _ ho,hd⟩
  ·obtain⟨v,o,ho,hd⟩:=I2.cell x c (hsub _ _ e);exact⟨v,o,old _ _ ho,hd⟩
  ·have hp':p∈X.pn++ah\/p=(D,{ cls:=.type "list", data:=.seq ([]:List ai).toArray }):=by
    rcases eg.mp hp with z|z
    ·exact .inl (jU _ z)
    ·rcases eg.mp z with z|z
     ·exact .inl (gW _ z)
     ·exact .inr (by simpa using z)
   rcases hp' with z|z
   ·obtain⟨q1,q2,q3,q4,q5⟩:=I2.pin p z;exact⟨old _ _ q1,q2,(ltD p.1 (Mx p z)).1,nst _ q3 q4,q5⟩
   ·subst z;exact⟨newD,fD.1,hDC,nst _ fD.2.1 fD.2.2.1,λv z=>by cases z⟩
  ·show(pick ρ σ).length=N'.length;unfold pick;rw[aU];exact S.len
 have stat:∀{H':Hp} {o:Obj},(∀b∈fp,H' b=af)->∀b∈fp,gR (gU X N' sc cl C s2 H2 fp) (ah++[(D,o)]) H' b:=λ{H' o} hn b hb=>by
  refine⟨hn b hb,(ltD b (ltb b hb)).1,nst b (f2 b hb).2.1 (f2 b hb).2.2.1,.inl hb,λx c e=>(f2 b hb).2.2.2.2.1 x c (hsub _ _ e),λp hp=>?_⟩;rcases eg.mp hp with z|z
  ·exact(f2 b hb).2.2.2.2.2 p (jU _ z)
  ·rcases eg.mp z with z|z
   ·exact(f2 b hb).2.2.2.2.2 p (gW _ z)
   ·have e:p=(D,o):=by simpa using z
    subst e;exact fv (ltD b (ltb b hb)).2
 have loop:∀tk,codeAny (model X.prog X.w) X.A (.compLoop (.ListComp elt [⟨tg,iter,ifs,0⟩] sc pos) 0 (.ref it) (.ref D) (compEnvC sc cl C X.env)) (compPost (model X.prog X.w) X.A X.xe use R (.ref D) C) { s2 with heap:=h₁,toks:=tk }:=λtk=>by
  refine Q1 (λn s'=>∃(i:Nat) (acc:List V) (au:List ai) (k:Nat) (H':Hp),Inv (gU X N' sc cl C s2 H2 fp) (ah++[(D,{ cls:=.type "list", data:=.seq au.toArray k })]) (pick ρ σ) H' s'/\Vals acc au/\acc.length<=sizeLine/\tn i s'.heap/\(∀b∈fp,H' b=af)/\W i n acc H')
   ?_ m0 ⟨0,[],[],0,H2,I' tk,.nil,gZ _,T.keep _ _ _ st2 λb hb o e=>old b o e,λb hb=>(f2 b hb).1,w0⟩
  rintro n s3 ⟨i,acc,au,k,H3,I3,va,hz0,st3,fr3,w3⟩;rcases turn i n acc H3 w3 with ⟨stop,qn⟩|⟨go,hz,Nn,hN,step⟩
  ·refine bg (T.done (gU X N' sc cl C s2 H2 fp) rfl rfl rfl hcalm i _ s3 _ H3 (λ_ _=>False) I3 (stat fr3) st3 stop) λr s4 ⟨hr,I4⟩=>?_;subst hr;obtain⟨p1,p2,p3,p4,p5⟩:=I4.pin (D,{ cls:=.type "list",data:=.seq au.toArray k }) (by simp);have p1:s4.heap.get? D=ac { cls:=.type "list", data:=.seq au.toArray k }:=p1;have p2:H3 D=af:=p2;have B:=I4.base;have upn:∀b o,H3 b=ac o->upd H3 D (.lst acc) b=ac o:=λb o e=>by rw[bh (eh e p2)];exact e
   have IX:Inv X ah σ (upd H3 D (.lst acc)) s4:=by
    refine I2.call' (ch:=fp) I4.os ⟨λb o q1 q2 q3 q4=>B.keep b o q1 q2 q3 q4,λb o q1 q2 q3 q4=>B.slot b o q1 q2 q3 q4,λb o q1 q2 q3=>?_,λb o q1 q2=>B.there b o q1 q2,
     λb xs q=>upn _ _ (B.tups b xs q),λb o u q=>upn _ _ (B.nE b o u q),λb w ps q=>?_⟩ (I4.hok.track p2 ⟨hz0,au,k,va,p1⟩) I4.bare λb hb=>⟨(f2 b hb).2.2.2.1,(f2 b hb).2.1,(f2 b hb).2.2.2.2.1,(f2 b hb).2.2.2.2.2⟩
    ·rw[bh (ltC b (du q1)).2.1];exact B.free b o q1 q2 q3
    ·obtain⟨more,q'⟩:=B.nF b w ps q;exact⟨more,upn _ _ q'⟩
   obtain⟨m,hm,_⟩:=I4.loc;refine hR s4 D C _ IX (qn D p2) ⟨m,hm⟩ (I2.jS (by omega) ?_);rw[bh (fv hDC)];exact I4.free
  ·refine bg (T.item (gU X N' sc cl C s2 H2 fp) rfl rfl rfl hcalm i _ s3 _ H3 (λ_ _=>False) I3 (stat fr3) st3 go) λr s4 ⟨u,hr,h4⟩=>?_;subst hr;refine bg h4 λ_ s5 ⟨x,H5,I5,r5,y5,st5,fr5⟩=>?_;have I5':=I5.pinned (stat fr5) (T.obj _ _ st5);refine bg (hg cl C s2 H2 fp _ s5 _ H5 x u _ I5' r5 (gk _ _ _ _ (step x H5 y5))) λ_ s6 ⟨σ6,H6,I6,⟨l6,k6⟩,q6⟩=>?_;refine bg (hc cl C s2 H2 fp _ s6 σ6 H6 _ I6 q6) λok s7 ⟨H7,I7,q7⟩=>?_;have wk:∀{uc:List (ak×Obj)} {H':Hp} {s':aB},Inv (gU X N' sc cl C s2 H2 fp) uc σ6 H' s'->Inv (gU X N' sc cl C s2 H2 fp) uc (pick ρ σ) H' s':=λ{uc H' s'} J'=>
    J'.weak l6.symm λj v e=>by
     have:∃j',ρ[j]? = ac (ac j'):=by
      unfold pick at e;rw[fm]at e;cases hr:ρ[j]? with
      |none=>rw[hr]at e;cases e
      |some o=>
       rw[hr]at e;cases o with
       |none=>cases e
       |some j'=>exact⟨j',rfl⟩
     obtain⟨j',hj'⟩:=this;rw[k6 j j' hj'];exact e
   cases ok with
   |false=>
    have q7:Nn acc H7:=by simpa using q7
    rw[ba dR];obtain⟨m',hm,w7⟩:=hN acc H7 q7;refine⟨m',hm,i+1,acc,au,k,H7,wk I7.sW,va,hz0,T.keep _ _ _ st5 λb hb o e=>(I7.pin (b,o) (gW _ (gW _ (sG hb e)))).1,λb hb=>?_,w7⟩;obtain⟨o,e,d⟩:=T.obj _ _ st5 b hb;exact(I7.pin (b,o) (gW _ (gW _ (sG hb e)))).2.1
   |true=>
    have q7:te σ6 H7 λy H4=>Nn (acc++[y]) H4:=by simpa using q7
    rw[bc rfl];refine bg (he cl C s2 H2 fp _ s7 σ6 H7 _ I7 q7) λxv s8 ⟨y,H8,I8,r8,n8⟩=>?_;obtain⟨p1,p2,p3,p4,p5⟩:=I8.pin (D,{ cls:=.type "list",data:=.seq au.toArray k }) (by simp);have p1:s8.heap.get? D=ac { cls:=.type "list",data:=.seq au.toArray k }:=p1;have p2:H8 D=af:=p2;refine wpAny_list_append_plain ⟨k,p1⟩ (λh' pl sb=>?_) (by rw[c7,<- va.length];omega);obtain⟨k',pl⟩:=pl;obtain⟨m',hm,w8⟩:=hN _ _ n8;have Ia:Inv (gU X N' sc cl C s2 H2 fp) ah σ6 H8 s8:=I8.sW.sW;have Ib:Inv (gU X N' sc cl C s2 H2 fp) ah σ6 H8 { s8 with heap:=h' }:=Ia.turned (t':=s8.toks) (it:=D) (λb o hb e=>(sb.2 b hb).trans e) p2 hDC (.inr (by show s2.heap.objs.size<=D;omega)) (λx c e=>(ltD c (V2 x c e)).2) λp hp=>(ltD p.1 (Mx p hp)).2;have pl':h'.get? D=ac { cls:=.type "list", data:=.seq (au++[xv]).toArray k' }:=by rw[pl];simp
    have Ic:Inv (gU X N' sc cl C s2 H2 fp) (ah++[(D,{ cls:=.type "list", data:=.seq (au++[xv]).toArray k' })]) σ6 H8 { s8 with heap:=h' }:=Ib.Cn λp hp=>by
     rcases eg.mp hp with z|z
     ·exact Ib.pin p (gW _ z)
     ·have e:p=(D,{ cls:=.type "list", data:=.seq (au++[xv]).toArray k' }):=by simpa using z
      subst e;exact⟨pl',p2,p3,p4,λv z=>by cases z⟩
    refine⟨m',hm,i+1,acc++[y],au++[xv],k',H8,wk Ic,va.append (.cons r8 .nil),(by rw[dC,oq];omega),T.keep _ _ _ st5 λb hb o e=>?_,λb hb=>?_,w8⟩
    ·exact(sb.2 b (ltD b (ltb b hb)).2).trans (I8.pin (b,o) (gW _ (gW _ (sG hb e)))).1
    ·obtain⟨o,e,d⟩:=T.obj _ _ st5 b hb;exact(I8.pin (b,o) (gW _ (gW _ (sG hb e)))).2.1
 refine codeAny_compStart_list (loop _) (T.self X.A 0 _ _ _ (T.keep _ _ _ st2 λb hb o e=>old b o e) (loop _))
theorem fN(hcalm:X.calm=true)(S:dY X N' ρ sc)(hi:PI X tg iter wi)
 (hg:∀cl C s H fp,PG (gU X N' sc cl C s H fp) tg g) (gk:u5 ρ g) (hc:∀cl C s H fp,uL (gU X N' sc cl C s H fp) ifs tc) (he:∀cl C s H fp,PE (gU X N' sc cl C s H fp) elt te)
 (hs:∀x,foldedSetIterable iter X.env x=pure x:=by intro _;rfl) :
 PE X (.ListComp elt [⟨tg,iter,ifs,0⟩] sc pos) (yu wi ρ g tc te):=by
 intro ah s σ H Q I h;rw[eval_ListComp];refine Ho hcalm S hi hg gk hc he hs af I h λs' D C H' I' q ⟨m,hm⟩ f=>⟨m,hm,λh' sb=>?_⟩;exact⟨.ref D,H',I'.turned (t':=s'.toks) (it:=C) (λb o hb e=>(sb.2 b hb).trans e) f.1 f.2.1 f.2.2.2.1 f.2.2.2.2.1 f.2.2.2.2.2,rfl,q⟩
theorem pf{i:Nat}{x:Str}{px:Pos}(hcalm:X.calm=true)(hN:X.N.Nodup)(hix:X.N[i]? = ac x)(hx:Loc X.env.scope x)(S:dY X N' ρ sc)(hi:PI X tg iter wi)
 (hg:∀cl C s H fp,PG (gU X N' sc cl C s H fp) tg g) (gk:u5 ρ g) (hc:∀cl C s H fp,uL (gU X N' sc cl C s H fp) ifs tc) (he:∀cl C s H fp,PE (gU X N' sc cl C s H fp) elt te)
 (hsw:swapsWith (.ListComp elt [⟨tg,iter,ifs,0⟩] sc pos) (ac (.Name x px)) cpos.line X.env=pure true:=by rfl)
 (hs:∀x,foldedSetIterable iter X.env x=pure x:=by intro _;rfl)
 (hf:X.fn x=true\/X.env.scope.names.lookup x=ac .local:=by first|exact .inl rfl|exact .inr rfl|assumption) :
 PS X (.Assign [.Name x px] (.ListComp elt [⟨tg,iter,ifs,0⟩] sc pos) cpos) (mT (yu wi ρ g tc te) (ju i)):=by
 intro ah s σ H D I h;rw[exec_Assign_Name_used _ _ _ _ hsw];refine aY (vW (aY ?_));show wpAny _ X.A (do let _ <- comprehension (.ListComp elt [⟨tg,iter,ifs,0⟩] sc pos) sc X.env _ (newList []) false (eval iter X.env) (ac (assign (.Name x px) X.env))) _ _ s;refine aY (bg (Ho (Q:=λy H1=>D.nx (σ.set i (ac y)) H1) (R:=λ_ s'=>SP X ah D .next s') hcalm S hi hg gk hc he hs (ac (assign (.Name x px) X.env)) I h λs' Da C H' I' q ⟨m,hm⟩ f=>?_) λ_ s' hq=>bT (bT hq));show wpAny _ X.A (assign (.Name x px) X.env (.ref Da)) _ _ _;refine wpAny_assign_Name (Gf I' hN hix hx (v:=.ref Da) rfl (λs2 I2 ⟨a,sb,ha⟩=>⟨m,hm.sameBut sb ?_,λh' sb2=>?_⟩) hf)
 ·rcases ha with e|e
  ·subst e;exact f.2.1
  ·exactλz=>f.2.2.2.2.1 x a e z.symm
 ·exact⟨_,H',I2.turned (t':=s2.toks) (it:=C) (λb o hb e=>(sb2.2 b hb).trans e) f.1 f.2.1 f.2.2.2.1 f.2.2.2.2.1 f.2.2.2.2.2,q⟩
end
structure It.Of(J:It)(Ok:Hp->Prop)(xs:List V):Prop where
 go:∀i H,Ok H->i<xs.length->J.go i H
 yld:∀i H x H',Ok H->i<xs.length->J.yld i H x H'->H'=H/\xs[i]? = ac x
 stop:∀H,Ok H->J.stop xs.length H
theorem KA{K:bb}{a:ak}{xs:List V}:(vv K a).Of (λH=>fK K H a xs) xs:=⟨λi H h hi=>⟨xs,xs[i],h,by simp[hi]⟩,λi H x H' h _ y=>⟨y.1,y.2 xs h⟩,λH h=>⟨xs,h,bJ _⟩⟩
theorem F0{K:bb}{a:ak}{xs:List V}:(vC K a).Of (λH=>fQ K H a xs) xs:=⟨λi H h hi=>⟨xs,xs[i],h,by simp[hi]⟩,λi H x H' h _ y=>⟨y.1,y.2 xs h⟩,λH h=>⟨xs,h,bJ _⟩⟩
def qx(lo:Int)(n:Nat):List V:=(b0 n).map λi=>V.int (lo+(i:Nat))
theorem B6(lo:Int)(n:Nat):(qx lo n).length=n:=by simp[qx]
theorem VC{lo:Int}{n i:Nat}(h:i<n):(qx lo n)[i]? = ac (.int (lo+i)):=by simp[qx,h]
theorem Oo{lo:Int}{n:Nat}:(oZ lo n).Of (λ_=>True) (qx lo n):=⟨λi H _ hi=>by rw[B6]at hi;exact hi,λi H x H' _ hi y=>⟨y.1,by rw[B6]at hi;rw[y.2];exact VC hi⟩,λH _=>by rw[B6];exact bJ _⟩
def sgn(c:Nat):V:=.str ⟨#[c]⟩
def qJ(x:Str):List V:=x.cps.toList.map sgn
theorem JR(x:Str):(qJ x).length=x.length:=by simp[qJ,rG]
def qr(x:Str):It:=⟨λi _=>i<x.length,λi H y H'=>H'=H/\(qJ x)[i]? = ac y,λi _=>i=x.length⟩
theorem EX{x:Str}:(qr x).Of (λ_=>True) (qJ x):=⟨λi H _ hi=>by rw[JR]at hi;exact hi,λi H y H' _ _ h=>h,λH _=>JR x⟩
theorem F2{P:cp}{w:bI}{K:bb}{tg:bw}(it:ak)(x:Str)(t:Tok)(ty:String)
 (hty:["enumerate","zip","dict_itemiterator","dict_reverseitemiterator","odict_iterator","itertools.zip_longest","itertools.pairwise"].contains ty=false)
 (W:∀A':cR,A'.handled=af->Walks P w A' it [it] [it] x.cps.size (SignAt x) (λi h=>h.IsStrIter it ty x t i))
 (sf:∀(A:cR) (i:Nat) (s:aB) (Q:ai->aB->Prop) (E:ai->aB->Prop),s.heap.IsStrIter it ty x t i->Q (.ref it) s->wpAny (model P w) A (pyIter (.ref it)) Q E s) :
 Turn P w K tg (qr x) [it] it (λi h=>h.IsStrIter it ty x t i) where
 mem:=by simp
 obj:=λi h st b hb=>by
  have e:b=it:=by simpa using hb
  subst e;obtain⟨o,e,c,d⟩:=st;exact⟨o,e,λv z=>by rw[d]at z;cases z⟩
 keep:=λi h h' st k=>let ⟨o,ho,r⟩:=st;⟨o,k it (by simp) o ho,r⟩
 item:=by intro X hP hw hK hc i ah s σ H E I hf st hg;subst hP hw hK;obtain⟨f0,f1,f2,f3,f4,f5⟩:=hf it (by simp);refine(W X.A (I.ok.hd hc)).item i s _ _ hg st λv h' tk hv st' kk=>?_;obtain⟨c,u,e,rfl⟩:=hv;have I1:Inv X ah σ H { s with heap:=h',toks:=tk }:=I.turned (λb o hb e=>kk b o (by simpa using hb) e) f0 f1 f3 f4 f5;obtain⟨o,e',c',d'⟩:=id st';refine⟨_,rfl,xX (s:={ s with heap:=h',toks:=tk }) e' c' d' hty ⟨sgn c,H,I1,⟨u,rfl⟩,⟨rfl,?_⟩,st',λb hb=>(hf b hb).1⟩⟩;unfold qJ;rw[fm,Dw,e];rfl
 done:=by intro X hP hw hK hc i ah s σ H E I hf st hg;subst hP hw hK;obtain⟨f0,f1,f2,f3,f4,f5⟩:=hf it (by simp);have hg:i=x.length:=hg;subst hg;exact(W X.A (I.ok.hd hc)).done s _ _ st λh' tk kk=>⟨rfl,I.turned (λb o hb e=>kk b o (by simpa using hb) e) f0 f1 f3 f4 f5⟩
 self:=sf
section
variable{X:Cx}{tg:bw}
def JT(tl:TE):TI:=λσ H R=>tl σ H λx H1=>∃z,x=.str z/\R (qr z) H1
theorem RA{l:bw}{tl:TE}(hl:PE X l tl):PI X tg l (JT tl):=by
 intro ah s σ H R I h;refine bg (hl ah s σ H _ I h) λv s1 ⟨x,H1,I1,r1,q1⟩=>?_;obtain⟨z,e,q⟩:=q1;subst e;obtain⟨t,rfl⟩:=r1;cases ha:z.cps.all (· < 128)
 ·refine wpAny_pyIter_wide ha ?_;refine⟨s1.heap.objs.size,[s1.heap.objs.size],_,qr z,H1,rfl,I1.kept (t':=s1.toks) λb o e=>cU _ e,F2 _ z t "str_iterator" (by decide) (λA' hA=>Walks.strWide hA _ z t) (λ_ _ _ _ _ st hQ=>wpAny_pyIter_striter_wide st hQ),⟨_,fc _ rfl,rfl,rfl⟩,λb hb=>?_,q⟩;have e:b=s1.heap.objs.size:=by simpa using hb
  subst e;exact I1.jS (bJ _) (I1.hok.fresh (bJ _))
 ·refine wpAny_pyIter_ascii ha ?_;refine⟨s1.heap.objs.size,[s1.heap.objs.size],_,qr z,H1,rfl,I1.kept (t':=s1.toks) λb o e=>cU _ e,F2 _ z t "str_ascii_iterator" (by decide) (λA' hA=>Walks.strAscii hA _ z t) (λ_ _ _ _ _ st hQ=>wpAny_pyIter_striter_ascii st hQ),⟨_,fc _ rfl,rfl,rfl⟩,λb hb=>?_,q⟩;have e:b=s1.heap.objs.size:=by simpa using hb
  subst e;exact I1.jS (bJ _) (I1.hok.fresh (bJ _))
theorem Iw:∀{bs:List Bool} {us:List ai},Vals (bs.map V.bl) us->us=bs.map oB
 |[],_,.nil=>rfl
 |b::r,_,.cons q t=>by rw[Iw t,show _=oB b from q];rfl
theorem range_all(bs:List Bool):(b0 bs.length).all (λi=>bs.getD i false)=bs.all id:=by
 induction bs with
 |nil=>rfl
 |cons b r ih=>
  rw[dH,CH,yJ,yL,yJ]
  congr 1
def KO(K:bb)(f:List Bool->Bool):List V->Hp->VK->Prop:=λxs H Q=>∃a bs,xs=[.ref a]/\fK K H a (bs.map V.bl)/\Q (.bl (f bs)) H
theorem Sh{P:cp}{w:bI}{A:cR}(bs:List Bool):TruthOf P w A (λi v=>(bs.map oB).toArray[i]? = ac v) (λi=>bs.getD i false):=by
 intro i v s Q E hv hq;have:v=.bool (bs.getD i false):=by
  rw[List.getElem?_toArray,fm]at hv;cases hb:bs[i]? with
  |none=>rw[hb]at hv;cases hv
  |some b=>
   rw[hb]at hv;rw[fk,hb];exact(iS hv).symm
 subst this;exact lg hq
theorem IW(hc:X.calm=true):gu X (.builtin "all") (KO X.K (·.all id)):=by
 intro ah s σ H xs us Q I r h;obtain⟨a,bs,rfl,hq,q⟩:=h;obtain⟨u,rfl,ru⟩:=vals1 r;cases ru;obtain⟨au,rv,p,hz⟩:=I.list hq;have e:=Iw rv;subst e;have hlt:a<s.heap.objs.size:=by obtain⟨o,n,e,_⟩:=p;exact du e
 refine call_all_walk (yP p.isList ⟨_,_,_,_,_,_,λi=>bs.getD i false,rfl,Walks.list (A:=X.A.in1) (I.ok.hd hc) _ a (fT hlt) (bs.map oB).toArray,⟨⟨_,fc _ rfl,rfl,rfl⟩,(p.keeps λb o e=>cU _ e).isList⟩,Sh bs,λh' tk kk=>?_⟩);refine⟨.bl (bs.all id),H,I.kept λb o e=>kk b o (by simpa using fT (du e)) (cU _ e),?_,q⟩;show oB _=oB _;rw[<- range_all];simp
theorem VO:dq X (compareOp .Gt) (λx y H Q=>∃i j,x=.str i/\y=.str j/\Q (.bl (decide (j.cps.toList<i.cps.toList))) H):=by intro ah s σ H x y v u Q I rx ry h;obtain⟨i,j,rfl,rfl,q⟩:=h;obtain⟨t,rfl⟩:=rx;obtain⟨t',rfl⟩:=ry;exact PySem.P.gt_str (wY I q rfl)
def sA(x:Str)(lo hi:Option Int):Str:=⟨((x.cps.toList.drop (HT.eV x.length 0 lo)).take (HT.eV x.length x.length hi-HT.eV x.length 0 lo)).toArray⟩
theorem PN(lo hi:Option Int)(n:Nat):Mp lo hi 1 n=(b0 (HT.eV n n hi-HT.eV n 0 lo)).map (λk=>HT.eV n 0 lo+k):=by
 have h1:∀(v:Option Int) (d:Nat),d<=n->(match v with|none=>(d:Int)|some i=>max 0 (min (if i<0 then i+(n:Int)else i) (n:Int)))=((HT.eV n d v:Nat):Int):=by
  intro v d hd;cases v with
  |none=>rfl
  |some i=>
   show max 0 (min (if i<0 then i+(n:Int)else i) (n:Int))=(((if i<0 then(i+(n:Int)).toNat else min i.toNat n):Nat):Int);by_cases hv:i<0
   ·simp only[bc hv];omega
   ·simp only[ba hv];omega
 have fin:∀(p q:Int) (a b:Nat),p=(a:Int)->q=(b:Int)->sliceRange p q 1=(b0 (b-a)).map (λk=>a+k):=by
  intro p q a b e1 e2;subst e1 e2;unfold sliceRange;simp only[show((1:Int)>0)=True from by simp,i9];by_cases hlt:(a:Int)<b
  ·have e3:(((b:Int)-a+1-1)/1).toNat=b-a:=by first|omega|(simp;done)|(simp;omega)
   simp only[hlt,i9,e3];refine tR λk _=>?_;omega
  ·have:b-a=0:=by omega
   simp[hlt,this]
 unfold Mp;refine fin _ _ _ _ ?_ ?_
 ·have:=h1 lo 0 (gZ _);cases lo with
  |none=>exact this
  |some i=>exact this
 ·have:=h1 hi n (bJ _);cases hi with
  |none=>exact this
  |some i=>exact this
theorem VF(x:Str)(lo hi:Option Int):Txt.slice x lo hi=sA x lo hi:=by
 have hle:HT.eV x.length x.length hi<=x.length:=HT.IQ _ _ (bJ _) hi;have ha:HT.eV x.length 0 lo<=x.length:=HT.IQ _ _ (gZ _) lo;unfold Txt.slice sA;rw[PN];generalize HT.eV x.length 0 lo=a at *;generalize HT.eV x.length x.length hi=b at *;have hp:((b0 (b-a)).map (λk=>a+k)).filterMap (λi=>x.cps[i]?)=(x.cps.toList.drop a).take (b-a):=by have h:=StrLaws.picks x.cps.toList (b-a) a (by simp[rG]at hle ha ⊢;omega);simpa using h
 split
 ·rename_i h;simp only[aU,tU,kK,Bool.true_and,mO]at h;have e:a=0\/x.length=0:=by omega
  have e2:(x.cps.toList.drop a).take (b-a)=x.cps.toList:=by
   rw[h];rcases e with e|e
   ·subst e;rw[vQ];exact tO (by simp[rG])
   ·have:x.cps.toList=[]:=Ll (by simpa [rG]using e);rw[this];simp
  rw[e2]
 ·rw[hp]
def HL:V->Option Int->Option Int->Hp->VK->Prop:=λx lo hi H Q=>∃z,x=.str z/\z.length<=sizeLine/\Q (.str (sA z lo hi)) H
theorem Tz:mr X HL:=by
 intro ah s σ H x v vl vu lo hi sl Q I rx hs pl pu h;obtain⟨z,rfl,hz,q⟩:=h;obtain⟨t,rfl⟩:=rx;have fin:∀(l u:Option (Int×Tok)),vl=partValue l->vu=partValue u->lo=l.map (·.1)->hi=u.map (·.1) ->
  wpAny (model X.prog X.w) X.A (getItem (.str z t) (.ref sl)) (EP X ah σ Q) X.xe s:=by
  intro l u e1 e2 e3 e4;subst e1 e2 e3 e4;refine wpAny_getItem_str_slice (l:=l) (u:=u) (st:=af) hs rfl ?_;refine post_val_or_str ⟨c8 (Txt.slice_le z _ _) hz,λt' k=>?_⟩;refine⟨.str (sA z _ _),H,I.tok k,⟨t',?_⟩,q⟩;show lj (Txt.slice z _ _) t'=_;rw[VF]
 refine⟨"str", _,F.slot_str_getitem.lookup,typeIs_str _ _ _,?_⟩;cases pl with
 | none=>cases pu with
  |none=>exact fin af af rfl rfl rfl rfl
  |int j tj=>exact fin af (ac (j,tj)) rfl rfl rfl rfl
 | int i ti=>cases pu with
  |none=>exact fin (ac (i,ti)) af rfl rfl rfl rfl
  |int j tj=>exact fin (ac (i,ti)) (ac (j,tj)) rfl rfl rfl rfl
def HJ(neg:Bool):R2:=λx y H Q=>∃c z,x=sgn c/\y=.str z/\Q (.bl (if neg then !decide (c∈z.cps.toList)else decide (c∈z.cps.toList))) H
theorem Qm:dq X (compareOp .In) (HJ false):=by intro ah s σ H x y v u Q I rx ry h;obtain⟨c,z,rfl,rfl,q⟩:=h;refine QT ah s σ H _ _ v u Q I rx ry ⟨_,z,rfl,rfl,?_⟩;rw[StrLaws.found_one];exact q
def HE(K:bb):List V->Hp->VK->Prop:=λxs H Q=>∃x t T b,xs=[x,.ty T]/\jT K H x t/\C0 K t (.type T)=ac b/\Q (.bl b) H
theorem qA:gu X (.builtin "isinstance") (HE X.K):=by intro ah s σ H xs us Q I r h;obtain⟨x,t,T,b,rfl,ty,e,q⟩:=h;obtain⟨u,w',rfl,rx,rt⟩:=vals2 r;cases(show w'=pZ T from rt);exact TJ I rx ty e λtk=>⟨.bl b,H,I.tok tk,rfl,q⟩
end
def Ex(osc:gc)(N N':List Str)(ρ:List (Option Nat))(sc:gc):Bool:=
 sc.names.all (λy=>!(decide (y.2=.cell)))&&sc.names.all (λy=>!(decide (y.2=.local))||decide (sc.names.lookup y.1=ac .local)) &&
 sc.names.all (λy=>!(decide (y.2=.free))||(decide (osc.names.lookup y.1=ac .cell)||decide (osc.names.lookup y.1=ac .free))) &&
 decide (ρ.length=N'.length)&&(b0 ρ.length).all λi=>match ρ[i]? with
  |some (ac j)=>(match N'[i]? with|some x=>decide (N[j]? = ac x)&&decide (sc.names.lookup x=ac .free)|none=>false)
  |_=>true
theorem dY.of{X:Cx}{N':List Str}{ρ:List (Option Nat)}{sc:gc}(hk:sc.kind=.function)(h:Ex X.env.scope X.N N' ρ sc=true):dY X N' ρ sc:=by
 unfold Ex at h;simp only[jA,rl,yY,rF,i7,qp]at h;obtain⟨⟨⟨⟨h1,h2⟩,h3⟩,h4⟩,h5⟩:=h;refine⟨hk,λy hy=>h1 y hy,λy hy e=>(h2 y hy).resolve_left (λz=>z e),λy hy e=>(h3 y hy).resolve_left (λz=>z e),h4,λi j e=>?_⟩;have hi:i < ρ.length:=(eW.mp e).1;have q:=h5 i (fb.mpr hi);rw[e]at q;cases hN:N'[i]? with
 |none=>rw[hN]at q;cases q
 |some x=>
  rw[hN]at q;simp only[jA,i7]at q;exact⟨x,rfl,q.1,q.2⟩
structure bG(P:cp)(w:bI)(K:bb)(mg:Str->Option ai)(base:bq)(CX:jt)(k:Nat)(x:Str)(ps:List Str)(sp:Sp):Prop where
 ex:∃(f:ak) (fd:bU),mg x=ac (.ref f)/\pU K (.ref f)=true/\Binds K fd ps []/\bN P w K mg base CX k f fd ps sp
theorem Px{X:Cx}{CX:jt}{k:Nat}{x:Str}{ps:List Str}{sp:Sp}{E:XK}{e:bw}{es:List bw}{t:TA}{p pos:Pos}(C:bG X.prog X.w X.K X.mg X.base CX k x ps sp)(hr:e5 k X.A)(hg:Gl X x)(hx:xO CX X E)
 (ha:PA X (e::es) t) (hdb:(x==("__debug__" : Str))=false:=by decide) (he:starEach (e::es) X.env=(false,eval e X.env)::starEach es X.env:=by rfl) (hpl:(backTo pos (starEach es X.env)).any (·.1)=false:=by rfl) :
 PE X (.Call (.Name x p) (e::es) [] pos) (oI sp [] E t):=by
 obtain⟨f,fd,hm,hk,hb,F⟩:=C.ex;exact NL F hr hg hm hk hb .nil hx ha hdb he hpl
theorem qS{X:Cx}{x:Str}{T:String}{pos:Pos}(hg:Gl X x)(hm:X.mg x=af)(hv:bootBuiltins x=ac (.type T))(hn:x ≠ "__name__" := by decide)(hd:(x==("__debug__" : Str))=false:=by decide):PE X (.Name x pos) (tC (.ty T)):=Ov hg hm hv rfl hn hd
structure cE(K:bb)(mg:Str->Option ai)(x:Str)(st:bE)(ps:List Str):Prop where
 ex:∃(f:ak) (fd:bU),mg x=ac (.ref f)/\pU K (.ref f)=true/\Binds K fd ps []/\(∀(s:aB) (us:List ai),us.length=ps.length->pY s fd ⟨us,[]⟩ (ps.zip us))/\cy K x x st f fd
theorem vB{K:bb}{h:bq}{mg:Str->Option ai}{x:Str}{st:bE}{ps:List Str}{f:ak}{oc:ai}{od an:Option ak}{osl:Array (Option ai)}{kV doc pm cdv ct:ai}(X:K.In h)(G:h.Ns mainGlobals mg)
 (hb:∀(kV doc pm:ai) (an:Option ak) (cdv ct:ai) (us:List ai),us.length=ps.length->bindArgs (l8 x x (oh st) (kj st) (bH st) .none kV doc pm an cdv ct) ⟨us,[]⟩=pure (ps.zip us))
 (a:gA K mainGlobals x=ac (ac (.ref f))) (l:K.lookup f=ac ⟨oc,od,.func (l8 x x (oh st) (kj st) (bH st) .none kV doc pm an cdv ct),osl⟩)
 (c:tY K cdv x=true) (k:pU K (.ref f)=true):cE K mg x st ps:=by
 have F:=IY (st:=st) l c k;exact⟨f,_,vU X G a,k,F.binds hb,λs us hl=>.of_eq (hb kV doc pm an cdv ct us hl),F⟩
theorem cE.cal{P:cp}{w:bI}{K:bb}{mg:Str->Option ai}{base:bq}{CX:jt}{k:Nat}{x:Str}{st:bE}{ps:List Str}{sp:Sp}(F:cE K mg x st ps)(h:∀f fd,cy K x x st f fd->bN P w K mg base CX k f fd ps sp) :
 bG P w K mg base CX k x ps sp:=by
 obtain⟨f,fd,h1,h2,h3,_,h4⟩:=F.ex;exact⟨f,fd,h1,h2,h3,h f fd h4⟩
end L2
namespace Mi
open PySem
inductive D where
 |non|bl (b:Bool)|int (i:Int)|str (x:Str)|lst (ds:List D)|tup (ds:List D)
mutual
def D.dep:D->Nat
 |.lst ds=>eJ ds+1
 |.tup ds=>eJ ds+1
 |_=>0
def eJ:List D->Nat
 |[]=>0
 |d::r=>max d.dep (eJ r)
end
mutual
/-- Python's == -/
def bP:D->D->Bool
 |.non,.non=>true
 |.bl a,.bl b=>a==b
 |.bl a,.int b=>(if a then 1 else 0)==b
 |.int a,.bl b=>a==(if b then 1 else 0)
 |.int a,.int b=>a==b
 |.str a,.str b=>a==b
 |.lst a,.lst b=>d0 a b
 |.tup a,.tup b=>d0 a b
 |_,_=>false
def d0:List D->List D->Bool
 |[],[]=>true
 |a::r,b::s=>bP a b&&d0 r s
 |_,_=>false
end
mutual
/-- no list in it -/
def pc:D->Bool
 |.lst _=>false
 |.tup ds=>xw ds
 |_=>true
def xw:List D->Bool
 |[]=>true
 |d::r=>pc d&&xw r
end
def f7(n:Nat)(i:Int):Option Nat:=if 0<=i then(if i<n then ac i.toNat else af)else if -(n:Int)<=i then ac (i+n).toNat else af
def eo{α:Type}(xs:List α)(i:Int):Option α:=(f7 xs.length i).bind λj=>xs[j]?
def eV(n d:Nat):Option Int->Nat
 |none=>d
 |some v=>if v<0 then(v+(n:Int)).toNat else min v.toNat n
def gf{α:Type}(xs:List α)(lo hi:Option Int):List α:=(xs.drop (eV xs.length 0 lo)).take (eV xs.length xs.length hi-eV xs.length 0 lo)
abbrev Ky:=Sum Int Str
inductive W where
 |d (x:D)|dk (az:List (Ky×D))|dt (az:List (List Ky×D))|df (az:List (List Ky×D))|ex (c:String)
abbrev Env:=List (Option W)
structure pJ where
 cls:String
 val:List D
inductive Rs(α:Type) where
 |ok (a:α)|ex (x:pJ)|no
def Rs.bind{α β:Type}:Rs α->(α->Rs β)->Rs β
 |.ok a,f=>f a
 |.ex x,_=>.ex x
 |.no,_=>.no
@[simp] theorem aQ {α β:Type} (a:α) (f:α->Rs β):(Rs.ok a).bind f=f a:=rfl
@[simp] theorem WC {α β:Type} (x:pJ) (f:α->Rs β):(Rs.ex x).bind f=.ex x:=rfl
@[simp] theorem WB {α β:Type} (f:α->Rs β):(Rs.no).bind f=.no:=rfl
theorem bind_assoc{α β γ : Type}(r:Rs α)(f:α->Rs β)(g:β->Rs γ):(r.bind f).bind g=r.bind λa=>(f a).bind g:=by cases r<;>rfl
def Fin{α:Type}(r:Rs α)(k:α->Prop):Prop:=match r with
 |.ok a=>k a
 |_=>False
theorem aG{α β:Type}{r:Rs α}{f:α->Rs β}{k:β->Prop}:Fin (r.bind f) k↔Fin r λa=>Fin (f a) k:=by cases r<;>exact wc
theorem Fin.mono{α:Type}{r:Rs α}{k k':α->Prop}(h:Fin r k)(m:∀a,k a->k' a):Fin r k':=by
 cases r with
 |ok a=>exact m a h
 |ex x=>exact h
 |no=>exact h
theorem oe{α:Type}{r s:Rs α}{k:α->Prop}(h:Fin (if true=true then r else s) k):Fin r k:=by simpa using h
theorem oj{α:Type}{r s:Rs α}{k:α->Prop}(h:Fin (if false=true then r else s) k):Fin s k:=by simpa using h
theorem jQ{α:Type}{a:α}{k:α->Prop}(h:Fin (.ok a) k):k a:=h
def cQ{α:Type}:Option α->Rs α
 |some a=>.ok a
 |none=>.no
def bu{α:Type}(c:Prop)[Decidable c](r:Rs α):Rs α:=if c then r else .no
theorem aK{α:Type}{c:Prop}[Decidable c]{r:Rs α}(h:c):bu c r=r:=bc h
theorem dh{α:Type}{c:Prop}[Decidable c]{r:Rs α}{k:α->Prop}(h:Fin (bu c r) k):c/\Fin r k:=by
 unfold bu at h;split at h
 ·exact⟨‹_›,h⟩
 ·exact h.elim
abbrev E:=Env->Rs D
abbrev C:=Env->Rs Bool
def mC(d:D):E:=λ_=>.ok d
def mV(i:Nat):E:=λe=>match e[i]? with
 |some (ac (.d x))=>.ok x
 |_=>.no
def m1(f:D->Rs D)(a:E):E:=λe=>(a e).bind f
def m2(f:D->D->Rs D)(a b:E):E:=λe=>(a e).bind λx=>(b e).bind λy=>f x y
def eX:List E->Env->Rs (List D)
 |[],_=>.ok []
 |a::r,e=>(a e).bind λx=>(eX r e).bind λxs=>.ok (x::xs)
def mN(f:List D->Rs D)(as:List E):E:=λe=>(eX as e).bind f
def dTup(ds:List D):Rs D:=bu (ds.length<=16777216) (.ok (.tup ds))
def b9(ds:List D):Rs D:=bu (ds.length<=16777216) (.ok (.lst ds))
def oK:D->Rs Bool
 |.bl b=>.ok b
 |_=>.no
def sS(a b:E):E:=λe=>(a e).bind λx=>(oK x).bind λc=>if c=true then b e else .ok (.bl false)
def oP(a b:E):E:=λe=>(a e).bind λx=>(oK x).bind λc=>if c=true then .ok (.bl true)else b e
def Be(a:E):E:=λe=>(a e).bind λx=>(oK x).bind λc=>.ok (.bl (!c))
def rR(c:C)(a b:E):E:=λe=>(c e).bind λk=>if k=true then a e else b e
def tp(f g:D->D->Rs D)(a b c:E):E:=λe=>(a e).bind λx=>(b e).bind λy=>(f x y).bind λz=>(oK z).bind λk=>if k=true then(c e).bind λw=>g y w else .ok (.bl false)
def oN:D->Rs Int
 |.int i=>.ok i
 |_=>.no
def jK:Option E->Env->Rs (Option Int)
 |none,_=>.ok af
 |some a,e=>(a e).bind λx=>(oN x).bind λi=>.ok (ac i)
def pD(x:Str)(lo hi:Option Int):Str:=⟨(gf x.cps.toList lo hi).toArray⟩
def fE(x:D)(lo hi:Option Int):Rs D:=match x with
 |.lst ds=>.ok (.lst (gf ds lo hi))
 |.str z=>bu (z.length<=16777216) (.ok (.str (pD z lo hi)))
 |_=>.no
def dP(f:D->Option Int->Option Int->Rs D)(a:E)(lo hi:Option E):E:=λe=>(a e).bind λx=>(jK lo e).bind λl=>(jK hi e).bind λh=>f x l h
def cB(a:E):C:=λe=>(a e).bind oK
def cH(a b:C):C:=λe=>(a e).bind λc=>if c=true then b e else .ok false
def dU(a b:C):C:=λe=>(a e).bind λc=>if c=true then .ok true else b e
def dE(a:C):C:=λe=>(a e).bind λc=>.ok (!c)
def U4:D->Rs Bool
 |.non=>.ok false
 |.bl b=>.ok b
 |.int i=>.ok (i != 0)
 |.str y=>bu (y.length<=16777216) (.ok ((y.length:Int) != 0))
 |.lst ds=>.ok (!ds.isEmpty)
 |.tup ds=>.ok (!ds.isEmpty)
def lG(a:E):C:=λe=>(a e).bind U4
abbrev I:=Env->Rs (List D)
def x6:D->Rs (List D)
 |.lst ds=>.ok ds
 |.tup ds=>.ok ds
 |.str x=>.ok (x.cps.toList.map λc=>.str ⟨#[c]⟩)
 |_=>.no
def br(a:E):I:=λe=>(a e).bind x6
def dv(lo hi:Int):List D:=(b0 (hi-lo).toNat).map λk=>.int (lo+(k:Nat))
def okR(i:Int):Prop:=-(2 ^ 62)<=i/\i<2 ^ 62
instance (i:Int):Decidable (okR i):=inferInstanceAs (Decidable (_/\_))
def fj(a:E):I:=λe=>(a e).bind λx=>(oN x).bind λj=>bu (okR j) (.ok (dv 0 j))
def uI(a b:E):I:=λe=>(a e).bind λx=>(b e).bind λy=>(oN x).bind λi=>(oN y).bind λj=>bu (okR i/\okR j) (.ok (dv i j))
def mG(k:Nat):List D->List D
 |[]=>[]
 |d::r=>.tup [.int k,d]::mG (k+1) r
def FG:D->Rs (List D)
 |.lst ds=>.ok ds
 |_=>.no
inductive Tg where
 |n (i:Nat)|t (is:List Nat)
def rY:List Nat->List D->Env->Rs Env
 |[],[],e=>.ok e
 |i::is,d::ds,e=>rY is ds (e.set i (ac (.d d)))
 |_,_,_=>.no
def Tg.put:Tg->D->Env->Rs Env
 |.n i,d,e=>.ok (e.set i (ac (.d d)))
 |.t is,.tup ds,e=>rY is ds e
 |_,_,_=>.no
def kW(ρ:List (Option Nat))(e:Env):Env:=ρ.map λo=>o.bind λj=>(e[j]?).join
def dA(tg:Tg)(c:C)(a:E)(e:Env):List D->Rs (List D)
 |[]=>.ok []
 |x::r=>(tg.put x e).bind λe1=>(c e1).bind λk=>if k=true then(a e1).bind λy=>(dA tg c a e r).bind λys=>.ok (y::ys)else dA tg c a e r
def dz:C:=λ_=>.ok true
def bV(ρ:List (Option Nat))(it:I)(tg:Tg)(c:C)(a:E):E:=λe=>(it e).bind λxs=>bu (xs.length<=16777216) ((dA tg c a (kW ρ e) xs).bind λys=>.ok (.lst ys))
abbrev Fn:=List W->Rs W
abbrev EW:=Env->Rs W
def wD(a:E):EW:=λe=>(a e).bind λx=>.ok (.d x)
def wV(i:Nat):EW:=λe=>match e[i]? with
 |some (ac w)=>.ok w
 |_=>.no
def d8:List EW->Env->Rs (List W)
 |[],_=>.ok []
 |a::r,e=>(a e).bind λx=>(d8 r e).bind λxs=>.ok (x::xs)
def jr(f:Fn)(as:List EW):EW:=λe=>(d8 as e).bind f
def xh:W->Rs D
 |.d x=>.ok x
 |_=>.no
def aR(f:Fn)(as:List EW):E:=λe=>(jr f as e).bind xh
def Ba:W->Rs D
 |.d x=>bu (pc x=true) (.ok x)
 |_=>.no
def pb(f:Fn)(as:List EW):E:=λe=>(jr f as e).bind Ba
inductive Out where
 |nx (e:Env)|rt (w:W)|bk (e:Env)|ct (e:Env)
abbrev S:=Env->Rs Out
def bz:S:=λe=>.ok (.nx e)
def aD(s t:S):S:=λe=>(s e).bind λo=>match o with
 |.nx e'=>t e'
 |o=>.ok o
def vf(i:Nat)(a:EW):S:=λe=>(a e).bind λw=>.ok (.nx (e.set i (ac w)))
def aS(i:Nat)(a:E):S:=λe=>(a e).bind λd=>.ok (.nx (e.set i (ac (.d d))))
def qy(tg:Tg)(a:E):S:=λe=>(a e).bind λd=>(tg.put d e).bind λe'=>.ok (.nx e')
def i3(a:E):S:=λe=>(a e).bind λ_=>.ok (.nx e)
def bA(a:EW):S:=λe=>(a e).bind λw=>.ok (.rt w)
def bp(c:C)(s t:S):S:=λe=>(c e).bind λk=>if k=true then s e else t e
def iK:S:=λ_=>.no
def fV(tg:Tg)(body:S):List D->Env->Rs Out
 |[],e=>.ok (.nx e)
 | x::r,e=>(tg.put x e).bind λe1=>(body e1).bind λo=>match o with
  |.nx e2=>fV tg body r e2
  |.ct e2=>fV tg body r e2
  |.bk e2=>.ok (.nx e2)
  |.rt w=>.ok (.rt w)
def cJ(it:I)(tg:Tg)(body:S):S:=λe=>(it e).bind λxs=>fV tg body xs e
def gO(c:C)(body:S):Nat->Env->Rs Out
 |0,_=>.no
 | n+1,e=>(c e).bind λk=>if k=true then(body e).bind λo=>match o with
  |.nx e2=>gO c body n e2
  |.ct e2=>gO c body n e2
  |.bk e2=>.ok (.nx e2)
  |.rt w=>.ok (.rt w)
  else .ok (.nx e)
def qt(n:Nat)(c:C)(body:S):S:=gO c body n
def getL(e:Env)(i:Nat):Rs (List D):=match e[i]? with
 |some (ac (.d (.lst ds)))=>.ok ds
 |_=>.no
def putL(e:Env)(i:Nat)(ds:List D):Env:=e.set i (ac (.d (.lst ds)))
def dI(i:Nat)(a:E):S:=λe=>(a e).bind λd=>(getL e i).bind λds=>bu (ds.length<16777216) (.ok (.nx (putL e i (ds++[d]))))
def lF(i:Nat)(a:E):S:=λe=>(a e).bind λd=>(getL e i).bind λds=>match d with
 |.lst xs=>bu (ds.length+xs.length<=16777216) (.ok (.nx (putL e i (ds++xs))))
 |_=>.no
def wZ(x y:Nat):S:=λe=>(getL e y).bind λds=>(cQ ds[ds.length-1]?).bind λd=>.ok (.nx ((putL e y ds.dropLast).set x (ac (.d d))))
def wW(ds:List D)(i:Int):Rs (D×List D):=bu (-(2 ^ 63)<=i/\i<2 ^ 63) ((cQ (f7 ds.length i)).bind λk=>(cQ ds[k]?).bind λd=>.ok (d,ds.eraseIdx k))
def xF(x y:Nat)(k:E):S:=λe=>(k e).bind λz=>(oN z).bind λi=>(getL e y).bind λds=>(wW ds i).bind λp=>(getL (putL e y p.2) x).bind λes=>
 bu (es.length<16777216) (.ok (.nx (putL (putL e y p.2) x (es++[p.1]))))
def tD(x:Nat)(k a:E):S:=λe=>(a e).bind λd=>(k e).bind λz=>(oN z).bind λi=>(getL e x).bind λds=>(cQ (f7 ds.length i)).bind λj=>.ok (.nx (putL e x (ds.set j d)))
def pL:D->Option Ky
 |.int i=>ac (.inl i)
 |.str x=>ac (.inr x)
 |_=>af
def qR:List D->Option (List Ky)
 |[]=>ac []
 | d::r=>match pL d,qR r with
  |some k,ac ks=>ac (k::ks)
  |_,_=>af
def iX{κ:Type}[DecidableEq κ](az:List (κ×D))(k:κ):Option D:=(az.find? λkv=>decide (kv.1=k)).map (·.2)
def yw(w:W)(k:D):Rs (Option D):=match w with
 |.dk az=>(cQ (pL k)).bind λk=>.ok (iX az k)
 | .dt az=>match k with
  |.tup ds=>(cQ (qR ds)).bind λk=>.ok (iX az k)
  |_=>.no
 | .df az=>match k with
  |.tup ds=>(cQ (qR ds)).bind λk=>.ok (iX az k)
  |_=>.no
 |_=>.no
def putK{κ:Type}[DecidableEq κ](k:κ)(v:D)(az:List (κ×D)):List (κ×D):=if(az.any λkv=>decide (kv.1=k))=true then az.map (λkv=>if kv.1=k then(kv.1,v)else kv)else az++[(k,v)]
def w9(w:W)(k v:D):Rs W:=match w with
 |.dk az=>bu (az.length<16777216) ((cQ (pL k)).bind λk=>.ok (.dk (putK k v az)))
 | .dt az=>match k with
  |.tup ds=>bu (az.length<16777216) ((cQ (qR ds)).bind λk=>.ok (.dt (putK k v az)))
  |_=>.no
 |_=>.no
def lZ(i:Nat)(k:E):E:=λe=>(k e).bind λd=>(wV i e).bind λw=>(yw w d).bind λo=>.ok (.bl o.isSome)
def oG(i:Nat)(k:E):E:=λe=>(k e).bind λd=>(wV i e).bind λw=>(yw w d).bind λo=>.ok (.bl (!o.isSome))
def mj(i:Nat)(k:E):E:=λe=>(k e).bind λd=>(wV i e).bind λw=>(yw w d).bind cQ
def f9(i:Nat)(k v:E):S:=λe=>(v e).bind λx=>(k e).bind λd=>(wV i e).bind λw=>(w9 w d x).bind λw'=>.ok (.nx (e.set i (ac w')))
def nN:Out->Rs W
 |.rt w=>.ok w
 |.nx _=>.ok (.d .non)
 |_=>.no
def ee(k n:Nat)(body:S):Fn:=λws=>bu (ws.length=k) ((body (ws.map ac++bZ (n-ws.length) af)).bind nN)
def lU:Out->Rs W
 |.rt w=>.ok w
 |_=>.no
def fS(k n:Nat)(body:S):Fn:=λws=>bu (ws.length=k) ((body (ws.map ac++bZ (n-ws.length) af)).bind lU)
def mI(i j:Int):Prop:=(-(2 ^ 64)<i/\i<2 ^ 64)\/(-(2 ^ 64)<j/\j<2 ^ 64)
instance (i j:Int):Decidable (mI i j):=inferInstanceAs (Decidable (_\/_))
def mE(j:Int):Prop:=0<j/\j.natAbs.log2<9000
instance (j:Int):Decidable (mE j):=inferInstanceAs (Decidable (_/\_))
def Hk(i j:Int):Prop:=0<=j/\j<=1000000/\i.natAbs<2 ^ 64
instance (i j:Int):Decidable (Hk i j):=inferInstanceAs (Decidable (_/\_))
def a9:D->D->Rs D
 |.int i,.int j=>.ok (.int (i+j))
 |.str i,.str j=>bu (i.length+j.length<=16777216) (.ok (.str (i++j)))
 |.lst i,.lst j=>bu (i.length+j.length<=16777216) (.ok (.lst (i++j)))
 |_,_=>.no
def fJ:D->D->Rs D
 |.int i,.int j=>.ok (.int (i-j))
 |_,_=>.no
def dCat:D->D->Rs D
 |.lst i,.lst j=>bu (i.length+j.length<=16777216) (.ok (.lst (i++j)))
 |_,_=>.no
def de:D->D->Rs D
 |.int i,.int j=>bu (mI i j) (.ok (.int (i*j)))
 |_,_=>.no
def z6:D->D->Rs D
 |.lst ds,.int k=>bu (-(2 ^ 63)<=k/\k<2 ^ 63/\ds.length*k.toNat<=16777216) (.ok (.lst (bZ k.toNat ds).flatten))
 |_,_=>.no
def cW:D->D->Rs D
 |.int i,.int j=>bu (mE j) (.ok (.int (i/j)))
 |_,_=>.no
def bL:D->D->Rs D
 |.int i,.int j=>bu (0<j) (.ok (.int (i%j)))
 |_,_=>.no
def sK:D->Rs D
 |.int i=>.ok (.int (-i))
 |_=>.no
def gr:D->D->Rs D
 |.int i,.int j=>.ok (.bl (decide (i<j)))
 |.str i,.str j=>.ok (.bl (decide (i.cps.toList<j.cps.toList)))
 |_,_=>.no
def iu:D->D->Rs D
 |.int i,.int j=>.ok (.bl (decide (j<i)))
 |.str i,.str j=>.ok (.bl (decide (j.cps.toList<i.cps.toList)))
 |_,_=>.no
def oi:D->D->Rs D
 |.int i,.int j=>.ok (.bl (decide (i<=j)))
 |_,_=>.no
def bM(x y:D):Rs D:=bu (x.dep<=16) (.ok (.bl (bP x y)))
def d6(x y:D):Rs D:=bu (x.dep<=16) (.ok (.bl (!bP x y)))
def vg:D->Bool
 |.non=>true
 |_=>false
def oO(x y:D):Rs D:=match y with
 |.non=>.ok (.bl (!vg x))
 |_=>.no
def b8(x y:D):Rs D:=match y with
 |.lst ds=>bu (eJ ds<=16) (.ok (.bl (ds.any λe=>bP e x)))
 |.tup ds=>bu (eJ ds<=16) (.ok (.bl (ds.any λe=>bP e x)))
 | .str z=>match x with
  |.str s=>bu (s.length=1) (.ok (.bl (decide (s.cps.getD 0 0∈z.cps.toList))))
  |_=>.no
 |_=>.no
def cz(x y:D):Rs D:=match y with
 |.lst ds=>bu (eJ ds<=16) (.ok (.bl (!ds.any λe=>bP e x)))
 |.tup ds=>bu (eJ ds<=16) (.ok (.bl (!ds.any λe=>bP e x)))
 |_=>.no
def aw(x y:D):Rs D:=match x,y with
 |.lst ds,.int i=>cQ (eo ds i)
 |.tup ds,.int i=>cQ (eo ds i)
 |.str z,.int i=>bu (z.length<=16777216) ((cQ (eo z.cps.toList i)).bind λc=>.ok (.str ⟨#[c]⟩))
 |_,_=>.no
def cI:List D->Rs D
 |[.lst ds]=>.ok (.int ds.length)
 |[.tup ds]=>.ok (.int ds.length)
 |[.str z]=>bu (z.length<=16777216) (.ok (.int z.length))
 |_=>.no
def gT:List D->Rs D
 |[.int i,.int j]=>.ok (.int (max i j))
 |_=>.no
def k8:List D->Rs D
 |[.int i,.int j]=>.ok (.int (min i j))
 |_=>.no
def nZ:List D->Option (List Bool)
 |[]=>ac []
 |.bl b::r=>(nZ r).map (b :: ·)
 |_=>af
def tG:List D->Rs D
 |[.lst ds]=>(cQ (nZ ds)).bind λbs=>.ok (.bl (bs.all id))
 |_=>.no
def ie:List D->Rs D
 |[.lst ds]=>.ok (.lst ds)
 |[.tup ds]=>.ok (.lst ds)
 |_=>.no
def jR:List D->Rs D
 |[.lst ds]=>.ok (.tup ds)
 |[.tup ds]=>.ok (.tup ds)
 |_=>.no
def mS:List D->Rs D
 |[.int i]=>.ok (.int i)
 |[.bl k]=>.ok (.int (if k then 1 else 0))
 |_=>.no
def xp(t:String):D->Bool
 |.non=>false
 |.bl _=>t == "bool" || t == "int"
 |.int _=>t == "int"
 |.str _=>t == "str"
 |.lst _=>t == "list"
 |.tup _=>t == "tuple"
def Lc:D->String
 |.non => "NoneType" | .bl _ => "bool" | .int _ => "int" | .str _ => "str" | .lst _ => "list" | .tup _ => "tuple"
def iG(ts:List String)(x:D):Rs D:=.ok (.bl (ts.any λt=>xp t x))
def fM:List D->Option (List Str)
 |[]=>ac []
 |.str b::r=>(fM r).map (b :: ·)
 |_=>af
def xG(x y:D):Rs D:=match x,y with
 |.str sep,.lst ds=>(cQ (fM ds)).bind λys=>bu ((ys.map (·.length)).sum+ys.length*sep.length<=16777216) (.ok (.str (l9 sep ys)))
 |_,_=>.no
def met(val:Nat->Str):Nat->List Str
 |0=>[]
 |i+1=>if val i∈met val i then met val i else met val i++[val i]
def jZ(ys:List Str):Nat:=(met (λi=>ys.getD i dc) ys.length).length
def BP:D->Rs D
 |.lst ds=>(cQ (fM ds)).bind λys=>bu (ys.length+1<4096) (.ok (.int (jZ ys)))
 |_=>.no
end Mi
namespace L2
open PySem PySem.Spec PyProof.Rows
open Mi (D eJ bP d0)
mutual
theorem yl:∀d:D,bP d d=true
 |.non=>rfl
 |.bl b=>by simp[bP]
 |.int i=>by simp[bP]
 |.str x=>by simp[bP]
 |.lst ds=>by rw[bP];exact A6 ds
 |.tup ds=>by rw[bP];exact A6 ds
theorem A6:∀ds:List D,d0 ds ds=true
 |[]=>rfl
 |d::r=>by rw[d0,yl d,A6 r];rfl
end
theorem uP:∀{ds es:List D},ds.length≠es.length->d0 ds es=false
 |[],[],h=>absurd rfl h
 |[],_::_,_=>rfl
 |_::_,[],_=>rfl
 |d::r,e::s,h=>by rw[d0,uP (λz=>h (by rw[dH,dH,z])),t7]
theorem uS:∀{ds es:List D},ds.length=es.length->d0 ds es=(b0 ds.length).all λj=>bP (ds.getD j .non) (es.getD j .non)
 |[],[],_=>rfl
 |[],_::_,h=>by simp at h
 |_::_,[],h=>by simp at h
 |d::r,e::s,h=>by
  rw[d0,uS (by simpa using h),dH,CH,yJ,yL];rfl
mutual
/-- the value v in the heap H is the tree d -/
def Rep(K:bb)(H:Hp):D->V->Prop
 |.non,v=>v=.non
 |.bl b,v=>v=.bl b
 |.int i,v=>v=.int i
 |.str x,v=>v=.str x
 |.lst ds,v=>∃a xs,v=.ref a/\fK K H a xs/\bS K H ds xs
 |.tup ds,v=>∃a xs,v=.ref a/\fQ K H a xs/\bS K H ds xs
def bS(K:bb)(H:Hp):List D->List V->Prop
 |[],vs=>vs=[]
 |d::ds,vs=>∃v r,vs=v::r/\Rep K H d v/\bS K H ds r
end
theorem bS.length{K:bb}{H:Hp}:∀{ds:List D} {vs:List V},bS K H ds vs->ds.length=vs.length
 |[],vs,h=>by rw[bS]at h;subst h;rfl
 |d::ds,vs,h=>by
  rw[bS]at h;obtain⟨v,r,rfl,_,q⟩:=h;rw[dH,dH,bS.length q]
theorem bS.get{K:bb}{H:Hp}:∀{ds:List D} {vs:List V} {j:Nat} {v:V},bS K H ds vs->vs[j]? = ac v->Rep K H (ds.getD j .non) v
 |[],vs,j,v,h,e=>by rw[bS]at h;subst h;simp at e
 |d::ds,vs,0,v,h,e=>by
  rw[bS]at h;obtain⟨v',r,rfl,p,q⟩:=h;simp at e;subst e;exact p
 |d::ds,vs,j+1,v,h,e=>by
  rw[bS]at h;obtain⟨v',r,rfl,p,q⟩:=h;have:=bS.get (j:=j) (v:=v) q (by simpa using e);simpa using this
section
variable{X:Cx}{ah:List (ak×Obj)}{σ:St}{H:Hp}{s:aB}
theorem Inv.EV(I:Inv X ah σ H s){a:ak}{xs ys:List V}(h:fK X.K H a xs)(h':fQ X.K H a ys):False:=by obtain⟨au,_,p,_⟩:=I.list h;obtain⟨its',_,q,_⟩:=I.tuple h';obtain⟨o,n,e,c,_⟩:=p;obtain⟨o',e',c',_⟩:=q;rw[e]at e';cases e';rw[c]at c';exact absurd (Value.type.inj c') (by decide)
mutual
theorem Rep.inj(I:Inv X ah σ H s):∀{d e:D} {v:V},Rep X.K H d v->Rep X.K H e v->d=e
 |.non,e,v,h,h'=>by
  rw[Rep]at h;subst h;cases e<;>rw[Rep]at h'<;>first|rfl|(obtain⟨_,_,z,_⟩:=h';cases z)|cases h'
 |.bl b,e,v,h,h'=>by
  rw[Rep]at h;subst h;cases e<;>rw[Rep]at h'<;>first|(obtain⟨_,_,z,_⟩:=h';cases z)|(cases h';rfl)|cases h'
 |.int b,e,v,h,h'=>by
  rw[Rep]at h;subst h;cases e<;>rw[Rep]at h'<;>first|(obtain⟨_,_,z,_⟩:=h';cases z)|(cases h';rfl)|cases h'
 |.str b,e,v,h,h'=>by
  rw[Rep]at h;subst h;cases e<;>rw[Rep]at h'<;>first|(obtain⟨_,_,z,_⟩:=h';cases z)|(cases h';rfl)|cases h'
 |.lst ds,e,v,h,h'=>by
  rw[Rep]at h;obtain⟨a,xs,rfl,q,r⟩:=h;cases e with
  |lst es=>
   rw[Rep]at h';obtain⟨a',xs',z,q',r'⟩:=h';cases z;rw[I.BQ q' q]at r';rw[bS.inj I r r']
  |tup es=>
   rw[Rep]at h';obtain⟨a',xs',z,q',r'⟩:=h';cases z;exact(I.EV q q').elim
  |_=>rw[Rep]at h';cases h'
 |.tup ds,e,v,h,h'=>by
  rw[Rep]at h;obtain⟨a,xs,rfl,q,r⟩:=h;cases e with
  |tup es=>
   rw[Rep]at h';obtain⟨a',xs',z,q',r'⟩:=h';cases z;rw[I.AL q' q]at r';rw[bS.inj I r r']
  |lst es=>
   rw[Rep]at h';obtain⟨a',xs',z,q',r'⟩:=h';cases z;exact(I.EV q' q).elim
  |_=>rw[Rep]at h';cases h'
theorem bS.inj(I:Inv X ah σ H s):∀{ds es:List D} {vs:List V},bS X.K H ds vs->bS X.K H es vs->ds=es
 |[],es,vs,h,h'=>by
  rw[bS]at h;subst h;cases es with
  |nil=>rfl
  |cons e es=>rw[bS]at h';obtain⟨_,_,z,_⟩:=h';cases z
 |d::ds,es,vs,h,h'=>by
  rw[bS]at h;obtain⟨v,r,rfl,p,q⟩:=h;cases es with
  |nil=>rw[bS]at h';cases h'
  |cons e es=>
   rw[bS]at h';obtain⟨v',r',z,p',q'⟩:=h';cases z;rw[Rep.inj I p p',bS.inj I q q']
end
theorem Ay:∀{ds:List D} {j:Nat},(ds.getD j .non).dep<=eJ ds
 |[],j=>by simp[D.dep]
 |d::ds,0=>by simp[eJ];omega
 |d::ds,j+1=>by
  have:=Ay (ds:=ds) (j:=j);have e:(d::ds).getD (j+1) .non=ds.getD j .non:=by simp
  rw[e,eJ];omega
def _root_.Mi.D.flat:D->Bool
 |.lst _=>false
 |.tup _=>false
 |_=>true
def _root_.Mi.D.toV:D->V
 |.non=>.non|.bl b=>.bl b|.int i=>.int i|.str x=>.str x|.lst _=>.non|.tup _=>.non
theorem Rep.flat{K:bb}:∀{d:D} {v:V},d.flat=true->Rep K H d v->v=d.toV/\A5 v=true
 |.non,v,_,h=>by rw[Rep]at h;subst h;exact⟨rfl,rfl⟩
 |.bl b,v,_,h=>by rw[Rep]at h;subst h;exact⟨rfl,rfl⟩
 |.int b,v,_,h=>by rw[Rep]at h;subst h;exact⟨rfl,rfl⟩
 |.str b,v,_,h=>by rw[Rep]at h;subst h;exact⟨rfl,rfl⟩
 |.lst _,v,z,h=>by cases z
 |.tup _,v,z,h=>by cases z
theorem SW:∀{d e:D},d.flat=true->e.flat=true->bP d e=FF d.toV e.toV:=by intro d e h1 h2;cases d<;>cases e<;>first|rfl|exact absurd (show false=true from h1) dR|exact absurd (show false=true from h2) dR
open SeqAt in
theorem Fs(I:Inv X ah σ H s):∀(n:Nat) (d e:D) (A:cR) {x y:V} {u u':ai},d.dep<=n->A.units+n<cLine->Rep X.K H d x->Rep X.K H e y->RelV x u->RelV y u'->EqAt A s u u' (bP d e):=by
 intro n
 induction n using Nat.strongRecOn with
 |ind n ih=>
  intro d e A x y u u' hd hu h h' r r';have hu0:A.units<cLine:=by omega
  by_cases hdf:d.flat=true
  ·obtain⟨ex,fx⟩:=h.flat hdf;subst ex;by_cases hef:e.flat=true
   ·obtain⟨ey,fy⟩:=h'.flat hef;subst ey;rw[SW hdf hef];exact U5 r r' fx fy
   ·cases e with
    |lst es=>
     rw[Rep]at h';obtain⟨a,xs,rfl,q,_⟩:=h';cases r';obtain⟨au,_,p,_⟩:=I.list q;cases d with
     |non=>cases r;exact EqAt.none_list p.isList hu0
     |bl b=>cases r;exact EqAt.bool_list b p.isList hu0
     |int b=>obtain⟨t,rfl⟩:=r;exact EqAt.int_list b t p.isList hu0
     |str b=>obtain⟨t,rfl⟩:=r;exact EqAt.str_list b t p.isList hu0
     |_=>cases hdf
    |tup es=>
     rw[Rep]at h';obtain⟨a,xs,rfl,q,_⟩:=h';cases r';obtain⟨au,_,p,_⟩:=I.tuple q;cases d with
     |non=>cases r;exact EqAt.none_tuple p hu0
     |bl b=>cases r;exact EqAt.bool_tuple b p hu0
     |int b=>obtain⟨t,rfl⟩:=r;exact EqAt.int_tuple b t p hu0
     |str b=>obtain⟨t,rfl⟩:=r;exact EqAt.str_tuple b t p hu0
     |_=>cases hdf
    |_=>exact absurd rfl hef
  ·by_cases hef:e.flat=true
   ·obtain⟨ey,fy⟩:=h'.flat hef;subst ey;cases d with
    |lst ds=>
     rw[Rep]at h;obtain⟨a,xs,rfl,q,_⟩:=h;cases r;obtain⟨au,_,p,_⟩:=I.list q;cases e with
     |non=>cases r';exact EqAt.list_none p.isList hu0
     |bl b=>cases r';exact EqAt.list_bool b p.isList hu0
     |int b=>obtain⟨t,rfl⟩:=r';exact EqAt.list_int b t p.isList hu0
     |str b=>obtain⟨t,rfl⟩:=r';exact EqAt.list_str b t p.isList hu0
     |_=>cases hef
    |tup ds=>
     rw[Rep]at h;obtain⟨a,xs,rfl,q,_⟩:=h;cases r;obtain⟨au,_,p,_⟩:=I.tuple q;cases e with
     |non=>cases r';exact EqAt.tuple_none p hu0
     |bl b=>cases r';exact EqAt.tuple_bool b p hu0
     |int b=>obtain⟨t,rfl⟩:=r';exact EqAt.tuple_int b t p hu0
     |str b=>obtain⟨t,rfl⟩:=r';exact EqAt.tuple_str b t p hu0
     |_=>cases hef
    |_=>exact absurd rfl hdf
   ·-- both are lists or tuples
    have item:∀{ds es:List D} {xs ys:List V} {au its':List ai},eJ ds+1<=n->bS X.K H ds xs->bS X.K H es ys->Vals xs au->Vals ys its' ->
     ∀j (h1:j<au.toArray.size) (h2:j<its'.toArray.size),EqAt A.in1 s au.toArray[j] its'.toArray[j] (bP (ds.getD j .non) (es.getD j .non)):=by
     intro ds es xs ys au its' hn q q' v v' j h1 h2;have h1':j<au.length:=by simpa using h1
     have h2':j<its'.length:=by simpa using h2
     have e1:j<xs.length:=by rw[v.length];exact h1'
     have e2:j<ys.length:=by rw[v'.length];exact h2'
     have g1:xs[j]? = ac xs[j]:=by simp[e1]
     have g2:ys[j]? = ac ys[j]:=by simp[e2]
     obtain⟨w1,k1,r1⟩:=v.get g1;obtain⟨w2,k2,r2⟩:=v'.get g2;have t1:au.toArray[j]=w1:=by obtain⟨_,k1⟩:=eW.mp k1;simpa using k1
     have t2:its'.toArray[j]=w2:=by obtain⟨_,k2⟩:=eW.mp k2;simpa using k2
     rw[t1,t2];have:=Ay (ds:=ds) (j:=j);refine ih (n-1) (by omega) _ _ A.in1 (by omega) ?_ (q.get g1) (q'.get g2) r1 r2;show A.units+1+(n-1)<cLine;omega
    cases d with
    |lst ds=>
     rw[Rep]at h;obtain⟨a,xs,rfl,q,rr⟩:=h;cases r;obtain⟨au,v,p,_⟩:=I.list q;have hn:eJ ds+1<=n:=by simpa [D.dep]using hd
     cases e with
     |lst es=>
      rw[Rep]at h';obtain⟨b,ys,rfl,q',rr'⟩:=h';cases r';obtain⟨its',v',p',_⟩:=I.list q';by_cases hab:a=b
      ·subst hab;rw[I.BQ q' q]at rr';rw[bS.inj I rr rr',yl];exact EqAt.same _
      ·have l1:=rr.length;have l2:=rr'.length;have l3:=v.length;have l4:=v'.length;by_cases hl:ds.length=es.length
       ·rw[bP,uS hl];have:=RcAt.lists p.isList p'.isList (by simp;omega) hu0 (item hn rr rr' v v');have e:au.toArray.size=ds.length:=by simp;omega
        rw[e]at this;exact .of_refs hab this
       ·rw[bP,uP hl];exact .of_refs hab (RcAt.lists_lengths p.isList p'.isList (by simp;omega) hu0)
     |tup es=>
      rw[Rep]at h';obtain⟨b,ys,rfl,q',_⟩:=h';cases r';obtain⟨its',_,p',_⟩:=I.tuple q';exact EqAt.list_tuple p.isList p' hu0
     |_=>exact absurd rfl hef
    |tup ds=>
     rw[Rep]at h;obtain⟨a,xs,rfl,q,rr⟩:=h;cases r;obtain⟨au,v,p,_⟩:=I.tuple q;have hn:eJ ds+1<=n:=by simpa [D.dep]using hd
     cases e with
     |tup es=>
      rw[Rep]at h';obtain⟨b,ys,rfl,q',rr'⟩:=h';cases r';obtain⟨its',v',p',_⟩:=I.tuple q';by_cases hab:a=b
      ·subst hab;rw[I.AL q' q]at rr';rw[bS.inj I rr rr',yl];exact EqAt.same _
      ·have l1:=rr.length;have l2:=rr'.length;have l3:=v.length;have l4:=v'.length;have R:=RcAt.tuples p p' hu0 (item hn rr rr' v v');have e1:au.toArray.size=ds.length:=by simp;omega
       have e2:its'.toArray.size=es.length:=by simp;omega
       rw[e1,e2]at R;by_cases hl:ds.length=es.length
       ·rw[bP,uS hl];rw[hl,Nat.min_self,kK,Bool.and_true,<- hl]at R;exact .of_refs hab R
       ·rw[bP,uP hl];have:(ds.length==es.length)=false:=by simpa using hl
        rw[this,t7]at R;exact .of_refs hab R
     |lst es=>
      rw[Rep]at h';obtain⟨b,ys,rfl,q',_⟩:=h';cases r';obtain⟨its',_,p',_⟩:=I.list q';exact EqAt.tuple_list p p'.isList hu0
     |_=>exact absurd rfl hef
    |_=>exact absurd rfl hdf
def xL(K:bb)(neg:Bool):R2:=λx y H Q=>∃(p:ak) (xs:List V) (d:D) (ds:List D),y=.ref p/\(fK K H p xs\/fQ K H p xs)/\Rep K H d x/\bS K H ds xs/\eJ ds<=16 /\
 Q (.bl (if neg then !ds.any (λe=>bP e d)else ds.any (λe=>bP e d))) H
theorem bS.main{K:bb}:∀{ds:List D} {xs:List V} {us:List ai},bS K H ds xs->Vals xs us->∀u∈us,∃b∈ds,∃y,Rep K H b y/\RelV y u
 |[],xs,us,hr,hv,u,hu=>by
  rw[bS]at hr;subst hr;cases hv;cases hu
 |b::bs,xs,us,hr,hv,u,hu=>by
  rw[bS]at hr;obtain⟨y,r,rfl,p,q⟩:=hr;cases hv with
  |cons ry t=>
   rcases cn.mp hu with rfl|hu
   ·exact⟨b,c6,_,p,ry⟩
   ·obtain⟨b',hb',w⟩:=bS.main q t u hu;exact⟨b',er _ hb',w⟩
theorem bS.any{K:bb}{e:ai->Bool}{f:D->Bool}(key:∀b y u,Rep K H b y->RelV y u->e u=f b):∀{ds:List D} {xs:List V} {us:List ai},bS K H ds xs->Vals xs us->us.any e=ds.any f
 |[],xs,us,hr,hv=>by
  rw[bS]at hr;subst hr;cases hv;rfl
 |b::bs,xs,us,hr,hv=>by
  rw[bS]at hr;obtain⟨y,r,rfl,p,q⟩:=hr;cases hv with
  |cons ry t=>rw[nk,nk,key b y _ p ry,bS.any key q t]
theorem Fc:∀{ds:List D} {b:D},b∈ds->b.dep<=eJ ds
 |d::ds,b,h=>by
  rw[eJ];rcases cn.mp h with rfl|h
  ·omega
  ·have:=Fc h;omega
open Classical in
theorem xY(I:Inv X ah σ H s){A:cR}(hu:A.units+16<cLine){d:D}{x:V}{v:ai}(hx:Rep X.K H d x)(rx:RelV x v){ds:List D}{xs:List V}{us:List ai}(hd:eJ ds<=16)(hr:bS X.K H ds xs)(hv:Vals xs us) :
 ∃e:ai->Bool,(∀u∈us,SeqAt.EqAt A s u v (e u))/\us.any e=ds.any (λb=>bP b d):=by
 have key:∀b y u,Rep X.K H b y->RelV y u->(λu=>decide (∃b y,Rep X.K H b y/\RelV y u/\bP b d=true)) u=bP b d:=by
  intro b y u hb hy;cases hp:bP b d with
  |true=>exact ce ⟨b,y,hb,hy,hp⟩
  |false=>
   refine cS ?_;rintro⟨b',y',hb',hy',hp'⟩;have:=hy.inj hy';subst this;rw[Rep.inj I hb hb',hp']at hp;cases hp
 refine⟨λu=>decide (∃b y,Rep X.K H b y/\RelV y u/\bP b d=true),λu hu'=>?_,bS.any key hr hv⟩;obtain⟨b,hb,y,rb,ry⟩:=bS.main hr hv u hu';rw[key b y u rb ry];exact Fs I 16 b d A (c8 (Fc hb) hd) hu rb hx ry rx
theorem PJ(hu:X.A.units+64<cLine):dq X (compareOp .In) (xL X.K false):=by
 intro ah s σ H x y v u Q I rx ry h;obtain⟨p,xs,d,ds,rfl,hq,hx,hr,hd,q⟩:=h;cases ry;have hu1:X.A.in1.units+16<cLine:=by show X.A.units+1+16<cLine;omega
 rcases hq with hq|hq
 ·obtain⟨au,r,pl,hz⟩:=I.list hq;obtain⟨e,he,ea⟩:=xY I hu1 hx rx hd hr r;refine SeqAt.in_listAt e pl.isList (λw hw=>he w (by simpa using hw)) ⟨.bl _,H,I,rfl,?_⟩;rw[show au.toArray.any e=au.any e by simp,ea];exact q
 ·obtain⟨au,r,pl,hz⟩:=I.tuple hq;obtain⟨e,he,ea⟩:=xY I hu1 hx rx hd hr r;refine SeqAt.in_tupleAt e pl (λw hw=>he w (by simpa using hw)) ⟨.bl _,H,I,rfl,?_⟩;rw[show au.toArray.any e=au.any e by simp,ea];exact q
theorem iL(hu:X.A.units+64<cLine):dq X (compareOp .NotIn) (xL X.K true):=by
 intro ah s σ H x y v u Q I rx ry h;obtain⟨p,xs,d,ds,rfl,hq,hx,hr,hd,q⟩:=h;cases ry;have hu1:X.A.in1.units+16<cLine:=by show X.A.units+1+16<cLine;omega
 rcases hq with hq|hq
 ·obtain⟨au,r,pl,hz⟩:=I.list hq;obtain⟨e,he,ea⟩:=xY I hu1 hx rx hd hr r;refine SeqAt.notIn_listAt e pl.isList (λw hw=>he w (by simpa using hw)) ⟨.bl _,H,I,rfl,?_⟩;rw[show au.toArray.any e=au.any e by simp,ea];exact q
 ·obtain⟨au,r,pl,hz⟩:=I.tuple hq;obtain⟨e,he,ea⟩:=xY I hu1 hx rx hd hr r;refine SeqAt.notIn_tupleAt e pl (λw hw=>he w (by simpa using hw)) ⟨.bl _,H,I,rfl,?_⟩;rw[show au.toArray.any e=au.any e by simp,ea];exact q
end
end L2
namespace L2
open PySem PySem.Spec PyProof.Rows
theorem xU{H:Hp}{p:ak}{o:HO}(hp:H p=af):eA H (upd H p o):=λb u e=>by rw[bh (eh e hp)];exact e
theorem GS:∀{ys:List Str} {us:List ai},Vals (ys.map V.str) us->StrsAre us ys
 |[],_,.nil=>.nil
 |y::ys,_,.cons r t=>by
  obtain⟨tk,rfl⟩:=(show∃tk,_=lj y tk from r);exact .cons y tk (GS t)
section
variable{X:Cx}
def rJoin(K:bb):V->List V->Hp->VK->Prop:=λx vs H Q=>∃(sep:Str) (p:ak) (ys:List Str),x=.str sep/\vs=[.ref p]/\fK K H p (ys.map V.str)/\(ys.map (·.length)).sum+ys.length*sep.length<=16777216/\Q (.str (l9 sep ys)) H
theorem Jk:oa X "str.join" (rJoin X.K):=by intro ah s σ H x vs v us Q I rx rv h;obtain⟨sep,p,ys,rfl,rfl,hq,hz,q⟩:=h;obtain⟨t,rfl⟩:=rx;obtain⟨u,rfl,ru⟩:=rv.one;cases ru;obtain⟨au,r,pl,_⟩:=I.list hq;refine join_list pl.isList (by simpa using GS r) hz λt' k=>⟨.str (l9 sep ys),H,I.tok k,⟨t',?_⟩,q⟩;show lj (Builtin.Str.glued sep ys) t'=_;rw[StrLaws.glued_eq_join]
def JY(i j:Int):Prop:=0<j/\j.natAbs.log2<9000
theorem gv:dq X (binaryOp .FloorDiv) (rI JY λi j=>.int (i/j)):=yh λi j _ _ _ _ _ hc q=>by
 refine floordiv_int (by have:=hc.1;omega) ?_ (.inl (PyProof.noPylong_of_log2 hc.2));rw[Int.fdiv_eq_ediv_of_nonneg i (by have:=hc.1;omega)];exact q
theorem P9(hc:X.calm=true):gu X (.builtin "max") (λxs H Q=>∃i j z,xs=[.int i,.int j]/\max i j=z/\Q (.int z) H):=by intro ah s σ H xs us Q I r ⟨i,j,z,e1,e2,q⟩;subst e2;refine OI hc ah s σ H xs us Q I r ⟨i,j,e1,?_⟩;rw[show(if j>i then j else i)=max i j by split<;>omega];exact q
theorem Ue(hc:X.calm=true):gu X (.builtin "min") (λxs H Q=>∃i j z,xs=[.int i,.int j]/\min i j=z/\Q (.int z) H):=by intro ah s σ H xs us Q I r ⟨i,j,z,e1,e2,q⟩;subst e2;refine Sq hc ah s σ H xs us Q I r ⟨i,j,e1,?_⟩;rw[show(if j<i then j else i)=min i j by split<;>omega];exact q
end
end L2
namespace A
open PySem L2 PyProof.Rows
open Mi (D W Rs Fin aG)
inductive P2{α β:Type}(F:α->β->Prop):List α->List β->Prop
 |nil:P2 F [] []
 |cons {a b l m}:F a b->P2 F l m->P2 F (a::l) (b::m)
section
variable{α β:Type}{F G:α->β->Prop}
theorem P2.imp(h:∀a b,F a b->G a b):∀{l m},P2 F l m->P2 G l m
 |_,_,.nil=>.nil
 |_,_,.cons x t=>.cons (h _ _ x) (t.imp h)
theorem P2.len:∀{l m},P2 F l m->l.length=m.length
 |_,_,.nil=>rfl
 |_,_,.cons _ t=>by rw[dH,dH,t.len]
theorem P2.append:∀{l m l' m'},P2 F l m->P2 F l' m'->P2 F (l++l') (m++m')
 |_,_,_,_,.nil,s=>s
 |_,_,_,_,.cons x t,s=>.cons x (t.append s)
theorem P2.get:∀{l m} {i:Nat} {a b},P2 F l m->l[i]? = ac a->m[i]? = ac b->F a b
 |_,_,_,_,_,.nil,e,_=>by simp at e
 |_,_,0,_,_,.cons x _,e,e'=>by simp at e e';subst e e';exact x
 |_,_,i+1,a,b,.cons _ t,e,e'=>t.get (i:=i) (by simpa using e) (by simpa using e')
theorem P2.getL{l m}{i:Nat}{a}(t:P2 F l m)(e:l[i]? = ac a):∃b,m[i]? = ac b/\F a b:=by
 have h:i<m.length:=by rw[<- t.len];exact(eW.mp e).1
 exact⟨m[i],by simp[h],t.get e (by simp[h])⟩
theorem P2.P0{l m}{i:Nat}{b}(t:P2 F l m)(e:m[i]? = ac b):∃a,l[i]? = ac a/\F a b:=by
 have h:i<l.length:=by rw[t.len];exact(eW.mp e).1
 exact⟨l[i],by simp[h],t.get (by simp[h]) e⟩
theorem P2.set{a b}(x:F a b):∀{l m} (i:Nat),P2 F l m->P2 F (l.set i a) (m.set i b)
 |_,_,_,.nil=>.nil
 |_,_,0,.cons _ t=>.cons x t
 |_,_,i+1,.cons y t=>.cons y (t.set x i)
theorem P2.take:∀{l m} (n:Nat),P2 F l m->P2 F (l.take n) (m.take n)
 |_,_,0,_=>.nil
 |_,_,_+1,.nil=>.nil
 |_,_,n+1,.cons x t=>.cons x (t.take n)
theorem P2.drop:∀{l m} (n:Nat),P2 F l m->P2 F (l.drop n) (m.drop n)
 |_,_,0,t=>t
 |_,_,_+1,.nil=>.nil
 |_,_,n+1,.cons _ t=>t.drop n
theorem P2.erase:∀{l m} (n:Nat),P2 F l m->P2 F (l.eraseIdx n) (m.eraseIdx n)
 |_,_,_,.nil=>.nil
 |_,_,0,.cons _ t=>t
 |_,_,n+1,.cons x t=>.cons x (t.erase n)
theorem P2.dropLast:∀{l m},P2 F l m->P2 F l.dropLast m.dropLast
 |_,_,.nil=>.nil
 |_,_,.cons x .nil=>.nil
 |_,_,.cons x (.cons y t)=>.cons x (P2.dropLast (.cons y t))
theorem P2.rep{l m}(t:P2 F l m):∀n:Nat,P2 F (bZ n l).flatten (bZ n m).flatten
 |0=>.nil
 |n+1=>by rw[m9,m9,tT,tT];exact t.append (P2.rep t n)
end
def Lst(H:Hp)(a:ak)(xs:List V):Prop:=H a=ac (.lst xs)\/∃o,H a=ac (.frz o (.lst xs))
mutual
def Rep(H:Hp):D->V->Prop
 |.non,v=>v=.non
 |.bl b,v=>v=.bl b
 |.int i,v=>v=.int i
 |.str x,v=>v=.str x
 |.lst ds,v=>∃a xs,v=.ref a/\Lst H a xs/\bS H ds xs
 |.tup ds,v=>∃a xs,v=.ref a/\H a=ac (.tup xs)/\bS H ds xs
def bS(H:Hp):List D->List V->Prop
 |[],vs=>vs=[]
 |d::ds,vs=>∃v r,vs=v::r/\Rep H d v/\bS H ds r
end
theorem qi{H:Hp}:∀{ds:List D} {vs:List V},bS H ds vs↔P2 (Rep H) ds vs
 |[],vs=>by
  rw[bS];exact⟨λh=>by subst h;exact .nil,λh=>by cases h;rfl⟩
 |d::ds,vs=>by
  rw[bS];constructor
  ·rintro⟨v,r,rfl,p,q⟩;exact .cons p (qi.mp q)
  ·intro h;cases h with
   |cons p q=>exact⟨_,_,rfl,p,qi.mpr q⟩
@[simp] theorem KI {H:Hp} {v:V}:Rep H .non v↔v=.non:=by rw[Rep]
@[simp] theorem vq {H:Hp} {v:V} {b:Bool}:Rep H (.bl b) v↔v=.bl b:=by rw[Rep]
@[simp] theorem qm {H:Hp} {v:V} {b:Int}:Rep H (.int b) v↔v=.int b:=by rw[Rep]
@[simp] theorem pj {H:Hp} {v:V} {b:Str}:Rep H (.str b) v↔v=.str b:=by rw[Rep]
theorem oW{H:Hp}{v:V}{ds:List D}:Rep H (.lst ds) v↔∃a xs,v=.ref a/\Lst H a xs/\P2 (Rep H) ds xs:=by rw[Rep];exact⟨λ⟨a,xs,e,l,r⟩=>⟨a,xs,e,l,qi.mp r⟩,λ⟨a,xs,e,l,r⟩=>⟨a,xs,e,l,qi.mpr r⟩⟩
theorem km{H:Hp}{v:V}{ds:List D}:Rep H (.tup ds) v↔∃a xs,v=.ref a/\H a=ac (.tup xs)/\P2 (Rep H) ds xs:=by rw[Rep];exact⟨λ⟨a,xs,e,l,r⟩=>⟨a,xs,e,l,qi.mp r⟩,λ⟨a,xs,e,l,r⟩=>⟨a,xs,e,l,qi.mpr r⟩⟩
theorem Lst.same{H H':Hp}{a:ak}{xs:List V}(s:eA H H')(h:Lst H a xs):Lst H' a xs:=by
 rcases h with h|⟨o,h⟩
 ·exact .inl (s _ _ h)
 ·exact .inr ⟨o,s _ _ h⟩
theorem Lst.sq{K:bb}{H:Hp}{a:ak}{xs:List V}(h:Lst H a xs):fK K H a xs:=.inl h
mutual
theorem pi{H H':Hp}(s:eA H H'):∀{d:D} {v:V},Rep H d v->Rep H' d v
 |.non,v,h=>by rw[Rep]at h ⊢;exact h
 |.bl b,v,h=>by rw[Rep]at h ⊢;exact h
 |.int i,v,h=>by rw[Rep]at h ⊢;exact h
 |.str x,v,h=>by rw[Rep]at h ⊢;exact h
 |.lst ds,v,h=>by
  rw[Rep]at h ⊢;obtain⟨a,xs,e,q,r⟩:=h;exact⟨a,xs,e,q.same s,z7 s r⟩
 |.tup ds,v,h=>by
  rw[Rep]at h ⊢;obtain⟨a,xs,e,q,r⟩:=h;exact⟨a,xs,e,s _ _ q,z7 s r⟩
theorem z7{H H':Hp}(s:eA H H'):∀{ds:List D} {vs:List V},bS H ds vs->bS H' ds vs
 |[],vs,h=>by rw[bS]at h ⊢;exact h
 |d::ds,vs,h=>by
  rw[bS]at h ⊢;obtain⟨v,r,e,p,q⟩:=h;exact⟨v,r,e,pi s p,z7 s q⟩
end
theorem f8{H H':Hp}(s:eA H H'){ds:List D}{vs:List V}(h:P2 (Rep H) ds vs):P2 (Rep H') ds vs:=h.imp λ_ _=>pi s
mutual
theorem nW(K:bb){H:Hp}:∀{d:D} {v:V},Rep H d v->L2.Rep K H d v
 |.non,v,h=>by rw[Rep]at h;rw[L2.Rep];exact h
 |.bl b,v,h=>by rw[Rep]at h;rw[L2.Rep];exact h
 |.int i,v,h=>by rw[Rep]at h;rw[L2.Rep];exact h
 |.str x,v,h=>by rw[Rep]at h;rw[L2.Rep];exact h
 |.lst ds,v,h=>by
  rw[Rep]at h;rw[L2.Rep];obtain⟨a,xs,e,q,r⟩:=h;exact⟨a,xs,e,q.sq,xW K r⟩
 |.tup ds,v,h=>by
  rw[Rep]at h;rw[L2.Rep];obtain⟨a,xs,e,q,r⟩:=h;exact⟨a,xs,e,.inl (.inl q),xW K r⟩
theorem xW(K:bb){H:Hp}:∀{ds:List D} {vs:List V},bS H ds vs->L2.bS K H ds vs
 |[],vs,h=>by rw[bS]at h;rw[L2.bS];exact h
 |d::ds,vs,h=>by
  rw[bS]at h;rw[L2.bS];obtain⟨v,r,e,p,q⟩:=h;exact⟨v,r,e,nW K p,xW K q⟩
end
def NT:HO->Prop
 |.tbl _ _=>False
 |_=>True
structure Old(H H':Hp):Prop where
 nt:∀a o,H a=ac o->NT o->H' a=ac o
 dom:∀a,H' a=af->H a=af
 tb:∀a w ps,H a=ac (.tbl w ps)->∃ps',H' a=ac (.tbl w ps')
theorem Old.at{H H':Hp}(s:Old H H'){a:ak}{o:HO}(q:H a=ac o)(n:NT o:=by trivial):H' a=ac o:=s.nt a o q n
theorem Old.free{H H':Hp}(s:Old H H'){a:ak}(h:H' a=af):H a=af:=s.dom a h
theorem Old.refl(H:Hp):Old H H:=⟨λ_ _ e _=>e,λ_ e=>e,λ_ _ ps e=>⟨ps,e⟩⟩
theorem Old.trans{H H1 H2:Hp}(a:Old H H1)(b:Old H1 H2):Old H H2:=⟨λx o e n=>b.nt x o (a.nt x o e n) n,λx e=>a.dom x (b.dom x e),λx w ps e=>let ⟨p1,e1⟩:=a.tb x w ps e;b.tb x w p1 e1⟩
theorem Old.of{H H':Hp}(s:eA H H'):Old H H':=⟨λa o e _=>s a o e,λa e=>s.free e,λa w ps e=>⟨ps,s a _ e⟩⟩
theorem Old.tab{H H':Hp}(s:Old H H'){a:ak}{w:Str}{ps:Array ai}{o:HO}(q:H a=ac (.tbl w ps))(n:NT o):¬ H' a=ac o:=λe=>by
 obtain⟨p,z⟩:=s.tb a w ps q;rw[e]at z;cases z;exact n
theorem Old.put{H0 H:Hp}(s:Old H0 H){p:ak}{o u:HO}(h0:H0 p=af)(h:H p=ac u):Old H0 (upd H p o):=
 ⟨λa v e n=>by rw[bh (eh e h0)];exact s.nt a v e n,λa e=>by
  by_cases hp:a=p
  ·subst hp;exact h0
  ·rw[bh hp]at e;exact s.dom a e,λa w ps e=>by rw[bh (eh e h0)];exact s.tb a w ps e⟩
def jw(c:ak)(q:Str):bq->Prop:=λh=>∃o vs t,h.get? c=ac o/\o.data=.fields vs/\vs[1]? = ac (.str q t)
class dm where
 l:List (ak×Str)
 cl:String->ak
variable[Tb:dm]
structure ji(H:Hp):Prop where
 has:∀p∈Tb.l,∃ps,H p.1=ac (.tbl p.2 ps)
 cd:∀T q ps,H T=ac (.tbl q ps)->t6 ps.toList/\∀pos v,codeAmong pos ps.toList=ac v->∃c,v=.ref c/\H c=ac (.ext (jw c q))
theorem ji.new{H:Hp}(k:ji H){p:ak}{o:HO}(h:H p=af)(n:NT o):ji (upd H p o):=⟨λr hr=>let ⟨ps,e⟩:=k.has r hr;⟨ps,by rw[bh (eh e h)];exact e⟩,λT q ps e=>by
 by_cases hp:T=p
 ·subst hp;rw[cM]at e;cases e;exact n.elim
 ·rw[bh hp]at e;obtain⟨t,r⟩:=k.cd T q ps e;refine⟨t,λpos v z=>?_⟩;obtain⟨c,e1,e2⟩:=r pos v z;exact⟨c,e1,by rw[bh (eh e2 h)];exact e2⟩⟩
def Cell:HO->Prop
 |.lst _=>True
 |.dK _=>True
 |.dT _=>True
 |.ext _=>True
 |_=>False
theorem Cell.nt:∀{o:HO},Cell o->NT o:=λ{o} c=>by cases o<;>first|exact c.elim|trivial
def u0:HO->Prop
 |.lst _=>True
 |.dK _=>True
 |.dT _=>True
 |_=>False
theorem u0.cell:∀{o:HO},u0 o->Cell o:=λ{o} c=>by cases o<;>first|exact c.elim|trivial
theorem ji.put{H:Hp}(k:ji H){p:ak}{o u:HO}(h:H p=ac u)(c:u0 u)(n:NT o):ji (upd H p o):=⟨λr hr=>let ⟨ps,e⟩:=k.has r hr;⟨ps,by rw[bh (λy=>by rw[y,h]at e;cases e;exact c.elim)];exact e⟩,λT q ps e=>by
 by_cases hp:T=p
 ·subst hp;rw[cM]at e;cases e;exact n.elim
 ·rw[bh hp]at e;obtain⟨t,r⟩:=k.cd T q ps e;refine⟨t,λpos v z=>?_⟩;obtain⟨x,e1,e2⟩:=r pos v z;refine⟨x,e1,?_⟩;rw[bh (λy=>by subst y;rw[h]at e2;cases e2;exact c.elim)];exact e2⟩
structure Vw(H Hv:Hp):Prop where
 sub:eA Hv H
 tup:∀a xs,H a=ac (.tup xs)->Hv a=ac (.tup xs)
 frz:∀a o u,H a=ac (.frz o u)->Hv a=ac (.frz o u)
 cd:ji H
 nv:∀a o,Hv a=ac o->NT o
structure cu(H Hv H' Hv':Hp):Prop where
 old:Old H H'
 vis:eA Hv Hv'
 vw:Vw H' Hv'
 hid:∀a o,H a=ac o->Hv a=af->Hv' a=af
theorem cu.refl{H Hv:Hp}(v:Vw H Hv):cu H Hv H Hv:=⟨Old.refl _,eA.refl _,v,λ_ _ _ e=>e⟩
theorem Old.some{H H':Hp}(s:Old H H'){a:ak}{o:HO}(q:H a=ac o):∃o',H' a=ac o':=by
 cases h:H' a with
 |none=>rw[s.dom a h]at q;cases q
 |some o'=>exact⟨o',rfl⟩
theorem cu.trans{H Hv H1 Hv1 H2 Hv2:Hp}(g:cu H Hv H1 Hv1)(k:cu H1 Hv1 H2 Hv2):cu H Hv H2 Hv2:=⟨g.old.trans k.old,g.vis.trans k.vis,k.vw,λa o e n=>let ⟨o',e'⟩:=g.old.some e;k.hid a o' e' (g.hid a o e n)⟩
theorem qu{H Hv:Hp}(v:Vw H Hv){p:ak}(h:H p=af):Hv p=af:=v.sub.free h
theorem cu.new{H Hv:Hp}(v:Vw H Hv){p:ak}{o:HO}(h:H p=af)(nt:NT o:=by trivial):cu H Hv (upd H p o) (upd Hv p o):=by
 refine⟨.of (xU h),xU (qu v h),⟨λb u e=>?_,λb xs e=>?_,λb q u e=>?_,v.cd.new h nt,λb u e=>?_⟩,λb u e n=>?_⟩
 ·by_cases hb:b=p
  ·subst hb;rw[cM]at e ⊢;exact e
  ·rw[bh hb]at e ⊢;exact v.sub b u e
 ·by_cases hb:b=p
  ·subst hb;rw[cM]at e ⊢;exact e
  ·rw[bh hb]at e ⊢;exact v.tup b xs e
 ·by_cases hb:b=p
  ·subst hb;rw[cM]at e ⊢;exact e
  ·rw[bh hb]at e ⊢;exact v.frz b q u e
 ·by_cases hb:b=p
  ·subst hb;rw[cM]at e;cases e;exact nt
  ·rw[bh hb]at e;exact v.nv b u e
 ·rw[bh (eh e h)];exact n
theorem cu.nU{H Hv:Hp}(v:Vw H Hv){p:ak}{o:HO}(c:Cell o)(h:H p=af):cu H Hv (upd H p o) Hv:=by
 refine⟨.of (xU h),eA.refl _,⟨λb u e=>?_,λb xs e=>?_,λb q u e=>?_,v.cd.new h c.nt,v.nv⟩,λb u e n=>n⟩
 ·rw[bh (eh (v.sub b u e) h)];exact v.sub b u e
 ·by_cases hb:b=p
  ·subst hb;rw[cM]at e;cases e;exact c.elim
  ·rw[bh hb]at e;exact v.tup b xs e
 ·by_cases hb:b=p
  ·subst hb;rw[cM]at e;cases e;exact c.elim
  ·rw[bh hb]at e;exact v.frz b q u e
theorem Vw.show{H Hv:Hp}(v:Vw H Hv){a:ak}{o:HO}(h:H a=ac o)(n:Hv a=af)(nt:NT o):Vw H (upd Hv a o)/\eA Hv (upd Hv a o):=by
 refine⟨⟨λb u e=>?_,λb xs e=>?_,λb q u e=>?_,v.cd,λb u e=>?_⟩,xU n⟩
 ·by_cases hb:b=a
  ·subst hb;rw[cM]at e;rw[h];exact e
  ·rw[bh hb]at e;exact v.sub b u e
 ·by_cases hb:b=a
  ·subst hb;rw[cM];rw[h]at e;exact e
  ·rw[bh hb];exact v.tup b xs e
 ·by_cases hb:b=a
  ·subst hb;rw[cM];rw[h]at e;exact e
  ·rw[bh hb];exact v.frz b q u e
 ·by_cases hb:b=a
  ·subst hb;rw[cM]at e;cases e;exact nt
  ·rw[bh hb]at e;exact v.nv b u e
theorem Lst.old{H H':Hp}{a:ak}{xs:List V}(s:Old H H')(h:Lst H a xs):Lst H' a xs:=by
 rcases h with h|⟨o,h⟩
 ·exact .inl (s.at h)
 ·exact .inr ⟨o,s.at h⟩
mutual
theorem HK{H H':Hp}(t:∀a xs,H a=ac (.tup xs)->H' a=ac (.tup xs)):∀{d:D} {v:V},Mi.pc d=true->Rep H d v->Rep H' d v
 |.non,v,_,h=>by rw[Rep]at h ⊢;exact h
 |.bl b,v,_,h=>by rw[Rep]at h ⊢;exact h
 |.int i,v,_,h=>by rw[Rep]at h ⊢;exact h
 |.str x,v,_,h=>by rw[Rep]at h ⊢;exact h
 |.lst ds,v,z,h=>by rw[Mi.pc]at z;cases z
 |.tup ds,v,z,h=>by
  rw[Mi.pc]at z;rw[Rep]at h ⊢;obtain⟨a,xs,e,q,r⟩:=h;exact⟨a,xs,e,t _ _ q,Eu t z r⟩
theorem Eu{H H':Hp}(t:∀a xs,H a=ac (.tup xs)->H' a=ac (.tup xs)):∀{ds:List D} {vs:List V},Mi.xw ds=true->bS H ds vs->bS H' ds vs
 |[],vs,_,h=>by rw[bS]at h ⊢;exact h
 |d::ds,vs,z,h=>by
  rw[Mi.xw,jA]at z;rw[bS]at h ⊢;obtain⟨v,r,e,p,q⟩:=h;exact⟨v,r,e,HK t z.1 p,Eu t z.2 q⟩
end
def iB{κ:Type}(H:Hp)(az:List (κ×D))(kv:List (κ×V)):Prop:=P2 (λp q=>p.1=q.1/\Rep H p.2 q.2) az kv
theorem iB.same{κ:Type}{H H':Hp}(s:eA H H'){az:List (κ×D)}{kv:List (κ×V)}(h:iB H az kv):iB H' az kv:=P2.imp (λ_ _ z=>⟨z.1,pi s z.2⟩) h
def f6(Hv:Hp):W->HO->Prop
 |.d (.lst ds),.lst xs=>P2 (Rep Hv) ds xs
 |.dk az,.dK kv=>iB Hv az kv
 |.dt az,.dT kv=>iB Hv az kv
 |_,_=>False
theorem f6.same{H H':Hp}(s:eA H H'):∀{w:W} {o:HO},f6 H w o->f6 H' w o:=λ{w o} h=>by
 cases w with
 |d x=>
  cases x with
  | lst ds=>cases o with
   |lst xs=>exact f8 s h
   |_=>exact h.elim
  |_=>cases o<;>exact h.elim
 | dk az=>cases o with
  |dK kv=>exact iB.same s h
  |_=>exact h.elim
 | dt az=>cases o with
  |dT kv=>exact iB.same s h
  |_=>exact h.elim
 |df az=>exact h.elim
 |ex c=>exact h.elim
theorem f6.EC{H:Hp}{w:W}{o:HO}(h:f6 H w o):u0 o:=by
 cases w with
 |d x=>
  cases x with
  | lst ds=>cases o with
   |lst xs=>trivial
   |_=>exact h.elim
  |_=>cases o<;>exact h.elim
 | dk az=>cases o with
  |dK kv=>trivial
  |_=>exact h.elim
 | dt az=>cases o with
  |dT kv=>trivial
  |_=>exact h.elim
 |df az=>exact h.elim
 |ex c=>exact h.elim
theorem f6.cell{H:Hp}{w:W}{o:HO}(h:f6 H w o):Cell o:=h.EC.cell
theorem f6.nt{H:Hp}{w:W}{o:HO}(h:f6 H w o):NT o:=h.cell.nt
def E4(a C:ak):bq->Prop:=λh=>∃o,h.get? a=ac o/\o.cls=.ref C/\o.dict=af/\∃vs,o.data=.fields vs
def jm(H:Hp):W->V->Prop
 |.d x,v=>Rep H x v
 |.dk az,v=>∃a kv,v=.ref a/\H a=ac (.dK kv)/\iB H az kv
 |.dt az,v=>∃a kv,v=.ref a/\H a=ac (.dT kv)/\iB H az kv
 |.df az,v=>∃a ob kv,v=.ref a/\H a=ac (.frz ob (.dT kv))/\iB H az kv
 |.ex c,v=>∃a,v=.ref a/\H a=ac (.ext (E4 a (Tb.cl c)))
theorem sL{H H':Hp}(s:eA H H'):∀{w:W} {v:V},jm H w v->jm H' w v
 |.d x,v,h=>pi (d:=x) s h
 |.dk az,v,⟨a,kv,e,q,r⟩=>⟨a,kv,e,s _ _ q,r.same s⟩
 |.dt az,v,⟨a,kv,e,q,r⟩=>⟨a,kv,e,s _ _ q,r.same s⟩
 |.df az,v,⟨a,ob,kv,e,q,r⟩=>⟨a,ob,kv,e,s _ _ q,r.same s⟩
 |.ex c,v,⟨a,e,q⟩=>⟨a,e,s _ _ q⟩
theorem wR{H:Hp}{w:W}{a:ak}{o:HO}(h:H a=ac o)(c:f6 H w o):jm H w (.ref a):=by
 cases w with
 |d x=>
  cases x with
  | lst ds=>cases o with
   |lst xs=>exact oW.mpr ⟨a,xs,rfl,.inl h,c⟩
   |_=>exact c.elim
  |_=>cases o<;>exact c.elim
 | dk az=>cases o with
  |dK kv=>exact⟨a,kv,rfl,h,c⟩
  |_=>exact c.elim
 | dt az=>cases o with
  |dT kv=>exact⟨a,kv,rfl,h,c⟩
  |_=>exact c.elim
 |df az=>exact c.elim
 |ex z=>exact c.elim
def Own(H Hv:Hp)(w:W)(v:V):Prop:=∃a o,v=.ref a/\H a=ac o/\Hv a=af/\f6 Hv w o
def RB(H Hv:Hp)(w:W)(v:V):Prop:=jm Hv w v\/∃a o,v=.ref a/\H a=ac o/\f6 Hv w o
theorem RB.grow{H Hv H' Hv':Hp}(g:cu H Hv H' Hv'){w:W}{v:V}(h:RB H Hv w v):RB H' Hv' w v:=by
 rcases h with h|⟨a,o,e,q,c⟩
 ·exact .inl (sL g.vis h)
 ·exact .inr ⟨a,o,e,g.old.at q c.nt,c.same g.vis⟩
theorem Own.grow{H Hv H' Hv':Hp}(g:cu H Hv H' Hv'){w:W}{v:V}(h:Own H Hv w v):Own H' Hv' w v:=by obtain⟨a,o,e,q,n,c⟩:=h;exact⟨a,o,e,g.old.at q c.nt,g.hid _ _ q n,c.same g.vis⟩
theorem RB.full{H Hv:Hp}(v:Vw H Hv){w:W}{x:V}(h:RB H Hv w x):jm H w x:=by
 rcases h with h|⟨a,o,rfl,q,c⟩
 ·exact sL v.sub h
 ·exact wR q (c.same v.sub)
abbrev RD(H Hv:Hp)(d:D)(v:V):Prop:=RB H Hv (.d d) v
theorem RD.rX{H Hv:Hp}{d:D}{v:V}(h:RD H Hv d v)(n:∀ds,d≠.lst ds):Rep Hv d v:=by
 rcases h with h|⟨a,o,e,q,c⟩
 ·exact h
 ·cases d with
  |lst ds=>exact absurd rfl (n ds)
  |_=>cases o<;>exact c.elim
theorem RD.lst{H Hv:Hp}(w:Vw H Hv){ds:List D}{v:V}(h:RD H Hv (.lst ds) v):∃a xs,v=.ref a/\Lst H a xs/\P2 (Rep Hv) ds xs:=by
 rcases h with h|⟨a,o,e,q,c⟩
 ·obtain⟨a,xs,e,l,r⟩:=oW.mp h;exact⟨a,xs,e,l.same w.sub,r⟩
 ·cases o with
  |lst xs=>exact⟨a,xs,e,.inl q,c⟩
  |_=>exact c.elim
theorem RD.tup{H Hv:Hp}(w:Vw H Hv){ds:List D}{v:V}(h:RD H Hv (.tup ds) v):∃a xs,v=.ref a/\H a=ac (.tup xs)/\Hv a=ac (.tup xs)/\P2 (Rep Hv) ds xs:=by obtain⟨a,xs,e,l,r⟩:=km.mp (h.rX λ_ z=>by cases z);exact⟨a,xs,e,w.sub _ _ l,l,r⟩
theorem RD.int{H Hv:Hp}{i:Int}{v:V}(h:RD H Hv (.int i) v):v=.int i:=qm.mp (h.rX λ_ z=>by cases z)
theorem RD.str{H Hv:Hp}{i:Str}{v:V}(h:RD H Hv (.str i) v):v=.str i:=pj.mp (h.rX λ_ z=>by cases z)
theorem RD.bl{H Hv:Hp}{i:Bool}{v:V}(h:RD H Hv (.bl i) v):v=.bl i:=vq.mp (h.rX λ_ z=>by cases z)
theorem RD.non{H Hv:Hp}{v:V}(h:RD H Hv .non v):v=.non:=KI.mp (h.rX λ_ z=>by cases z)
theorem RD.full{H Hv:Hp}(v:Vw H Hv){d:D}{x:V}(h:RD H Hv d x):Rep H d x:=RB.full v h
abbrev Kd:=Hp->Hp->Hp->W->V->Prop
def qP:Kd:=λ_ H' Hv' w v=>RB H' Hv' w v
def qV:Kd:=λ_ _ Hv' w v=>jm Hv' w v
def qN:Kd:=λH H' Hv' w v=>∃a o,v=.ref a/\H a=af/\H' a=ac o/\Hv' a=af/\f6 Hv' w o
theorem iz{H H' Hv':Hp}{i:Int}:qV H H' Hv' (.d (.int i)) (.int i):=(qm (H:=Hv')).mpr rfl
theorem vi{H H' Hv':Hp}{i:Str}:qV H H' Hv' (.d (.str i)) (.str i):=(pj (H:=Hv')).mpr rfl
theorem fZ{H H' Hv':Hp}{i:Bool}:qV H H' Hv' (.d (.bl i)) (.bl i):=(vq (H:=Hv')).mpr rfl
theorem GR{H H' Hv':Hp}:qV H H' Hv' (.d .non) .non:=(KI (H:=Hv')).mpr rfl
class KM (κ:Kd):Prop where
 mono:∀{H H1 H' Hv' w v},Old H H1->κ H1 H' Hv' w v->κ H H' Hv' w v
instance:KM qP:=⟨λ_ h=>h⟩
instance:KM qV:=⟨λ_ h=>h⟩
instance:KM qN:=⟨λs ⟨a,o,e,n,r⟩=>⟨a,o,e,s.free n,r⟩⟩
structure R0(M:Nat->Bool)(e:Mi.Env)(σ:L2.St)(H Hv:Hp):Prop where
 vw:Vw H Hv
 len:σ.length=e.length
 nob:∀i w,e[i]? = ac (ac w)->M i=false->∃v,σ[i]? = ac (ac v)/\jm Hv w v
 own:∀i w,e[i]? = ac (ac w)->M i=true->∃v,σ[i]? = ac (ac v)/\Own H Hv w v
theorem R0.grow{M:Nat->Bool}{e:Mi.Env}{σ:L2.St}{H Hv H' Hv':Hp}(r:R0 M e σ H Hv)(g:cu H Hv H' Hv'):R0 M e σ H' Hv':=⟨g.vw,r.len,λi w h m=>let ⟨v,q,z⟩:=r.nob i w h m;⟨v,q,sL g.vis z⟩,λi w h m=>let ⟨v,q,z⟩:=r.own i w h m;⟨v,q,z.grow g⟩⟩
structure R1(M:Nat->Bool)(H0 Hv0:Hp)(e:Mi.Env)(σ:L2.St)(H Hv:Hp):Prop extends R0 M e σ H Hv where
 gw:cu H0 Hv0 H Hv
 fresh:∀i w a,e[i]? = ac (ac w)->M i=true->σ[i]? = ac (ac (.ref a))->H0 a=af
 sep:∀i j w w' a b,i≠j->e[i]? = ac (ac w)->e[j]? = ac (ac w')->M i=true->M j=true->σ[i]? = ac (ac (.ref a))->σ[j]? = ac (ac (.ref b))->a≠b
theorem R1.grow{M:Nat->Bool}{H0 Hv0:Hp}{e:Mi.Env}{σ:L2.St}{H Hv H' Hv':Hp}(r:R1 M H0 Hv0 e σ H Hv)(g:cu H Hv H' Hv'):R1 M H0 Hv0 e σ H' Hv':=⟨r.toR0.grow g,r.gw.trans g,r.fresh,r.sep⟩
end A
namespace A
open PySem L2 PyProof.Rows
open Mi (D W Rs Fin aG)
variable[Tb:dm]
abbrev r9:=Mi.Env
class KG (κ:Kd):Prop where
 go:∀{H H1 Hv1 H2 Hv2 w v},cu H1 Hv1 H2 Hv2->κ H H1 Hv1 w v->κ H H2 Hv2 w v
instance:KG qP:=⟨λg h=>h.grow g⟩
instance:KG qV:=⟨λg h=>sL g.vis h⟩
instance:KG qN:=⟨λg ⟨a,o,e,n,q,z,c⟩=>⟨a,o,e,n,g.old.at q c.nt,g.hid _ _ q z,c.same g.vis⟩⟩
def AW(M:Nat->Bool)(κ:Kd)(t:TE)(m:Mi.EW):Prop:=∀e σ H Hv Q,R0 M e σ H Hv->Fin (m e) (λw=>∀v H' Hv',cu H Hv H' Hv'->κ H H' Hv' w v->Q v H')->t σ H Q
def AE(M:Nat->Bool)(κ:Kd)(t:TE)(m:Mi.E):Prop:=∀e σ H Hv Q,R0 M e σ H Hv->Fin (m e) (λd=>∀v H' Hv',cu H Hv H' Hv'->κ H H' Hv' (.d d) v->Q v H')->t σ H Q
def AT(M:Nat->Bool)(t:TT)(m:Mi.C):Prop:=∀e σ H Hv Q,R0 M e σ H Hv->Fin (m e) (λb=>∀H' Hv',cu H Hv H' Hv'->Q b H')->t σ H Q
def AA(M:Nat->Bool)(κ:Kd)(t:TA)(m:r9->Rs (List D)):Prop:=∀e σ H Hv Q,R0 M e σ H Hv->Fin (m e) (λds=>∀vs H' Hv',cu H Hv H' Hv'->P2 (λd v=>κ H H' Hv' (.d d) v) ds vs->Q vs H')->t σ H Q
def AAW(M:Nat->Bool)(κ:Kd)(t:TA)(m:r9->Rs (List W)):Prop:=∀e σ H Hv Q,R0 M e σ H Hv->Fin (m e) (λws=>∀vs H' Hv',cu H Hv H' Hv'->P2 (λw v=>κ H H' Hv' w v) ws vs->Q vs H')->t σ H Q
def AO(M:Nat->Bool)(t:TO)(m:r9->Rs (Option Int)):Prop:=∀e σ H Hv Q,R0 M e σ H Hv->Fin (m e) (λo=>∀H' Hv',cu H Hv H' Hv'->Q o H')->t σ H Q
section
variable{M:Nat->Bool}{κ:Kd}{t ta tb tc te:TE}{a b c:Mi.E}{r r':R2}{f g:D->D->Rs D}
theorem AE.w(h:AE M κ t a):AW M κ t (Mi.wD a):=λe σ H Hv Q I q=>h e σ H Hv Q I ((aG.mp q).mono λd z=>z)
theorem JP{H H' Hv':Hp}{w:W}{v:V}(h:qV H H' Hv' w v):qP H H' Hv' w v:=.inl h
theorem SK{H H' Hv':Hp}{w:W}{v:V}(h:qN H H' Hv' w v):qP H H' Hv' w v:=by obtain⟨a,o,e,_,q,_,c⟩:=h;exact .inr ⟨a,o,e,q,c⟩
theorem JK{H Hv H' Hv':Hp}(g:cu H Hv H' Hv'){w:W}{v:V}(h:qN H H' Hv' w v):∃ue,cu H Hv H' ue/\jm ue w v:=by obtain⟨a,o,rfl,n,q,z,c⟩:=h;obtain⟨vw,s⟩:=g.vw.show q z c.nt;refine⟨upd Hv' a o,⟨g.old,g.vis.trans s,vw,λb u e m=>?_⟩,wR cM (c.same s)⟩;rw[bh (eh e n)];exact g.hid b u e m
theorem AW.p(h:AW M qV t m):AW M qP t m:=λe σ H Hv Q I q=>h e σ H Hv Q I (q.mono λw z v H' Hv' g k=>z v H' Hv' g (JP k))
theorem AW.nv(h:AW M qN t m):AW M qV t m:=λe σ H Hv Q I q=>h e σ H Hv Q I (q.mono λw z v H' Hv' g k=>let ⟨ue,g',r⟩:=JK g k;z v H' ue g' r)
theorem AE.p(h:AE M qV t a):AE M qP t a:=λe σ H Hv Q I q=>h e σ H Hv Q I (q.mono λw z v H' Hv' g k=>z v H' Hv' g (JP k))
theorem AE.np(h:AE M qN t a):AE M qP t a:=λe σ H Hv Q I q=>h e σ H Hv Q I (q.mono λw z v H' Hv' g k=>z v H' Hv' g (SK k))
theorem AE.nv(h:AE M qN t a):AE M qV t a:=λe σ H Hv Q I q=>h e σ H Hv Q I (q.mono λw z v H' Hv' g k=>let ⟨ue,g',r⟩:=JK g k;z v H' ue g' r)
theorem aH{i:Int}:AE M qV (tC (.int i)) (Mi.mC (.int i)):=λe σ H Hv Q I h=>h _ H Hv (.refl I.vw) iz
theorem sE{i:Str}:AE M qV (tC (.str i)) (Mi.mC (.str i)):=λe σ H Hv Q I h=>h _ H Hv (.refl I.vw) vi
theorem gz{i:Bool}:AE M qV (tC (.bl i)) (Mi.mC (.bl i)):=λe σ H Hv Q I h=>h _ H Hv (.refl I.vw) fZ
theorem yt:AE M qV (tC .non) (Mi.mC .non):=λe σ H Hv Q I h=>h _ H Hv (.refl I.vw) GR
theorem Gq{e:r9}{i:Nat}{k:D->Prop}(h:Fin (Mi.mV i e) k):∃d,e[i]? = ac (ac (.d d))/\k d:=by
 unfold Mi.mV at h;split at h
 ·exact⟨_,‹_›,h⟩
 ·exact h.elim
theorem vk{e:r9}{i:Nat}{k:W->Prop}(h:Fin (Mi.wV i e) k):∃w,e[i]? = ac (ac w)/\k w:=by
 unfold Mi.wV at h;split at h
 ·exact⟨_,‹_›,h⟩
 ·exact h.elim
theorem Fg(i:Nat)(hm:M i=false):AE M qV (io i) (Mi.mV i):=λe σ H Hv Q I h=>by
 obtain⟨d,he,k⟩:=Gq h;obtain⟨v,q,z⟩:=I.nob i _ he hm;exact⟨v,q,k v H Hv (.refl I.vw) z⟩
theorem UV{H Hv:Hp}{w:W}{v:V}(h:Own H Hv w v):RB H Hv w v:=by obtain⟨a,o,e,q,_,c⟩:=h;exact .inr ⟨a,o,e,q,c⟩
theorem R0.any{e:r9}{σ:L2.St}{H Hv:Hp}(I:R0 M e σ H Hv){i:Nat}{w:W}(he:e[i]? = ac (ac w)):∃v,σ[i]? = ac (ac v)/\RB H Hv w v:=by
 cases hm:M i with
 |false=>
  obtain⟨v,q,z⟩:=I.nob i w he hm;exact⟨v,q,.inl z⟩
 |true=>
  obtain⟨v,q,z⟩:=I.own i w he hm;exact⟨v,q,UV z⟩
theorem am(i:Nat):AE M qP (io i) (Mi.mV i):=λe σ H Hv Q I h=>by
 obtain⟨d,he,k⟩:=Gq h;obtain⟨v,q,z⟩:=I.any he;exact⟨v,q,k v H Hv (.refl I.vw) z⟩
def B2(κ:Kd)(r:R2)(f:D->D->Rs D):Prop:=∀x y v u H Hv Q,Vw H Hv->RD H Hv x v->RD H Hv y u->Fin (f x y) (λd=>∀w H' Hv',cu H Hv H' Hv'->κ H H' Hv' (.d d) w->Q w H')->r v u H Q
def B1(κ:Kd)(r:V->Hp->VK->Prop)(f:D->Rs D):Prop:=∀x v H Hv Q,Vw H Hv->RD H Hv x v->Fin (f x) (λd=>∀w H' Hv',cu H Hv H' Hv'->κ H H' Hv' (.d d) w->Q w H')->r v H Q
def BN(κ:Kd)(r:List V->Hp->VK->Prop)(f:List D->Rs D):Prop:=∀ds vs H Hv Q,Vw H Hv->P2 (RD H Hv) ds vs->Fin (f ds) (λd=>∀w H' Hv',cu H Hv H' Hv'->κ H H' Hv' (.d d) w->Q w H')->r vs H Q
theorem aq[KM κ](hr:B2 κ r f)(ha:AE M qP ta a)(hb:AE M qP tb b):AE M κ (oY r ta tb) (Mi.m2 f a b):=λe σ H Hv Q I h=>
 ha e σ H Hv _ I ((aG.mp h).mono λx hx v H1 Hv1 g1 rx=>hb e σ H1 Hv1 _ (I.grow g1) ((aG.mp hx).mono λy hy u H2 Hv2 g2 ry=>
  hr x y v u H2 Hv2 Q g2.vw (RB.grow g2 rx) ry (hy.mono λd hd w H3 Hv3 g3 rw=>hd w H3 Hv3 (g1.trans (g2.trans g3)) (KM.mono (g1.old.trans g2.old) rw))))
theorem Ig[KM κ]{r:V->Hp->VK->Prop}{f:D->Rs D}(hr:B1 κ r f)(ha:AE M qP ta a):AE M κ (Fe r ta) (Mi.m1 f a):=λe σ H Hv Q I h=>
 ha e σ H Hv _ I ((aG.mp h).mono λx hx v H1 Hv1 g1 rx=>hr x v H1 Hv1 Q g1.vw rx (hx.mono λd hd w H3 Hv3 g3 rw=>hd w H3 Hv3 (g1.trans g3) (KM.mono g1.old rw)))
theorem u8{x:D}{k:Bool->Prop}(h:Fin (Mi.oK x) k):∃b,x=.bl b/\k b:=by
 cases x with
 |bl b=>exact⟨b,rfl,h⟩
 |_=>exact h.elim
theorem sr{x:D}{k:Int->Prop}(h:Fin (Mi.oN x) k):∃b,x=.int b/\k b:=by
 cases x with
 |int b=>exact⟨b,rfl,h⟩
 |_=>exact h.elim
theorem Bq(ha:AE M qP ta a)(hb:AE M qV tb b):AE M qV (Et ta tb) (Mi.sS a b):=λe σ H Hv Q I h=>
 ha e σ H Hv _ I ((aG.mp h).mono λx hx v H1 Hv1 g1 rx=>by
  obtain⟨k,rfl,hk⟩:=u8 (aG.mp hx);cases RD.bl rx;refine⟨k,rfl,?_⟩;cases k with
  |true=>exact ml (hb e σ H1 Hv1 Q (I.grow g1) (Fin.mono (Mi.oe hk) λd hd w H2 Hv2 g2 rw=>hd w H2 Hv2 (g1.trans g2) rw))
  |false=>exact m4 ((Mi.jQ (Mi.oj hk)) _ H1 Hv1 g1 fZ))
theorem JW(ha:AE M qP ta a)(hb:AE M qV tb b):AE M qV (HZ ta tb) (Mi.oP a b):=λe σ H Hv Q I h=>
 ha e σ H Hv _ I ((aG.mp h).mono λx hx v H1 Hv1 g1 rx=>by
  obtain⟨k,rfl,hk⟩:=u8 (aG.mp hx);cases RD.bl rx;refine⟨k,rfl,?_⟩;cases k with
  |false=>exact m4 (hb e σ H1 Hv1 Q (I.grow g1) (Fin.mono (Mi.oj hk) λd hd w H2 Hv2 g2 rw=>hd w H2 Hv2 (g1.trans g2) rw))
  |true=>exact ml ((Mi.jQ (Mi.oe hk)) _ H1 Hv1 g1 fZ))
theorem NQ(ha:AE M qP ta a):AE M qV (IE ta) (Mi.Be a):=λe σ H Hv Q I h=>
 ha e σ H Hv _ I ((aG.mp h).mono λx hx v H1 Hv1 g1 rx=>by
  obtain⟨k,rfl,hk⟩:=u8 (aG.mp hx);cases RD.bl rx;exact⟨k,rfl,hk _ H1 Hv1 g1 fZ⟩)
theorem Gx[KM κ]{tt:TT}{k:Mi.C}(hc:AT M tt k)(ha:AE M κ ta a)(hb:AE M κ tb b):AE M κ (E7 tt ta tb) (Mi.rR k a b):=λe σ H Hv Q I h=>
 hc e σ H Hv _ I ((aG.mp h).mono λx hx H1 Hv1 g1=>by
  cases x with
  |true=>exact ml (ha e σ H1 Hv1 Q (I.grow g1) (Fin.mono (Mi.oe hx) λd hd w H2 Hv2 g2 rw=>hd w H2 Hv2 (g1.trans g2) (KM.mono g1.old rw)))
  |false=>exact m4 (hb e σ H1 Hv1 Q (I.grow g1) (Fin.mono (Mi.oj hx) λd hd w H2 Hv2 g2 rw=>hd w H2 Hv2 (g1.trans g2) (KM.mono g1.old rw))))
theorem Hx(h1:B2 qV r f)(h2:B2 qV r' g)(ha:AE M qP ta a)(hb:AE M qP tb b)(hc:AE M qP tc c):AE M qV (Ch r r' ta tb tc) (Mi.tp f g a b c):=λe σ H Hv Q I h=>
 ha e σ H Hv _ I ((aG.mp h).mono λx hx v H1 Hv1 g1 rx=>hb e σ H1 Hv1 _ (I.grow g1) ((aG.mp hx).mono λy hy u H2 Hv2 g2 ry=>
  h1 x y v u H2 Hv2 _ g2.vw (RB.grow g2 rx) ry ((aG.mp hy).mono λd hd w H3 Hv3 g3 rw=>by
   obtain⟨k,rfl,hk⟩:=u8 (aG.mp hd);cases(vq (H:=Hv3)).mp rw;refine⟨k,rfl,?_⟩;cases k with
   |false=>exact m4 ((Mi.jQ (Mi.oj hk)) _ H3 Hv3 (g1.trans (g2.trans g3)) fZ)
   |true=>exact ml (hc e σ H3 Hv3 _ (I.grow (g1.trans (g2.trans g3))) ((aG.mp (Mi.oe hk)).mono λz hz w4 H4 Hv4 g4 rz=>
    h2 y z u w4 H4 Hv4 Q g4.vw (RB.grow (g3.trans g4) ry) rz (hz.mono λd hd w5 H5 Hv5 g5 r5=>hd w5 H5 Hv5 (g1.trans (g2.trans (g3.trans (g4.trans g5)))) r5))))))
theorem kN:AO M K2 (Mi.jK af):=λe σ H Hv Q I h=>h H Hv (.refl I.vw)
theorem jH(ha:AE M qP ta a):AO M (Kw ta) (Mi.jK (ac a)):=λe σ H Hv Q I h=>
 ha e σ H Hv _ I ((aG.mp h).mono λx hx v H1 Hv1 g1 rx=>by
  obtain⟨i,rfl,hk⟩:=sr (aG.mp hx);exact⟨i,RD.int rx,hk H1 Hv1 g1⟩)
def BS(κ:Kd)(r:V->Option Int->Option Int->Hp->VK->Prop)(f:D->Option Int->Option Int->Rs D):Prop:=∀x lo hi v H Hv Q,Vw H Hv->RD H Hv x v->Fin (f x lo hi) (λd=>∀w H' Hv',cu H Hv H' Hv'->κ H H' Hv' (.d d) w->Q w H')->r v lo hi H Q
theorem jY[KM κ]{r:V->Option Int->Option Int->Hp->VK->Prop}{tl th:TO}{lo hi:Option Mi.E}{f:D->Option Int->Option Int->Rs D}(hr:BS κ r f)(ha:AE M qP ta a)(hl:AO M tl (Mi.jK lo))(hh:AO M th (Mi.jK hi)):AE M κ (Gj r ta tl th) (Mi.dP f a lo hi):=λe σ H Hv Q I h=>
 ha e σ H Hv _ I ((aG.mp h).mono λx hx v H1 Hv1 g1 rx=>hl e σ H1 Hv1 _ (I.grow g1) ((aG.mp hx).mono λl hl H2 Hv2 g2=>hh e σ H2 Hv2 _ (I.grow (g1.trans g2)) ((aG.mp hl).mono λu hu H3 Hv3 g3=>
  hr x l u v H3 Hv3 Q g3.vw (RB.grow (g2.trans g3) rx) (hu.mono λd hd w H4 Hv4 g4 rw=>hd w H4 Hv4 (g1.trans (g2.trans (g3.trans g4))) (KM.mono (g1.old.trans (g2.old.trans g3.old)) rw)))))
theorem fP(ha:AE M qP ta a):AT M (tB ta) (Mi.cB a):=λe σ H Hv Q I h=>
 ha e σ H Hv _ I ((aG.mp h).mono λx hx v H1 Hv1 g1 rx=>by
  obtain⟨k,rfl,hk⟩:=u8 hx;exact⟨k,RD.bl rx,hk H1 Hv1 g1⟩)
theorem bO(ha:AE M qP ta a):AT M (A4 ta) (Mi.cB a):=fP ha
theorem xr{K:bb}(ha:AE M qP ta a):AT M (λσ H Q=>ta σ H λx H'=>∃k,z5 K x H' k/\Q k H') (Mi.lG a):=λe σ H Hv Q I h=>
 ha e σ H Hv _ I ((aG.mp h).mono λx hx v H1 Hv1 g1 rx=>by
  cases x with
  |non=>cases RD.non rx;exact⟨false,rfl,hx H1 Hv1 g1⟩
  |bl b=>cases RD.bl rx;exact⟨b,rfl,hx H1 Hv1 g1⟩
  |int i=>cases RD.int rx;exact⟨_,rfl,hx H1 Hv1 g1⟩
  |str y=>
   cases RD.str rx;obtain⟨hz,hq⟩:=Mi.dh hx;exact⟨_,⟨by rw[eK];exact hz,rfl⟩,hq H1 Hv1 g1⟩
  |lst ds=>
   obtain⟨p,xs,rfl,l,r⟩:=RD.lst g1.vw rx;refine⟨!xs.isEmpty,.inl ⟨xs,l.sq,rfl⟩,?_⟩;have:ds.isEmpty=xs.isEmpty:=by cases r<;>rfl
   rw[<- this];exact hx H1 Hv1 g1
  |tup ds=>
   obtain⟨p,xs,rfl,l,_,r⟩:=RD.tup g1.vw rx;refine⟨!xs.isEmpty,.inr (.inl ⟨xs,.inl (.inl l),rfl⟩),?_⟩;have:ds.isEmpty=xs.isEmpty:=by cases r<;>rfl
   rw[<- this];exact hx H1 Hv1 g1)
variable{tt uu:TT}{k l:Mi.C}
theorem kg(ha:AT M tt k)(hb:AT M uu l):AT M (Is tt uu) (Mi.cH k l):=λe σ H Hv Q I h=>
 ha e σ H Hv _ I ((aG.mp h).mono λx hx H1 Hv1 g1=>by
  cases x with
  |true=>exact ml (hb e σ H1 Hv1 Q (I.grow g1) (Fin.mono (Mi.oe hx) λb hd H2 Hv2 g2=>hd H2 Hv2 (g1.trans g2)))
  |false=>exact m4 ((Mi.jQ (Mi.oj hx)) H1 Hv1 g1))
theorem jF(ha:AT M tt k)(hb:AT M uu l):AT M (Kq tt uu) (Mi.dU k l):=λe σ H Hv Q I h=>
 ha e σ H Hv _ I ((aG.mp h).mono λx hx H1 Hv1 g1=>by
  cases x with
  |false=>exact m4 (hb e σ H1 Hv1 Q (I.grow g1) (Fin.mono (Mi.oj hx) λb hd H2 Hv2 g2=>hd H2 Hv2 (g1.trans g2)))
  |true=>exact ml ((Mi.jQ (Mi.oe hx)) H1 Hv1 g1))
theorem iM(ha:AT M tt k):AT M (G7 tt) (Mi.dE k):=λe σ H Hv Q I h=>
 ha e σ H Hv _ I ((aG.mp h).mono λx hx H1 Hv1 g1=>hx H1 Hv1 g1)
theorem jn:AT M Kz Mi.dz:=λe σ H Hv Q I h=>h H Hv (.refl I.vw)
variable{tr:TA}{as:List Mi.E}{ws:List Mi.EW}
theorem aW:AA M κ iF (Mi.eX []):=λe σ H Hv Q I h=>h [] H Hv (.refl I.vw) .nil
theorem aF[KM κ][KG κ](ha:AE M κ ta a)(hr:AA M κ tr (Mi.eX as)):AA M κ (hV ta tr) (Mi.eX (a::as)):=λe σ H Hv Q I h=>
 ha e σ H Hv _ I ((aG.mp h).mono λx hx v H1 Hv1 g1 rx=>hr e σ H1 Hv1 _ (I.grow g1) ((aG.mp hx).mono λxs hs vs H2 Hv2 g2 rs=>
  hs (v::vs) H2 Hv2 (g1.trans g2) (.cons (KG.go g2 rx) (rs.imp λ_ _ z=>KM.mono g1.old z))))
theorem bD:AAW M κ iF (Mi.d8 []):=λe σ H Hv Q I h=>h [] H Hv (.refl I.vw) .nil
theorem aO[KM κ][KG κ]{w:Mi.EW}(ha:AW M κ ta w)(hr:AAW M κ tr (Mi.d8 ws)):AAW M κ (hV ta tr) (Mi.d8 (w::ws)):=λe σ H Hv Q I h=>
 ha e σ H Hv _ I ((aG.mp h).mono λx hx v H1 Hv1 g1 rx=>hr e σ H1 Hv1 _ (I.grow g1) ((aG.mp hx).mono λxs hs vs H2 Hv2 g2 rs=>
  hs (v::vs) H2 Hv2 (g1.trans g2) (.cons (KG.go g2 rx) (rs.imp λ_ _ z=>KM.mono g1.old z))))
theorem cw[KM κ]{r:List V->Hp->VK->Prop}{f:List D->Rs D}(hr:BN κ r f)(ha:AA M qP tr (Mi.eX as)):AE M κ (pH r tr) (Mi.mN f as):=λe σ H Hv Q I h=>
 ha e σ H Hv _ I ((aG.mp h).mono λds hx vs H1 Hv1 g1 rx=>hr ds vs H1 Hv1 Q g1.vw rx (hx.mono λd hd w H3 Hv3 g3 rw=>hd w H3 Hv3 (g1.trans g3) (KM.mono g1.old rw)))
theorem dL(ha:AA M qV tr (Mi.eX as)):AE M qV (FQ tr) (Mi.mN Mi.dTup as):=λe σ H Hv Q I h=>
 ha e σ H Hv _ I ((aG.mp h).mono λds hx vs H1 Hv1 g1 rx=>by
  obtain⟨hz,hq⟩:=Mi.dh hx;refine⟨by rw[<- rx.len,eK];exact hz,λp hp=>?_⟩;have g2:cu H1 Hv1 (upd H1 p (.tup vs)) (upd Hv1 p (.tup vs)):=.new g1.vw hp;exact hq _ _ _ (g1.trans g2) (km.mpr ⟨p,vs,rfl,cM,f8 g2.vis rx⟩))
theorem ed(ha:AA M qV tr (Mi.eX as)):AE M qN (B9 tr) (Mi.mN Mi.b9 as):=λe σ H Hv Q I h=>
 ha e σ H Hv _ I ((aG.mp h).mono λds hx vs H1 Hv1 g1 rx=>by
  obtain⟨hz,hq⟩:=Mi.dh hx;refine⟨by rw[<- rx.len,eK];exact hz,λp hp=>?_⟩;have g2:cu H1 Hv1 (upd H1 p (.lst vs)) Hv1:=.nU g1.vw trivial hp;exact hq _ _ _ (g1.trans g2) ⟨p,.lst vs,rfl,g1.old.free hp,cM,qu g1.vw hp,rx⟩)
def bF(f:Mi.Fn):Sp:=λvs H Q _=>∃Hv ws,Vw H Hv/\P2 (jm Hv) ws vs/\Fin (f ws) (λw=>∀v H' Hv',cu H Hv H' Hv'->qV H H' Hv' w v->Q v H')
def cO(f:Mi.Fn):Sp:=λvs H Q _=>∃Hv ws,Vw H Hv/\P2 (jm Hv) ws vs/\Fin (f ws) (λw=>∀v H' Hv',cu H Hv H' Hv'->qN H H' Hv' w v->Q v H')
variable{fn:Mi.Fn}{E:XK}
theorem OT(ha:AAW M qV tr (Mi.d8 ws)):AW M qV (oI (bF fn) [] E tr) (Mi.jr fn ws):=λe σ H Hv Q I h=>
 ha e σ H Hv _ I ((aG.mp h).mono λds hx vs H1 Hv1 g1 rx=>by
  rw[ko];exact⟨Hv1,ds,g1.vw,rx,hx.mono λd hd w H3 Hv3 g3 rw=>hd w H3 Hv3 (g1.trans g3) rw⟩)
theorem Ve(ha:AAW M qV tr (Mi.d8 ws)):AW M qN (oI (cO fn) [] E tr) (Mi.jr fn ws):=λe σ H Hv Q I h=>
 ha e σ H Hv _ I ((aG.mp h).mono λds hx vs H1 Hv1 g1 rx=>by
  rw[ko];exact⟨Hv1,ds,g1.vw,rx,hx.mono λd hd w H3 Hv3 g3 rw=>hd w H3 Hv3 (g1.trans g3) (KM.mono (κ:=qN) g1.old rw)⟩)
theorem OA{w:W}{k:D->Prop}(h:Fin (Mi.xh w) k):∃d,w=.d d/\k d:=by
 cases w with
 |d x=>exact⟨x,rfl,h⟩
 |_=>exact h.elim
theorem AW.d{w:Mi.EW}(h:AW M κ t w):AE M κ t (λe=>(w e).bind Mi.xh):=λe σ H Hv Q I q=>
 h e σ H Hv Q I ((aG.mp q).mono λw z v H' Hv' g k=>by
  obtain⟨d,rfl,z⟩:=OA z;exact z v H' Hv' g k)
theorem dw(ha:AAW M qV tr (Mi.d8 ws)):AE M qV (oI (bF fn) [] E tr) (Mi.aR fn ws):=(OT ha).d
theorem eR(ha:AAW M qV tr (Mi.d8 ws)):AE M qN (oI (cO fn) [] E tr) (Mi.aR fn ws):=(Ve ha).d
def kI(H:Hp):Hp:=λa=>match H a with
 |some (.tbl _ _)=>af
 |x=>x
theorem nV{H:Hp}{a:ak}{o:HO}(h:H a=ac o)(n:NT o):kI H a=ac o:=by unfold kI;rw[h];cases o<;>first|rfl|exact n.elim
theorem xj{H:Hp}{a:ak}{o:HO}(h:kI H a=ac o):H a=ac o/\NT o:=by
 unfold kI at h;cases q:H a with
 |none=>rw[q]at h;cases h
 |some u=>
  rw[q]at h;cases u with
  |tbl w ps=>cases h
  |_=>cases h;exact⟨rfl,trivial⟩
theorem Vw.all{H:Hp}(k:ji H):Vw H (kI H):=⟨λa o e=>(xj e).1,λa xs e=>nV e trivial,λa o u e=>nV e trivial,k,λa o e=>(xj e).2⟩
theorem RB.VP{H Hv:Hp}(v:Vw H Hv){w:W}{x:V}(h:RB H Hv w x):jm (kI H) w x:=by
 have s:eA Hv (kI H):=λa o e=>nV (v.sub a o e) (v.nv a o e);rcases h with h|⟨a,o,rfl,q,c⟩
 ·exact sL s h
 ·exact wR (nV q c.nt) (c.same s)
def seen(H Hv H':Hp):Hp:=λa=>match Hv a,H a with
 |none,ac _=>af
 |_,_=>kI H' a
theorem Ro{H Hv H':Hp}(v:Vw H Hv)(s:Old H H')(k':ji H'):cu H Hv H' (seen H Hv H'):=by
 have key:∀a,(∃o,H a=ac o/\Hv a=af/\seen H Hv H' a=af)\/(seen H Hv H' a=kI H' a/\∀o,H a=ac o->Hv a=ac o):=λa=>by
  cases h1:Hv a with
  |none=>
   cases h2:H a with
   |none=>exact .inr ⟨by unfold seen;rw[h1,h2],λo e=>by cases e⟩
   |some o=>exact .inl ⟨o,rfl,rfl,by unfold seen;rw[h1,h2]⟩
  |some o=>
   refine .inr ⟨by unfold seen;rw[h1],λu e=>?_⟩;rw[v.sub a o h1]at e;exact e
 have back:∀b o,H' b=ac o->NT o->(∃u,H b=ac u)->∃u,H b=ac u:=λ_ _ _ _ z=>z;refine⟨s,λb o e=>?_,⟨λb o e=>?_,λb xs e=>?_,λb q u e=>?_,k',λb o e=>?_⟩,λb o e n=>?_⟩
 ·rcases key b with ⟨u,_,z,_⟩|⟨z,_⟩
  ·rw[e]at z;cases z
  ·rw[z];exact nV (s.nt b o (v.sub b o e) (v.nv b o e)) (v.nv b o e)
 ·rcases key b with ⟨u,_,_,z⟩|⟨z,_⟩
  ·rw[e]at z;cases z
  ·rw[z]at e;exact(xj e).1
 ·rcases key b with ⟨u,h1,h2,_⟩|⟨z,_⟩
  ·cases u with
   |tbl w ps=>exact absurd e (s.tab h1 trivial)
   |_=>
    have:=s.nt b _ h1 trivial;rw[e]at this;cases this
    try (rw[v.tup b xs h1]at h2;cases h2)
  ·rw[z];exact nV e trivial
 ·rcases key b with ⟨w,h1,h2,_⟩|⟨z,_⟩
  ·cases w with
   |tbl w ps=>exact absurd e (s.tab h1 trivial)
   |_=>
    have:=s.nt b _ h1 trivial;rw[e]at this;cases this
    try (rw[v.frz b q u h1]at h2;cases h2)
  ·rw[z];exact nV e trivial
 ·rcases key b with ⟨u,_,_,z⟩|⟨z,_⟩
  ·rw[e]at z;cases z
  ·rw[z]at e;exact(xj e).2
 ·rcases key b with ⟨u,h1,h2,z⟩|⟨z,k⟩
  ·exact z
  ·rw[k o e]at n;cases n
theorem EH(ha:AAW M qP tr (Mi.d8 ws)):AE M qV (oI (bF fn) [] E tr) (Mi.pb fn ws):=λe σ H Hv Q I h=>
 ha e σ H Hv _ I ((aG.mp (aG.mp h)).mono λds hx vs H1 Hv1 g1 rx=>by
  rw[ko];refine⟨kI H1,ds,.all g1.vw.cd,rx.imp λw v z=>RB.VP g1.vw z,hx.mono λw hd v H3 Hv3 g3 rw=>?_⟩;cases w with
  |d x=>
   obtain⟨hi,hd⟩:=Mi.dh hd;have g4:=Ro g1.vw g3.old g3.vw.cd;refine hd v H3 _ (g1.trans g4) (HK g4.vw.tup hi (pi g3.vw.sub rw))
  |_=>exact hd.elim)
end
end A
namespace A
open PySem L2 PyProof.Rows
open Mi (D W Rs Fin aG Out Tg)
variable[Tb:dm]
structure vb(J:It)(P:Hp->Hp->Prop)(ds:List D):Prop where
 go:∀i H Hv,P H Hv->Vw H Hv->i<ds.length->J.go i H
 yld:∀i H Hv x H',P H Hv->Vw H Hv->i<ds.length->J.yld i H x H'->∃Hv' d,cu H Hv H' Hv'/\ds[i]? = ac d/\Rep Hv' d x
 stop:∀H Hv,P H Hv->Vw H Hv->J.stop ds.length H
def Bk(M:Nat->Bool)(wi:TI)(it:Mi.I):Prop:=∀e σ H Hv (R:It->Hp->Prop),R0 M e σ H Hv->Fin (it e) (λds=>∀(J:It) H' Hv' (P:Hp->Hp->Prop),cu H Hv H' Hv'->vb J P ds->P H' Hv'->(∀H1 Hv1 H2 Hv2,P H1 Hv1->cu H1 Hv1 H2 Hv2->P H2 Hv2)->R J H')->wi σ H R
def j4(M:Nat->Bool)(wi:TI)(it:Mi.I):Prop:=∀e σ H Hv (R:It->Hp->Prop),R0 M e σ H Hv->Fin (it e) (λds=>∀(J:It) H' Hv' (P:Hp->Hp->Prop),cu H Hv H' Hv'->vb J P ds->P H' Hv'->(∀H1 Hv1 H2 Hv2,P H1 Hv1->eA Hv1 Hv2->Vw H2 Hv2->P H2 Hv2)->R J H')->wi σ H R
theorem jJ{α:Type}{r:Rs α}{k:α->Prop}(h:Fin r k):∃x,r=.ok x/\k x:=by
 cases r with
 |ok x=>exact⟨x,rfl,h⟩
 |_=>exact h.elim
section
variable{M:Nat->Bool}{ta tb:TE}{a b:Mi.E}{wi:TI}{it:Mi.I}{tr:TA}{as:List Mi.E}
theorem j4.c(h:j4 M wi it):Bk M wi it:=λe σ H Hv R I q=>h e σ H Hv R I (q.mono λds z J H' Hv' P g o p k=>z J H' Hv' P g o p λH1 Hv1 H2 Hv2 p g'=>k H1 Hv1 H2 Hv2 p g'.vis g'.vw)
theorem q9{J:It}{Ok:Hp->Prop}{xs:List V}(O:J.Of Ok xs){ds:List D}{P:Hp->Hp->Prop}(ok:∀H Hv,P H Hv->Vw H Hv->Ok H)(r:∀H Hv,P H Hv->P2 (Rep Hv) ds xs)(ex:∃H Hv,P H Hv):vb J P ds:=by
 have hl:ds.length=xs.length:=by obtain⟨H,Hv,p⟩:=ex;exact(r H Hv p).len
 refine⟨λi H Hv p v hi=>O.go i H (ok H Hv p v) (by omega),λi H Hv x H' p v hi y=>?_,λH Hv p v=>by rw[hl];exact O.stop H (ok H Hv p v)⟩;obtain⟨rfl,hx⟩:=O.yld i H x H' (ok H Hv p v) (by omega) y;obtain⟨d,hd,rx⟩:=(r H' Hv p).P0 hx;exact⟨Hv,d,.refl v,hd,rx⟩
def AJ(K:bb)(tl:TE):TI:=λσ H R=>Gk K tl σ H R\/JA K tl σ H R\/JT tl σ H R
theorem da{X:Cx}{tg l:bw}{tl:TE}(hl:PE X l tl):PI X tg l (AJ X.K tl):=λah s σ H R I h=>by
 rcases h with h|h|h
 ·exact PB hl ah s σ H R I h
 ·exact NJ hl ah s σ H R I h
 ·exact RA hl ah s σ H R I h
theorem Ii(H:Hp)(z:Str):P2 (Rep H) (z.cps.toList.map λc=>D.str ⟨#[c]⟩) (qJ z):=by
 unfold qJ
 induction z.cps.toList with
 |nil=>exact .nil
 |cons c r ih=>exact .cons (pj.mpr rfl) ih
theorem fA{K:bb}(ha:AE M qP ta a):Bk M (AJ K ta) (Mi.br a):=λe σ H Hv R I h=>by
 obtain⟨d,hd,h⟩:=jJ (aG.mp h);have run:∀Q:VK,(∀v H' Hv',cu H Hv H' Hv'->RD H' Hv' d v->Q v H')->ta σ H Q:=λQ q=>ha e σ H Hv Q I (by rw[hd];exact q);cases d with
 |lst ds=>
  refine .inl (run _ λv H' Hv' g r=>?_);obtain⟨p,xs,rfl,l,r⟩:=RD.lst g.vw r;exact⟨p,rfl,⟨xs,l.sq⟩,h (vv K p) H' Hv' (λH Hv=>Lst H p xs/\P2 (Rep Hv) ds xs) g (q9 KA (λH Hv p v=>p.1.sq) (λH Hv p=>p.2) ⟨H',Hv',l,r⟩) ⟨l,r⟩ λH1 Hv1 H2 Hv2 z g'=>⟨z.1.old g'.old,f8 g'.vis z.2⟩⟩
 |tup ds=>
  refine .inr (.inl (run _ λv H' Hv' g r=>?_));obtain⟨p,xs,rfl,l,_,r⟩:=RD.tup g.vw r;exact⟨p,rfl,⟨xs,.inl (.inl l)⟩,h (vC K p) H' Hv' (λH Hv=>H p=ac (.tup xs)/\P2 (Rep Hv) ds xs) g (q9 F0 (λH Hv p v=>.inl (.inl p.1)) (λH Hv p=>p.2) ⟨H',Hv',l,r⟩) ⟨l,r⟩ λH1 Hv1 H2 Hv2 z g'=>⟨g'.old.at z.1,f8 g'.vis z.2⟩⟩
 |str z=>
  refine .inr (.inr (run _ λv H' Hv' g r=>?_));exact⟨z,RD.str r,h (qr z) H' Hv' (λ_ _=>True) g (q9 EX (λ_ _ _ _=>trivial) (λH Hv _=>Ii Hv z) ⟨H,Hv,trivial⟩) trivial λ_ _ _ _ _ _=>trivial⟩
 |_=>exact h.elim
theorem ib{K:bb}(ha:AE M qV ta a):j4 M (AJ K ta) (Mi.br a):=λe σ H Hv R I h=>by
 obtain⟨d,hd,h⟩:=jJ (aG.mp h);have run:∀Q:VK,(∀v H' Hv',cu H Hv H' Hv'->Rep Hv' d v->Q v H')->ta σ H Q:=λQ q=>ha e σ H Hv Q I (by rw[hd];exact q);cases d with
 |lst ds=>
  refine .inl (run _ λv H' Hv' g r=>?_);obtain⟨p,xs,rfl,l,r⟩:=oW.mp r;exact⟨p,rfl,⟨xs,(l.same g.vw.sub).sq⟩,h (vv K p) H' Hv' (λH Hv=>Lst Hv p xs/\P2 (Rep Hv) ds xs) g (q9 KA (λH Hv p v=>(p.1.same v.sub).sq) (λH Hv p=>p.2) ⟨H',Hv',l,r⟩) ⟨l,r⟩ λH1 Hv1 H2 Hv2 z s v=>⟨z.1.same s,f8 s z.2⟩⟩
 |tup ds=>
  refine .inr (.inl (run _ λv H' Hv' g r=>?_));obtain⟨p,xs,rfl,l,r⟩:=km.mp r;exact⟨p,rfl,⟨xs,.inl (.inl (g.vw.sub _ _ l))⟩,h (vC K p) H' Hv' (λH Hv=>Hv p=ac (.tup xs)/\P2 (Rep Hv) ds xs) g (q9 F0 (λH Hv p v=>.inl (.inl (v.sub _ _ p.1))) (λH Hv p=>p.2) ⟨H',Hv',l,r⟩) ⟨l,r⟩ λH1 Hv1 H2 Hv2 z s v=>⟨s _ _ z.1,f8 s z.2⟩⟩
 |str z=>
  refine .inr (.inr (run _ λv H' Hv' g r=>?_));exact⟨z,pj.mp r,h (qr z) H' Hv' (λ_ _=>True) g (q9 EX (λ_ _ _ _=>trivial) (λH Hv _=>Ii Hv z) ⟨H,Hv,trivial⟩) trivial λ_ _ _ _ _ _ _=>trivial⟩
 |_=>exact h.elim
theorem Te(H:Hp)(lo hi:Int):P2 (Rep H) (Mi.dv lo hi) (qx lo (hi-lo).toNat):=by
 unfold Mi.dv qx
 induction b0 (hi-lo).toNat with
 |nil=>exact .nil
 |cons c r ih=>exact .cons (qm.mpr rfl) ih
theorem Kk(lo hi:Int)(H Hv:Hp):vb (oZ lo (hi-lo).toNat) (λ_ _=>True) (Mi.dv lo hi):=q9 Oo (λ_ _ _ _=>trivial) (λH Hv _=>Te Hv lo hi) ⟨H,Hv,trivial⟩
theorem gE(ha:AE M qP ta a):j4 M (Ft (hV ta iF)) (Mi.fj a):=λe σ H Hv R I h=>
 ha e σ H Hv _ I ((aG.mp h).mono λx hx v H1 Hv1 g1 rx=>by
  obtain⟨j,rfl,hk⟩:=sr (aG.mp hx);obtain⟨hz,hq⟩:=Mi.dh hk;cases RD.int rx;refine⟨j,rfl,hz.1,hz.2,?_⟩;have:=hq (oZ 0 (j-0).toNat) H1 Hv1 _ g1 (Kk 0 j H Hv) trivial λ_ _ _ _ _ _ _=>trivial;rw[Int.sub_zero]at this;exact this)
theorem UK(ha:AE M qP ta a)(hb:AE M qP tb b):j4 M (EN (hV ta (hV tb iF))) (Mi.uI a b):=λe σ H Hv R I h=>
 ha e σ H Hv _ I ((aG.mp h).mono λx hx v H1 Hv1 g1 rx=>hb e σ H1 Hv1 _ (I.grow g1) ((aG.mp hx).mono λy hy u H2 Hv2 g2 ry=>by
  obtain⟨i,rfl,hk⟩:=sr (aG.mp hy);obtain⟨j,rfl,hk⟩:=sr (aG.mp hk);obtain⟨hz,hq⟩:=Mi.dh hk;cases RD.int rx;cases RD.int ry;exact⟨i,j,rfl,⟨hz.1.1,hz.1.2,hz.2.1,hz.2.2⟩,hq (oZ i (j-i).toNat) H2 Hv2 _ (g1.trans g2) (Kk i j H Hv) trivial λ_ _ _ _ _ _ _=>trivial⟩))
end
def zw:List Nat->kO
 |[]=>u7
 |i::r=>uU (ju i) (zw r)
def vI:Tg->List Nat
 |.n i=>[i]
 |.t is=>is
def xM(K:bb):Tg->TG
 |.n i=>ju i
 |.t is=>Cm K is.length (zw is)
section
variable{P:Mi.Env->L2.St->Prop}{H Hv:Hp}
theorem GZ:∀{is:List Nat} {ds:List D} {xs:List V} {e:Mi.Env} {σ:L2.St} {Q:L2.St->Hp->Prop},(∀i∈is,∀e σ d v,P e σ->Rep Hv d v->P (e.set i (ac (.d d))) (σ.set i (ac v)))->P e σ->P2 (Rep Hv) ds xs ->
 Fin (Mi.rY is ds e) (λe'=>∀σ',P e' σ'->Q σ' H)->zw is xs σ H Q
 |[],[],xs,e,σ,Q,cl,p,r,h=>by
  cases r;exact⟨rfl,h σ p⟩
 |[],_::_,xs,e,σ,Q,cl,p,r,h=>h.elim
 |_::_,[],xs,e,σ,Q,cl,p,r,h=>h.elim
 |i::is,d::ds,xs,e,σ,Q,cl,p,r,h=>by
  cases r with
  |cons x t=>exact⟨_,_,rfl,GZ (λj hj=>cl j (er _ hj)) (cl i c6 _ _ _ _ p x) t h⟩
theorem Fm:∀{is:List Nat} {ds:List D} {e:Mi.Env} {k:Mi.Env->Prop},Fin (Mi.rY is ds e) k->ds.length=is.length
 |[],[],_,_,_=>rfl
 |[],_::_,_,_,h=>h.elim
 |_::_,[],_,_,h=>h.elim
 |i::is,d::ds,e,k,h=>by rw[dH,dH,Fm (is:=is) (ds:=ds) (k:=k) h]
theorem BI{K:bb}(vw:Vw H Hv){tg:Tg}{d:D}{v:V}{e:Mi.Env}{σ:L2.St}{Q:L2.St->Hp->Prop}(cl:∀i∈vI tg,∀e σ d v,P e σ->Rep Hv d v->P (e.set i (ac (.d d))) (σ.set i (ac v)))(p:P e σ)(r:Rep Hv d v)
 (h:Fin (tg.put d e) (λe'=>∀σ',P e' σ'->Q σ' H)):xM K tg v σ H Q:=by
 cases tg with
 |n i=>exact h _ (cl i (by simp[vI]) _ _ _ _ p r)
 |t is=>
  cases d with
  |tup ds=>
   obtain⟨a,xs,e1,l,r⟩:=km.mp r;exact⟨a,xs,e1,.inl (.inl (vw.sub _ _ l)),by rw[<- r.len];exact Fm h,GZ cl p r h⟩
  |_=>exact h.elim
end
theorem lH{α:Type}{l:List α}{i j:Nat}{x y:α}(h:(l.set i x)[j]? = ac y):(i=j/\x=y/\i<l.length)\/(i≠j/\l[j]? = ac y):=by
 rw[List.getElem?_set]at h;split at h
 ·split at h
  ·exact .inl ⟨‹_›,iS h,by omega⟩
  ·cases h
 ·exact .inr ⟨‹_›,h⟩
theorem R0.set{M:Nat->Bool}{e:Mi.Env}{σ:L2.St}{H Hv:Hp}(I:R0 M e σ H Hv){i:Nat}{w:W}{v:V}(hm:M i=false)(r:jm Hv w v):R0 M (e.set i (ac w)) (σ.set i (ac v)) H Hv:=by
 refine⟨I.vw,by rw[ou,ou];exact I.len,λj w' h m=>?_,λj w' h m=>?_⟩
 ·rcases lH h with ⟨rfl,h,l⟩|⟨n,h⟩
  ·cases h;exact⟨v,by rw[rf (by rw[I.len];exact l)],r⟩
  ·obtain⟨u,q,z⟩:=I.nob j w' h m;exact⟨u,by rw[iE n];exact q,z⟩
 ·rcases lH h with ⟨rfl,h,l⟩|⟨n,h⟩
  ·rw[hm]at m;cases m
  ·obtain⟨u,q,z⟩:=I.own j w' h m;exact⟨u,by rw[iE n];exact q,z⟩
theorem R1.set{M:Nat->Bool}{H0 Hv0:Hp}{e:Mi.Env}{σ:L2.St}{H Hv:Hp}(I:R1 M H0 Hv0 e σ H Hv){i:Nat}{w:W}{v:V}(hm:M i=false)(r:jm Hv w v):R1 M H0 Hv0 (e.set i (ac w)) (σ.set i (ac v)) H Hv:=by
 have nj:∀{j:Nat} {w':W},(e.set i (ac w))[j]? = ac (ac w')->M j=true->i≠j/\e[j]? = ac (ac w'):=λ{j w'} h m=>by
  rcases lH h with ⟨rfl,_,_⟩|⟨n,h⟩
  ·rw[hm]at m;cases m
  ·exact⟨n,h⟩
 refine⟨I.toR0.set hm r,I.gw,λj w' a h m q=>?_,λj k w1 w2 a b hjk h1 h2 m1 m2 q1 q2=>?_⟩
 ·obtain⟨n,h⟩:=nj h m;rw[iE n]at q;exact I.fresh j w' a h m q
 ·obtain⟨n1,h1⟩:=nj h1 m1;obtain⟨n2,h2⟩:=nj h2 m2;rw[iE n1]at q1;rw[iE n2]at q2;exact I.sep j k w1 w2 a b hjk h1 h2 m1 m2 q1 q2
def q8(ρ:List (Option Nat))(M:Nat->Bool):Nat->Bool:=λi=>match ρ[i]? with
 |some (ac j)=>M j
 |_=>false
theorem Fo{α:Type}{ρ:List (Option Nat)}{e:List (Option α)}{i:Nat}{w:α}(h:(ρ.map λo=>o.bind λj=>(e[j]?).join)[i]? = ac (ac w)):∃j,ρ[i]? = ac (ac j)/\e[j]? = ac (ac w):=by
 rw[fm]at h;cases hr:ρ[i]? with
 |none=>rw[hr]at h;cases h
 |some o=>
  rw[hr]at h;cases o with
  |none=>cases h
  |some j=>
   refine⟨j,rfl,?_⟩;have h:(e[j]?).join=ac w:=iS h;cases hq:e[j]? with
   |none=>rw[hq]at h;cases h
   | some o' => rw [hq] at h; have h : o' = ac w := h
                rw[h]
theorem K3{α:Type}{ρ:List (Option Nat)}{e:List (Option α)}{i j:Nat}{w:α}(h1:ρ[i]? = ac (ac j))(h2:e[j]? = ac (ac w)):(ρ.map λo=>o.bind λj=>(e[j]?).join)[i]? = ac (ac w):=by rw[fm,h1];show ac ((e[j]?).join)=_;rw[h2];rfl
theorem R0.pick{M:Nat->Bool}{e:Mi.Env}{σ:L2.St}{H Hv:Hp}(I:R0 M e σ H Hv)(ρ:List (Option Nat)):R0 (q8 ρ M) (Mi.kW ρ e) (L2.pick ρ σ) H Hv:=by
 refine⟨I.vw,by unfold Mi.kW L2.pick;rw[aU,aU],λi w h m=>?_,λi w h m=>?_⟩
 ·obtain⟨j,h1,h2⟩:=Fo h;have m:M j=false:=by unfold q8 at m;rw[h1]at m;exact m
  obtain⟨v,q,z⟩:=I.nob j w h2 m;exact⟨v,K3 h1 q,z⟩
 ·obtain⟨j,h1,h2⟩:=Fo h;have m:M j=true:=by unfold q8 at m;rw[h1]at m;exact m
  obtain⟨v,q,z⟩:=I.own j w h2 m;exact⟨v,K3 h1 q,z⟩
theorem N2{tg:Tg}{c:Mi.C}{a:Mi.E}{e:Mi.Env}{x:D}{r:List D}{k:List D->Prop}(h:Fin (Mi.dA tg c a e (x::r)) k) :
 Fin (tg.put x e) λe1=>Fin (c e1) λb=>if b=true then Fin (a e1) λy=>Fin (Mi.dA tg c a e r) λys=>k (y::ys)else Fin (Mi.dA tg c a e r) k:=by
 refine(aG.mp h).mono λe1 h1=>(aG.mp h1).mono λb h2=>?_;cases b with
 |true=>exact ml ((aG.mp (Mi.oe h2)).mono λy h3=>(aG.mp h3).mono λys h4=>h4)
 |false=>exact m4 (Mi.oj h2)
theorem eE{M:Nat->Bool}{K:bb}{ρ:List (Option Nat)}{wi:TI}{it:Mi.I}{tg:Tg}{tc:TT}{c:Mi.C}{te:TE}{a:Mi.E}(hi:Bk M wi it)(hm:∀i∈vI tg,q8 ρ M i=false)(hc:AT (q8 ρ M) tc c)(he:AE (q8 ρ M) qV te a) :
 AE M qN (yu wi ρ (xM K tg) tc te) (Mi.bV ρ it tg c a):=λe σ H Hv Q I h=>
 hi e σ H Hv _ I ((aG.mp h).mono λds h1 J H1 Hv1 P g1 O p1 per=>by
  obtain⟨hz,h1⟩:=Mi.dh h1;have h1:=aG.mp h1;have I1:=I.grow g1;refine⟨λi m acc H'=>m=ds.length-i/\i<=ds.length/\∃Hv',cu H1 Hv1 H' Hv'/\P H' Hv'/\acc.length<=i/\∃done,P2 (Rep Hv') done acc/\Fin (Mi.dA tg c a (Mi.kW ρ e) (ds.drop i)) λys=>∀v H2 Hv2,cu H Hv H2 Hv2->qN H H2 Hv2 (.d (.lst (done++ys))) v->Q v H2,
   ⟨ds.length,by simp,gZ _,Hv1,.refl g1.vw,p1,bJ _,[],.nil,by rw[vQ];exact h1.mono λys z=>z⟩,?_⟩
  rintro i m acc H' ⟨rfl,hle,Hv',g,pp,l,done,pd,hf⟩;by_cases hlt:i<ds.length
  ·refine .inr ⟨O.go i H' Hv' pp g.vw hlt,by rw[eK];omega,λacc' H2=>∃Hv2,cu H1 Hv1 H2 Hv2/\P H2 Hv2/\acc'.length<=i+1/\∃done,P2 (Rep Hv2) done acc'/\Fin (Mi.dA tg c a (Mi.kW ρ e) (ds.drop (i+1))) λys=>∀v H3 Hv3,cu H Hv H3 Hv3->qN H H3 Hv3 (.d (.lst (done++ys))) v->Q v H3,
    λacc' H2 z=>⟨ds.length-(i+1),by omega,rfl,hlt,z⟩,λx H2 y=>?_⟩
   obtain⟨Hv2,d,g2,hd,rx⟩:=O.yld i H' Hv' x H2 pp g.vw hlt y;have g12:=g.trans g2;have hdr:ds.drop i=d::ds.drop (i+1):=by obtain⟨hl,e1⟩:=eW.mp hd;rw[re hl,e1]
   rw[hdr]at hf;have hf:=N2 hf;refine BI (P:=λe1 σ1=>R0 (q8 ρ M) e1 σ1 H2 Hv2) g2.vw (λj hj e1 σ1 d1 v1 r1 z=>r1.set (hm j hj) z) ((I1.grow g12).pick ρ) rx (hf.mono λe1 hf1 σ1 r1=>?_);refine hc e1 σ1 H2 Hv2 _ r1 (hf1.mono λb hb H3 Hv3 g3=>?_);cases b with
   |true=>
    refine ml (he e1 σ1 H3 Hv3 _ (r1.grow g3) (Fin.mono (by simpa using hb) λy hy v H4 Hv4 g4 ry=>?_));exact⟨Hv4,g12.trans (g3.trans g4),per _ _ _ _ pp (g2.trans (g3.trans g4)),by rw[dC,oq];omega,done++[y],(f8 (g2.trans (g3.trans g4)).vis pd).append (.cons ry .nil),hy.mono λys z v H5 Hv5 g5 k=>z v H5 Hv5 g5 (by rw[ot]at k;exact k)⟩
   |false=>exact m4 ⟨Hv3,g12.trans g3,per _ _ _ _ pp (g2.trans g3),by omega,done,f8 (g2.trans g3).vis pd,by simpa using hb⟩
  ·have hi:i=ds.length:=by omega
   subst hi;refine .inl ⟨O.stop H' Hv' pp g.vw,λp hp=>?_⟩;rw[yB (bJ _)]at hf;have g2:cu H' Hv' (upd H' p (.lst acc)) Hv':=.nU g.vw trivial hp;refine hf _ _ _ (g1.trans (g.trans g2)) ⟨p,.lst acc,rfl,(g1.old.trans g.old).free hp,cM,qu g.vw hp,?_⟩;show P2 (Rep Hv') (done++[]) acc;rw[ko];exact pd)
def mX(M:Nat->Bool)(κ:Kd)(H0 Hv0:Hp)(D:Ends)(Hv:Hp):Out->Prop
 |.nx e=>∀σ H' Hv',R1 M H0 Hv0 e σ H' Hv'->eA Hv Hv'->D.nx σ H'
 |.rt w=>∀v H' Hv',cu H0 Hv0 H' Hv'->κ H0 H' Hv' w v->D.rt v H'
 |.bk e=>∀σ H' Hv',R1 M H0 Hv0 e σ H' Hv'->eA Hv Hv'->D.bk σ H'
 |.ct e=>∀σ H' Hv',R1 M H0 Hv0 e σ H' Hv'->eA Hv Hv'->D.ct σ H'
def AS(M:Nat->Bool)(κ:Kd)(t:TS)(m:Mi.S):Prop:=∀H0 Hv0 e σ H Hv D,R1 M H0 Hv0 e σ H Hv->Fin (m e) (mX M κ H0 Hv0 D Hv)->t D σ H
section
variable{M:Nat->Bool}{κ:Kd}{t u:TS}{m n:Mi.S}{te:TE}{a b:Mi.E}{w:Mi.EW}
theorem di:AS M κ Iy Mi.bz:=λH0 Hv0 e σ H Hv D I h=>h σ H Hv I (eA.refl _)
theorem lD:AS M κ EU Mi.iK:=λH0 Hv0 e σ H Hv D I h=>h
theorem aN(h1:AS M κ t m)(h2:AS M κ u n):AS M κ (Ga t u) (Mi.aD m n):=λH0 Hv0 e σ H Hv D I h=>
 h1 H0 Hv0 e σ H Hv _ I ((aG.mp h).mono λo ho=>by
  cases o with
  |nx e'=>exactλσ' H' Hv' I' s=>h2 H0 Hv0 e' σ' H' Hv' D I' (Fin.mono ho λo z=>by
   cases o with
   |nx e2=>exactλσ2 H2 Hv2 I2 s2=>z σ2 H2 Hv2 I2 (s.trans s2)
   |rt w=>exact z
   |bk e2=>exactλσ2 H2 Hv2 I2 s2=>z σ2 H2 Hv2 I2 (s.trans s2)
   |ct e2=>exactλσ2 H2 Hv2 I2 s2=>z σ2 H2 Hv2 I2 (s.trans s2))
  |rt w=>exact ho
  |bk e'=>exact ho
  |ct e'=>exact ho)
theorem mW(ha:AE M qP te a):AS M κ (vE te) (Mi.i3 a):=λH0 Hv0 e σ H Hv D I h=>
 ha e σ H Hv _ I.toR0 ((aG.mp h).mono λd hd v H1 Hv1 g1 r=>hd σ H1 Hv1 (I.grow g1) g1.vis)
theorem bK(i:Nat)(hm:M i=false)(ha:AE M qV te a):AS M κ (mT te (ju i)) (Mi.aS i a):=λH0 Hv0 e σ H Hv D I h=>
 ha e σ H Hv _ I.toR0 ((aG.mp h).mono λd hd v H1 Hv1 g1 r=>hd _ H1 Hv1 ((I.grow g1).set hm r) g1.vis)
theorem wG{K:bb}(tg:Tg)(hm:∀i∈vI tg,M i=false)(ha:AE M qV te a):AS M κ (mT te (xM K tg)) (Mi.qy tg a):=λH0 Hv0 e σ H Hv D I h=>
 ha e σ H Hv _ I.toR0 ((aG.mp h).mono λd hd v H1 Hv1 g1 r=>
  BI (P:=λe1 σ1=>R1 M H0 Hv0 e1 σ1 H1 Hv1) g1.vw (λj hj e1 σ1 d1 v1 r1 z=>r1.set (hm j hj) z) (I.grow g1) r ((aG.mp hd).mono λe1 h1 σ1 I1=>h1 σ1 H1 Hv1 I1 g1.vis))
theorem dB(ha:AW M qV te w):AS M qV (qG te) (Mi.bA w):=λH0 Hv0 e σ H Hv D I h=>
 ha e σ H Hv _ I.toR0 ((aG.mp h).mono λd hd v H1 Hv1 g1 r=>hd v H1 Hv1 (I.gw.trans g1) r)
theorem kY(ha:AW M qN te w):AS M qN (qG te) (Mi.bA w):=λH0 Hv0 e σ H Hv D I h=>
 ha e σ H Hv _ I.toR0 ((aG.mp h).mono λd hd v H1 Hv1 g1 r=>hd v H1 Hv1 (I.gw.trans g1) (KM.mono (κ:=qN) I.gw.old r))
theorem cY{tt:TT}{c:Mi.C}(hc:AT M tt c)(h1:AS M κ t m)(h2:AS M κ u n):AS M κ (Ey tt t u) (Mi.bp c m n):=λH0 Hv0 e σ H Hv D I h=>
 hc e σ H Hv _ I.toR0 ((aG.mp h).mono λb hb H1 Hv1 g1=>by
  have up:∀o,mX M κ H0 Hv0 D Hv o->mX M κ H0 Hv0 D Hv1 o:=λo z=>by
   cases o with
   |nx e2=>exactλσ2 H2 Hv2 I2 s2=>z σ2 H2 Hv2 I2 (g1.vis.trans s2)
   |rt w=>exact z
   |bk e2=>exactλσ2 H2 Hv2 I2 s2=>z σ2 H2 Hv2 I2 (g1.vis.trans s2)
   |ct e2=>exactλσ2 H2 Hv2 I2 s2=>z σ2 H2 Hv2 I2 (g1.vis.trans s2)
  cases b with
  |true=>exact ml (h1 H0 Hv0 e σ H1 Hv1 D (I.grow g1) (Fin.mono (Mi.oe hb) up))
  |false=>exact m4 (h2 H0 Hv0 e σ H1 Hv1 D (I.grow g1) (Fin.mono (Mi.oj hb) up)))
theorem mX.up{H0 Hv0 Hv Hv1:Hp}{D:Ends}(s:eA Hv Hv1){o:Out}(z:mX M κ H0 Hv0 D Hv o):mX M κ H0 Hv0 D Hv1 o:=by
 cases o with
 |nx e2=>exactλσ2 H2 Hv2 I2 s2=>z σ2 H2 Hv2 I2 (s.trans s2)
 |rt w=>exact z
 |bk e2=>exactλσ2 H2 Hv2 I2 s2=>z σ2 H2 Hv2 I2 (s.trans s2)
 |ct e2=>exactλσ2 H2 Hv2 I2 s2=>z σ2 H2 Hv2 I2 (s.trans s2)
theorem d3{K:bb}{wi:TI}{it:Mi.I}{tg:Tg}(hi:j4 M wi it)(hm:∀i∈vI tg,M i=false)(hb:AS M κ t m):AS M κ (HP wi (xM K tg) t) (Mi.cJ it tg m):=λH0 Hv0 e σ H Hv D I h=>
 hi e σ H Hv _ I.toR0 ((aG.mp h).mono λds h1 J H1 Hv1 P g1 O p1 per=>by
  refine⟨λi k σ' H'=>k=ds.length-i/\i<=ds.length/\∃e' Hv',R1 M H0 Hv0 e' σ' H' Hv'/\P H' Hv'/\Fin (Mi.fV tg m (ds.drop i) e') (mX M κ H0 Hv0 D Hv'),
   ⟨ds.length,by simp,gZ _,e,Hv1,I.grow g1,p1,by rw[vQ];exact h1.mono λo z=>z.up g1.vis⟩,?_⟩
  rintro i k σ' H' ⟨rfl,hle,e',Hv',I',pp,hf⟩;by_cases hlt:i<ds.length
  ·refine .inr ⟨O.go i H' Hv' pp I'.vw hlt,λσ2 H2=>∃e2 Hv2,R1 M H0 Hv0 e2 σ2 H2 Hv2/\P H2 Hv2/\Fin (Mi.fV tg m (ds.drop (i+1)) e2) (mX M κ H0 Hv0 D Hv2),
    λσ2 H2 z=>⟨ds.length-(i+1),by omega,rfl,hlt,z⟩,λx H2 y=>?_⟩
   obtain⟨Hv2,d,g2,hd,rx⟩:=O.yld i H' Hv' x H2 pp I'.vw hlt y;have I2:=I'.grow g2;have hdr:ds.drop i=d::ds.drop (i+1):=by obtain⟨hl,e1⟩:=eW.mp hd;rw[re hl,e1]
   rw[hdr]at hf;refine BI (P:=λe1 σ1=>R1 M H0 Hv0 e1 σ1 H2 Hv2) g2.vw (λj hj e1 σ1 d1 v1 r1 z=>r1.set (hm j hj) z) I2 rx ((aG.mp hf).mono λe1 h1 σ1 I1=>?_);refine hb H0 Hv0 e1 σ1 H2 Hv2 _ I1 ((aG.mp h1).mono λo ho=>?_);cases o with
   |nx e2=>exactλσ2 H3 Hv3 I3 s3=>⟨e2,Hv3,I3,per _ _ _ _ pp (g2.vis.trans s3) I3.vw,Fin.mono ho λo z=>z.up (g2.vis.trans s3)⟩
   |ct e2=>exactλσ2 H3 Hv3 I3 s3=>⟨e2,Hv3,I3,per _ _ _ _ pp (g2.vis.trans s3) I3.vw,Fin.mono ho λo z=>z.up (g2.vis.trans s3)⟩
   |bk e2=>exactλσ2 H3 Hv3 I3 s3=>ho σ2 H3 Hv3 I3 (g2.vis.trans s3)
   |rt w=>exact ho
  ·have hi:i=ds.length:=by omega
   subst hi;refine .inl ⟨O.stop H' Hv' pp I'.vw,?_⟩;rw[yB (bJ _)]at hf;exact hf σ' H' Hv' I' (eA.refl _))
theorem Az{tt:TT}{c:Mi.C}(k:Nat)(hc:AT M tt c)(hb:AS M κ t m):AS M κ (F1 tt t) (Mi.qt k c m):=λH0 Hv0 e σ H Hv D I h=>by
 refine⟨λj σ' H'=>∃e' Hv',R1 M H0 Hv0 e' σ' H' Hv'/\Fin (Mi.gO c m j e') (mX M κ H0 Hv0 D Hv'),⟨k,e,Hv,I,h⟩,?_⟩;rintro j σ' H' ⟨e',Hv',I',hf⟩;cases j with
 |zero=>exact hf.elim
 |succ j=>
  refine hc e' σ' H' Hv' _ I'.toR0 ((aG.mp hf).mono λb hb' H1 Hv1 g1=>?_);cases b with
  |false=>exact m4 ((Mi.jQ (Mi.oj hb')) σ' H1 Hv1 (I'.grow g1) g1.vis)
  |true=>
   refine ml ⟨λσ2 H2=>∃e2 Hv2,R1 M H0 Hv0 e2 σ2 H2 Hv2/\Fin (Mi.gO c m j e2) (mX M κ H0 Hv0 D Hv2),λσ2 H2 z=>⟨j,y0 j,z⟩,?_⟩;refine hb H0 Hv0 e' σ' H1 Hv1 _ (I'.grow g1) ((aG.mp (Mi.oe hb')).mono λo ho=>?_);cases o with
   |nx e2=>exactλσ2 H2 Hv2 I2 s2=>⟨e2,Hv2,I2,Fin.mono ho λo z=>z.up (g1.vis.trans s2)⟩
   |ct e2=>exactλσ2 H2 Hv2 I2 s2=>⟨e2,Hv2,I2,Fin.mono ho λo z=>z.up (g1.vis.trans s2)⟩
   |bk e2=>exactλσ2 H2 Hv2 I2 s2=>ho σ2 H2 Hv2 I2 (g1.vis.trans s2)
   |rt w=>exact ho
end
end A
namespace A
open PySem L2 PyProof.Rows
open Mi (D W Rs Fin aG Out Tg)
variable[Tb:dm]
section
variable{M:Nat->Bool}{κ:Kd}{te:TE}{a b:Mi.E}{w:Mi.EW}{K:bb}
theorem R1.write{H0 Hv0:Hp}{e:Mi.Env}{σ:L2.St}{H Hv:Hp}(I:R1 M H0 Hv0 e σ H Hv){i:Nat}{w w':W}{p:ak}{o:HO}(hm:M i=true)(he:e[i]? = ac (ac w))(hs:σ[i]? = ac (ac (.ref p)))(c:f6 Hv w' o):R1 M H0 Hv0 (e.set i (ac w')) σ (upd H p o) Hv:=by
 have hp:∃o',H p=ac o'/\Hv p=af/\u0 o':=by obtain⟨v,q,a,o',e1,q1,n,c'⟩:=I.own i w he hm;rw[hs]at q;cases q;cases e1;exact⟨o',q1,n,c'.EC⟩
 obtain⟨o',hp,hn,hcc⟩:=hp;have h0:H0 p=af:=I.fresh i w p he hm hs;have vw:Vw (upd H p o) Hv:=by
  refine⟨λb u q=>?_,λb xs q=>?_,λb z u q=>?_,I.vw.cd.put hp hcc c.nt,I.vw.nv⟩
  ·rw[bh (eh q hn)];exact I.vw.sub b u q
  ·by_cases hb:b=p
   ·subst hb;rw[cM]at q;cases q;exact c.cell.elim
   ·rw[bh hb]at q;exact I.vw.tup b xs q
  ·by_cases hb:b=p
   ·subst hb;rw[cM]at q;cases q;exact c.cell.elim
   ·rw[bh hb]at q;exact I.vw.frz b z u q
 have get:∀{j:Nat} {w2:W},(e.set i (ac w'))[j]? = ac (ac w2)->(i=j/\w'=w2)\/(i≠j/\e[j]? = ac (ac w2)):=λ{j w2} h=>by
  rcases lH h with ⟨x,y,_⟩|z
  ·exact .inl ⟨x,iS y⟩
  ·exact .inr z
 have get':∀{j:Nat} {w2:W},(e.set i (ac w'))[j]? = ac (ac w2)->∃w3,e[j]? = ac (ac w3):=λ{j w2} h=>by
  rcases get h with ⟨x,_⟩|⟨_,z⟩
  ·subst x;exact⟨w,he⟩
  ·exact⟨w2,z⟩
 refine⟨⟨vw,by rw[ou];exact I.len,λj w2 h m=>?_,λj w2 h m=>?_⟩,⟨I.gw.old.put h0 hp,I.gw.vis,vw,I.gw.hid⟩,λj w2 x h m q=>?_,λj k w1 w2 x y hjk h1 h2 m1 m2 q1 q2=>?_⟩
 ·rcases get h with ⟨rfl,_⟩|⟨_,z⟩
  ·rw[hm]at m;cases m
  ·exact I.nob j w2 z m
 ·rcases get h with ⟨rfl,rfl⟩|⟨n,z⟩
  ·exact⟨.ref p,hs,p,o,rfl,cM,hn,c⟩
  ·obtain⟨v,q,x,u,e1,q1,n1,c1⟩:=I.own j w2 z m;subst e1;have:=I.sep i j w w2 p x n he z hm m hs q;exact⟨.ref x,q,x,u,rfl,by rw[bh (fv this)];exact q1,n1,c1⟩
 ·obtain⟨w3,z⟩:=get' h;exact I.fresh j w3 x z m q
 ·obtain⟨w3,z3⟩:=get' h1;obtain⟨w4,z4⟩:=get' h2;exact I.sep j k w3 w4 x y hjk z3 z4 m1 m2 q1 q2
theorem R1.cell{H0 Hv0:Hp}{e:Mi.Env}{σ:L2.St}{H Hv:Hp}(I:R1 M H0 Hv0 e σ H Hv){i:Nat}{w:W}(hm:M i=true)(he:e[i]? = ac (ac w)):∃p o,σ[i]? = ac (ac (.ref p))/\H p=ac o/\Hv p=af/\H0 p=af/\f6 Hv w o:=by obtain⟨v,q,p,o,rfl,q1,n,c⟩:=I.own i w he hm;exact⟨p,o,q,q1,n,I.fresh i w p he hm q,c⟩
theorem sM{e:Mi.Env}{i:Nat}{k:List D->Prop}(h:Fin (Mi.getL e i) k):∃ds,e[i]? = ac (ac (.d (.lst ds)))/\k ds:=by
 unfold Mi.getL at h;split at h
 ·exact⟨_,‹_›,h⟩
 ·exact h.elim
theorem R1.list{H0 Hv0:Hp}{e:Mi.Env}{σ:L2.St}{H Hv:Hp}(I:R1 M H0 Hv0 e σ H Hv){i:Nat}{ds:List D}(hm:M i=true)(he:e[i]? = ac (ac (.d (.lst ds)))):∃p xs,σ[i]? = ac (ac (.ref p))/\H p=ac (.lst xs)/\Hv p=af/\P2 (Rep Hv) ds xs:=by
 obtain⟨p,o,q,q1,n,_,c⟩:=I.cell hm he;cases o with
 |lst xs=>exact⟨p,xs,q,q1,n,c⟩
 |_=>exact c.elim
theorem R1.name{H0 Hv0:Hp}{e:Mi.Env}{σ:L2.St}{H Hv H1 Hv1:Hp}(I:R1 M H0 Hv0 e σ H Hv)(g:cu H Hv H1 Hv1){i:Nat}{w:W}{v:V}(hm:M i=true)(k:qN H H1 Hv1 w v):R1 M H0 Hv0 (e.set i (ac w)) (σ.set i (ac v)) H1 Hv1:=by
 obtain⟨p,o,rfl,hf,hp,hn,c⟩:=k;have I1:=I.grow g;have other:∀{j:Nat} {w2:W} {x:ak},e[j]? = ac (ac w2)->M j=true->σ[j]? = ac (ac (.ref x))->x≠p:=λ{j w2 x} h m q=>by
  obtain⟨p',o',q',q1,_⟩:=I.cell m h;rw[q]at q';cases q';exact eh q1 hf
 refine⟨⟨I1.vw,by rw[ou,ou];exact I.len,λj w2 h m=>?_,λj w2 h m=>?_⟩,I1.gw,λj w2 x h m q=>?_,λj k w1 w2 x y hjk h1 h2 m1 m2 q1 q2=>?_⟩
 ·rcases lH h with ⟨rfl,_⟩|⟨n,z⟩
  ·rw[hm]at m;cases m
  ·obtain⟨u,q,r⟩:=I1.nob j w2 z m;exact⟨u,by rw[iE n];exact q,r⟩
 ·rcases lH h with ⟨rfl,h,l⟩|⟨n,z⟩
  ·cases h;exact⟨.ref p,by rw[rf (by rw[I.len];exact l)],p,o,rfl,hp,hn,c⟩
  ·obtain⟨u,q,r⟩:=I1.own j w2 z m;exact⟨u,by rw[iE n];exact q,r⟩
 ·rcases lH h with ⟨rfl,h,l⟩|⟨n,z⟩
  ·rw[rf (by rw[I.len];exact l)]at q;cases q;exact I.gw.old.free hf
  ·rw[iE n]at q;exact I.fresh j w2 x z m q
 ·rcases lH h1 with ⟨rfl,_,l⟩|⟨n,z⟩
  ·rw[rf (by rw[I.len];exact l)]at q1;cases q1;rcases lH h2 with ⟨rfl,_,_⟩|⟨n2,z2⟩
   ·exact absurd rfl hjk
   ·rw[iE n2]at q2;exact fv (other z2 m2 q2)
  ·rw[iE n]at q1;rcases lH h2 with ⟨rfl,_,l⟩|⟨n2,z2⟩
   ·rw[rf (by rw[I.len];exact l)]at q2;cases q2;exact other z m1 q1
   ·rw[iE n2]at q2;exact I.sep j k w1 w2 x y hjk z z2 m1 m2 q1 q2
theorem hO(i:Nat)(hm:M i=true)(ha:AE M qN te a):AS M κ (mT te (ju i)) (Mi.aS i a):=λH0 Hv0 e σ H Hv D I h=>
 ha e σ H Hv _ I.toR0 ((aG.mp h).mono λd hd v H1 Hv1 g1 r=>hd _ H1 Hv1 (I.name g1 hm r) g1.vis)
theorem xk(i:Nat)(hm:M i=true)(ha:AW M qN te w):AS M κ (mT te (ju i)) (Mi.vf i w):=λH0 Hv0 e σ H Hv D I h=>
 ha e σ H Hv _ I.toR0 ((aG.mp h).mono λd hd v H1 Hv1 g1 r=>hd _ H1 Hv1 (I.name g1 hm r) g1.vis)
theorem Gw:AW M qN Km (λ_=>.ok (.dk [])):=λe σ H Hv Q I h p hp=>
 h _ _ Hv (.nU I.vw trivial hp) ⟨p,.dK [],rfl,hp,cM,qu I.vw hp,.nil⟩
theorem TY:AW M qN IG (λ_=>.ok (.dt [])):=λe σ H Hv Q I h p hp=>
 h _ _ Hv (.nU I.vw trivial hp) ⟨p,.dT [],rfl,hp,cM,qu I.vw hp,.nil⟩
theorem kD(i:Nat)(hm:M i=true)(ha:AE M qV te a):AS M κ (vE (sP K "list" BK (io i) (hV te iF))) (Mi.dI i a):=λH0 Hv0 e σ H Hv D I h=>by
 obtain⟨d,hd,h⟩:=jJ (aG.mp h);obtain⟨ds,he,h⟩:=sM (aG.mp h);obtain⟨hz,h⟩:=Mi.dh h;obtain⟨p,xs,q,q1,n,c⟩:=I.list hm he;refine⟨.ref p,q,.inl ⟨rfl,xs,.inl (.inl q1)⟩,ha e σ H Hv _ I.toR0 (by
  rw[hd];intro v H1 Hv1 g1 r;have I1:=I.grow g1;refine⟨p,xs,v,rfl,rfl,g1.old.at q1,by rw[<- c.len,eK];exact hz,?_⟩;exact h σ _ Hv1 (I1.write hm he q (show f6 Hv1 (.d (.lst (ds++[d]))) (.lst (xs++[v]))from(f8 g1.vis c).append (.cons r .nil))) g1.vis)⟩
theorem hZ{α:Type}{o:Option α}{k:α->Prop}(h:Fin (Mi.cQ o) k):∃x,o=ac x/\k x:=by
 cases o with
 |some x=>exact⟨x,rfl,h⟩
 |none=>exact h.elim
theorem UE(x y:Nat)(hx:M x=false)(hy:M y=true):AS M κ (mT (KN K "list" Li (io y)) (ju x)) (Mi.wZ x y):=λH0 Hv0 e σ H Hv D I h=>by
 obtain⟨ds,he,h⟩:=sM (aG.mp h);obtain⟨d,hd,h⟩:=hZ (aG.mp h);obtain⟨p,xs,q,q1,n,c⟩:=I.list hy he;rw[c.len]at hd;obtain⟨v,hv,r⟩:=c.getL hd;exact⟨.ref p,q,.inl ⟨rfl,xs,.inl (.inl q1)⟩,p,xs,v,rfl,rfl,q1,hv,h _ _ Hv ((I.write hy he q (show f6 Hv (.d (.lst ds.dropLast)) (.lst xs.dropLast)from c.dropLast)).set hx r) (eA.refl _)⟩
theorem Ux{n:Nat}{i:Int}{k:Nat}(h:Mi.f7 n i=ac k):seqIndex? i n=ac k:=by
 unfold Mi.f7 at h;split at h
 ·split at h
  ·rw[yU (by omega) (by omega)];exact h
  ·cases h
 ·split at h
  ·rw[yT (by omega) (by omega)];exact h
  ·cases h
theorem Tf{ds:List D}{i:Int}{k:D×List D->Prop}(h:Fin (Mi.wW ds i) k):-(2 ^ 63)<=i/\i<2 ^ 63/\∃j d,Mi.f7 ds.length i=ac j/\ds[j]? = ac d/\k (d,ds.eraseIdx j):=by obtain⟨⟨h1,h2⟩,h⟩:=Mi.dh h;obtain⟨j,hj,h⟩:=hZ (aG.mp h);obtain⟨d,hd,h⟩:=hZ (aG.mp h);exact⟨h1,h2,j,d,hj,hd,h⟩
theorem QP(x y:Nat)(hxy:x≠y)(hx:M x=true)(hy:M y=true)(ha:AE M qP te a):AS M κ (vE (sP K "list" BK (io x) (hV (sP K "list" Jj (io y) (hV te iF)) iF))) (Mi.xF x y a):=λH0 Hv0 e σ H Hv D I h=>by
 obtain⟨z,hz,h⟩:=jJ (aG.mp h);obtain⟨i,rfl,h⟩:=sr (aG.mp h);obtain⟨ds,he,h⟩:=sM (aG.mp h);obtain⟨h1,h2,j,d,hj,hd,h⟩:=Tf (aG.mp h);obtain⟨es,he2,h⟩:=sM (aG.mp h);obtain⟨hsz,h⟩:=Mi.dh h;have Mz:e[x]? = ac (ac (.d (.lst es))):=by
  have he2:(e.set y (ac (.d (.lst (ds.eraseIdx j)))))[x]? = _:=he2
  rwa [iE (fv hxy)]at he2
 obtain⟨p,xs,q,q1,n,c⟩:=I.list hy he;obtain⟨p',xs',q',q1',n',c'⟩:=I.list hx Mz;have hpp:p'≠p:=I.sep x y _ _ p' p hxy Mz he hx hy q' q;refine⟨.ref p',q',.inl ⟨rfl,xs',.inl (.inl q1')⟩,.ref p,q,.inl ⟨rfl,xs,.inl (.inl q1)⟩,ha e σ H Hv _ I.toR0 (by
  rw[hz];intro v H1 Hv1 g1 r;have I1:=I.grow g1;cases RD.int r;obtain⟨u,hu,ru⟩:=c.getL hd;rw[c.len]at hj;refine⟨p,xs,i,j,u,rfl,rfl,g1.old.at q1,h1,h2,Ux hj,hu,?_⟩;have I2:=I1.write hy he q (show f6 Hv1 (.d (.lst (ds.eraseIdx j))) (.lst (xs.eraseIdx j))from(f8 g1.vis c).erase j);refine⟨p',xs',u,rfl,rfl,by rw[bh hpp];exact g1.old.at q1',by rw[<- c'.len,eK];exact hsz,?_⟩;exact h σ _ Hv1 (I2.write hx he2 q' (show f6 Hv1 (.d (.lst (es++[d]))) (.lst (xs'++[u]))from(f8 g1.vis c').append (.cons (pi g1.vis ru) .nil))) g1.vis)⟩
theorem Lg{tk:TE}{k:Mi.E}(x:Nat)(hx:M x=true)(ha:AE M qV te a)(hk:AE M qP tk k):AS M κ (mT te (HI (io x) tk J1)) (Mi.tD x k a):=λH0 Hv0 e σ H Hv D I h=>by
 obtain⟨d,hd,h⟩:=jJ (aG.mp h);obtain⟨z,hz,h⟩:=jJ (aG.mp h);obtain⟨i,rfl,h⟩:=sr (aG.mp h);obtain⟨ds,he,h⟩:=sM (aG.mp h);obtain⟨j,hj,h⟩:=hZ (aG.mp h);obtain⟨p,xs,q,q1,n,c⟩:=I.list hx he;refine ha e σ H Hv _ I.toR0 (by
  rw[hd];intro v H1 Hv1 g1 r;refine⟨.ref p,q,hk e σ H1 Hv1 _ (I.toR0.grow g1) (by
   rw[hz];intro v2 H2 Hv2 g2 r2;cases RD.int r2;have I2:=(I.grow g1).grow g2;rw[c.len]at hj;refine⟨p,xs,i,j,rfl,rfl,g2.old.at (g1.old.at q1),hj,?_⟩;exact h σ _ Hv2 (I2.write hx he q (show f6 Hv2 (.d (.lst (ds.set j d))) (.lst (xs.set j v))from P2.set (pi g2.vis r) j (f8 (g1.trans g2).vis c))) (g1.trans g2).vis)⟩)
theorem nM(i:Nat)(hm:M i=true):AS M qN (qG (io i)) (Mi.bA (Mi.wV i)):=λH0 Hv0 e σ H Hv D I h=>by
 obtain⟨w,he,h⟩:=vk (aG.mp h);obtain⟨p,o,q,q1,n,h0,c⟩:=I.cell hm he;exact⟨.ref p,q,h _ H Hv I.gw ⟨p,o,rfl,h0,q1,n,c⟩⟩
theorem R1.Rc{H0 Hv0:Hp}{e:Mi.Env}{σ:L2.St}{H Hv:Hp}(I:R1 M H0 Hv0 e σ H Hv){y:Nat}{w:W}(hy:M y=true)(he:e[y]? = ac (ac w)):∃p Hv',σ[y]? = ac (ac (.ref p))/\R1 M H0 Hv0 (e.set y af) σ H Hv'/\eA Hv Hv'/\jm Hv' w (.ref p):=by
 obtain⟨p,o,q,q1,n,h0,c⟩:=I.cell hy he;obtain⟨vw,s⟩:=I.vw.show q1 n c.nt;have nj:∀{j:Nat} {w':W},(e.set y af)[j]? = ac (ac w')->y≠j/\e[j]? = ac (ac w'):=λ{j w'} h=>by
  rcases lH h with ⟨_,h,_⟩|z
  ·cases h
  ·exact z
 refine⟨p,upd Hv p o,q,⟨⟨vw,by rw[ou];exact I.len,λj w' h m=>?_,λj w' h m=>?_⟩,⟨I.gw.old,I.gw.vis.trans s,vw,λb u z1 z2=>?_⟩,λj w' x h m z=>?_,λj k w1 w2 x z hjk h1 h2 m1 m2 z1 z2=>?_⟩,s,wR cM (c.same s)⟩
 ·obtain⟨_,h⟩:=nj h;obtain⟨v,z,r⟩:=I.nob j w' h m;exact⟨v,z,sL s r⟩
 ·obtain⟨hne,h⟩:=nj h;obtain⟨v,z,x,u,e1,q2,n2,c2⟩:=I.own j w' h m;subst e1;have:=I.sep y j w w' p x hne he h hy m q z;exact⟨.ref x,z,x,u,rfl,q2,by rw[bh (fv this)];exact n2,c2.same s⟩
 ·rw[bh (eh z1 h0)];exact I.gw.hid b u z1 z2
 ·exact I.fresh j w' x (nj h).2 m z
 ·exact I.sep j k w1 w2 x z hjk (nj h1).2 (nj h2).2 m1 m2 z1 z2
theorem BL{κ':Type}[DecidableEq κ']{H:Hp}{k:κ'}{az:List (κ'×D)}{kv:List (κ'×V)}(h:iB H az kv):match Mi.iX az k with
 |some d=>∃v,jj kv k=ac v/\Rep H d v
 |none=>jj kv k=af:=by
 unfold Mi.iX jj
 induction h with
 |nil=>rfl
 | @cons p q l m hpq t ih=>
  rw[l5,l5,hpq.1];by_cases hk:q.1=k
  ·rw[ce hk];exact⟨q.2,rfl,hpq.2⟩
  ·rw[cS hk];exact ih
theorem IK{κ':Type}[DecidableEq κ']{H:Hp}{k:κ'}{d:D}{v:V}(r:Rep H d v){az:List (κ'×D)}{kv:List (κ'×V)}(h:iB H az kv):iB H (Mi.putK k d az) (L2.putK kv k v):=by
 have e:(az.any λx=>decide (x.1=k))=(kv.any λx=>decide (x.1=k)):=by
  induction h with
  |nil=>rfl
  | @cons p q l m hpq t ih=>rw[nk,nk,ih,hpq.1]
 unfold Mi.putK L2.putK;rw[e];split
 ·rename_i hh;clear hh e
  induction h with
  |nil=>exact .nil
  | @cons p q l m hpq t ih=>
   rw[cF,cF];refine .cons ?_ ih
   ·by_cases hk:q.1=k
    ·rw[bc hk,bc (hpq.1.trans hk)];exact⟨hpq.1,r⟩
    ·rw[ba hk,ba (λz=>hk (hpq.1.symm.trans z))];exact hpq
 ·exact P2.append h (.cons ⟨rfl,r⟩ .nil)
end
end A
namespace A
open PySem L2 PyProof.Rows
open Mi (D W Rs Fin aG Out Tg)
variable[Tb:dm]
section
variable{X:Cx}{K:bb}
def QI:R2:=λx y H Q=>∃i j,x=.str i/\y=.str j/\i.length+j.length<=sizeLine/\Q (.str (i++j)) H
theorem tF{ah:List (ak×Obj)}{σ:L2.St}{H:Hp}{s:aB}{a:ak}{xs:List V}(I:Inv X ah σ H s)(h:Lst H a xs):∃(au:List ai) (n:Nat),Vals xs au/\xs.length<=sizeLine/\s.heap.get? a=ac { cls:=.type "list", data:=.seq au.toArray n }:=by
 rcases h with h|⟨o,h⟩
 ·obtain⟨z,au,n,r,e⟩:=I.hok a _ h;exact⟨au,n,r,z,e⟩
 ·obtain⟨_,z,au,n,r,e⟩:=I.hok a _ h;exact⟨au,n,r,z,e⟩
def zC:R2:=λx y H Q=>∃l b xs zs,x=.ref l/\y=.ref b/\Lst H l xs/\Lst H b zs/\xs.length+zs.length<=sizeLine/\∀p,H p=af->Q (.ref p) (upd H p (.lst (xs++zs)))
theorem KH:dq X (binaryOp .Add) zC:=by
 intro ah s σ H x y v u Q I rx ry h;obtain⟨l,b,xs,zs,rfl,rfl,hH,hB,hz,q⟩:=h;cases rx;cases ry;obtain⟨au,n,r,z,e⟩:=tF I hH;obtain⟨its2,n2,r2,z2,e2⟩:=tF I hB;have hl:=r.length;have hl2:=r2.length;refine PySem.P.add_list e e2 ?_ (by rw[c7,c7];omega);have ea:au.toArray++its2.toArray=(au++its2).toArray:=by simp
 rw[ea];exact⟨.ref _,_,I.GJ (t':=s.toks) (r.append r2) (by rw[dC];omega),rfl,q _ I.fresh⟩
def JV:R2:=λx y H Q=>kM (λi j=>.int (i+j)) x y H Q\/QI x y H Q\/zC x y H Q
theorem dO:dq X (binaryOp .Add) JV:=Rj.or (dq.or US KH)
theorem s0{H Hv:Hp}(vw:Vw H Hv){ds:List D}{xs:List V}(r:P2 (Rep Hv) ds xs){p:ak}(hp:H p=af):cu H Hv (upd H p (.lst xs)) Hv/\qN H (upd H p (.lst xs)) Hv (.d (.lst ds)) (.ref p):=⟨.nU vw trivial hp,p,.lst xs,rfl,hp,cM,qu vw hp,r⟩
theorem Cu{H Hv:Hp}(vw:Vw H Hv){ds:List D}{xs:List V}(r:P2 (Rep Hv) ds xs){p:ak}(hp:H p=af):cu H Hv (upd H p (.lst xs)) (upd Hv p (.lst xs))/\qV H (upd H p (.lst xs)) (upd Hv p (.lst xs)) (.d (.lst ds)) (.ref p):=by have g:cu H Hv (upd H p (.lst xs)) (upd Hv p (.lst xs)):=.new vw hp;exact⟨g,oW.mpr ⟨p,xs,rfl,.inl cM,f8 g.vis r⟩⟩
theorem x5{H Hv:Hp}(vw:Vw H Hv){ds:List D}{xs:List V}(r:P2 (Rep Hv) ds xs){p:ak}(hp:H p=af):cu H Hv (upd H p (.tup xs)) (upd Hv p (.tup xs))/\qV H (upd H p (.tup xs)) (upd Hv p (.tup xs)) (.d (.tup ds)) (.ref p):=by have g:cu H Hv (upd H p (.tup xs)) (upd Hv p (.tup xs)):=.new vw hp;exact⟨g,km.mpr ⟨p,xs,rfl,cM,f8 g.vis r⟩⟩
theorem dQ:B2 qV JV Mi.a9:=λx y v u H Hv Q vw rx ry h=>by
 cases x with
 | int i=>cases y with
  |int j=>cases RD.int rx;cases RD.int ry;exact .inl ⟨i,j,rfl,rfl,h _ H Hv (.refl vw) iz⟩
  |_=>exact h.elim
 | str i=>cases y with
  |str j=>
   cases RD.str rx;cases RD.str ry;obtain⟨hz,h⟩:=Mi.dh h;exact .inr (.inl ⟨i,j,rfl,rfl,by rw[eK];exact hz,h _ H Hv (.refl vw) vi⟩)
  |_=>exact h.elim
 | lst a=>cases y with
  |lst b=>
   obtain⟨hz,h⟩:=Mi.dh h;obtain⟨p,xs,rfl,l1,r1⟩:=RD.lst vw rx;obtain⟨q,ys,rfl,l2,r2⟩:=RD.lst vw ry;refine .inr (.inr ⟨p,q,xs,ys,rfl,rfl,l1,l2,by rw[<- r1.len,<- r2.len,eK];exact hz,λa ha=>?_⟩);obtain⟨g,k⟩:=Cu vw (r1.append r2) ha;exact h _ _ _ g k
  |_=>exact h.elim
 |_=>cases y<;>exact h.elim
theorem Ru:B2 qN zC Mi.dCat:=λx y v u H Hv Q vw rx ry h=>by
 cases x with
 | lst a=>cases y with
  |lst b=>
   obtain⟨hz,h⟩:=Mi.dh h;obtain⟨p,xs,rfl,l1,r1⟩:=RD.lst vw rx;obtain⟨q,ys,rfl,l2,r2⟩:=RD.lst vw ry;refine⟨p,q,xs,ys,rfl,rfl,l1,l2,by rw[<- r1.len,<- r2.len,eK];exact hz,λa ha=>?_⟩;obtain⟨g,k⟩:=s0 vw (r1.append r2) ha;exact h _ _ _ g k
  |_=>exact h.elim
 |_=>cases y<;>exact h.elim
theorem n6:B2 qV (kM λi j=>.int (i-j)) Mi.fJ:=λx y v u H Hv Q vw rx ry h=>by
 cases x with
 | int i=>cases y with
  |int j=>cases RD.int rx;cases RD.int ry;exact⟨i,j,rfl,rfl,h _ H Hv (.refl vw) iz⟩
  |_=>exact h.elim
 |_=>cases y<;>exact h.elim
theorem j3:B2 qV (rI wQ λi j=>.int (i*j)) Mi.de:=λx y v u H Hv Q vw rx ry h=>by
 cases x with
 | int i=>cases y with
  |int j=>cases RD.int rx;cases RD.int ry;obtain⟨hz,h⟩:=Mi.dh h;exact⟨i,j,rfl,rfl,hz,h _ H Hv (.refl vw) iz⟩
  |_=>exact h.elim
 |_=>cases y<;>exact h.elim
theorem gn:B2 qV (rI JY λi j=>.int (i/j)) Mi.cW:=λx y v u H Hv Q vw rx ry h=>by
 cases x with
 | int i=>cases y with
  |int j=>cases RD.int rx;cases RD.int ry;obtain⟨hz,h⟩:=Mi.dh h;exact⟨i,j,rfl,rfl,hz,h _ H Hv (.refl vw) iz⟩
  |_=>exact h.elim
 |_=>cases y<;>exact h.elim
theorem eZ:B2 qV (rI (λ_ j=>0<j) λi j=>.int (i%j)) Mi.bL:=λx y v u H Hv Q vw rx ry h=>by
 cases x with
 | int i=>cases y with
  |int j=>cases RD.int rx;cases RD.int ry;obtain⟨hz,h⟩:=Mi.dh h;exact⟨i,j,rfl,rfl,hz,h _ H Hv (.refl vw) iz⟩
  |_=>exact h.elim
 |_=>cases y<;>exact h.elim
theorem Hl:B1 qV (rU λi=>.int (-i)) Mi.sK:=λx v H Hv Q vw rx h=>by
 cases x with
 |int i=>cases RD.int rx;exact⟨i,rfl,h _ H Hv (.refl vw) iz⟩
 |_=>exact h.elim
def La:R2:=λx y H Q=>kM (λi j=>.bl (decide (i<j))) x y H Q\/∃i j,x=.str i/\y=.str j/\Q (.bl (decide (i.cps.toList<j.cps.toList))) H
theorem tI:dq X (compareOp .Lt) La:=Qc.or UW
def Kr:R2:=λx y H Q=>kM (λi j=>.bl (decide (j<i))) x y H Q\/∃i j,x=.str i/\y=.str j/\Q (.bl (decide (j.cps.toList<i.cps.toList))) H
theorem sX:dq X (compareOp .Gt) Kr:=Qb.or VO
theorem sR:B2 qV La Mi.gr:=λx y v u H Hv Q vw rx ry h=>by
 cases x with
 | int i=>cases y with
  |int j=>cases RD.int rx;cases RD.int ry;exact .inl ⟨i,j,rfl,rfl,h _ H Hv (.refl vw) fZ⟩
  |_=>exact h.elim
 | str i=>cases y with
  |str j=>cases RD.str rx;cases RD.str ry;exact .inr ⟨i,j,rfl,rfl,h _ H Hv (.refl vw) fZ⟩
  |_=>exact h.elim
 |_=>cases y<;>exact h.elim
theorem sn:B2 qV Kr Mi.iu:=λx y v u H Hv Q vw rx ry h=>by
 cases x with
 | int i=>cases y with
  |int j=>cases RD.int rx;cases RD.int ry;exact .inl ⟨i,j,rfl,rfl,h _ H Hv (.refl vw) fZ⟩
  |_=>exact h.elim
 | str i=>cases y with
  |str j=>cases RD.str rx;cases RD.str ry;exact .inr ⟨i,j,rfl,rfl,h _ H Hv (.refl vw) fZ⟩
  |_=>exact h.elim
 |_=>cases y<;>exact h.elim
theorem xE:B2 qV (kM λi j=>.bl (decide (i<=j))) Mi.oi:=λx y v u H Hv Q vw rx ry h=>by
 cases x with
 | int i=>cases y with
  |int j=>cases RD.int rx;cases RD.int ry;exact⟨i,j,rfl,rfl,h _ H Hv (.refl vw) fZ⟩
  |_=>exact h.elim
 |_=>cases y<;>exact h.elim
def xC(K:bb)(neg:Bool):R2:=λx y H Q=>∃d e,L2.Rep K H d x/\L2.Rep K H e y/\d.dep<=16/\Q (.bl (if neg then !Mi.bP d e else Mi.bP d e)) H
theorem gH:B2 qV (xC K false) Mi.bM:=λx y v u H Hv Q vw rx ry h=>by
 obtain⟨hz,h⟩:=Mi.dh h;exact⟨x,y,nW K (RD.full vw rx),nW K (RD.full vw ry),hz,h _ H Hv (.refl vw) fZ⟩
theorem m7:B2 qV (xC K true) Mi.d6:=λx y v u H Hv Q vw rx ry h=>by
 obtain⟨hz,h⟩:=Mi.dh h;exact⟨x,y,nW K (RD.full vw rx),nW K (RD.full vw ry),hz,h _ H Hv (.refl vw) fZ⟩
def E1(neg:Bool):R2:=λx y H Q=>y=.non/\Q (.bl (if neg then !decide (x=.non)else decide (x=.non))) H
theorem Kb:dq X (compareOp .IsNot) (E1 true):=ND
theorem Ts{H Hv:Hp}{d:D}{v:V}(r:RD H Hv d v):decide (v=.non)=Mi.vg d:=by
 cases d with
 |non=>cases RD.non r;rfl
 |bl b=>cases RD.bl r;rfl
 |int b=>cases RD.int r;rfl
 |str b=>cases RD.str r;rfl
 |lst ds=>
  rcases r with r|⟨a,o,e,_⟩
  ·obtain⟨a,xs,e,_⟩:=oW.mp r;subst e;rfl
  ·subst e;rfl
 |tup ds=>
  obtain⟨a,xs,e,_⟩:=km.mp (r.rX λ_ z=>by cases z);subst e;rfl
theorem G6:B2 qV (E1 true) Mi.oO:=λx y v u H Hv Q vw rx ry h=>by
 cases y with
 |non=>
  cases RD.non ry;refine⟨rfl,?_⟩;show Q (.bl (!decide (v=.non))) H;rw[Ts rx];exact h _ H Hv (.refl vw) fZ
 |_=>exact h.elim
def GN(K:bb):R2:=λx y H Q=>xL K false x y H Q\/HJ false x y H Q
theorem g9(hu:X.A.units+64<cLine):dq X (compareOp .In) (GN X.K):=(PJ hu).or Qm
theorem x3{H:Hp}{ds:List D}{xs:List V}(h:P2 (Rep H) ds xs):L2.bS K H ds xs:=xW K (qi.mpr h)
theorem h9:B2 qV (GN K) Mi.b8:=λx y v u H Hv Q vw rx ry h=>by
 cases y with
 |lst ds=>
  obtain⟨hz,h⟩:=Mi.dh h;obtain⟨p,xs,rfl,l1,r1⟩:=RD.lst vw ry;exact .inl ⟨p,xs,x,ds,rfl,.inl l1.sq,nW K (RD.full vw rx),x3 (f8 vw.sub r1),hz,h _ H Hv (.refl vw) fZ⟩
 |tup ds=>
  obtain⟨hz,h⟩:=Mi.dh h;obtain⟨p,xs,rfl,l1,_,r1⟩:=RD.tup vw ry;exact .inl ⟨p,xs,x,ds,rfl,.inr (.inl (.inl l1)),nW K (RD.full vw rx),x3 (f8 vw.sub r1),hz,h _ H Hv (.refl vw) fZ⟩
 | str z=>cases x with
  |str c=>
   obtain⟨hz,h⟩:=Mi.dh h;cases RD.str rx;cases RD.str ry;obtain⟨⟨l⟩⟩:=c
   match l,hz with
   |[c],_=>exact .inr ⟨c,z,rfl,rfl,h _ H Hv (.refl vw) fZ⟩
  |_=>exact h.elim
 |_=>exact h.elim
theorem iH:B2 qV (xL K true) Mi.cz:=λx y v u H Hv Q vw rx ry h=>by
 cases y with
 |lst ds=>
  obtain⟨hz,h⟩:=Mi.dh h;obtain⟨p,xs,rfl,l1,r1⟩:=RD.lst vw ry;exact⟨p,xs,x,ds,rfl,.inl l1.sq,nW K (RD.full vw rx),x3 (f8 vw.sub r1),hz,h _ H Hv (.refl vw) fZ⟩
 |tup ds=>
  obtain⟨hz,h⟩:=Mi.dh h;obtain⟨p,xs,rfl,l1,_,r1⟩:=RD.tup vw ry;exact⟨p,xs,x,ds,rfl,.inr (.inl (.inl l1)),nW K (RD.full vw rx),x3 (f8 vw.sub r1),hz,h _ H Hv (.refl vw) fZ⟩
 |_=>exact h.elim
theorem Uh{α:Type}(xs:List α)(i:Int):Mi.eo xs i=L2.eo xs i:=rfl
theorem F7{α β:Type}{F:α->β->Prop}{l:List α}{m:List β}(h:P2 F l m){i:Int}{a:α}(e:Mi.eo l i=ac a):∃b,L2.eo m i=ac b/\F a b:=by
 unfold Mi.eo at e;cases hj:Mi.f7 l.length i with
 |none=>rw[hj]at e;cases e
 |some j=>
  rw[hj]at e;have e:l[j]? = ac a:=e;obtain⟨b,hb,r⟩:=h.getL e;refine⟨b,?_,r⟩;rw[<- Uh];unfold Mi.eo;rw[<- h.len,hj];exact hb
theorem bj:B2 qV (Cd K) Mi.aw:=λx y v u H Hv Q vw rx ry h=>by
 cases y with
 |int i=>
  cases RD.int ry;cases x with
  |lst ds=>
   obtain⟨d,e,h⟩:=hZ h;obtain⟨p,xs,rfl,l1,r1⟩:=RD.lst vw rx;obtain⟨z,ez,rz⟩:=F7 r1 e;exact .inl ⟨p,xs,i,z,rfl,rfl,l1.sq,ez,h z H Hv (.refl vw) rz⟩
  |tup ds=>
   obtain⟨d,e,h⟩:=hZ h;obtain⟨p,xs,rfl,l1,_,r1⟩:=RD.tup vw rx;obtain⟨z,ez,rz⟩:=F7 r1 e;exact .inr (.inl ⟨p,xs,i,z,rfl,rfl,.inl (.inl l1),ez,h z H Hv (.refl vw) rz⟩)
  |str z=>
   cases RD.str rx;obtain⟨hz,h⟩:=Mi.dh h;obtain⟨c,e,h⟩:=hZ (aG.mp h);exact .inr (.inr ⟨z,i,c,rfl,rfl,by rw[eK];exact hz,e,h _ H Hv (.refl vw) vi⟩)
  |_=>exact h.elim
 |_=>cases x<;>exact h.elim
theorem FW{F:D->V->Prop}{l:List D}{m:List V}(h:P2 F l m)(lo hi:Option Int):P2 F (Mi.gf l lo hi) (L2.sO m lo hi):=by unfold Mi.gf L2.sO;rw[h.len];exact(h.drop _).take _
def FA(K:bb):V->Option Int->Option Int->Hp->VK->Prop:=λx lo hi H Q=>By K x lo hi H Q\/HL x lo hi H Q
theorem lK:mr X (FA X.K):=G1.or Tz
theorem Op(z:Str)(lo hi:Option Int):sA z lo hi=Mi.pD z lo hi:=by
 unfold sA Mi.pD Mi.gf;have:z.cps.toList.length=z.length:=by simp[rG]
 rw[this];rfl
theorem lJ:BS qV (FA K) Mi.fE:=λx lo hi v H Hv Q vw rx h=>by
 cases x with
 |lst ds=>
  obtain⟨p,xs,rfl,l1,r1⟩:=RD.lst vw rx;refine .inl ⟨p,xs,rfl,l1.sq,λa ha=>?_⟩;obtain⟨g,k⟩:=Cu vw (FW r1 lo hi) ha;exact h _ _ _ g k
 |str z=>
  cases RD.str rx;obtain⟨hz,h⟩:=Mi.dh h;exact .inr ⟨z,rfl,by rw[eK];exact hz,h _ H Hv (.refl vw) (by rw[Op];exact vi)⟩
 |_=>exact h.elim
theorem lX{F:D->V->Prop}{d:D}{vs:List V}(h:P2 F [d] vs):∃v,vs=[v]/\F d v:=by
 cases h with
 |cons r t=>cases t;exact⟨_,rfl,r⟩
theorem Ku{F:D->V->Prop}{d e:D}{vs:List V}(h:P2 F [d,e] vs):∃v u,vs=[v,u]/\F d v/\F e u:=by
 cases h with
 | cons r t=>cases t with
  |cons r' t=>cases t;exact⟨_,_,rfl,r,r'⟩
def FI(K:bb):List V->Hp->VK->Prop:=λxs H Q=>∃x n,xs=[x]/\ER K x H n/\Q (.int n) H
theorem ga:gu X (.builtin "len") (FI X.K):=NZ
theorem cV:BN qV (FI K) Mi.cI:=λds vs H Hv Q vw r h=>by
 match ds,r,h with
 |[.lst ds],r,h=>
  obtain⟨v,ev,rr⟩:=lX r;subst ev;replace r:=rr;obtain⟨p,xs,rfl,l1,r1⟩:=RD.lst vw r;refine⟨_,xs.length,rfl,.inl ⟨xs,l1.sq,rfl⟩,?_⟩;rw[<- r1.len];exact h _ H Hv (.refl vw) iz
 |[.tup ds],r,h=>
  obtain⟨v,ev,rr⟩:=lX r;subst ev;replace r:=rr;obtain⟨p,xs,rfl,l1,_,r1⟩:=RD.tup vw r;refine⟨_,xs.length,rfl,.inr ⟨xs,.inl (.inl l1),rfl⟩,?_⟩;rw[<- r1.len];exact h _ H Hv (.refl vw) iz
 |[.str z],r,h=>
  obtain⟨v,ev,rr⟩:=lX r;subst ev;replace r:=rr;cases RD.str r;obtain⟨hz,h⟩:=Mi.dh h;exact⟨_,z.length,rfl,⟨by rw[eK];exact hz,rfl⟩,h _ H Hv (.refl vw) iz⟩
def Jh:List V->Hp->VK->Prop:=λxs H Q=>∃i j z,xs=[.int i,.int j]/\max i j=z/\Q (.int z) H
def Jv:List V->Hp->VK->Prop:=λxs H Q=>∃i j z,xs=[.int i,.int j]/\min i j=z/\Q (.int z) H
theorem xJ(hc:X.calm=true):gu X (.builtin "max") Jh:=P9 hc
theorem Im(hc:X.calm=true):gu X (.builtin "min") Jv:=Ue hc
theorem n4:BN qV Jh Mi.gT:=λds vs H Hv Q vw r h=>by
 match ds,r,h with
 |[.int i,.int j],r,h=>
  obtain⟨v,u,ev,rr,r'⟩:=Ku r;subst ev;replace r:=rr;cases RD.int r;cases RD.int r';exact⟨i,j,_,rfl,rfl,h _ H Hv (.refl vw) iz⟩
theorem u6:BN qV Jv Mi.k8:=λds vs H Hv Q vw r h=>by
 match ds,r,h with
 |[.int i,.int j],r,h=>
  obtain⟨v,u,ev,rr,r'⟩:=Ku r;subst ev;replace r:=rr;cases RD.int r;cases RD.int r';exact⟨i,j,_,rfl,rfl,h _ H Hv (.refl vw) iz⟩
theorem GY{Hv:Hp}:∀{ds:List D} {xs:List V} {bs:List Bool},Mi.nZ ds=ac bs->P2 (Rep Hv) ds xs->xs=bs.map V.bl
 |[],_,bs,e,r=>by cases e;cases r;rfl
 |.bl b::ds,_,bs,e,r=>by
  cases r with
  |cons x t=>
   cases hb:Mi.nZ ds with
   |none=>rw[Mi.nZ,hb]at e;cases e
   |some cs=>
    rw[Mi.nZ,hb]at e;cases e;rw[GY hb t,vq.mp x];rfl
 |.non::_,_,_,e,_=>by cases e
 |.int _::_,_,_,e,_=>by cases e
 |.str _::_,_,_,e,_=>by cases e
 |.lst _::_,_,_,e,_=>by cases e
 |.tup _::_,_,_,e,_=>by cases e
theorem uQ:BN qV (KO K (·.all id)) Mi.tG:=λds vs H Hv Q vw r h=>by
 match ds,r,h with
 |[.lst ds],r,h=>
  obtain⟨v,ev,rr⟩:=lX r;subst ev;replace r:=rr;obtain⟨bs,e,h⟩:=hZ (aG.mp h);obtain⟨p,xs,rfl,l1,r1⟩:=RD.lst vw r;have:=GY e r1;subst this;exact⟨p,bs,rfl,l1.sq,h _ H Hv (.refl vw) fZ⟩
def Fk(K:bb):List V->Hp->VK->Prop:=λxs H Q=>∃p ys,xs=[.ref p]/\(fK K H p ys\/fQ K H p ys)/\∀l,H l=af->Q (.ref l) (upd H l (.lst ys))
theorem lV:gu X (.type "list") (Fk X.K):=Tt
theorem fI:BN qN (Fk K) Mi.ie:=λds vs H Hv Q vw r h=>by
 match ds,r,h with
 |[.lst ds],r,h=>
  obtain⟨v,ev,rr⟩:=lX r;subst ev;replace r:=rr;obtain⟨p,xs,rfl,l1,r1⟩:=RD.lst vw r;refine⟨p,xs,rfl,.inl l1.sq,λa ha=>?_⟩;obtain⟨g,k⟩:=s0 vw r1 ha;exact h _ _ _ g k
 |[.tup ds],r,h=>
  obtain⟨v,ev,rr⟩:=lX r;subst ev;replace r:=rr;obtain⟨p,xs,rfl,l1,_,r1⟩:=RD.tup vw r;refine⟨p,xs,rfl,.inr (.inl (.inl l1)),λa ha=>?_⟩;obtain⟨g,k⟩:=s0 vw r1 ha;exact h _ _ _ g k
def FS(K:bb):List V->Hp->VK->Prop:=λxs H Q=>∃p ys,xs=[.ref p]/\((fK K H p ys/\∀l,H l=af->Q (.ref l) (upd H l (.tup ys)))\/(fQ K H p ys/\Q (.ref p) H))
theorem mH:gu X (.type "tuple") (FS X.K):=SJ
theorem gi:BN qV (FS K) Mi.jR:=λds vs H Hv Q vw r h=>by
 match ds,r,h with
 |[.lst ds],r,h=>
  obtain⟨v,ev,rr⟩:=lX r;subst ev;replace r:=rr;obtain⟨p,xs,rfl,l1,r1⟩:=RD.lst vw r;refine⟨p,xs,rfl,.inl ⟨l1.sq,λa ha=>?_⟩⟩;obtain⟨g,k⟩:=x5 vw r1 ha;exact h _ _ _ g k
 |[.tup ds],r,h=>
  obtain⟨v,ev,rr⟩:=lX r;subst ev;replace r:=rr;obtain⟨p,xs,rfl,l1,l2,r1⟩:=RD.tup vw r;exact⟨p,xs,rfl,.inr ⟨.inl (.inl l1),h _ H Hv (.refl vw) (km.mpr ⟨p,xs,rfl,l2,r1⟩)⟩⟩
def Ht:List V->Hp->VK->Prop:=λxs H Q=>(∃i,xs=[.int i]/\Q (.int i) H)\/∃k,xs=[.bl k]/\Q (.int (if k then 1 else 0)) H
theorem xy:gu X (.type "int") Ht:=OV
theorem nJ:BN qV Ht Mi.mS:=λds vs H Hv Q vw r h=>by
 match ds,r,h with
 |[.int i],r,h=>
  obtain⟨v,ev,rr⟩:=lX r;subst ev;replace r:=rr;cases RD.int r;exact .inl ⟨i,rfl,h _ H Hv (.refl vw) iz⟩
 |[.bl k],r,h=>
  obtain⟨v,ev,rr⟩:=lX r;subst ev;replace r:=rr;cases RD.bl r;exact .inr ⟨k,rfl,h _ H Hv (.refl vw) iz⟩
end
end A
namespace A
open PySem L2 PyProof.Rows
open Mi (D W Rs Fin aG Out Tg)
variable[Tb:dm]
section
variable{X:Cx}{ah:List (ak×Obj)}{σ:L2.St}{H:Hp}{s:aB}
open SeqAt in
theorem NK:∀{d e:D} {A:cR} {x y:V} {u u':ai},d.flat=true->e.flat=true->L2.Rep X.K H d x->L2.Rep X.K H e y->RelV x u->RelV y u'->RcAt A s u u' (Mi.bP d e)/\RcNeAt A s u u' (!Mi.bP d e):=by
 intro d e A x y u u' h1 h2 r1 r2 q1 q2;cases d with
 |non=>
  rw[L2.Rep]at r1;subst r1;cases q1;cases e with
  |non=>rw[L2.Rep]at r2;subst r2;cases q2;exact⟨RcAt.none_none,RcNeAt.none_none⟩
  |bl b=>rw[L2.Rep]at r2;subst r2;cases q2;exact⟨RcAt.none_bool b,RcNeAt.none_bool b⟩
  |int b=>rw[L2.Rep]at r2;subst r2;obtain⟨t,rfl⟩:=q2;exact⟨RcAt.none_int b t,RcNeAt.none_int b t⟩
  |str b=>rw[L2.Rep]at r2;subst r2;obtain⟨t,rfl⟩:=q2;exact⟨RcAt.none_str b t,RcNeAt.none_str b t⟩
  |_=>cases h2
 |bl a=>
  rw[L2.Rep]at r1;subst r1;cases q1;cases e with
  |non=>rw[L2.Rep]at r2;subst r2;cases q2;exact⟨RcAt.bool_none a,RcNeAt.bool_none a⟩
  |bl b=>rw[L2.Rep]at r2;subst r2;cases q2;rw[Mi.bP];exact⟨RcAt.bool_bool a b,RcNeAt.bool_bool a b⟩
  |int b=>rw[L2.Rep]at r2;subst r2;obtain⟨t,rfl⟩:=q2;rw[Mi.bP];exact⟨RcAt.bool_int a b t,RcNeAt.bool_int a b t⟩
  |str b=>rw[L2.Rep]at r2;subst r2;obtain⟨t,rfl⟩:=q2;exact⟨RcAt.bool_str a b t,RcNeAt.bool_str a b t⟩
  |_=>cases h2
 |int a=>
  rw[L2.Rep]at r1;subst r1;obtain⟨t1,rfl⟩:=q1;cases e with
  |non=>rw[L2.Rep]at r2;subst r2;cases q2;exact⟨RcAt.int_none a t1,RcNeAt.int_none a t1⟩
  |bl b=>rw[L2.Rep]at r2;subst r2;cases q2;rw[Mi.bP];exact⟨RcAt.int_bool a t1 b,RcNeAt.int_bool a t1 b⟩
  |int b=>rw[L2.Rep]at r2;subst r2;obtain⟨t,rfl⟩:=q2;rw[Mi.bP];exact⟨RcAt.int_int a t1 b t,RcNeAt.int_int a t1 b t⟩
  |str b=>rw[L2.Rep]at r2;subst r2;obtain⟨t,rfl⟩:=q2;exact⟨RcAt.int_str a t1 b t,RcNeAt.int_str a t1 b t⟩
  |_=>cases h2
 |str a=>
  rw[L2.Rep]at r1;subst r1;obtain⟨t1,rfl⟩:=q1;cases e with
  |non=>rw[L2.Rep]at r2;subst r2;cases q2;exact⟨RcAt.str_none a t1,RcNeAt.str_none a t1⟩
  |bl b=>rw[L2.Rep]at r2;subst r2;cases q2;exact⟨RcAt.str_bool a t1 b,RcNeAt.str_bool a t1 b⟩
  |int b=>rw[L2.Rep]at r2;subst r2;obtain⟨t,rfl⟩:=q2;exact⟨RcAt.str_int a t1 b t,RcNeAt.str_int a t1 b t⟩
  |str b=>rw[L2.Rep]at r2;subst r2;obtain⟨t,rfl⟩:=q2;rw[Mi.bP];exact⟨RcAt.str_str a t1 b t,RcNeAt.str_str a t1 b t⟩
  |_=>cases h2
 |_=>cases h1
open SeqAt in
theorem Kn(I:Inv X ah σ H s):∀(d e:D) (A:cR) {x y:V} {u u':ai},d.dep<=16->A.units+17<cLine->L2.Rep X.K H d x->L2.Rep X.K H e y->RelV x u->RelV y u'->RcAt A s u u' (Mi.bP d e)/\RcNeAt A s u u' (!Mi.bP d e):=by
 intro d e A x y u u' hd hu h h' r r';have hu0:A.units<cLine:=by omega
 have item:∀{ds es:List D} {xs ys:List V} {au its':List ai},Mi.eJ ds<=16->L2.bS X.K H ds xs->L2.bS X.K H es ys->Vals xs au->Vals ys its' ->
  ∀j (h1:j<au.toArray.size) (h2:j<its'.toArray.size),EqAt A.in1 s au.toArray[j] its'.toArray[j] (Mi.bP (ds.getD j .non) (es.getD j .non)):=by
  intro ds es xs ys au its' hn q q' v v' j h1 h2;have h1':j<au.length:=by simpa using h1
  have h2':j<its'.length:=by simpa using h2
  have e1:j<xs.length:=by rw[v.length];exact h1'
  have e2:j<ys.length:=by rw[v'.length];exact h2'
  have g1:xs[j]? = ac xs[j]:=by simp[e1]
  have g2:ys[j]? = ac ys[j]:=by simp[e2]
  obtain⟨w1,k1,r1⟩:=v.get g1;obtain⟨w2,k2,r2⟩:=v'.get g2;have t1:au.toArray[j]=w1:=by obtain⟨_,k1⟩:=eW.mp k1;simpa using k1
  have t2:its'.toArray[j]=w2:=by obtain⟨_,k2⟩:=eW.mp k2;simpa using k2
  rw[t1,t2];have:=Ay (ds:=ds) (j:=j);refine Fs I 16 _ _ A.in1 (by omega) ?_ (q.get g1) (q'.get g2) r1 r2;show A.units+1+16<cLine;omega
 by_cases hdf:d.flat=true
 ·by_cases hef:e.flat=true
  ·exact NK hdf hef h h' r r'
  ·cases e with
   |lst es=>
    rw[L2.Rep]at h';obtain⟨a,xs,rfl,q,_⟩:=h';cases r';obtain⟨au,_,p,_⟩:=I.list q;cases d with
    |non=>rw[L2.Rep]at h;subst h;cases r;exact⟨RcAt.none_list p.isList hu0,RcNeAt.none_list p.isList hu0⟩
    |bl b=>rw[L2.Rep]at h;subst h;cases r;exact⟨RcAt.bool_list b p.isList hu0,RcNeAt.bool_list b p.isList hu0⟩
    |int b=>rw[L2.Rep]at h;subst h;obtain⟨t,rfl⟩:=r;exact⟨RcAt.int_list b t p.isList hu0,RcNeAt.int_list b t p.isList hu0⟩
    |str b=>rw[L2.Rep]at h;subst h;obtain⟨t,rfl⟩:=r;exact⟨RcAt.str_list b t p.isList hu0,RcNeAt.str_list b t p.isList hu0⟩
    |_=>cases hdf
   |tup es=>
    rw[L2.Rep]at h';obtain⟨a,xs,rfl,q,_⟩:=h';cases r';obtain⟨au,_,p,_⟩:=I.tuple q;cases d with
    |non=>rw[L2.Rep]at h;subst h;cases r;exact⟨RcAt.none_tuple p hu0,RcNeAt.none_tuple p hu0⟩
    |bl b=>rw[L2.Rep]at h;subst h;cases r;exact⟨RcAt.bool_tuple b p hu0,RcNeAt.bool_tuple b p hu0⟩
    |int b=>rw[L2.Rep]at h;subst h;obtain⟨t,rfl⟩:=r;exact⟨RcAt.int_tuple b t p hu0,RcNeAt.int_tuple b t p hu0⟩
    |str b=>rw[L2.Rep]at h;subst h;obtain⟨t,rfl⟩:=r;exact⟨RcAt.str_tuple b t p hu0,RcNeAt.str_tuple b t p hu0⟩
    |_=>cases hdf
   |_=>exact absurd rfl hef
 ·cases d with
  |lst ds=>
   rw[L2.Rep]at h;obtain⟨a,xs,rfl,q,rr⟩:=h;cases r;obtain⟨au,v,p,_⟩:=I.list q;have hn:Mi.eJ ds<=16:=by rw[Mi.D.dep]at hd;omega
   cases e with
   |non=>rw[L2.Rep]at h';subst h';cases r';exact⟨RcAt.list_none p.isList hu0,RcNeAt.list_none p.isList hu0⟩
   |bl b=>rw[L2.Rep]at h';subst h';cases r';exact⟨RcAt.list_bool b p.isList hu0,RcNeAt.list_bool b p.isList hu0⟩
   |int b=>rw[L2.Rep]at h';subst h';obtain⟨t,rfl⟩:=r';exact⟨RcAt.list_int b t p.isList hu0,RcNeAt.list_int b t p.isList hu0⟩
   |str b=>rw[L2.Rep]at h';subst h';obtain⟨t,rfl⟩:=r';exact⟨RcAt.list_str b t p.isList hu0,RcNeAt.list_str b t p.isList hu0⟩
   |lst es=>
    rw[L2.Rep]at h';obtain⟨b,ys,rfl,q',rr'⟩:=h';cases r';obtain⟨its',v',p',_⟩:=I.list q';have l1:=rr.length;have l2:=rr'.length;have l3:=v.length;have l4:=v'.length;by_cases hl:ds.length=es.length
    ·rw[Mi.bP,uS hl];have e1:au.toArray.size=ds.length:=by simp;omega
     have k1:=RcAt.lists p.isList p'.isList (by simp;omega) hu0 (item hn rr rr' v v');have k2:=RcNeAt.lists p.isList p'.isList (by simp;omega) hu0 (item hn rr rr' v v');rw[e1]at k1 k2;exact⟨k1,k2⟩
    ·rw[Mi.bP,uP hl];exact⟨RcAt.lists_lengths p.isList p'.isList (by simp;omega) hu0,RcNeAt.lists_lengths p.isList p'.isList (by simp;omega) hu0⟩
   |tup es=>
    rw[L2.Rep]at h';obtain⟨b,ys,rfl,q',_⟩:=h';cases r';obtain⟨its',_,p',_⟩:=I.tuple q';exact⟨RcAt.list_tuple p.isList p' hu0,RcNeAt.list_tuple p.isList p' hu0⟩
  |tup ds=>
   rw[L2.Rep]at h;obtain⟨a,xs,rfl,q,rr⟩:=h;cases r;obtain⟨au,v,p,_⟩:=I.tuple q;have hn:Mi.eJ ds<=16:=by rw[Mi.D.dep]at hd;omega
   cases e with
   |non=>rw[L2.Rep]at h';subst h';cases r';exact⟨RcAt.tuple_none p hu0,RcNeAt.tuple_none p hu0⟩
   |bl b=>rw[L2.Rep]at h';subst h';cases r';exact⟨RcAt.tuple_bool b p hu0,RcNeAt.tuple_bool b p hu0⟩
   |int b=>rw[L2.Rep]at h';subst h';obtain⟨t,rfl⟩:=r';exact⟨RcAt.tuple_int b t p hu0,RcNeAt.tuple_int b t p hu0⟩
   |str b=>rw[L2.Rep]at h';subst h';obtain⟨t,rfl⟩:=r';exact⟨RcAt.tuple_str b t p hu0,RcNeAt.tuple_str b t p hu0⟩
   |tup es=>
    rw[L2.Rep]at h';obtain⟨b,ys,rfl,q',rr'⟩:=h';cases r';obtain⟨its',v',p',_⟩:=I.tuple q';have l1:=rr.length;have l2:=rr'.length;have l3:=v.length;have l4:=v'.length;have k1:=RcAt.tuples p p' hu0 (item hn rr rr' v v');have k2:=RcNeAt.tuples p p' hu0 (item hn rr rr' v v');have e1:au.toArray.size=ds.length:=by simp;omega
    have e2:its'.toArray.size=es.length:=by simp;omega
    rw[e1,e2]at k1 k2;by_cases hl:ds.length=es.length
    ·rw[Mi.bP,uS hl];rw[hl,Nat.min_self,kK,Bool.and_true,<- hl]at k1 k2;exact⟨k1,k2⟩
    ·rw[Mi.bP,uP hl];have:(ds.length==es.length)=false:=by simpa using hl
     rw[this,t7]at k1 k2;exact⟨k1,k2⟩
   |lst es=>
    rw[L2.Rep]at h';obtain⟨b,ys,rfl,q',_⟩:=h';cases r';obtain⟨its',_,p',_⟩:=I.list q';exact⟨RcAt.tuple_list p p'.isList hu0,RcNeAt.tuple_list p p'.isList hu0⟩
  |_=>exact absurd rfl hdf
theorem gI(hu:X.A.units+64<cLine):dq X (compareOp .Eq) (xC X.K false):=by intro ah s σ H x y v u Q I rx ry h;obtain⟨d,e,r1,r2,hz,q⟩:=h;exact(Kn I d e X.A hz (by omega) r1 r2 rx ry).1 _ _ _ _ ⟨.bl _,H,I,rfl,q⟩
theorem mM(hu:X.A.units+64<cLine):dq X (compareOp .NotEq) (xC X.K true):=by intro ah s σ H x y v u Q I rx ry h;obtain⟨d,e,r1,r2,hz,q⟩:=h;exact(Kn I d e X.A hz (by omega) r1 r2 rx ry).2 _ _ _ _ ⟨.bl _,H,I,rfl,q⟩
end
section
variable{X:Cx}{K:bb}{M:Nat->Bool}{κ:Kd}{ta tb te:TE}{a b:Mi.E}
def FD:R2:=λx y H Q=>∃l k xs,x=.ref l/\y=.int k/\H l=ac (.lst xs)/\-(2 ^ 63)<=k/\k<2 ^ 63/\xs.length*k.toNat<=sizeLine/\∀p,H p=af->Q (.ref p) (upd H p (.lst (bZ k.toNat xs).flatten))
theorem PD:dq X (binaryOp .Mult) FD:=Pc
theorem O5{tr:TA}{as:List Mi.E}(ha:AA M qV tr (Mi.eX as))(hb:AE M qP tb b):AE M qN (oY FD (B9 tr) tb) (Mi.m2 Mi.z6 (Mi.mN Mi.b9 as) b):=λe σ H Hv Q I h=>
 ed ha e σ H Hv _ I ((aG.mp h).mono λx hx v H1 Hv1 g1 rx=>hb e σ H1 Hv1 _ (I.grow g1) ((aG.mp hx).mono λy hy u H2 Hv2 g2 ry=>by
  obtain⟨p,o,rfl,hf,hp,hn,c⟩:=rx;cases x with
  | lst ds=>cases o with
   | lst xs=>cases y with
    |int k=>
     obtain⟨⟨h1,h2,h3⟩,hy⟩:=Mi.dh hy;cases RD.int ry;have c:P2 (Rep Hv1) ds xs:=c;refine⟨p,k,xs,rfl,rfl,g2.old.at hp,h1,h2,by rw[<- c.len,eK];exact h3,λl hl=>?_⟩;obtain⟨g,kk⟩:=s0 g2.vw ((f8 g2.vis c).rep k.toNat) hl;exact hy _ _ _ (g1.trans (g2.trans g)) (KM.mono (κ:=qN) (g1.old.trans g2.old) kk)
    |_=>exact hy.elim
   |_=>exact c.elim
  |_=>cases y<;>exact hy.elim))
theorem Uz{H Hv:Hp}(vw:Vw H Hv){d:D}{v:V}(r:RD H Hv d v):jT K H v (.type (Mi.Lc d)):=by
 cases d with
 |non=>cases RD.non r;exact .non
 |bl b=>cases RD.bl r;exact .bl b
 |int b=>cases RD.int r;exact .int b
 |str b=>cases RD.str r;exact .str b
 |lst ds=>
  obtain⟨p,xs,rfl,l,_⟩:=RD.lst vw r;rcases l with l|⟨o,l⟩
  ·exact .lst l
  ·exact .frz l
 |tup ds=>
  obtain⟨p,xs,rfl,l,_⟩:=RD.tup vw r;exact .tup l
def vo(K:bb)(T:String):Prop:=∀d:D,C0 K (.type (Mi.Lc d)) (.type T)=ac (Mi.xp T d)
theorem qE{T:String}(hT:vo K T)(ha:AE M qP ta a):AE M qV (pH (HE K) (hV ta (hV (tC (.ty T)) iF))) (Mi.m1 (Mi.iG [T]) a):=λe σ H Hv Q I h=>
 ha e σ H Hv _ I ((aG.mp h).mono λx hx v H1 Hv1 g1 rx=>⟨v,_,T,_,rfl,Uz g1.vw rx,hT x,(Mi.jQ hx) _ H1 Hv1 g1 (by
  have:([T].any λt=>Mi.xp t x)=Mi.xp T x:=by simp
  rw[this];exact fZ)⟩)
theorem ty_bool(K:bb):vo K "bool" := λd=>by cases d<;>rfl
theorem ty_str(K:bb):vo K "str" := λd=>by cases d<;>rfl
theorem ty_list(K:bb):vo K "list" := λd=>by cases d<;>rfl
theorem ty_tuple(K:bb):vo K "tuple" := λd=>by cases d<;>rfl
end
end A
namespace A
open PySem L2 PyProof.Rows
open Mi (D W Rs Fin aG Out Tg)
variable[Tb:dm]
def Mo(l:List Nat):Nat->Bool:=λi=>l.contains i
theorem EO{M:Nat->Bool}{N:List Str}{k:Nat}{ws:List W}{vs:List V}{H Hv:Hp}(vw:Vw H Hv)(p:P2 (jm Hv) ws vs)(hk:ws.length=k)(hM:∀i,i<k->M i=false) :
 R1 M H Hv (ws.map ac++bZ (N.length-ws.length) af) (start N vs) H Hv:=by
 have get:∀{i:Nat} {w:W},(ws.map ac++bZ (N.length-ws.length) af)[i]? = ac (ac w)->ws[i]? = ac w/\i<k:=λ{i w} h=>by
  by_cases hi:i<ws.length
  ·rw[Cz (by simpa using hi),fm]at h;cases e:ws[i]? with
   |none=>rw[e]at h;cases h
   |some a=>rw[e]at h;cases h;exact⟨rfl,by omega⟩
  ·rw[Ln (by simpa using hi),Lo]at h;split at h<;>cases h
 have no:∀{i:Nat} {w:W},(ws.map ac++bZ (N.length-ws.length) af)[i]? = ac (ac w)->M i=true->False:=λ{i w} h m=>by
  rw[hM i (get h).2]at m;cases m
 refine⟨⟨vw,?_,λi w h m=>?_,λi w h m=>(no h m).elim⟩,.refl vw,λi w a h m=>(no h m).elim,λi j w w' a b _ h _ m=>(no h m).elim⟩
 ·unfold L2.start;rw[dC,dC,aU,aU,CJ,CJ,p.len]
 ·obtain⟨hw,hi⟩:=get h;obtain⟨v,hv,r⟩:=p.getL hw;refine⟨v,?_,r⟩;unfold L2.start;rw[Cz (by rw[aU,<- p.len];omega),fm,hv];rfl
theorem Pa{f:Mi.S}{k n:Nat}{vs:List V}{H:Hp}{Q:VK}{E:XK}(h:bF (Mi.ee k n f) vs H Q E):vs.length=k:=by obtain⟨Hv,ws,_,p,q⟩:=h;rw[<- p.len];exact(Mi.dh q).1
theorem GC{f:Mi.S}{k n:Nat}{vs:List V}{H:Hp}{Q:VK}{E:XK}(h:cO (Mi.fS k n f) vs H Q E):vs.length=k:=by obtain⟨Hv,ws,_,p,q⟩:=h;rw[<- p.len];exact(Mi.dh q).1
theorem PR{N:List Str}{M:Nat->Bool}{k:Nat}{t:TS}{m:Mi.S}(hA:AS M qV t m)(hM:∀i,i<k->M i=false){vs:List V}{H:Hp}{Q:VK}{E:XK}(h:bF (Mi.ee k N.length m) vs H Q E) :
 t { nx:=λ_ H'=>Q .non H',rt:=Q } (start N vs) H:=by
 obtain⟨Hv,ws,vw,p,q⟩:=h;obtain⟨hk,q⟩:=Mi.dh q;refine hA H Hv _ _ H Hv _ (EO vw p hk hM) ((aG.mp q).mono λo ho=>?_);cases o with
 |nx e=>exactλσ H' Hv' I s=>ho _ H' Hv' I.gw GR
 |rt w=>exactλv H' Hv' g r=>ho v H' Hv' g r
 |bk e=>exact ho.elim
 |ct e=>exact ho.elim
theorem runN{N:List Str}{M:Nat->Bool}{k:Nat}{t:TS}{m:Mi.S}(hA:AS M qN t m)(hM:∀i,i<k->M i=false){vs:List V}{H:Hp}{Q:VK}{E:XK}(h:cO (Mi.fS k N.length m) vs H Q E) :
 t { nx:=λ_ H'=>Q .non H',rt:=Q } (start N vs) H:=by
 obtain⟨Hv,ws,vw,p,q⟩:=h;obtain⟨hk,q⟩:=Mi.dh q;refine hA H Hv _ _ H Hv _ (EO vw p hk hM) ((aG.mp q).mono λo ho=>?_);cases o with
 |rt w=>exactλv H' Hv' g r=>ho v H' Hv' g r
 |nx e=>exact ho.elim
 |bk e=>exact ho.elim
 |ct e=>exact ho.elim
def vM:Sp:=λvs H Q _=>∃(a:ak) (ns:List Int),vs=[.ref a]/\Lst H a (ns.map V.int)/\ns.length<=63/\ji H/\∀H',Q (.bl true) H'
theorem ints_rep(H:Hp):∀ns:List Int,P2 (Rep H) (ns.map D.int) (ns.map V.int)
 |[]=>.nil
 |n::r=>.cons (qm.mpr rfl) (ints_rep H r)
theorem UR{P:cp}{w:bI}{K:bb}{mg:Str->Option ai}{base:bq}{CX:jt}{k:Nat}{f:ak}{fd:bU}{ps:List Str}{m:Mi.Fn}(F:bN P w K mg base CX k f fd ps (bF m))
 (h:∀ns:List Int,ns.length<=63->m [.d (.lst (ns.map D.int))]=.ok (.d (.bl true))):bN P w K mg base CX k f fd ps vM:=
 F.imp λvs H Q E ⟨a,ns,e,l,hl,k,q⟩=>by
  subst e;have l':Lst (kI H) a (ns.map V.int):=by
   rcases l with l|⟨o,l⟩
   ·exact .inl (nV l trivial)
   ·exact .inr ⟨o,nV l trivial⟩
  refine⟨kI H,[.d (.lst (ns.map D.int))],.all k,.cons (oW.mpr ⟨a,_,rfl,l',ints_rep _ ns⟩) .nil,?_⟩;rw[h ns hl];intro v H' Hv' g r;cases(vq (H:=Hv')).mp r;exact q H'
theorem PK{X:Cx}{ah:List (ak×Obj)}{σ:L2.St}{H:Hp}{s:aB}{fp:List ak}{T:ak}{o:HO}{h':bq}{t':Nat}(I:Inv X ah σ H s)(hf:∀b∈fp,gR X ah H b)
 (k:∀b u,b∉fp->s.heap.get? b=ac u->h'.get? b=ac u) (hT:s.heap.objs.size<=T) (new:eP X.prog X.w (upd H T o) h' T o):Inv X ah σ (upd H T o) { s with heap:=h',toks:=t' }:=by
 have hn:H T=af:=I.hok.fresh hT;have nfp:∀b u,H b=ac u->b∉fp:=λb u e z=>by rw[(hf b z).1]at e;cases e
 refine I.call' (s':={ s with heap:=h',toks:=t' }) (ch:=fp) rfl ⟨λb u e _ _ hb=>k b u hb e,λb u e _ _ hb=>⟨u.slots,k b u hb e⟩,λb u e hb _=>?_,λb u e hb=>⟨u,k b u hb e⟩,λb xs e=>?_,λb q u e=>?_,λb w ps e=>⟨#[],?_⟩⟩ ?_ I.bare
  λb hb=>⟨(hf b hb).2.2.2.1,(hf b hb).2.1,(hf b hb).2.2.2.2.1,(hf b hb).2.2.2.2.2⟩
 ·have:b≠T:=fT (jb (du e) hT);rw[bh this];exact hb
 ·rw[bh (eh e hn)];exact e
 ·rw[bh (eh e hn)];exact e
 ·rw[bh (eh e hn),e];simp
 ·intro b u e;by_cases hb:b=T
  ·subst hb;rw[cM]at e;cases e;exact new
  ·rw[bh hb]at e;refine(I.hok b u e).stay (λc v hc q=>k c v ?_ q) (λc q=>by rw[bh (eh q hn)];exact q) λc xs q=>by rw[bh (eh q hn)];exact q
   rcases hc with z|z
   ·rw[z];exact nfp b u e
   ·exact nfp c _ z
theorem HV{X:Cx}{ah:List (ak×Obj)}{σ:L2.St}{H:Hp}{s:aB}{fp:List ak}{h':bq}{t':Nat}(I:Inv X ah σ H s)(hf:∀b∈fp,gR X ah H b)
 (k:∀b u,b∉fp->s.heap.get? b=ac u->h'.get? b=ac u):Inv X ah σ H { s with heap:=h',toks:=t' }:=by
 have nfp:∀b u,H b=ac u->b∉fp:=λb u e z=>by rw[(hf b z).1]at e;cases e
 refine I.call' (s':={ s with heap:=h',toks:=t' }) (ch:=fp) rfl ⟨λb u e _ _ hb=>k b u hb e,λb u e _ _ hb=>⟨u.slots,k b u hb e⟩,λb u e hb _=>hb,λb u e hb=>⟨u,k b u hb e⟩,λb xs e=>e,λb q u e=>e,λb w ps e=>⟨#[],by rw[e];simp⟩⟩ ?_ I.bare
  λb hb=>⟨(hf b hb).2.2.2.1,(hf b hb).2.1,(hf b hb).2.2.2.2.1,(hf b hb).2.2.2.2.2⟩
 intro b u e;refine(I.hok b u e).stay (λc v hc q=>k c v ?_ q) (λc q=>q) λc xs q=>q;rcases hc with z|z
 ·rw[z];exact nfp b u e
 ·exact nfp c _ z
section
variable{X:Cx}{elts:List bw}{k1:Nat}{tpos:Pos}
theorem IM:∀{ds:List D} {k i:Nat} {d:D},ds[i]? = ac d->(Mi.mG k ds)[i]? = ac (.tup [.int ((k+i:Nat):Int),d])
 |[],_,_,_,h=>by simp at h
 |d::r,k,0,e,h=>by simp at h;subst h;rfl
 |d::r,k,i+1,e,h=>by
  have:=IM (ds:=r) (k:=k+1) (i:=i) (d:=e) (by simpa using h);rw[Mi.mG,iD,this];rw[show k+1+i=k+(i+1)by omega]
theorem wz:∀(ds:List D) (k:Nat),(Mi.mG k ds).length=ds.length
 |[],_=>rfl
 |d::r,k=>by rw[Mi.mG,dH,dH,wz r]
end
end A
namespace A
open PySem L2 PyProof.Rows
open Mi (D W Rs Fin aG Out Tg)
variable[Tb:dm]
section
variable{X:Cx}{K:bb}{M:Nat->Bool}{κ:Kd}{ta tb te tk:TE}{a b k:Mi.E}
theorem qF{Hv:Hp}:∀{ds:List D} {xs:List V} {bs:List Str},Mi.fM ds=ac bs->P2 (Rep Hv) ds xs->xs=bs.map V.str
 |[],_,bs,e,r=>by cases e;cases r;rfl
 |.str b::ds,_,bs,e,r=>by
  cases r with
  |cons x t=>
   cases hb:Mi.fM ds with
   |none=>rw[Mi.fM,hb]at e;cases e
   |some cs=>
    rw[Mi.fM,hb]at e;cases e;rw[qF hb t,pj.mp x];rfl
 |.non::_,_,_,e,_=>by cases e
 |.int _::_,_,_,e,_=>by cases e
 |.bl _::_,_,_,e,_=>by cases e
 |.lst _::_,_,_,e,_=>by cases e
 |.tup _::_,_,_,e,_=>by cases e
theorem HX(ha:AE M qP ta a)(hb:AE M qP tb b):AE M qV (sP K "str" (rJoin K) ta (hV tb iF)) (Mi.m2 Mi.xG a b):=λe σ H Hv Q I h=>by
 obtain⟨x,hx,h⟩:=jJ (aG.mp h);obtain⟨y,hy,h⟩:=jJ (aG.mp h);cases x with
 | str sep=>cases y with
  |lst ds=>
   obtain⟨ys,hs,h⟩:=hZ (aG.mp h);obtain⟨hz,h⟩:=Mi.dh h;refine ha e σ H Hv _ I (by
    rw[hx];intro v H1 Hv1 g1 r1;cases RD.str r1;refine⟨rfl,hb e σ H1 Hv1 _ (I.grow g1) (by
     rw[hy];intro v2 H2 Hv2 g2 r2;obtain⟨p,xs,rfl,l,r⟩:=RD.lst g2.vw r2;have:=qF hs r;subst this;exact⟨sep,p,ys,rfl,rfl,l.sq,hz,(Mi.jQ h) _ H2 Hv2 (g1.trans g2) vi⟩)⟩)
  |_=>exact h.elim
 |_=>cases y<;>exact h.elim
def Iv:V->List V->Hp->VK->Prop:=λx vs H Q=>∃l b xs zs,x=.ref l/\vs=[.ref b]/\H l=ac (.lst xs)/\Lst H b zs/\xs.length+zs.length<=sizeLine/\Q .non (upd H l (.lst (xs++zs)))
theorem wo:xQ X "list.extend" Iv:=by
 intro ah s σ H x vs v us Q I rx rv h;obtain⟨l,b,xs,zs,rfl,rfl,hH,hB,hz,q⟩:=h;cases rx;obtain⟨u,rfl,ru⟩:=rv.one;cases ru;obtain⟨z,au,n,r,hl,e⟩:=I.uv hH;obtain⟨its2,n2,r2,z2,e2⟩:=tF I hB;have hl2:=r2.length;have hsz:au.toArray.size+its2.toArray.size<=sizeLine:=by rw[c7,c7];omega
 have ud:¬ (!au.toArray.isEmpty&&zh (au.toArray.size+its2.toArray.size))=true:=by rw[EI hsz,t7];exact dR
 refine rB F.slot_list_extend ⟨_,e,rfl⟩ F.entry_list_extend (F.args_list_extend_2 _ _)
  (AutoSeq1.list_extend_list_list_0 l au.toArray n b its2.toArray n2 ud (by rw[c7];omega) (by omega)) ⟨e,e2,?_⟩
 refine⟨.non,_,I.yk (its':=au++its2) hH e (by simp) (r.append r2) ?_,rfl,q⟩;rw[dC];omega
theorem yj(i:Nat)(hm:M i=true)(ha:AE M qV te a):AS M κ (vE (sP K "list" Iv (io i) (hV te iF))) (Mi.lF i a):=λH0 Hv0 e σ H Hv D I h=>by
 obtain⟨d,hd,h⟩:=jJ (aG.mp h);obtain⟨ds,he,h⟩:=sM (aG.mp h);cases d with
 |lst es=>
  obtain⟨hz,h⟩:=Mi.dh h;obtain⟨p,xs,q,q1,n,c⟩:=I.list hm he;refine⟨.ref p,q,.inl ⟨rfl,xs,.inl (.inl q1)⟩,ha e σ H Hv _ I.toR0 (by
   rw[hd];intro v H1 Hv1 g1 r;have I1:=I.grow g1;obtain⟨b,ys,rfl,l,r⟩:=(oW (H:=Hv1)).mp r;refine⟨p,b,xs,ys,rfl,rfl,g1.old.at q1,l.same g1.vw.sub,by rw[<- c.len,<- r.len,eK];exact hz,?_⟩;exact h σ _ Hv1 (I1.write hm he q (show f6 Hv1 (.d (.lst (ds++es))) (.lst (xs++ys))from(f8 g1.vis c).append r)) g1.vis)⟩
 |_=>exact h.elim
theorem ye{H:Hp}{d:D}{v:V}{y:Mi.Ky}(h:Mi.pL d=ac y)(r:Rep H d v):v=kV y:=by
 cases d with
 |int i=>cases h;exact qm.mp r
 |str i=>cases h;exact pj.mp r
 |_=>cases h
theorem xD{H:Hp}:∀{ds:List D} {vs:List V} {ys:List Mi.Ky},Mi.qR ds=ac ys->P2 (Rep H) ds vs->vs=ys.map kV
 |[],_,_,h,r=>by cases h;cases r;rfl
 |d::ds,_,ys,h,r=>by
  cases r with
  |cons x t=>
   unfold Mi.qR at h;cases h1:Mi.pL d with
   |none=>rw[h1]at h;cases h
   |some y=>
    cases h2:Mi.qR ds with
    |none=>rw[h1,h2]at h;cases h
    |some zs=>
     rw[h1,h2]at h;cases h;rw[ye h1 x,xD h2 t];rfl
theorem Cw{H Hv:Hp}(vw:Vw H Hv){w:W}{x:V}{d:D}{v:V}{q:Option D->Prop}(hw:RB H Hv w x)(r:Rep Hv d v)(h:Fin (Mi.yw w d) q):∃a o o',x=.ref a/\jM H a v o/\q o'/\match o' with
 |some d'=>∃v',o=ac v'/\Rep Hv d' v'
 |none=>o=af:=by
 cases w with
 |d x=>exact h.elim
 |ex z=>exact h.elim
 |dk az=>
  obtain⟨y,hy,h⟩:=hZ (aG.mp h);have h:q (Mi.iX az y):=h;have:∃a kv,x=.ref a/\H a=ac (.dK kv)/\iB Hv az kv:=by
   rcases hw with ⟨a,kv,e,z,c⟩|⟨a,o,e,z,c⟩
   ·exact⟨a,kv,e,vw.sub _ _ z,c⟩
   ·cases o with
    |dK kv=>exact⟨a,kv,e,z,c⟩
    |_=>exact c.elim
  obtain⟨a,kv,e,z,c⟩:=this;have hv:=ye hy r;subst hv;exact⟨a,_,_,e,jM.k z,h,BL c⟩
 |dt az=>
  cases d with
  |tup ds=>
   obtain⟨y,hy,h⟩:=hZ (aG.mp h);have h:q (Mi.iX az y):=h;have:∃a kv,x=.ref a/\H a=ac (.dT kv)/\iB Hv az kv:=by
    rcases hw with ⟨a,kv,e,z,c⟩|⟨a,o,e,z,c⟩
    ·exact⟨a,kv,e,vw.sub _ _ z,c⟩
    ·cases o with
     |dT kv=>exact⟨a,kv,e,z,c⟩
     |_=>exact c.elim
   obtain⟨a,kv,e,z,c⟩:=this;obtain⟨b,xs,rfl,l,r⟩:=km.mp r;have hv:=xD hy r;subst hv;exact⟨a,_,_,e,jM.t z (vw.sub _ _ l),h,BL c⟩
  |_=>exact h.elim
 |df az=>
  cases d with
  |tup ds=>
   obtain⟨y,hy,h⟩:=hZ (aG.mp h);have h:q (Mi.iX az y):=h;have:∃a ob kv,x=.ref a/\H a=ac (.frz ob (.dT kv))/\iB Hv az kv:=by
    rcases hw with ⟨a,ob,kv,e,z,c⟩|⟨a,o,e,z,c⟩
    ·exact⟨a,ob,kv,e,vw.sub _ _ z,c⟩
    ·exact c.elim
   obtain⟨a,ob,kv,e,z,c⟩:=this;obtain⟨b,xs,rfl,l,r⟩:=km.mp r;have hv:=xD hy r;subst hv;exact⟨a,_,_,e,.inr ⟨kv,y,b,.inr ⟨ob,z⟩,rfl,vw.sub _ _ l,rfl⟩,h,BL c⟩
  |_=>exact h.elim
theorem AD(i:Nat)(hk:AE M qV tk k):AE M qV (GO tk (io i)) (Mi.lZ i k):=λe σ H Hv Q I h=>
 hk e σ H Hv _ I ((aG.mp h).mono λd hd v H1 Hv1 g1 r=>by
  obtain⟨w,he,hd⟩:=vk (aG.mp hd);have I1:=I.grow g1;obtain⟨x,q,z⟩:=I1.any he;obtain⟨a,o,o',e1,g,h2,m⟩:=Cw g1.vw z r (aG.mp hd);refine⟨x,q,a,o,e1,g,?_⟩;have:o.isSome=o'.isSome:=by
   cases o' with
   |none=>have m:o=af:=m;rw[m];rfl
   |some d'=>obtain⟨v',m,_⟩:=m;rw[m];rfl
  rw[this];exact h2 _ H1 Hv1 g1 fZ)
theorem Qi(i:Nat)(hk:AE M qV tk k):AE M qV (FX tk (io i)) (Mi.oG i k):=λe σ H Hv Q I h=>
 hk e σ H Hv _ I ((aG.mp h).mono λd hd v H1 Hv1 g1 r=>by
  obtain⟨w,he,hd⟩:=vk (aG.mp hd);have I1:=I.grow g1;obtain⟨x,q,z⟩:=I1.any he;obtain⟨a,o,o',e1,g,h2,m⟩:=Cw g1.vw z r (aG.mp hd);refine⟨x,q,a,o,e1,g,?_⟩;have:o.isSome=o'.isSome:=by
   cases o' with
   |none=>have m:o=af:=m;rw[m];rfl
   |some d'=>obtain⟨v',m,_⟩:=m;rw[m];rfl
  rw[this];exact h2 _ H1 Hv1 g1 fZ)
theorem Kx(i:Nat)(hk:AE M qV tk k):AE M qV (GI (io i) tk) (Mi.mj i k):=λe σ H Hv Q I h=>by
 obtain⟨d,hd,h⟩:=jJ (aG.mp h);obtain⟨w,he,h⟩:=vk (aG.mp h);obtain⟨x,q,z⟩:=I.any he;refine⟨x,q,hk e σ H Hv _ I (by
  rw[hd];intro v H1 Hv1 g1 r;obtain⟨a,o,o',e1,g,h2,m⟩:=Cw g1.vw (z.grow g1) r (aG.mp h);cases o' with
  |none=>exact h2.elim
  |some d'=>
   obtain⟨v',rfl,rv⟩:=m;exact⟨a,v',e1,g,h2 v' H1 Hv1 g1 rv⟩)⟩
theorem vc{tv:TE}{v:Mi.E}(i:Nat)(hm:M i=true)(hk:AE M qV tk k)(hv:AE M qV tv v):AS M κ (L2.f9 (io i) tk tv) (Mi.f9 i k v):=λH0 Hv0 e σ H Hv D I h=>by
 obtain⟨d,hd,h⟩:=jJ (aG.mp h);obtain⟨y,hy,h⟩:=jJ (aG.mp h);obtain⟨w,he,h⟩:=vk (aG.mp h);refine hv e σ H Hv _ I.toR0 (by
  rw[hd];intro x H1 Hv1 g1 rx;have I1:=I.grow g1;obtain⟨p,o,q,q1,n,h0,c⟩:=I1.cell hm he;refine⟨.ref p,q,hk e σ H1 Hv1 _ I1.toR0 (by
   rw[hy];intro u H2 Hv2 g2 ru;have I2:=I1.grow g2;have c2:=c.same g2.vis;have q2:=g2.old.at q1 c.nt;have g12:=g1.trans g2;have rx2:=pi g2.vis rx;cases w with
   |d x=>exact(show False from aG.mp h).elim
   |ex z=>exact(show False from aG.mp h).elim
   |df z=>exact(show False from aG.mp h).elim
   |dk az=>
    obtain⟨hz,h⟩:=Mi.dh (aG.mp h);obtain⟨ky,hky,h⟩:=hZ (aG.mp h);cases o with
    |dK kv=>
     have c2:iB Hv2 az kv:=c2;have hu:=ye hky ru;subst hu;refine⟨p,_,rfl,pq.k q2 (by rw[<- P2.len c2,eK];exact hz),?_⟩;exact h σ _ Hv2 (I2.write hm he q (show f6 Hv2 (.dk (Mi.putK ky d az)) (.dK (L2.putK kv ky x))from IK rx2 c2)) g12.vis
    |_=>exact c2.elim
   |dt az=>
    cases y with
    |tup ds=>
     obtain⟨hz,h⟩:=Mi.dh (aG.mp h);obtain⟨ky,hky,h⟩:=hZ (aG.mp h);cases o with
     |dT kv=>
      have c2:iB Hv2 az kv:=c2;obtain⟨b,xs,rfl,l,r⟩:=(km (H:=Hv2)).mp ru;have hu:=xD hky r;subst hu;refine⟨p,_,rfl,pq.t q2 (g2.vw.sub _ _ l) (by rw[<- P2.len c2,eK];exact hz),?_⟩;exact h σ _ Hv2 (I2.write hm he q (show f6 Hv2 (.dt (Mi.putK ky d az)) (.dT (L2.putK kv ky x))from IK rx2 c2)) g12.vis
     |_=>exact c2.elim
    |_=>exact(show False from aG.mp h).elim)⟩)
end
end A
namespace Zp
open PySem PySem.Spec PyProof.Rows L2
variable[Tb:A.dm]
section
variable{P:cp}{w:bI}{B:cR}{F:ai->aB->Prop}{z:aB}
theorem RE{c t:ak}{i:Nat}{us:Array ai}{u:ai}{R:ai->aB->Prop}(hc:z.heap.IsTupleIter c t i)(ht:z.heap.IsTuple t us)(hu:us[i]? = ac u)
 (hR:∀h',h'.IsTupleIter c t (i+1)->vV c z.heap h'->R u { z with heap:=h' }):wpAny (model P w) B (t9 (.ref c)) R F z:=by
 obtain⟨ob,gb,cb,db⟩:=id hc;obtain⟨ol,gl,_,nl,dl⟩:=ht;unfold t9;refine aY (LJ (name:=rH "__next__") hc.typeIs y8 (yQ y8 hc.typeIs LQ ?_ (LP _)));show wpAny _ _ (field (.ref c) 0 >>= _) _ _ z;refine aY (yV gb db (x:=.ref t) rfl ?_);show wpAny _ _ (if(ge t==jg)=true then _ else _) _ _ z;rw[ba (λq:(ge t==jg)=true=>nomatch q)];show wpAny _ _ (field (.ref c) 1 >>= _) _ _ z;refine aY (yV gb db (x:=.int i 0) rfl ?_);show wpAny _ _ (seqItems? (.ref t) >>= _) _ _ z;refine aY (wpAny_seqItems gl dl ?_);simp only[jf,hu];refine aY (wpAny_setField gb db (by simp) (bT ⟨u,rfl,bT (hR _ ?_ (ub ..))⟩));refine⟨_,LH _ gb (Obj.isFreed_of_fields (L5 db _)),(Obj.cls_mapFields ..).trans cb,?_⟩;rw[L5 db];simp[rawInt]
theorem NU{c t:ak}{i:Nat}{us:Array ai}{R:ai->aB->Prop}(hn:B.handled=af)(hc:z.heap.IsTupleIter c t i)(ht:z.heap.IsTuple t us)(hu:us[i]? = af)
 (hF:∀h' e,Heap.ExtBut c z.heap h'->(∃o,h'.get? e=ac o/\o.cls=.type "StopIteration")->F (.ref e) { z with heap:=h' }):wpAny (model P w) B (t9 (.ref c)) R F z:=by
 obtain⟨ob,gb,cb,db⟩:=id hc;obtain⟨ol,gl,_,nl,dl⟩:=ht;unfold t9;refine aY (LJ (name:=rH "__next__") hc.typeIs y8 (yQ y8 hc.typeIs LQ ?_ (LP _)));show wpAny _ _ (field (.ref c) 0 >>= _) _ _ z;refine aY (yV gb db (x:=.ref t) rfl ?_);show wpAny _ _ (if(ge t==jg)=true then _ else _) _ _ z;rw[ba (λq:(ge t==jg)=true=>nomatch q)];show wpAny _ _ (field (.ref c) 1 >>= _) _ _ z;refine aY (yV gb db (x:=.int i 0) rfl ?_);show wpAny _ _ (seqItems? (.ref t) >>= _) _ _ z;refine aY (wpAny_seqItems gl dl ?_);simp only[jf,hu];refine aY (wpAny_rule (aY (wpAny_setField gb db (by simp) ?_)));show wpAny _ _ (newExc (.type "StopIteration") [] >>= _) _ _ _;refine aY ?_;simp only[newExc,newTuple];refine aY (C3 ?_ (by size_fits));refine aY (m:=firstArgMember _ _) (wpAny_of_eq (a:=jg) (by simp only[firstArgMember];rfl) (C3 ?_ (by size_fits)));simp only[raiseNew];refine aY (wpAny_handled ?_)
 first|rw[show B.in1.handled=af from hn]|rw[hn]
 exact aY (bT (wpAny_throw (hF _ _ (((ub ..).extBut.push _).push _) ⟨_,fc _ rfl,rfl⟩)))
end
def nm:Bool->String|true => "list" | false => "tuple"
def Gy:Bool->String|true => "list_iterator" | false => "tuple_iterator"
def m8(k:Bool)(h:bq)(l:ak)(us:Array ai):Prop:=∃o,h.get? l=ac o/\o.cls=.type (nm k)/\∃n,o.data=.seq us n
def lI(k:Bool)(h:bq)(c l:ak)(i:Nat):Prop:=∃o,h.get? c=ac o/\o.cls=.type (Gy k)/\o.data=.fields #[.ref l,.int i 0]
theorem m8.at{k:Bool}{h h':bq}{l:ak}{us:Array ai}(x:m8 k h l us)(f:∀o,h.get? l=ac o->h'.get? l=ac o):m8 k h' l us:=let ⟨o,e,r⟩:=x;⟨o,f o e,r⟩
theorem lI.at{k:Bool}{h h':bq}{c l:ak}{i:Nat}(x:lI k h c l i)(f:∀o,h.get? c=ac o->h'.get? c=ac o):lI k h' c l i:=let ⟨o,e,r⟩:=x;⟨o,f o e,r⟩
theorem lI.cell{k:Bool}{h:bq}{c l:ak}{i:Nat}(x:lI k h c l i):∃o,h.get? c=ac o/\∀v,o.data≠.cell v:=let ⟨o,e,_,d⟩:=x;⟨o,e,λv q=>by rw[d]at q;cases q⟩
section
variable{P:cp}{w:bI}{B:cR}{F:ai->aB->Prop}{z:aB}
theorem nx{k:Bool}{c t:ak}{i:Nat}{us:Array ai}{u:ai}{R:ai->aB->Prop}(hc:lI k z.heap c t i)(ht:m8 k z.heap t us)(hu:us[i]? = ac u)
 (hR:∀h',lI k h' c t (i+1)->vV c z.heap h'->R u { z with heap:=h' }):wpAny (model P w) B (t9 (.ref c)) R F z:=by
 cases k
 ·exact RE hc ht hu hR
 ·exact wpAny_nextOf_list_item hc ht hu hR
theorem Uf{k:Bool}{c t:ak}{i:Nat}{us:Array ai}{R:ai->aB->Prop}(hn:B.handled=af)(hc:lI k z.heap c t i)(ht:m8 k z.heap t us)(hu:us[i]? = af)
 (hF:∀h' e,Heap.ExtBut c z.heap h'->(∃o,h'.get? e=ac o/\o.cls=.type "StopIteration")->F (.ref e) { z with heap:=h' }):wpAny (model P w) B (t9 (.ref c)) R F z:=by
 cases k
 ·exact NU hn hc ht hu hF
 ·exact wpAny_nextOf_list_end hn hc ht hu hF
abbrev Ad(k:Bool)(l:ak):Obj:={ cls:=.type (Gy k),data:=.fields #[.ref l,.int 0 0] }
theorem zS{k:Bool}{l:ak}{us:Array ai}{R:ai->aB->Prop}(h:m8 k z.heap l us)(hR:R (.ref z.heap.objs.size) { z with heap:=z.heap.push (Ad k l) }):wpAny (model P w) B (pyIter (.ref l)) R F z:=by
 cases k
 ·exact C2 h hR
 ·exact yP h hR
end
theorem JS{P:cp}{w:bI}{B:cR}(hn:B.handled=af)(k:Bool)(c l:ak)(hne:l≠c)(us:Array ai) :
 Draws P w B c [c,l] us.size (λi v=>us[i]? = ac v) (λi h=>lI k h c l i/\m8 k h l us) where
 live:=λ_ _ st=>let ⟨o,ho,_⟩:=st.1;⟨o,ho⟩
 frame:=λ_ _ _ st f=>⟨st.1.at λo e=>f c (by simp) o e,st.2.at λo e=>f l (by simp) o e⟩
 item:=λi s Q E hi st hQ=>nx st.1 st.2 (u:=us[i]) (by simp[hi]) λh' a b=>hQ _ h' s.toks (by simp[hi]) ⟨a,st.2.at λo e=>b.extBut _ _ hne e⟩ b
 done:=λs Q E st hE=>Uf hn st.1 st.2 (by simp) hE
end Zp
namespace Zp
end Zp
namespace Zp
end Zp
namespace Zp
open PySem PySem.Spec PyProof.Rows L2 A
variable[Tb:A.dm]
def ii(H:Hp)(s:Bool×ak)(xs:List V):Prop:=match s.1 with
 |true=>Lst H s.2 xs
 |false=>H s.2=ac (.tup xs)
theorem ii.nn{H:Hp}{s:Bool×ak}{xs:List V}(h:ii H s xs):H s.2≠af:=by
 obtain⟨k,a⟩:=s;cases k
 ·have h:H a=_:=h;show H a≠af;rw[h];simp
 ·rcases(show Lst H a xs from h)with h|⟨o,h⟩
  ·show H a≠af;rw[h];simp
  ·show H a≠af;rw[h];simp
theorem ii.inj{H:Hp}{s:Bool×ak}{xs ys:List V}(h:ii H s xs)(h':ii H s ys):xs=ys:=by
 obtain⟨k,a⟩:=s;cases k
 ·have h:H a=ac (.tup xs):=h;have h':H a=ac (.tup ys):=h';rw[h]at h';cases h';rfl
 ·rcases(show Lst H a xs from h)with h|⟨o,h⟩<;>rcases(show Lst H a ys from h')with h'|⟨o',h'⟩<;>rw[h]at h'<;>cases h'<;>rfl
theorem ii.at{X:Cx}{ah:List (ak×Obj)}{σ:L2.St}{H:Hp}{s:aB}{k:Bool}{a:ak}{xs:List V}(I:Inv X ah σ H s)(h:ii H (k,a) xs):∃au:List ai,Vals xs au/\m8 k s.heap a au.toArray:=by
 cases k
 ·have h:H a=ac (.tup xs):=h;obtain⟨_,au,rv,o,e,c,_,d⟩:=I.hok a _ h;exact⟨au,rv,o,e,c,d⟩
 ·have h:Lst H a xs:=h;obtain⟨au,rv,⟨o,n,e,c,_,d⟩,_⟩:=I.list h.sq;exact⟨au,rv,o,e,c,n,d⟩
end Zp
namespace Mi
def KP:D->Rs (List D)
 |.lst ds=>.ok ds
 |.tup ds=>.ok ds
 |_=>.no
end Mi
namespace Zp
open PySem PySem.Spec PyProof.Rows L2 A
open Mi (D W Rs Fin aG)
variable[Tb:A.dm]
theorem ii.same{H H':Hp}{s:Bool×ak}{xs:List V}(h:eA H H')(q:ii H s xs):ii H' s xs:=by
 obtain⟨k,a⟩:=s;cases k
 ·exact h _ _ q
 ·exact Lst.same (a:=a) h q
theorem Oc{x:D}{k:List D->Prop}(h:Fin (Mi.KP x) k):∃ds,(x=.lst ds\/x=.tup ds)/\k ds:=by
 cases x with
 |lst b=>exact⟨b,.inl rfl,h⟩
 |tup b=>exact⟨b,.inr rfl,h⟩
 |_=>exact h.elim
theorem R5{H:Hp}{x:D}{ds:List D}{v:V}(h:x=.lst ds\/x=.tup ds)(r:Rep H x v):∃k a xs,v=.ref a/\ii H (k,a) xs/\P2 (Rep H) ds xs:=by
 rcases h with rfl|rfl
 ·obtain⟨a,xs,e,l,r⟩:=oW.mp r;exact⟨true,a,xs,e,l,r⟩
 ·obtain⟨a,xs,e,l,r⟩:=km.mp r;exact⟨false,a,xs,e,l,r⟩
end Zp
namespace Zp
end Zp
namespace Mi
def sF(a:E):I:=λe=>(a e).bind λx=>(KP x).bind λds=>.ok (mG 0 ds)
end Mi
namespace Zp
open PySem PySem.Spec PyProof.Rows L2 A
open Mi (D W Rs Fin aG)
open AutoSeq1 (wpAny_loadPart')
variable[Tb:A.dm]
abbrev eO(c:ak):Obj:={ cls:=.type "enumerate", data:=.fields #[.none,.bool false,.ref c,rawInt 0,.none,.none] }
theorem Uq(l:ak)(us:Array ai)(n:Nat)(dd:Option ak)(sl:Array (Option ai)) :
 Meets (nq.«enumerate.__new__» ⟨[.type "enumerate",.ref l],[]⟩) (λ_ R s=>s.heap.get? l=ac { cls:=.type "tuple", dict:=dd,data:=.seq us n,slots:=sl } /\
  ∀h1:bq,h1=s.heap.push (Ad false l)->R (.ok (.ret (.ref h1.objs.size))) { s with heap:=h1.push (eO s.heap.objs.size) }):=
 .of_wp λprog w A R s h=>by
  obtain⟨hp,g,d,tk,os⟩:=s;obtain⟨ht,h⟩:=h;have hsub:=sub_enumerate;have hQ:m8 false (Shared.heap ⟨hp,g,d,tk,os⟩) l us:=⟨_,ht,rfl,n,rfl⟩
  wp_walk using yS ht
  refine wpAny_stack_any λst=>bT ?_;split
  ·rename_i c _ _ _ _ _;cases(c==pZ "enumerate")
   ·wp_walk using yS ht,zS hQ
    exact⟨_,rfl,h _ rfl⟩
   ·wp_walk using yS ht,zS hQ
    exact⟨_,rfl,h _ rfl⟩
  ·wp_walk using yS ht,zS hQ
   exact⟨_,rfl,h _ rfl⟩
theorem UN{P:cp}{w:bI}{B:cR}{E':ai->aB->Prop}{s:aB}{k:Bool}{l:ak}{us:Array ai}{R:ai->aB->Prop}(hQ:m8 k s.heap l us)
 (h:∀h',IsEnum h' (s.heap.objs.size+1) s.heap.objs.size 0 .none->lI k h' s.heap.objs.size l 0->(∀b o,s.heap.get? b=ac o->h'.get? b=ac o)->R (.ref (s.heap.objs.size+1)) { s with heap:=h' }) :
 wpAny (model P w) B (call (.type "enumerate") [.ref l]) R E' s:=by
 cases k
 ·obtain⟨⟨c,dd,dt,sl⟩,hl,hc,n,hd⟩:=hQ;replace hc:c=.type "tuple" := hc;replace hd:dt=.seq us n:=hd;subst hc hd;refine callType_new F.called_enumerate (by decide) (F.typeCall_enumerate_1 _) (F.newCall_enumerate_1 _) (λobj=>F.args_object_init_2 obj _) F.entry_enumerate_new (Uq l us n dd sl) ⟨hl,?_⟩;intro h1 e1;have z1:h1.objs.size=s.heap.objs.size+1:=by rw[e1];exact tZ ..
  have g1:h1.get? s.heap.objs.size=ac (Ad false l):=by rw[e1];exact fc _ rfl
  have g2:(h1.push (eO s.heap.objs.size)).get? h1.objs.size=ac (eO s.heap.objs.size):=fc _ rfl;show _/\_;refine⟨⟨_,g2,rfl⟩,?_⟩;rw[z1]at g2 ⊢;exact h _ g2 ⟨_,cU _ g1,rfl,rfl⟩ λb o x=>cU _ (by rw[e1];exact cU _ x)
 ·exact call_enumerate_list hQ λh' a b _ d=>h h' a b d
def uW(q:Bool×ak):It:=⟨λi H=>∃xs x,ii H q xs/\xs[i]? = ac x,λi H v H'=>∃p x,(∀xs,ii H q xs->xs[i]? = ac x)/\H p=af/\v=.ref p/\H'=upd H p (.tup [.int i,x]),λi H=>∃xs,ii H q xs/\xs.length=i⟩
theorem Vv{P:cp}{w:bI}{K:bb}{elts:List bw}{k1:Nat}{pos:Pos}(k:Bool)(a e it:ak)(hne:e≠it):Turn P w K (.Tuple elts k1 pos) (uW (k,a)) [e,it] e (λi h=>(∃old,IsEnum h e it i old)/\lI k h it a i) where
 mem:=by simp
 obj:=λi h st b hb=>by
  obtain⟨⟨old,he⟩,hi⟩:=st;rcases cn.mp hb with rfl|hb
  ·exact⟨_,he,λv z=>by cases z⟩
  ·have e1:b=it:=by simpa using hb
   subst e1;exact hi.cell
 keep:=λi h h' st kk=>⟨let ⟨old,he⟩:=st.1;⟨old,kk e (by simp) _ he⟩,st.2.at λo q=>kk it (by simp) o q⟩
 item:=by
  intro X hP hw hK hc i ah s σ H E I hf st hg;subst hP hw hK;obtain⟨xs,x,hq,hx⟩:=hg;obtain⟨au,rv,p⟩:=hq.at I;obtain⟨u,hu,ru⟩:=rv.get hx;obtain⟨⟨old,he⟩,hli⟩:=st;have hlt:i<au.toArray.size:=by rw[c7];exact(eW.mp hu).1
  have hai:a≠it:=λz=>hq.nn (by show H a=af;rw[z];exact(hf it (by simp)).1);have hea:e≠a:=λz=>hq.nn (by show H a=af;rw[<- z];exact(hf e (by simp)).1);refine wpAny_pyNext_enum_itemD (JS (by first|exact I.ok.hd hc|(simp;exact I.ok.hd hc)) k it a hai au.toArray) he ⟨hli,p⟩ hlt hne (by simp[hne,hea]) λy h' tk hy ho hs' hT hsz hk=>?_;have hy:y=u:=by
   have hu':au.toArray[i]? = ac u:=by simpa using hu
   rw[hu']at hy;exact(iS hy).symm
  subst hy;refine⟨_,rfl,wpAny_letOwnedTupleGo_enum ho λh2 he2 hs2=>?_⟩;have kk:∀b o,b∉[e,it]->s.heap.get? b=ac o->h2.get? b=ac o:=λb o hb q=>by
   simp at hb;exact(hs2.2 b hb.1).trans (hk b o hb.1 hb.2 q)
  have hTn:s.heap.objs.size≠e:=λz=>absurd (du he) (by rw[z];exact oA _);refine⟨.ref s.heap.objs.size,upd H s.heap.objs.size (.tup [.int i,x]),PK (s:=s) (t':=tk+1) I hf kk (bJ _) ?_,rfl,⟨_,x,λys hy=>by rw[hy.inj hq];exact hx,I.hok.fresh (bJ _),rfl,rfl⟩,⟨⟨_,he2⟩,?_⟩,λb hb=>?_⟩
  ·exact⟨by simp only[dH,gL];rw[eK];decide,[.int i tk,y],.cons ⟨_,rfl⟩ (.cons ru .nil),⟨_,(hs2.2 _ hTn).trans hT,rfl,rfl,_,rfl⟩⟩
  ·exact hs'.1.at λo q=>(hs2.2 it (fv hne)).trans q
  ·have:b≠s.heap.objs.size:=λz=>by
    subst z;rcases cn.mp hb with z|z
    ·exact hTn z
    ·have z:s.heap.objs.size=it:=by simpa using z
     obtain⟨o,ho,_⟩:=hli;exact absurd (du ho) (by rw[<- z];exact oA _)
   rw[bh this];exact(hf b hb).1
 done:=by
  intro X hP hw hK hc i ah s σ H E I hf st hg;subst hP hw hK;obtain⟨xs,hq,hx⟩:=hg;obtain⟨au,rv,p⟩:=hq.at I;obtain⟨⟨old,he⟩,hli⟩:=st;have hl:=rv.length;have hai:a≠it:=λz=>hq.nn (by show H a=af;rw[z];exact(hf it (by simp)).1);subst hx;have D:=JS (P:=X.prog) (w:=X.w) (B:=X.A.in1) (by first|exact I.ok.hd hc|(simp;exact I.ok.hd hc)) k it a hai au.toArray;have hn:au.toArray.size=xs.length:=by simp;omega
  rw[hn]at D;exact wpAny_pyNext_enum_endD D he ⟨hli,p⟩ λh' hx=>⟨rfl,HV (s:=s) (t':=s.toks) I hf λb o hb q=>hx b o (λz=>hb (by simp[z])) q⟩
 self:=λ_ i s Q E st h=>let ⟨⟨old,he⟩,_⟩:=st;wpAny_pyIter_enum he h
section
variable{X:Cx}{elts:List bw}{k1:Nat}{tpos:Pos}{M:Nat->Bool}
def Ie(tl:TE):TI:=λσ H R=>tl σ H λx H1=>∃k a,[x]=[V.ref a]/\(∃xs,ii H1 (k,a) xs)/\R (uW (k,a)) H1
theorem Jq{a:bw}{ta:TE}{p pos:Pos}(hg:Gl X "enumerate")(hm:X.mg "enumerate" = af)(ha:PE X a ta)(hs:starEach [a] X.env=[(false,eval a X.env)]:=by rfl)(hs0:starEach [a] X.env=(false,eval a X.env)::starEach [] X.env:=by rfl) :
 PI X (.Tuple elts k1 tpos) (.Call (.Name "enumerate" p) [a] [] pos) (Ie ta):=by
 intro ah s σ H R I h;refine Call_ (qk I hg hm boot_enumerate (ze (bg (aA ha be hs0 pos ah s σ H (λvs H1=>∃k l,vs=[.ref l]/\(∃xs,ii H1 (k,l) xs)/\R (uW (k,l)) H1) I ?_) λus s1 ⟨vs,H1,I1,r1,q1⟩=>?_) hs rfl))
 ·exact h
 ·obtain⟨k,l,e,⟨xs,hq⟩,q⟩:=q1;subst e;obtain⟨u,rfl,ru⟩:=vals1 r1;cases ru;obtain⟨au,rv,pl⟩:=hq.at I1;refine UN pl λh' hE hI hk=>?_;refine wpAny_pyIter_enum hE ?_;have I2:Inv X ah σ H1 { s1 with heap:=h' }:=I1.kept (t':=s1.toks) λb o e=>hk b o e;refine⟨_,[s1.heap.objs.size+1,s1.heap.objs.size],_,_,H1,rfl,I2,Vv k l (s1.heap.objs.size+1) s1.heap.objs.size (v3 (y0 _)),⟨⟨_,hE⟩,hI⟩,λb hb=>?_,q⟩;have hb:s1.heap.objs.size<=b:=by
   rcases cn.mp hb with z|z
   ·rw[z];exact t8 _
   ·have z:b=s1.heap.objs.size:=by simpa using z
    rw[z];exact bJ _
  exact I1.jS hb (I1.hok.fresh hb)
theorem SO{q:Bool×ak}{ds:List D}{P:Hp->Hp->Prop}(ok:∀H Hv,P H Hv->Vw H Hv->∃xs,ii H q xs/\P2 (Rep Hv) ds xs):vb (uW q) P (Mi.mG 0 ds):=by
 refine⟨λi H Hv p v hi=>?_,λi H Hv x H' p v hi y=>?_,λH Hv p v=>?_⟩
 ·obtain⟨xs,l,r⟩:=ok H Hv p v;rw[wz]at hi;obtain⟨x,hx,_⟩:=r.getL (i:=i) (a:=ds[i]) (by simp[hi]);exact⟨xs,x,l,hx⟩
 ·obtain⟨xs,l,r⟩:=ok H Hv p v;rw[wz]at hi;obtain⟨q,z,hz,hq,rfl,rfl⟩:=y;obtain⟨x,hx,rx⟩:=r.getL (i:=i) (a:=ds[i]) (by simp[hi]);rw[hz xs l]at hx;cases hx;obtain⟨g,k⟩:=x5 v (ds:=[.int i,ds[i]]) (xs:=[.int i,z]) (.cons (qm.mpr rfl) (.cons rx .nil)) hq;refine⟨_,.tup [.int i,ds[i]],g,?_,k⟩;rw[IM (i:=i) (d:=ds[i]) (by simp[hi])];simp
 ·obtain⟨xs,l,r⟩:=ok H Hv p v;exact⟨xs,l,by rw[wz,r.len]⟩
theorem Jl{ta:TE}{a:Mi.E}(ha:AE M qV ta a):j4 M (Ie ta) (Mi.sF a):=λe σ H Hv R I h=>
 ha e σ H Hv _ I ((aG.mp h).mono λx hx v H1 Hv1 g1 rx=>by
  obtain⟨ds,hd,hk⟩:=Oc (aG.mp hx);obtain⟨k,p,xs,rfl,l,r⟩:=R5 hd (show Rep Hv1 x v from rx);exact⟨k,p,rfl,⟨xs,l.same g1.vw.sub⟩,hk (uW (k,p)) H1 Hv1 (λH Hv=>ii Hv (k,p) xs/\P2 (Rep Hv) ds xs) g1 (SO λH Hv z v=>⟨xs,z.1.same v.sub,z.2⟩) ⟨l,r⟩ λH1 Hv1 H2 Hv2 z s v=>⟨z.1.same s,f8 s z.2⟩⟩)
end
end Zp
namespace Mi
def FZ(k v:E):EW:=λe=>(k e).bind λd=>(v e).bind λx=>(cQ (pL d)).bind λy=>.ok (.dk [(y,x)])
end Mi
namespace Zp
open PySem PySem.Spec PyProof.Rows L2 A
open Mi (D W Rs Fin aG)
variable[Tb:A.dm]
section
variable{X:Cx}{M:Nat->Bool}{κ:Kd}
theorem RK{k v:bw}{tk tv:TE}{pos:Pos}(hk:PE X k tk)(hv:PE X v tv):PE X (.Dict [ac k] [v] pos) (BV [(tk,tv)]):=SQ (Tx hk hv Pq) rfl rfl (by simp) (by simp)
theorem Oz{tk tv:TE}{k v:Mi.E}(hk:AE M qV tk k)(hv:AE M qV tv v):AW M qN (BV [(tk,tv)]) (Mi.FZ k v):=λe σ H Hv Q I h p hp=>by
 have g0:cu H Hv (upd H p (.dK [])) Hv:=.nU I.vw trivial hp;refine hk e σ _ Hv _ (I.grow g0) ((aG.mp h).mono λd hd x H1 Hv1 g1 rx=>hv e σ H1 Hv1 _ ((I.grow g0).grow g1) ((aG.mp hd).mono λc hc y H2 Hv2 g2 ry=>?_));obtain⟨z,hz,hq⟩:=hZ (aG.mp hc);have hx:=ye hz (show Rep Hv1 d x from rx);subst hx;have hp2:H2 p=ac (.dK []):=g2.old.at (g1.old.at cM);have n1:Hv1 p=af:=g1.hid p _ cM (qu I.vw hp);have n2:Hv2 p=af:=g2.hid p _ (g1.old.at cM) n1;have G:=g0.trans (g1.trans g2);refine⟨hp2,[(z,y)],rfl,by simp,hq (.ref p) (upd H2 p (.dK [(z,y)])) Hv2 ⟨G.old.put hp hp2,g1.vis.trans g2.vis,⟨λb u q=>?_,λb xs q=>?_,λb o u q=>?_,g2.vw.cd.put hp2 trivial trivial,g2.vw.nv⟩,G.hid⟩ ⟨p,.dK [(z,y)],rfl,hp,cM,n2,.cons ⟨rfl,show Rep Hv2 c y from ry⟩ .nil⟩⟩
 ·have hb:b≠p:=eh q n2;rw[bh hb];exact g2.vw.sub _ _ q
 ·by_cases hb:b=p
  ·subst hb;rw[cM]at q;cases q
  ·rw[bh hb]at q;exact g2.vw.tup _ _ q
 ·by_cases hb:b=p
  ·subst hb;rw[cM]at q;cases q
  ·rw[bh hb]at q;exact g2.vw.frz _ _ _ q
end
end Zp
namespace Mi
abbrev SN:=List D->List D->Env->Rs Out
end Mi
namespace Zp
open PySem PySem.Spec PyProof.Rows L2 A
open Mi (D W Rs Fin aG Out)
variable[Tb:A.dm]
end Zp
namespace A
open PySem L2 PyProof.Rows
open Mi (D W Rs Fin aG Out Tg)
variable[Tb:dm]
open Mi (met)
theorem Io(val:Nat->Str):∀i,(met val i).length<=i
 |0=>bJ _
 |i+1=>by
  have ih:=Io val i;unfold met;split
  ·omega
  ·rw[dC,oq];omega
theorem Gr(val:Nat->Str)(i:Nat)(x:Str):decide (x∈met val (i+1))=(decide (x∈met val i)||decide (x=val i)):=by
 rw[met];split
 ·rename_i h;by_cases e:x=val i
  ·subst e;simp[h]
  ·simp[e]
 ·rw[show decide (x∈met val i++[val i])=(decide (x∈met val i)||decide (x=val i))from by simp]
section
variable{prog:cp}{w:bI}{Ar:cR}{R:Result->aB->Prop}{I S:ak}{fp wr:List ak}{n:Nat}{P:Nat->ai->Prop}{St:Nat->bq->Prop}
theorem set_same{h:bq}{a:ak}{F G:Str->Bool}{n m:Nat}(hS:h.SetOf (fq prog w) a F n)(e:∀k,F k=G k)(en:n=m):h.SetOf (fq prog w) a G m:=by rw[<- funext e,<- en];exact hS
theorem xZ{h h':bq}{a:ak}{F:Str->Bool}{n:Nat}(hS:h.SetOf (fq prog w) a F n)(k:∀o,h.get? a=ac o->h'.get? a=ac o):h'.SetOf (fq prog w) a F n:=let ⟨o,es,ep,t,ho,r⟩:=hS;⟨o,es,ep,t,k o ho,r⟩
theorem Kc(W:Walks prog w Ar.in1 I fp wr n P St)(hSf:S∉fp)(val:Nat->Str)(hv:∀i v,P i v->∃t,v=.str (val i) t)(hb:n+1<scanBound) :
 ∀(k i:Nat) (s:aB),n=i+k->St i s.heap->s.heap.SetOf (fq prog w) S (λx=>decide (x∈met val i)) (met val i).length ->
  (∀h' tk,(∀b o,b≠S->b∉wr->s.heap.get? b=ac o->h'.get? b=ac o)->h'.SetOf (fq prog w) S (λx=>decide (x∈met val n)) (met val n).length->R (.ok (.ret .none)) { s with heap:=h',toks:=tk }) ->
  codeAny (model prog w) Ar (.builtin "set.update.loop" ⟨[.ref S,.ref I],[]⟩) R s:=by
 have hSw:S∉wr:=λz=>hSf (W.sub _ z);intro k
 induction k with
 |zero=>
  intro i s hk st hS hR;obtain rfl:n=i:=hk;refine t5 L8 (by
   rw[zj Dx _];show wpAny _ Ar.in1 (pyNext (.ref I) >>= _) _ _ s;refine aY (W.done s _ _ st λh' tk hm=>?_);exact bT (hR h' tk (λb o _ hw e=>hm b o hw e) (xZ hS λo e=>hm S o hSw e)))
 |succ k ih=>
  intro i s hk st hS hR;have hlt:i<n:=by omega
  refine t5 L8 (by
   rw[zj Dx _];show wpAny _ Ar.in1 (pyNext (.ref I) >>= _) _ _ s;refine aY (W.item i s _ _ hlt st λv h1 tk hP st1 hm=>?_);obtain⟨t,rfl⟩:=hv i v hP;have hS1:=xZ hS λo e=>hm S o hSw e;show wpAny _ Ar.in1 (holding [lj (val i) t] (setAdd S (.str (val i) t)) >>= _) _ _ _;refine aY (pV ?_);unfold setAdd;refine pV (aY ((fq prog w).pyHash (k:=val i) (strKind_is _ _ _ _) ?_));have room:(met val i).length+1<scanBound:=by have:=Io val i;omega
   refine wpAny_setAddHashed_of (knd:=fq prog w) (strKind_is _ _ _ _) rfl hS1 room λh2 sb hS2=>?_;have hS3:h2.SetOf (fq prog w) S (λx=>decide (x∈met val (i+1))) (met val (i+1)).length:=by
    refine set_same hS2 (λx=>(Gr val i x).symm) ?_;rw[met];by_cases hm:val i∈met val i
    ·simp[hm]
    ·simp[hm]
   refine bT ⟨Db Dx _,ih (i+1) _ (by omega) (W.frame _ _ _ st1 λb hb o e=>(sb.2 b λz=>hSf (z ▸ hb)).trans e) hS3 λh3 tk3 hm3 hS4=>?_⟩;exact hR h3 tk3 (λb o hbS hw e=>hm3 b o hbS hw ((sb.2 b hbS).trans (hm b o hw e))) hS4)
abbrev ig(led:Bool):Obj:={ cls:=.type "set", dict:=af,data:=.set #[] 0 (.fresh 0 0 led) }
set_option maxHeartbeats 8000000 in
theorem Vt{E:ai->aB->Prop}{s:aB}{l:ak}{items:Array ai}{xs:List Str}{Q:ai->aB->Prop}(hh:Ar.handled=af)(hl:s.heap.IsList l items)(hx:∀i v,items[i]? = ac v->∃t,v=lj (xs.getD i dc) t)(hb:items.size+1<scanBound)
 (h:∀h' tk,h'.SetOf (fq prog w) s.heap.objs.size (λx=>decide (x∈met (λi=>xs.getD i dc) items.size)) (met (λi=>xs.getD i dc) items.size).length ->
  (∀b o,b<s.heap.objs.size->s.heap.get? b=ac o->h'.get? b=ac o)->Q (.ref s.heap.objs.size) { s with heap:=h',toks:=tk }):wpAny (model prog w) Ar (call (.type "set") [.ref l]) Q E s:=by
 obtain⟨c0,tl0,hmro⟩:=jd.mro;have mk1:=jd.made;have mk2:=jd.sub;refine vX (codeAny_of_tree (by
  show wpAny _ _ (callAny (.type "set") _) _ _ _;refine bT ⟨Mv _ (by decide +kernel),t5 LS (by
   rw[Me (weight_type_call_type "set" [.ref l] []) rfl];have mk3:=jd.notType;have mk4:=jd.canCreate;have mk5:=LV (.ref l)
   repeat (any_goals (first|assumption|wp_step))
   refine rA (code_set_new_1 (.ref l) (E:=E) (Q₁:=λobj s1=>∃led:Bool,obj=.ref s.heap.objs.size/\s1={ s with heap:=s.heap.push { cls:=.type "set", dict:=af,data:=.set #[] 0 (.fresh 0 0 led) } }) λled=>⟨led,rfl,rfl⟩) λr s1 hr=>?_;cases r with
   |error e=>exact hr
   |ok fl=>
    cases fl with
    |ret obj=>
     obtain⟨led,rfl,rfl⟩:=hr;have gS:(s.heap.push (ig led)).get? s.heap.objs.size=ac (ig led):=fc _ rfl;have tS:Shared.TypeIs { s with heap:=s.heap.push (ig led) } (.ref s.heap.objs.size) "set" := ⟨_,gS,rfl⟩;have mk6:=jd.init.lookup;have mk7:=jd.init.bind (.ref s.heap.objs.size)
     repeat (any_goals (first|assumption|wp_step))
     refine rA (C1 (R:=wants (λv s2=>v=.none/\∃h' tk,s2={ s with heap:=h',toks:=tk }/\h'.SetOf (fq prog w) s.heap.objs.size (λx=>decide (x∈met (λi=>xs.getD i dc) items.size)) (met (λi=>xs.getD i dc) items.size).length /\
      ∀b o,b<s.heap.objs.size->s.heap.get? b=ac o->h'.get? b=ac o) E) jd.init.plain LW (check_set_init_1 tS (by
      obtain⟨⟨oc,od,oda,osl⟩,hol,hcl,nl,hdl⟩:=hl;obtain rfl:oc=.type "list" := hcl;obtain rfl:oda=.seq items nl:=hdl;have lS:l<s.heap.objs.size:=du hol;have gl:(s.heap.push (ig led)).get? l=ac ⟨.type "list",od,.seq items nl,osl⟩:=cU _ hol;have n1:=PySem.F.sub_list_set;have n2:=PySem.F.sub_list_frozenset;have n3:(pZ "list" == pZ "dict")=false:=by decide
      have li:(s.heap.push (ig led)).IsList l items:=⟨_,gl,rfl,nl,rfl⟩;unfold nq.«set.__init__» noKeywords Mf;generalize gp:pyIter=PI
      wp_walk
      subst gp;refine yP li (aY (wpAny_runValue ?_));have sz:(s.heap.push (ig led)).objs.size=s.heap.objs.size+1:=tZ ..;have nI:l≠(s.heap.push (ig led)).objs.size:=by rw[sz];exact fT (Dh lS)
      have nS:s.heap.objs.size∉[(s.heap.push (ig led)).objs.size,l]:=by
       rw[sz];intro z;rcases cn.mp z with z|z
       ·exact fT (y0 _) z
       ·exact v3 lS (by simpa using z)
      refine Kc (Walks.list (by simp[hh]) _ l nI items) nS (λi=>xs.getD i dc) hx hb items.size 0 _ (by omega) ⟨⟨_,fc _ rfl,rfl,rfl⟩,li.push _⟩ ?_ ?_
      ·exact set_same ((setObjOf_fresh (knd:=fq prog w) led).setOf (cU _ gS) (by unfold scanBound;omega)) (λ_=>rfl) rfl
      ·intro h' tk hk hS;show wpAny _ _ _ _ _ _;refine bT ?_;show wpAny _ _ (ret jg) _ _ _;refine bT ⟨rfl,h',tk,rfl,hS,λb o hb e=>?_⟩;refine hk b o (fT hb) (λz=>?_) (cU _ (cU _ e));have z:b=(s.heap.push (ig led)).objs.size:=by simpa using z
       rw[sz]at z;exact absurd hb (by rw[z];exact v4.mpr (t8 _))))) λr2 s2 h2=>?_
     cases r2 with
     |error e=>exact h2
     |ok fl2=>
      cases fl2 with
      |ret v=>
       obtain⟨rfl,h',tk,rfl,hS,hk⟩:=h2
       repeat (any_goals (first|assumption|wp_step))
       exact h _ _ hS hk
      |_=>exact h2.elim
    |_=>exact hr.elim)⟩))
end
section
variable{X:Cx}{M:Nat->Bool}{te:TE}{a:Mi.E}
def xH(X:Cx)(a:ak)(n:Nat):HO:=.ext λh=>∃F,h.SetOf (fq X.prog X.w) a F n
def JD(X:Cx):List V->Hp->VK->Prop:=λxs H Q=>∃p ys,xs=[.ref p]/\fK X.K H p (ys.map V.str)/\ys.length+1<4096/\∀l,H l=af->Q (.ref l) (upd H l (xH X l (Mi.jZ ys)))
theorem z9:∀{ys:List Str} {us:List ai} (i:Nat) (v:ai),Vals (ys.map V.str) us->us[i]? = ac v->∃t,v=lj (ys.getD i dc) t
 |[],_,i,v,.nil,h=>by simp at h
 |y::ys,_,0,v,.cons r _,h=>by
  simp at h;subst h;exact r
 |y::ys,_,i+1,v,.cons _ t,h=>by
  have:=z9 (ys:=ys) i v t (by simpa using h);simpa using this
theorem SE(hc:X.calm=true):gu X (.type "set") (JD X):=by
 intro ah s σ H xs us Q I r h;obtain⟨p,ys,rfl,hq,hz,q⟩:=h;obtain⟨u,rfl,ru⟩:=vals1 r;cases ru;obtain⟨au,rv,pl,_⟩:=I.list hq;have hl:=rv.length;have e:au.toArray.size=ys.length:=by rw[c7,<- hl,aU]
 refine Vt (xs:=ys) (I.ok.hd hc) pl.isList (λi v hv=>z9 i v rv (by simpa using hv)) (by rw[e];exact hz) λh' tk hS hk=>?_;rw[e]at hS;refine⟨.ref s.heap.objs.size,upd H s.heap.objs.size (xH X s.heap.objs.size (Mi.jZ ys)),I.laid (λb o q=>hk b o (du q) q) (bJ _) ⟨⟨_,hS⟩,?_,λh1 h2 ⟨F,z⟩ k=>⟨F,xZ z k⟩⟩,rfl,q _ (I.hok.fresh (bJ _))⟩;obtain⟨o,_,_,_,ho,_⟩:=hS;exact⟨o,ho⟩
def Jm(X:Cx):List V->Hp->VK->Prop:=λxs H Q=>∃a n,xs=[.ref a]/\H a=ac (xH X a n)/\Q (.int n) H
theorem RU:gu X (.builtin "len") (Jm X):=by intro ah s σ H xs us Q I r h;obtain⟨a,n,rfl,hq,q⟩:=h;obtain⟨u,rfl,ru⟩:=vals1 r;cases ru;obtain⟨⟨F,o,es,ep,t,ho,hex,hd,_,_,hb,hf,hn⟩,_⟩:=I.hok a _ hq;refine call_len_set ho hex hd hf (by unfold scanBound at hb;omega) ⟨.int n,H,I.tok _,⟨_,by rw[hn]⟩,q⟩
theorem RL(ha:AE M qP te a):AE M qV (pH (Jm X) (hV (pH (JD X) (hV te iF)) iF)) (Mi.m1 Mi.BP a):=λe σ H Hv Q I h=>
 ha e σ H Hv _ I ((aG.mp h).mono λx hx v H1 Hv1 g1 rx=>by
  cases x with
  |lst ds=>
   obtain⟨ys,hs,hx⟩:=hZ (aG.mp hx);obtain⟨hz,hx⟩:=Mi.dh hx;obtain⟨p,xs,rfl,l,r⟩:=RD.lst g1.vw rx;have:=qF hs r;subst this;refine⟨p,ys,rfl,l.sq,hz,λb hb=>?_⟩;have g2:cu H1 Hv1 (upd H1 b (xH X b (Mi.jZ ys))) Hv1:=.nU g1.vw trivial hb;exact⟨b,_,rfl,cM,(Mi.jQ hx) _ _ _ (g1.trans g2) iz⟩
  |_=>exact hx.elim)
end
end A
namespace A
open PySem L2 PyProof.Rows
open Mi (D W Rs Fin aG Out Tg)
variable[Tb:dm]
section
variable{prog:cp}{w:bI}{Ar:cR}
theorem TU:entryFor table "set.__eq__" = ac nq.«frozenset.__eq__»:=entryFor_alias (id' := "frozenset.__eq__") (by kernel_rfl) rfl (by decide +kernel) (by kernel_rfl)
theorem xb{E:ai->aB->Prop}{s:aB}{x:ak}{o:Obj}{es:Array (Int×ai)}{ep:Nat}{t:SetTable}{Q:Nat->aB->Prop}(ho:s.heap.get? x=ac o)(hd:o.data=.set es ep t)(hf:t.fits es.size=true)(h:Q es.size s):wpAny (model prog w) Ar (Ml x) Q E s:=by unfold Ml setEntries;refine aY (aY (C4 ho hd hf (bT ?_)));exact bT h
theorem PQ{E:ai->aB->Prop}{s:aB}{x:ak}{o:Obj}{es:Array (Int×ai)}{ep:Nat}{t:SetTable}{id:String}{Q:Unit->aB->Prop}(ho:s.heap.get? x=ac o)(hd:o.data=.set es ep t)(hf:t.fits es.size=true)(h:Q () s):wpAny (model prog w) Ar (Mh id x ep) Q E s:=by unfold Mh;refine aY (wpAny_setEpoch_of ho hd hf ?_);rw[ba (by simp)];exact bT h
theorem VW{x:ai}(h:x.scannable=true):Builtin.Frozenset.quietEq x=pure true:=by cases x<;>first|rfl|(simp[Value.scannable]at h)
def allIn(G:Str->Bool)(knd:PySem.KeyKind prog w Str)(es:List (Int×ai)):Prop:=∀e∈es,∀k,knd.is k e.2=true->G k=true
theorem Qv{E:ai->aB->Prop}{s:aB}{x y:ak}{ox oy:Obj}{es fs:Array (Int×ai)}{ep ep2:Nat}{t t2:SetTable}{Q:List (Int×ai)->aB->Prop}(ho:s.heap.get? x=ac ox)(hd:ox.data=.set es ep t)(hf:t.fits es.size=true)(ho2:s.heap.get? y=ac oy)(hd2:oy.data=.set fs ep2 t2)(hf2:t2.fits fs.size=true)
 (he:ElemsOf (fq prog w) es.toList) (he2:ElemsOf (fq prog w) fs.toList) (h:Q es.toList s):wpAny (model prog w) Ar (Mg x y) Q E s:=by
 unfold Mg setEntries;refine aY (aY (C4 ho hd hf (bT ?_)));refine aY (aY (C4 ho2 hd2 hf2 (bT ?_)));dsimp only;have hs:∀e∈es.toList++fs.toList,e.2.scannable=true:=λe he'=>by
  rcases eg.mp he' with z|z
  ·exact(he e z).2
  ·exact(he2 e z).2
 revert hs
 generalize es.toList++fs.toList=l;intro hs
 induction l with
 |nil=>exact aY (bT (bT h))
 |cons e r ih=>
  rw[tX,VW (hs e (.head _))];simp only[pure_bind,Dg,rE,iU];exact ih λe he=>hs e (.tail _ he)
theorem OH{E:ai->aB->Prop}{s:aB}{x y:ak}{ox oy:Obj}{es fs:Array (Int×ai)}{ep ep2:Nat}{t t2:SetTable}{G:Str->Bool}{m:Nat}{id:String}{Q:Bool->aB->Prop}(ho:s.heap.get? x=ac ox)(hd:ox.data=.set es ep t)(hf:t.fits es.size=true)(ho2:s.heap.get? y=ac oy)(hd2:oy.data=.set fs ep2 t2)(hf2:t2.fits fs.size=true)
 (he:ElemsOf (fq prog w) es.toList) (he2:ElemsOf (fq prog w) fs.toList) (hy:s.heap.SetOf (fq prog w) y G m) (hs:es.size=fs.size)
 (h:∀b:Bool,(b=true↔allIn G (fq prog w) es.toList)->Q b s):wpAny (model prog w) Ar (Mj id x y) Q E s:=by
 unfold Mj;refine aY (xb ho hd hf ?_);refine aY (xb ho2 hd2 hf2 ?_);rw[ba (by omega)];refine aY (wpAny_setEpoch_of ho hd hf ?_);refine aY (Qv ho hd hf ho2 hd2 hf2 he he2 ?_)
 revert he h
 generalize es.toList=l;intro he h
 induction l generalizing Q with
 |nil=>exact aY (bT (bT (h true ⟨λ_ e z=>(rm z).elim,λ_=>rfl⟩)))
 |cons e r ih=>
  rw[tX];obtain⟨⟨k,hk,hh⟩,hsc⟩:=he.head;obtain⟨hh0,xe⟩:=e;dsimp only at hk hh hsc;subst hh;dsimp only;simp only[bind_assoc];refine aY (pV (wpAny_setFind_of hk hsc hy λr hr=>?_));have key:∀r',allIn G (fq prog w) (((fq prog w).hash k,xe)::r')↔G k=true/\allIn G (fq prog w) r':=λr'=>by
   constructor
   ·intro z;exact⟨z _ (.head _) k hk,λe he=>z e (.tail _ he)⟩
   ·rintro⟨z1,z2⟩ e he k' hk';rcases cn.mp he with rfl|he
    ·have:=PySem.KeyKind.is_eq_decide hk k';rw[hk']at this;have e:k'=k:=by simpa using this.symm
     rw[e];exact z1
    ·exact z2 e he k' hk'
  cases hg:G k with
  |false=>
   rw[hg]at hr;have:r.isNone=true:=by cases r<;>simp_all
   rw[bc this];simp only[pure_bind];refine bT (h false ⟨λz=>(Bool.noConfusion z),λz=>?_⟩);rw[((key _).mp z).1]at hg;exact hg.symm ▸ rfl
  |true=>
   rw[hg]at hr;have:¬ r.isNone=true:=by cases r<;>simp_all
   rw[ba this];simp only[bind_assoc];refine aY (PQ ho hd hf ?_);simp only[pure_bind];exact ih he.tail λb hb=>h b (hb.trans ⟨λz=>(key _).mpr ⟨hg,z⟩,λz=>((key _).mp z).2⟩)
theorem N4{E:ai->aB->Prop}{s:aB}{x y:ak}{F G:Str->Bool}{n m:Nat}{Q:ai->aB->Prop}(hx:s.heap.SetOf (fq prog w) x F n)(hy:s.heap.SetOf (fq prog w) y G m)(hu:Ar.units<cLine)
 (h:∀b:Bool,(b=true↔n=m/\∀k,F k=true->G k=true)->Q (.bool b) s):wpAny (model prog w) Ar (compareOp .Eq (.ref x) (.ref y)) Q E s:=by
 obtain⟨ox,es,ep,t,hox,hex,hdx,hel,hmem,hb,hf,hn⟩:=id hx;obtain⟨oy,fs,ep2,t2,hoy,hey,hdy,hel2,hmem2,hb2,hf2,hm⟩:=id hy;have tx:s.TypeIs (.ref x) "set" := ⟨_,hox,hex.1⟩;have ty:s.TypeIs (.ref y) "set" := ⟨_,hoy,hey.1⟩;show wpAny _ _ (richCompare .Eq (.ref x) (.ref y)) Q E s;refine wpAny_richCompare_same_room (op:=.Eq) tx ty L3 (yQ L3 tx TU ?_ (PySem.F.args_set_eq_2 _ _)) hu;have g1:isSubtype (.type "set") (.type "set")=pure true:=by rw[C7];kernel_rfl
 have g2:isSubtype (.type "set") (.type "frozenset")=pure false:=by rw[C7];kernel_rfl
 unfold nq.«frozenset.__eq__»;show wpAny _ _ (Mn "__eq__" _ >>= _) _ _ _;refine aY (m:=Mn "__eq__" _) (bT ?_);dsimp only;have any:∀{Q':Bool->aB->Prop} {A':cR},Q' true s->wpAny (model prog w) A' (Mk (.ref y)) Q' E s:=λh'=>by
  unfold Mk;exact aY (C5 ty g1 (bT h'))
 refine aY (any ?_);rw[ba (by simp)];refine aY (m:=Mm (.ref x)) (bT ?_);refine aY (m:=Mm (.ref y)) (bT ?_);refine aY (xb hox hdx hf ?_);refine aY (xb hoy hdy hf2 ?_);by_cases hs:es.size=fs.size
 ·rw[ba (by simpa using hs)];refine aY (aY (aY (m:=isInstance (.ref x) (.type "frozenset")) (C5 tx g2 (bT ?_))));rw[ba (by simp)];refine OH hox hdx hf hoy hdy hf2 hel hel2 hy hs λb hb=>?_;refine bT ⟨_,rfl,(λz=>nomatch z),h b (hb.trans ?_)⟩;constructor
  ·intro z;refine⟨by omega,λk hk=>?_⟩;obtain⟨e,he,hk'⟩:=(hmem k).mp hk;exact z e he k hk'
  ·rintro⟨_,z⟩ e he k hk;exact z k ((hmem k).mpr ⟨e,he,hk⟩)
 ·rw[bc (by simpa using hs)];refine aY (bT (bT ⟨_,rfl,(λz=>nomatch z),h false ⟨λz=>Bool.noConfusion z,λz=>?_⟩⟩));exact absurd (hn.trans (z.1.trans hm.symm)) hs
end
end A
namespace Mi
open PySem
def qT(x:D)(lo hi:Option Int):Rs D:=match x with
 |.lst ds=>.ok (.lst (gf ds lo hi))
 | .tup ds=>match lo,hi with
  |some a,af=>bu (1<=a/\a<=(ds.length:Int)/\ds.length<=16777216) (.ok (.tup (ds.drop a.toNat)))
  |_,_=>.no
 |_=>.no
def zW:D->D->Rs D
 |.tup i,.tup j=>bu (i.length+j.length<=16777216) (.ok (.tup (i++j)))
 |_,_=>.no
def fW(xs ys:List Str):Bool:=xs.all (λx=>decide (x∈ys))&&ys.all (λy=>decide (y∈xs))
def G5:D->Option (List Str)
 |.tup ds=>fM ds
 |_=>af
def xt(x y:D):Rs D:=(cQ (G5 x)).bind λxs=>(cQ (G5 y)).bind λys=>bu (xs.length+1<4096/\ys.length+1<4096) (.ok (.bl (fW xs ys)))
end Mi
namespace A
open PySem L2 PyProof.Rows
open Mi (D W Rs Fin aG Out Tg)
open Mi (met)
variable[Tb:dm]
section
variable{prog:cp}{w:bI}{Ar:cR}{R:Result->aB->Prop}{I S:ak}{fp wr:List ak}{n:Nat}{P:Nat->ai->Prop}{St:Nat->bq->Prop}
theorem S7{B:cR}(hh:B.handled=af)(c l:ak)(hne:l≠c)(us:Array ai) :
 Walks prog w B c [c,l] [c] us.size (λi v=>us[i]? = ac v) (λi h=>h.IsTupleIter c l i/\h.IsTuple l us) where
 sub:=λb hb=>by simp at hb;simp[hb]
 frame:=λ_ _ _ st f=>⟨let ⟨o,e,r⟩:=st.1;⟨o,f c (by simp) o e,r⟩,let ⟨o,e,r⟩:=st.2;⟨o,f l (by simp) o e,r⟩⟩
 item:=λi s Q E hi st hQ=>LI st.1 st.2 (x:=us[i]) (by simp[hi]) λh' a b=>
  hQ _ h' s.toks (by simp[hi]) ⟨a,let ⟨o,e,r⟩:=st.2;⟨o,b.extBut _ _ hne e,r⟩⟩ λz o hz e=>b.extBut z o (λq=>hz (by simp[q])) e
 done:=λs Q E st hQ=>LK hh st.1 st.2 (by simp) λh' a=>hQ h' s.toks λz o hz e=>a z o (λq=>hz (by simp[q])) e
 self:=λ_ _ _ _ st hQ=>LL st.1 hQ
theorem U7{h:bq}{l:ak}{us:Array ai}(x:h.IsTuple l us)(o:Obj):(h.push o).IsTuple l us:=let ⟨q,e,r⟩:=x;⟨q,cU _ e,r⟩
set_option maxHeartbeats 8000000 in
theorem Vk{E:ai->aB->Prop}{s:aB}{l:ak}{items:Array ai}{xs:List Str}{Q:ai->aB->Prop}(hh:Ar.handled=af)(hl:s.heap.IsTuple l items)(hx:∀i v,items[i]? = ac v->∃t,v=lj (xs.getD i dc) t)(hb:items.size+1<scanBound)
 (h:∀h' tk,h'.SetOf (fq prog w) s.heap.objs.size (λx=>decide (x∈met (λi=>xs.getD i dc) items.size)) (met (λi=>xs.getD i dc) items.size).length ->
  (∀b o,b<s.heap.objs.size->s.heap.get? b=ac o->h'.get? b=ac o)->Q (.ref s.heap.objs.size) { s with heap:=h',toks:=tk }):wpAny (model prog w) Ar (call (.type "set") [.ref l]) Q E s:=by
 obtain⟨c0,tl0,hmro⟩:=jd.mro;have mk1:=jd.made;have mk2:=jd.sub;refine vX (codeAny_of_tree (by
  show wpAny _ _ (callAny (.type "set") _) _ _ _;refine bT ⟨Mv _ (by decide +kernel),t5 LS (by
   rw[Me (weight_type_call_type "set" [.ref l] []) rfl];have mk3:=jd.notType;have mk4:=jd.canCreate;have mk5:=LV (.ref l)
   repeat (any_goals (first|assumption|wp_step))
   refine rA (code_set_new_1 (.ref l) (E:=E) (Q₁:=λobj s1=>∃led:Bool,obj=.ref s.heap.objs.size/\s1={ s with heap:=s.heap.push { cls:=.type "set", dict:=af,data:=.set #[] 0 (.fresh 0 0 led) } }) λled=>⟨led,rfl,rfl⟩) λr s1 hr=>?_;cases r with
   |error e=>exact hr
   |ok fl=>
    cases fl with
    |ret obj=>
     obtain⟨led,rfl,rfl⟩:=hr;have gS:(s.heap.push (ig led)).get? s.heap.objs.size=ac (ig led):=fc _ rfl;have tS:Shared.TypeIs { s with heap:=s.heap.push (ig led) } (.ref s.heap.objs.size) "set" := ⟨_,gS,rfl⟩;have mk6:=jd.init.lookup;have mk7:=jd.init.bind (.ref s.heap.objs.size)
     repeat (any_goals (first|assumption|wp_step))
     refine rA (C1 (R:=wants (λv s2=>v=.none/\∃h' tk,s2={ s with heap:=h',toks:=tk }/\h'.SetOf (fq prog w) s.heap.objs.size (λx=>decide (x∈met (λi=>xs.getD i dc) items.size)) (met (λi=>xs.getD i dc) items.size).length /\
      ∀b o,b<s.heap.objs.size->s.heap.get? b=ac o->h'.get? b=ac o) E) jd.init.plain LW (check_set_init_1 tS (by
      obtain⟨⟨oc,od,oda,osl⟩,hol,hcl,nl,hdl⟩:=hl;obtain rfl:oc=.type "tuple" := hcl;obtain rfl:oda=.seq items nl:=hdl;have lS:l<s.heap.objs.size:=du hol;have gl:(s.heap.push (ig led)).get? l=ac ⟨.type "tuple",od,.seq items nl,osl⟩:=cU _ hol;have n1:=PySem.F.sub_tuple_set;have n2:=PySem.F.sub_tuple_frozenset;have n3:(pZ "tuple" == pZ "dict")=false:=by decide
      have li:(s.heap.push (ig led)).IsTuple l items:=⟨_,gl,rfl,nl,rfl⟩;unfold nq.«set.__init__» noKeywords Mf;generalize gp:pyIter=PI
      wp_walk
      subst gp;refine C2 li (aY (wpAny_runValue ?_));have sz:(s.heap.push (ig led)).objs.size=s.heap.objs.size+1:=tZ ..;have nI:l≠(s.heap.push (ig led)).objs.size:=by rw[sz];exact fT (Dh lS)
      have nS:s.heap.objs.size∉[(s.heap.push (ig led)).objs.size,l]:=by
       rw[sz];intro z;rcases cn.mp z with z|z
       ·exact fT (y0 _) z
       ·exact v3 lS (by simpa using z)
      refine Kc (S7 (by simp[hh]) _ l nI items) nS (λi=>xs.getD i dc) hx hb items.size 0 _ (by omega) ⟨⟨_,fc _ rfl,rfl,rfl⟩,U7 li _⟩ ?_ ?_
      ·exact set_same ((setObjOf_fresh (knd:=fq prog w) led).setOf (cU _ gS) (by unfold scanBound;omega)) (λ_=>rfl) rfl
      ·intro h' tk hk hS;show wpAny _ _ _ _ _ _;refine bT ?_;show wpAny _ _ (ret jg) _ _ _;refine bT ⟨rfl,h',tk,rfl,hS,λb o hb e=>?_⟩;refine hk b o (fT hb) (λz=>?_) (cU _ (cU _ e));have z:b=(s.heap.push (ig led)).objs.size:=by simpa using z
       rw[sz]at z;exact absurd hb (by rw[z];exact v4.mpr (t8 _))))) λr2 s2 h2=>?_
     cases r2 with
     |error e=>exact h2
     |ok fl2=>
      cases fl2 with
      |ret v=>
       obtain⟨rfl,h',tk,rfl,hS,hk⟩:=h2
       repeat (any_goals (first|assumption|wp_step))
       exact h _ _ hS hk
      |_=>exact h2.elim
    |_=>exact hr.elim)⟩))
end
end A
namespace A
open PySem L2 PyProof.Rows
open Mi (D W Rs Fin aG Out Tg met)
variable[Tb:dm]
theorem KR(val:Nat->Str):∀(i:Nat) (x:Str),x∈met val i↔∃j,j<i/\val j=x
 |0,x=>by simp[met]
 |i+1,x=>by
  have ih:=KR val i x;have h:=Gr val i x;have:x∈met val (i+1)↔x∈met val i\/x=val i:=by
   constructor
   ·intro z;have:=h.symm.trans (ce z);simpa using this
   ·intro z;have:=h.trans (by simpa using z:(decide (x∈met val i)||decide (x=val i))=true);simpa using this
  rw[this,ih];constructor
  ·rintro(⟨j,hj,e⟩|e)
   ·exact⟨j,by omega,e⟩
   ·exact⟨i,by omega,e.symm⟩
  ·rintro⟨j,hj,e⟩;by_cases q:j=i
   ·subst q;exact .inr e.symm
   ·exact .inl ⟨j,by omega,e⟩
theorem zU(val:Nat->Str):∀i,(met val i).Nodup
 |0=>by simp[met]
 |i+1=>by
  have ih:=zU val i;unfold met;split
  ·exact ih
  ·rename_i h;rw[kn];exact⟨ih,by simp,λa ha b hb e=>h (by simp at hb;rw[<- hb,<- e];exact ha)⟩
theorem zK(ys:List Str)(x:Str):x∈met (λi=>ys.getD i dc) ys.length↔x∈ys:=by
 rw[KR];constructor
 ·rintro⟨j,hj,e⟩;rw[<- e];simp only[fk,fF hj,Dr];exact pR hj
 ·intro h;obtain⟨j,hj,e⟩:=yD h;exact⟨j,hj,by simp[fF hj,e]⟩
theorem sub_len{α:Type}[DecidableEq α]:∀{l m:List α},l.Nodup->(∀x∈l,x∈m)->l.length<=m.length
 |[],m,_,_=>gZ _
 |a::l,m,nd,h=>by
  have nd:=iO.mp nd;have h1:∀x∈l,x∈m.erase a:=λx hx=>(CK (λe:x=a=>nd.1 (by rw[<- e];exact hx))).mpr (h x (.tail _ hx));have:=sub_len nd.2 h1;rw[yz (h a (.head _))]at this;have:0<m.length:=tP (h a (.head _));simp only[dH];omega
theorem Si{α:Type}[DecidableEq α]{l m:List α}(nd:l.Nodup)(h:∀x∈l,x∈m)(e:m.length<=l.length):∀x∈m,x∈l:=λx hx=>by
 by_cases q:x∈l
 ·exact q
 ·have:∀y∈x::l,y∈m:=λy hy=>by
   rcases cn.mp hy with rfl|hy
   ·exact hx
   ·exact h y hy
  have:=sub_len (iO.mpr ⟨q,nd⟩) this;simp only[dH]at this;omega
theorem same_iff(xs ys:List Str):Mi.fW xs ys=true↔Mi.jZ xs=Mi.jZ ys/\∀k,k∈xs->k∈ys:=by
 have e:Mi.fW xs ys=true↔(∀k∈xs,k∈ys)/\(∀k∈ys,k∈xs):=by simp[Mi.fW,rl]
 rw[e];unfold Mi.jZ;have ax:=zK xs;have ay:=zK ys;have nx:=zU (λi=>xs.getD i dc) xs.length;have ny:=zU (λi=>ys.getD i dc) ys.length;constructor
 ·rintro⟨h1,h2⟩;exact⟨Nat.le_antisymm (sub_len nx λk hk=>(ay k).mpr (h1 k ((ax k).mp hk))) (sub_len ny λk hk=>(ax k).mpr (h2 k ((ay k).mp hk))),h1⟩
 ·rintro⟨h1,h2⟩;exact⟨h2,λk hk=>(ax k).mp (Si nx (λz hz=>(ay z).mpr (h2 z ((ax z).mp hz))) (Dk h1.symm) k ((ay k).mpr hk))⟩
section
variable{X:Cx}{K:bb}{M:Nat->Bool}{te ta tb:TE}{a b:Mi.E}
def sZ(X:Cx)(a:ak)(ys:List Str):HO:=.ext λh=>∃F,h.SetOf (fq X.prog X.w) a F (Mi.jZ ys)/\∀k,F k=true↔k∈ys
def Aj(X:Cx):List V->Hp->VK->Prop:=λxs H Q=>∃p ys,xs=[.ref p]/\fQ X.K H p (ys.map V.str)/\ys.length+1<4096/\∀l,H l=af->Q (.ref l) (upd H l (sZ X l ys))
theorem EG(hc:X.calm=true):gu X (.type "set") (Aj X):=by
 intro ah s σ H xs us Q I r h;obtain⟨p,ys,rfl,hq,hz,q⟩:=h;obtain⟨u,rfl,ru⟩:=vals1 r;cases ru;obtain⟨au,rv,pl,_⟩:=I.tuple hq;have hl:=rv.length;have e:au.toArray.size=ys.length:=by rw[c7,<- hl,aU]
 refine Vk (xs:=ys) (I.ok.hd hc) pl (λi v hv=>z9 i v rv (by simpa using hv)) (by rw[e];exact hz) λh' tk hS hk=>?_;rw[e]at hS;refine⟨.ref s.heap.objs.size,upd H s.heap.objs.size (sZ X s.heap.objs.size ys),I.laid (λb o q=>hk b o (du q) q) (bJ _) ⟨⟨_,hS,λk=>?_⟩,?_,λh1 h2 ⟨F,z,y⟩ k=>⟨F,xZ z k,y⟩⟩,rfl,q _ (I.hok.fresh (bJ _))⟩
 ·have:=zK ys k;simpa using this
 ·obtain⟨o,_,_,_,ho,_⟩:=hS;exact⟨o,ho⟩
def JB(X:Cx):R2:=λx y H Q=>∃a b xs ys,x=.ref a/\y=.ref b/\H a=ac (sZ X a xs)/\H b=ac (sZ X b ys)/\Q (.bl (Mi.fW xs ys)) H
theorem QS(hu:X.A.units+64<cLine):dq X (compareOp .Eq) (JB X):=by
 intro ah s σ H x y v u Q I rx ry h;obtain⟨a,b,xs,ys,rfl,rfl,ha,hb,q⟩:=h;cases rx;cases ry;obtain⟨⟨F,hF,eF⟩,_⟩:=I.hok a _ ha;obtain⟨⟨G,hG,eG⟩,_⟩:=I.hok b _ hb;refine N4 hF hG (by omega) λk hk=>?_;have:k=Mi.fW xs ys:=by have e:k=true↔Mi.fW xs ys=true:=hk.trans ((same_iff xs ys).trans ⟨λz=>⟨z.1,λx hx=>(eG x).mpr (z.2 x ((eF x).mp hx))⟩,λz=>⟨z.1,λx hx=>(eG x).mp (z.2 x ((eF x).mpr hx))⟩⟩).symm;cases k<;>cases hs:Mi.fW xs ys<;>simp_all
 subst this;exact⟨.bl _,H,I,rfl,q⟩
theorem Pz{α:Type}{r:Rs α}{k:α->Prop}(h:Fin r k):∃a,r=.ok a/\k a:=by
 cases r with
 |ok a=>exact⟨a,rfl,h⟩
 |ex x=>exact h.elim
 |no=>exact h.elim
theorem Oa{x y:D}{k:D->Prop}(h:Fin (Mi.xt x y) k):∃ds es xs ys,x=.tup ds/\y=.tup es/\Mi.fM ds=ac xs/\Mi.fM es=ac ys/\xs.length+1<4096/\ys.length+1<4096/\k (.bl (Mi.fW xs ys)):=by
 obtain⟨xs,ex,q1⟩:=hZ (aG.mp h);obtain⟨ys,ey,q2⟩:=hZ (aG.mp q1);obtain⟨⟨h1,h2⟩,q3⟩:=Mi.dh q2;cases x with
 | tup ds=>cases y with
  |tup es=>exact⟨ds,es,xs,ys,rfl,rfl,ex,ey,h1,h2,Mi.jQ q3⟩
  |_=>cases ey
 |_=>cases ex
theorem Tp(ha:AE M qP ta a)(hb:AE M qP tb b):AE M qV (oY (JB X) (pH (Aj X) (hV ta iF)) (pH (Aj X) (hV tb iF))) (Mi.m2 Mi.xt a b):=λe σ H Hv Q I h=>
 ha e σ H Hv _ I ((aG.mp h).mono λx hx v H1 Hv1 g1 rx=>by
  obtain⟨y,hy,hk⟩:=Pz (aG.mp hx);obtain⟨ds,es,xs,ys,rfl,rfl,ex,ey,h1,h2,hk⟩:=Oa hk;obtain⟨p,us,rfl,l,_,r⟩:=RD.tup g1.vw rx;have:=qF ex r;subst this;refine⟨p,xs,rfl,.inl (.inl l),h1,λc hc=>?_⟩;have g2:cu H1 Hv1 (upd H1 c (sZ X c xs)) Hv1:=.nU g1.vw trivial hc;refine hb e σ _ Hv1 _ ((I.grow g1).grow g2) ?_;rw[hy];intro v2 H2 Hv2 g3 ry;obtain⟨p2,us2,rfl,l2,_,r2⟩:=RD.tup g3.vw ry;have:=qF ey r2;subst this;refine⟨p2,ys,rfl,.inl (.inl l2),h2,λc2 hc2=>?_⟩;have g4:cu H2 Hv2 (upd H2 c2 (sZ X c2 ys)) Hv2:=.nU g3.vw trivial hc2;refine⟨c,c2,xs,ys,rfl,rfl,?_,cM,hk _ _ _ (g1.trans (g2.trans (g3.trans g4))) fZ⟩;exact(g3.trans g4).old.at cM)
def Gm(K:bb):V->Option Int->Option Int->Hp->VK->Prop:=λx lo hi H Q=>∃p xs a,x=.ref p/\fQ K H p xs/\lo=ac a/\hi=af/\1<=a/\a<=(xs.length:Int)/\xs.length<=sizeLine/\∀q,H q=af->Q (.ref q) (upd H q (.tup (xs.drop a.toNat)))
theorem QD:mr X (Gm X.K):=by
 intro ah s σ H x v vl vu lo hi sl Q I rx hs pl pu h;obtain⟨p,xs,a,rfl,hx,rfl,rfl,h1,h2,hz,q⟩:=h;cases rx;obtain⟨au,r,ht,_⟩:=I.tuple hx;have hl:=r.length;refine⟨"tuple", _,slot_tuple_getitem.lookup,ht.typeIs,?_⟩;cases pl with
 |int _ t=>
 cases pu;obtain⟨n,rfl⟩ : ∃n:Nat,a=n:=⟨a.toNat,by omega⟩;refine getItem_tuple_from ht hs (by omega) (by rw[c7];omega) ?_ (by rw[c7];omega);rw[show(au.toArray.toList.drop n)=au.drop n by simp];have q:=q _ (I.hok.fresh (bJ _));rw[jf]at q;exact⟨.ref s.heap.objs.size,_,I.laid (t':=s.toks) (o:=.tup (xs.drop n)) (λb ob q=>cU _ q) (bJ _) ⟨by rw[jy];omega,_,r.drop n,⟨_,fc _ rfl,rfl,rfl,0,rfl⟩⟩,rfl,q⟩
def GV(K:bb):V->Option Int->Option Int->Hp->VK->Prop:=λx lo hi H Q=>By K x lo hi H Q\/Gm K x lo hi H Q
theorem Jt:mr X (GV X.K):=G1.or QD
theorem EB:BS qV (GV K) Mi.qT:=λx lo hi v H Hv Q vw rx h=>by
 cases x with
 |lst ds=>
  obtain⟨p,xs,rfl,l1,r1⟩:=RD.lst vw rx;refine .inl ⟨p,xs,rfl,l1.sq,λa ha=>?_⟩;obtain⟨g,k⟩:=Cu vw (FW r1 lo hi) ha;exact h _ _ _ g k
 |tup ds=>
  obtain⟨p,xs,rfl,l1,_,r1⟩:=RD.tup vw rx;cases lo with
  |none=>exact h.elim
  | some a=>cases hi with
   |some c=>exact h.elim
   |none=>
    obtain⟨⟨z1,z2,z3⟩,h⟩:=Mi.dh h;refine .inr ⟨p,xs,a,rfl,.inl (.inl l1),rfl,rfl,z1,by rw[<- r1.len];exact z2,by rw[<- r1.len,eK];exact z3,λc hc=>?_⟩;obtain⟨g,k⟩:=x5 vw (r1.drop a.toNat) hc;exact h _ _ _ g k
 |_=>exact h.elim
def FK(K:bb):R2:=λx y H Q=>∃l b xs zs,x=.ref l/\y=.ref b/\fQ K H l xs/\fQ K H b zs/\xs.length+zs.length<=sizeLine /\
 (xs=[]->Q (.ref b) H)/\(xs≠[]->zs=[]->Q (.ref l) H)/\∀p,H p=af->Q (.ref p) (upd H p (.tup (xs++zs)))
theorem OP:dq X (binaryOp .Add) (FK X.K):=by
 intro ah s σ H x y v u Q I rx ry h;obtain⟨l,b,xs,zs,rfl,rfl,hx,hy,hz,q1,q2,q3⟩:=h;cases rx;cases ry;obtain⟨au,r,t1,_⟩:=I.tuple hx;obtain⟨its2,r2,t2,_⟩:=I.tuple hy;have hl:=r.length;have hl2:=r2.length;have ty1:=t1.typeIs (s:=s);have ty2:=t2.typeIs (s:=s);obtain⟨⟨cls,dd,data,sl⟩,ho,hc,n,hd⟩:=id t1;obtain⟨⟨cls2,dd2,data2,sl2⟩,ho2,hc2,n2,hd2⟩:=id t2;simp only at hc hd hc2 hd2;subst hc hd hc2 hd2;by_cases e1:xs=[]
 ·subst e1;have:au=[]:=by cases au<;>simp_all
  subst this;exact concat_meets ty1 ty2 C6 De Do Dn (Dm _ _) (tuple_addW0 l b _ _ n n2 dd dd2 sl sl2 rfl) ⟨ho,ho2,⟨.ref b,H,I,rfl,q1 rfl⟩⟩
 ·have i1:¬ au.toArray.isEmpty=true:=by
   intro z;have:au=[]:=by simpa using z
   subst this;cases xs with
   |nil=>exact e1 rfl
   |cons _ _=>simp at hl
  by_cases e2:zs=[]
  ·subst e2;have:its2=[]:=by cases its2<;>simp_all
   subst this;exact concat_meets ty1 ty2 C6 De Do Dn (Dm _ _) (tuple_addW1 l b _ _ n n2 dd dd2 sl sl2 i1 rfl) ⟨ho,ho2,⟨.ref l,H,I,rfl,q2 e1 rfl⟩⟩
  ·have i2:¬ its2.toArray.isEmpty=true:=by
    intro z;have:its2=[]:=by simpa using z
    subst this;cases zs with
    |nil=>exact e2 rfl
    |cons _ _=>simp at hl2
   have q:=q3 _ (I.hok.fresh (bJ _));refine concat_meets ty1 ty2 C6 De Do Dn (Dm _ _) (tuple_addW2 l b _ _ n n2 dd dd2 sl sl2 i1 i2 (by rw[c7,c7];omega)) ⟨ho,ho2,?_⟩;rw[show au.toArray++its2.toArray=(au++its2).toArray by simp];exact⟨.ref s.heap.objs.size,_,I.laid (t':=s.toks) (o:=.tup (xs++zs)) (λb ob q=>cU _ q) (bJ _) ⟨by rw[dC];omega,_,r.append r2,⟨_,fc _ rfl,rfl,rfl,0,rfl⟩⟩,rfl,q⟩
theorem NW:B2 qV (FK K) Mi.zW:=λx y v u H Hv Q vw rx ry h=>by
 cases x with
 | tup i=>cases y with
  |tup j=>
   obtain⟨hz,h⟩:=Mi.dh h;have h:=Mi.jQ h;obtain⟨p,xs,rfl,l1,_,r1⟩:=RD.tup vw rx;obtain⟨p2,ys,rfl,l2,v2,r2⟩:=RD.tup vw ry;refine⟨p,p2,xs,ys,rfl,rfl,.inl (.inl l1),.inl (.inl l2),by rw[<- r1.len,<- r2.len,eK];exact hz,λe=>?_,λe e2=>?_,λq hq=>?_⟩
   ·subst e;cases r1;refine h _ H Hv (.refl vw) ?_;exact km.mpr ⟨p2,ys,rfl,v2,r2⟩
   ·subst e2;cases r2;rw[ko]at h;obtain⟨p,xs,z,l1,v1,r1⟩:=RD.tup vw rx;cases z;exact h _ H Hv (.refl vw) (km.mpr ⟨_,xs,rfl,v1,r1⟩)
   ·obtain⟨g,k⟩:=x5 vw (r1.append r2) hq;exact h _ _ _ g k
  |_=>exact h.elim
 |_=>exact h.elim
end
end A
namespace So
open PySem PySem.W PyProof.Rows
def js{α:Type}(n:Nat)(lt:Nat->Nat->Bool):KasT α->(α->Prop)->Prop
 |.ret a,Q=>Q a
 |.ask i j k,Q=>i<n/\j<n/\js n lt (k (lt i j)) Q
theorem tE{α β:Type}{n:Nat}{lt:Nat->Nat->Bool}{f:α->KasT β}{Q:β->Prop}:∀{t:KasT α},js n lt t (λa=>js n lt (f a) Q)->js n lt (t.bind f) Q
 |.ret _,h=>h
 |.ask _ _ k,h=>⟨h.1,h.2.1,tE (t:=k _) h.2.2⟩
theorem mm{α:Type}{n:Nat}{lt:Nat->Nat->Bool}{Q Q':α->Prop}(m:∀a,Q a->Q' a):∀{t:KasT α},js n lt t Q->js n lt t Q'
 |.ret _,h=>m _ h
 |.ask _ _ k,h=>⟨h.1,h.2.1,mm m (t:=k _) h.2.2⟩
theorem IP{α:Type}{n:Nat}{lt:Nat->Nat->Bool}{cmp:Nat->Nat->(Bool->aB->Prop)->aB->Prop}{s:aB}(hc:∀i j C,i<n->j<n->C (lt i j) s->cmp i j C s){Q:α->Prop}:∀{t:KasT α},js n lt t Q->t.kasWp cmp (λa s'=>s'=s/\Q a) s
 |.ret _,h=>⟨rfl,h⟩
 |.ask i j k,h=>hc i j _ h.1 h.2.1 (IP hc (t:=k _) h.2.2)
section
variable{n:Nat}{lt:Nat->Nat->Bool}
structure vF(n:Nat)(lt:Nat->Nat->Bool):Prop where
 tot:∀i j,i<n->j<n->i≠j->lt i j=true\/lt j i=true
 asy:∀i j,i<n->j<n->lt i j=true->lt j i=false
 tr:∀i j k,i<n->j<n->k<n->lt i j=true->lt j k=true->lt i k=true
abbrev at'(p:Array Nat)(i:Nat):Nat:=p.getD i 0
structure Pm(n:Nat)(p:Array Nat):Prop where
 pm:p.Perm (fL (b0 n))
theorem Pm.size{p:Array Nat}(h:Pm n p):p.size=n:=by have:=h.pm.size_eq;simpa using this
theorem vx{p:Array Nat}{i:Nat}(h:i<p.size):at' p i=p[i]:=by simp[at',Array.getD,h]
theorem Pm.bd{p:Array Nat}(h:Pm n p){i:Nat}(hi:i<n):at' p i<n:=by
 have hs:i<p.size:=by rw[h.size];exact hi
 rw[vx hs];have:p[i]∈(fL (b0 n)).toList:=(v8.mp h.pm).mem_iff.mp (by simp);simpa using this
theorem Pm.inj{p:Array Nat}(h:Pm n p){i j:Nat}(hi:i<n)(hj:j<n)(e:at' p i=at' p j):i=j:=by
 have si:i<p.size:=by rw[h.size];exact hi
 have sj:j<p.size:=by rw[h.size];exact hj
 rw[vx si,vx sj]at e;have nd:p.toList.Nodup:=(v8.mp h.pm).nodup_iff.mpr (by simpa using yH);have e2:p.toList[i]'(by simpa using si)=p.toList[j]'(by simpa using sj):=by simpa using e
 exact(tW nd).mp e2
def Sd(lt:Nat->Nat->Bool)(p:Array Nat)(k:Nat):Prop:=∀i j,i<j->j<k->lt (at' p i) (at' p j)=true
def Dd(lt:Nat->Nat->Bool)(p:Array Nat)(k:Nat):Prop:=∀i j,i<j->j<k->lt (at' p j) (at' p i)=true
variable(O:vF n lt)
include O
theorem not_lt{p:Array Nat}(h:Pm n p){i j:Nat}(hi:i<n)(hj:j<n)(ne:i≠j)(e:lt (at' p i) (at' p j)=false):lt (at' p j) (at' p i)=true:=by
 rcases O.tot _ _ (h.bd hi) (h.bd hj) (λz=>ne (h.inj hi hj z))with z|z
 ·rw[e]at z;cases z
 ·exact z
theorem Sd.more{p:Array Nat}(h:Pm n p){k:Nat}(s:Sd lt p k)(hk:1<=k)(hkn:k<n)(e:lt (at' p (k-1)) (at' p k)=true):Sd lt p (k+1):=λi j hij hj=>by
 by_cases hjk:j<k
 ·exact s i j hij hjk
 ·obtain rfl:j=k:=by omega
  by_cases hi:i=j-1
  ·subst hi;exact e
  ·exact O.tr _ _ _ (h.bd (by omega)) (h.bd (by omega)) (h.bd hkn) (s i (j-1) (by omega) (by omega)) e
theorem Dd.more{p:Array Nat}(h:Pm n p){k:Nat}(s:Dd lt p k)(hk:1<=k)(hkn:k<n)(e:lt (at' p k) (at' p (k-1))=true):Dd lt p (k+1):=λi j hij hj=>by
 by_cases hjk:j<k
 ·exact s i j hij hjk
 ·obtain rfl:j=k:=by omega
  by_cases hi:i=j-1
  ·subst hi;exact e
  ·exact O.tr _ _ _ (h.bd hkn) (h.bd (by omega)) (h.bd (by omega)) e (s i (j-1) (by omega) (by omega))
theorem AZ{p:Array Nat}(h:Pm n p):∀(f k:Nat),1<=k->k+f<=n->Sd lt p k->js n lt (kas_asc p f k) λm=>k<=m/\m<=k+f/\Sd lt p m/\(m=k+f\/lt (at' p m) (at' p (m-1))=true)
 |0,k,_,_,s=>⟨bJ _,bJ _,s,.inl rfl⟩
 |f+1,k,h1,h2,s=>by
  refine⟨h.bd (by omega),h.bd (by omega),?_⟩;cases e:lt (p.getD k 0) (p.getD (k-1) 0)with
  |true=>exact⟨bJ _,by omega,s,.inr e⟩
  |false=>
   dsimp only;rw[ba dR];refine mm (λm hm=>?_) (AZ h f (k+1) (by omega) (by omega) (Sd.more O h s h1 (by omega) (not_lt O h (by omega) (by omega) (by omega) e)));refine⟨by omega,by omega,hm.2.2.1,?_⟩;rcases hm.2.2.2 with z|z
   ·exact .inl (by omega)
   ·exact .inr z
theorem Lf{p:Array Nat}(h:Pm n p):∀(f k:Nat),1<=k->k+f<=n->Dd lt p k->js n lt (kas_desc f p k 0) λr=>r.1=p/\k<=r.2.1/\r.2.1<=k+f/\r.2.2=0/\Dd lt p r.2.1
 |0,k,_,_,s=>⟨rfl,bJ _,bJ _,rfl,s⟩
 |f+1,k,h1,h2,s=>by
  refine⟨h.bd (by omega),h.bd (by omega),?_⟩;cases e:lt (p.getD k 0) (p.getD (k-1) 0)with
  |true=>
   dsimp only;rw[bc rfl,ba (by omega)];refine mm (λr hr=>⟨hr.1,by omega,by omega,hr.2.2.2⟩) (Lf h f (k+1) (by omega) (by omega) (Dd.more O h s h1 (by omega) e))
  |false=>
   dsimp only;rw[ba dR];refine⟨h.bd (by omega),h.bd (by omega),?_⟩;dsimp only;rw[show lt (p.getD (k-1) 0) (p.getD k 0)=true from not_lt O h (by omega) (by omega) (by omega) e,bc rfl];exact⟨rfl,bJ _,by show k<=_;omega,rfl,s⟩
theorem Ew{p:Array Nat}{k:Nat}(hk:k<=p.size)(i:Nat):at' (kas_rev p 0 k) i=if i<k then at' p (k-1-i)else at' p i:=by
 have e:=getElem?_mirror_all (xs:=p) (i:=0) (j:=k) hk i;show(kas_rev p 0 k).getD i 0=_;have g:∀(q:Array Nat) (j:Nat),q.getD j 0=(q[j]?).getD 0:=λq j=>by simp
 rw[g];unfold kas_rev;rw[e];by_cases hi:i<k
 ·rw[bc ⟨gZ _,hi⟩,bc hi,<- g,show 0+k-1-i=k-1-i by omega]
 ·rw[ba (by omega),ba hi,<- g]
theorem JM{p:Array Nat}(h:Pm n p)(k:Nat):Pm n (kas_rev p 0 k):=⟨(mirror_perm _ _ _ _).trans h.pm⟩
theorem E5{p:Array Nat}(h:Pm n p){k:Nat}(h1:1<=k)(h2:k<=n)(s:Dd lt p k):js n lt (kas_tail3 k n p) λr=>Pm n r.2/\1<=r.1/\r.1<=n/\Sd lt r.2 r.1:=by
 have sz:k<=p.size:=by rw[h.size];exact h2
 have s':Sd lt (kas_rev p 0 k) k:=λi j hij hj=>by
  rw[Ew O sz,Ew O sz,bc (by omega),bc hj];exact s _ _ (by omega) (by omega)
 refine tE (mm (λm hm=>?_) (AZ O (JM O h k) (n-k) k h1 (by omega) s'));exact⟨JM O h k,by omega,by omega,hm.2.2.1⟩
theorem OJ{p:Array Nat}(h:Pm n p){k:Nat}(h2:k+1<=n)(s:Dd lt p (k+1)):js n lt (kas_descPart k n p) λr=>Pm n r.2/\1<=r.1/\r.1<=n/\Sd lt r.2 r.1:=by refine tE (mm (λr hr=>?_) (Lf O h (n-(k+1)) (k+1) (by omega) (by omega) s));obtain⟨e1,l1,l2,e2,d⟩:=hr;rw[e2,ba (by omega),e1];exact E5 O h (by omega) (by omega) d
theorem F4{p:Array Nat}(h:Pm n p)(h1:1<=n):js n lt (kas_count n p) λr=>Pm n r.2/\1<=r.1/\r.1<=n/\Sd lt r.2 r.1:=by
 refine tE (mm (λm hm=>?_) (AZ O h (n-1) 1 (bJ _) (by omega) (λi j hij hj=>by omega)));obtain⟨m1,m2,s,e⟩:=hm;by_cases hn:m=n
 ·rw[bc (by simpa using hn)];exact⟨h,m1,by omega,s⟩
 ·rw[ba (by simpa using hn)];have e:=e.resolve_left (by omega);by_cases hg:m>1
  ·rw[bc hg];refine⟨h.bd (by omega),h.bd (by omega),?_⟩;dsimp only;rw[show lt (p.getD 0 0) (p.getD (m-1) 0)=true from s 0 (m-1) (by omega) (by omega),bc rfl];exact⟨h,m1,by omega,s⟩
  ·rw[ba hg];obtain rfl:m=1:=by omega
   refine OJ O h (by omega) λi j hij hj=>?_;obtain rfl:i=0:=by omega
   obtain rfl:j=1:=by omega
   exact e
theorem zJ{p:Array Nat}(h:Pm n p){k:Nat}(hk:k<n)(s:Sd lt p k):∀(f l r:Nat),l<=r->r<=k->r-l<=f->(∀i,i<l->lt (at' p i) (at' p k)=true)->(∀i,r<=i->i<k->lt (at' p k) (at' p i)=true) ->
 js n lt (kas_place p k f l r) λm=>m<=k/\(∀i,i<m->lt (at' p i) (at' p k)=true)/\(∀i,m<=i->i<k->lt (at' p k) (at' p i)=true)
 |0,l,r,h1,h2,h3,a,b=>by
  obtain rfl:l=r:=by omega
  exact⟨h2,a,b⟩
 |f+1,l,r,h1,h2,h3,a,b=>by
  unfold kas_place;by_cases g:l >= r
  ·rw[bc g];obtain rfl:l=r:=by omega
   exact⟨h2,a,b⟩
  ·rw[ba g];refine⟨h.bd hk,h.bd (by omega),?_⟩;cases e:lt (p.getD k 0) (p.getD ((l+r)/2) 0)with
   |true=>
    dsimp only;rw[bc rfl];refine zJ h hk s f l ((l+r)/2) (by omega) (by omega) (by omega) a λi hi hk'=>?_;by_cases z:i=(l+r)/2
    ·subst z;exact e
    ·exact O.tr _ _ _ (h.bd hk) (h.bd (by omega)) (h.bd (by omega)) e (s _ _ (by omega) hk')
   |false=>
    dsimp only;rw[ba dR];have e':=not_lt O h hk (by omega) (by omega) e;refine zJ h hk s f ((l+r)/2+1) r (by omega) h2 (by omega) (λi hi=>?_) b;by_cases z:i=(l+r)/2
    ·subst z;exact e'
    ·exact O.tr _ _ _ (h.bd (by omega)) (h.bd (by omega)) (h.bd hk) (s _ _ (by omega) (by omega)) e'
theorem Jn{p:Array Nat}{k d:Nat}(hk:k<p.size)(hd:d<=k)(i:Nat):at' (bubble p k d) i=if i=k-d then at' p k else if k-d<i/\i<=k then at' p (i-1)else at' p i:=by
 have e:=getElem?_bubble hk d hd i;have g:∀(q:Array Nat) (j:Nat),q.getD j 0=(q[j]?).getD 0:=λq j=>by simp
 show(bubble p k d).getD i 0=_;rw[g,e];by_cases h1:i=k-d
 ·rw[bc h1,bc h1,<- g]
 ·rw[ba h1,ba h1];by_cases h2:k-d<i/\i<=k
  ·rw[bc h2,bc h2,<- g]
  ·rw[ba h2,ba h2,<- g]
theorem Ev:∀(f:Nat) (p:Array Nat) (k:Nat),Pm n p->k+f<=n->Sd lt p k->js n lt (kas_bin f p k) λq=>Pm n q/\Sd lt q (k+f)
 |0,p,k,h,_,s=>⟨h,s⟩
 |f+1,p,k,h,hk,s=>by
  have sz:k<p.size:=by rw[h.size];omega
  refine tE (mm (λl hl=>?_) (zJ O h (by omega) s k 0 k (by omega) (bJ _) (by omega) (λi hi=>by omega) (λi h1 h2=>by omega)));obtain⟨l1,lo,hi⟩:=hl;have s':Sd lt (bubble p k (k-l)) (k+1):=λi j hij hj=>by
   rw[Jn O sz (d:=k-l) (by omega),Jn O sz (d:=k-l) (by omega),show k-(k-l)=l by omega];by_cases c1:i=l
   ·rw[bc c1,ba (by omega),bc (by omega)];exact hi _ (by omega) (by omega)
   ·rw[ba c1];by_cases c2:l<i/\i<=k
    ·rw[bc c2,ba (by omega),bc (by omega)];exact s _ _ (by omega) (by omega)
    ·rw[ba c2];by_cases c3:j=l
     ·rw[bc c3];exact lo _ (by omega)
     ·rw[ba c3];by_cases c4:l<j/\j<=k
      ·rw[bc c4];exact s _ _ (by omega) (by omega)
      ·rw[ba c4];exact s _ _ (by omega) (by omega)
  refine mm (λq hq=>⟨hq.1,?_⟩) (Ev f (bubble p k (k-l)) (k+1) ⟨(bubble_perm _ _ _).trans h.pm⟩ (by omega) s');rw[show k+(f+1)=k+1+f by omega];exact hq.2
theorem To(h1:1<=n):js n lt (kas_sort n) λq=>Pm n q/\Sd lt q n:=by
 refine tE (mm (λr hr=>?_) (F4 O ⟨Mu _⟩ h1));obtain⟨pm,r1,r2,s⟩:=hr;by_cases hl:r.1<n
 ·rw[bc hl];refine mm (λq hq=>⟨hq.1,?_⟩) (Ev O (n-max r.1 1) r.2 (max r.1 1) pm (by omega) (by rw[show max r.1 1=r.1 by omega];exact s));rw[show n=max r.1 1+(n-max r.1 1)by omega];exact hq.2
 ·rw[ba hl];exact⟨pm,by rw[show n=r.1 by omega];exact s⟩
end
end So
namespace So
open PySem PySem.W PyProof.Rows PySem.MeetsSeq3
def eB:List Int->List Int->Bool
 |[],[]=>false
 |[],_::_=>true
 |_::_,[]=>false
 |a::r,b::t=>if a==b then eB r t else decide (a<b)
section
variable{prog:cp}{w:bI}{Ar:cR}
theorem Ij{vs:List ai}{ns:List Int}(h:lm vs ns):∀{i:Nat} {n:Int},ns[i]? = ac n->∃t,vs[i]? = ac (.int n t):=by
 induction h with
 |nil=>intro i n e;simp at e
 |cons a t h ih=>
  intro i n e;cases i with
  |zero=>simp at e;subst e;exact⟨t,rfl⟩
  |succ i=>exact ih (by simpa using e)
theorem QG{R:Result->aB->Prop}{s:aB}{l b:ak}{us vs:List ai}{xs ys:List Int}{o o2:Obj}{n n2:Nat}(ho:s.heap.get? l=ac o)(hd:o.data=.seq us.toArray n)(ho2:s.heap.get? b=ac o2)(hd2:o2.data=.seq vs.toArray n2)(hu:lm us xs)(hv:lm vs ys) :
 ∀(k i:Nat),xs.length-i<=k->i<=xs.length->i<=ys.length->R (.ok (.ret (.bool (eB (xs.drop i) (ys.drop i))))) s->codeAny (model prog w) Ar (.builtin "list.__eq__.loop" ⟨[.ref l,.ref b,rawInt i,rawInt 0],[]⟩) R s:=by
 have l1:=hu.length;have l2:=hv.length;have gx:∀i,i<xs.length->∃t,us.toArray[i]? = ac (.int (xs.getD i 0) t):=λi hi=>by
  obtain⟨t,e⟩:=Ij hu (i:=i) (n:=xs.getD i 0) (by simp[hi]);exact⟨t,by simpa using e⟩
 have gy:∀i,i<ys.length->∃t,vs.toArray[i]? = ac (.int (ys.getD i 0) t):=λi hi=>by
  obtain⟨t,e⟩:=Ij hv (i:=i) (n:=ys.getD i 0) (by simp[hi]);exact⟨t,by simpa using e⟩
 have nx:∀i,¬ i<xs.length->us.toArray[i]? = af:=λi hi=>by simp;omega
 have ny:∀i,¬ i<ys.length->vs.toArray[i]? = af:=λi hi=>by simp;omega
 have MA:∀i,i=xs.length->i<=ys.length->decide (us.toArray.size<vs.toArray.size)=eB (xs.drop i) (ys.drop i):=λi hi hj=>by
  rw[yC (by omega:xs.length<=i),c7,c7,l1,l2];by_cases h:i<ys.length
  ·rw[re h];simp[eB];omega
  ·rw[yC (by omega:ys.length<=i)];simp[eB];omega
 have V3:∀i,i<xs.length->i=ys.length->decide (us.toArray.size<vs.toArray.size)=eB (xs.drop i) (ys.drop i):=λi hi hj=>by
  rw[yC (by omega:ys.length<=i),re hi,c7,c7,l1,l2];simp[eB];omega
 have fin:∀(i:Nat),(us.toArray[i]? = af\/vs.toArray[i]? = af)->R (.ok (.ret (.bool (decide (us.toArray.size<vs.toArray.size))))) s->codeAny (model prog w) Ar (.builtin "list.__eq__.loop" ⟨[.ref l,.ref b,rawInt i,rawInt 0],[]⟩) R s:=λi hn h=>by
  refine t5 entry_eq_loop (by
   rw[zj zl _];unfold nq.«list.__eq__.loop»;show wpAny _ _ (L9 (.ref l) >>= _) _ _ _;refine aY (ll ho hd (aY (ll ho2 hd2 ?_)));simp only[jf];rcases hn with e|e
   ·rw[e];dsimp only;refine aY (ll ho hd (aY (ll ho2 hd2 ?_)));exact bT h
   ·rw[e];cases us.toArray[i]? <;>
    ·dsimp only;refine aY (ll ho hd (aY (ll ho2 hd2 ?_)));exact bT h)
 intro k
 induction k with
 |zero=>
  intro i hk h1 h2 h;refine fin i (.inl (nx i (by omega))) ?_;rw[MA i (by omega) h2];exact h
 |succ k ih=>
  intro i hk h1 h2 h;by_cases hi:i<xs.length
  ·by_cases hj:i<ys.length
   ·obtain⟨t,e1⟩:=gx i hi;obtain⟨u,e2⟩:=gy i hj;have dx:xs.drop i=xs.getD i 0::xs.drop (i+1):=by rw[re hi];simp[hi]
    have dy:ys.drop i=ys.getD i 0::ys.drop (i+1):=by rw[re hj];simp[hj]
    rw[dx,dy]at h;refine t5 entry_eq_loop (by
     rw[zj zl _];unfold nq.«list.__eq__.loop»;show wpAny _ _ (L9 (.ref l) >>= _) _ _ _;refine aY (ll ho hd (aY (ll ho2 hd2 ?_)));simp only[jf];rw[e1,e2];dsimp only;refine aY (wpAny_eqBool_int ?_);cases hb:(xs.getD i 0==ys.getD i 0)with
     |true=>
      rw[bc rfl];rw[eB,hb,bc rfl]at h;refine bT ⟨Db zl _,?_⟩;have:=ih (i+1) (by omega) hi hj h;rw[show rawInt ((i+1:Nat):Int)=rawInt ((i:Int)+1)from by rw[show((i+1:Nat):Int)=(i:Int)+1 by omega]]at this;exact this
     |false=>
      rw[ba dR];rw[eB,hb,ba dR]at h;refine aY (ll ho hd (aY (ll ho2 hd2 ?_)));rw[e1,e2];show wpAny _ _ (richCompare .Lt _ _ >>= _) _ _ _;exact aY (show wpAny _ _ (compareOp .Lt _ _) _ _ _ from wpAny_lt_int (bT h)))
   ·refine fin i (.inr (ny i hj)) ?_;rw[V3 i hi (by omega)];exact h
  ·refine fin i (.inl (nx i hi)) ?_;rw[MA i (by omega) h2];exact h
theorem Vj{E:ai->aB->Prop}{s:aB}{l b:ak}{us vs:List ai}{xs ys:List Int}{o o2:Obj}{n n2:Nat}{Q:Bool->aB->Prop}(ho:s.heap.get? l=ac o)(hc:o.cls=.type "list")(hd:o.data=.seq us.toArray n)(ho2:s.heap.get? b=ac o2)(hc2:o2.cls=.type "list")(hd2:o2.data=.seq vs.toArray n2)(hu:lm us xs)(hv:lm vs ys)
 (hun:Ar.units<cLine) (h:Q (eB xs ys) s):wpAny (model prog w) Ar (keyLt' oneType' (.ref l) (.ref b)) Q E s:=by
 have t1:s.TypeIs (.ref l) "list" := ⟨_,ho,hc⟩;have t2:s.TypeIs (.ref b) "list" := ⟨_,ho2,hc2⟩;rw[keyLt'_oneType,oneLt'_eq];simp only[i9];refine aY (wpAny_cRoomFor hun ?_);refine aY (wpAny_callSpecialIfBound?_slot t1 Dp (vX (C1 Dp.plain PySem.F.entry_list_lt (Dp.check _ _ _ _ _ _ _ _ t1 (PySem.F.args_list_lt_2 _ _) ?_))));unfold nq.«list.__lt__»;have sub:isSubtype (.type "list") (.type "list")=pure true:=by rw[C7];kernel_rfl
 show wpAny _ _ (isInstance (.ref b) (.type "list") >>= _) _ _ _;refine aY (C5 t2 sub ?_);refine bT ⟨Db zl _,?_⟩;refine QG ho hd ho2 hd2 hu hv xs.length 0 (by omega) (gZ _) (gZ _) ?_;exact lg h
end
end So
namespace So
open PySem PySem.W PyProof.Rows
section
variable{prog:cp}{w:bI}{A:cR}{E:ai->aB->Prop}{s:aB}
def tm(n:Nat):List ak:=[n,n+1,n+2,n+3]
def qC(lt:Nat->Nat->Bool)(vs out:List ai):Prop:=∃p:Array Nat,Pm vs.length p/\Sd lt p vs.length/\out=p.toList.map λi=>vs.getD i jg
theorem qC.len{lt:Nat->Nat->Bool}{vs out:List ai}(h:qC lt vs out):out.length=vs.length:=by obtain⟨p,pm,_,rfl⟩:=h;rw[aU,zg,pm.size]
theorem JF{a kS:ak}{e e1:Nat}{ks out:List ai}{st:SortSt}{P:rC->aB->Prop}(hk:s.heap.get? kS=ac (seqObj "list" (fL ks) e))(ha:s.heap.get? a=ac (seqObj "list" #[] e1))(ne:a≠kS)
 (hks:ks.length<64) (ho:out.length<64) (hout:(arrOf st).map (·.2)=fL out) (hf:failedOf st=af)
 (h:∀h' c,(∀b o,b≠a->b≠kS->s.heap.get? b=ac o->h'.get? b=ac o)->(∃o,h'.get? kS=ac o)->h'.get? a=ac (seqObj "list" (fL out) c)->P (.done (.ret .none)) { s with heap:=h' }) :
 wpAny (model prog w) A (ksk_tail a false e1 (.ref kS) st) P E s:=by
 have s1:=ub s.heap kS (iT λ_=>(#[]:Array ai));have ha1:=(s1.2 a ne).trans ha;have s2:=ub (s.heap.update kS (iT λ_=>(#[]:Array ai))) a (iT λ_=>fL out);obtain⟨c,hc⟩ : ∃c,((s.heap.update kS (iT λ_=>(#[]:Array ai))).update a (iT λ_=>fL out)).get? a=ac (seqObj "list" (fL out) c):=⟨_,v7 ha1 λ_=>fL out⟩;unfold ksk_tail;dsimp only;rw[hout];refine aY (zf hk rfl ?_ (by rw[c7,eK];omega) (gZ _));refine aY (wpAny_letGo (aY (seqEpoch_at ha1 rfl ?_)));refine aY (zf ha1 rfl ?_ (gZ _) (by show(fL out).size<=_;rw[c7,eK];omega));rw[hf];simp only[bne_self_eq_false,rE,iU];exact bT (h _ c (λb o n1 n2 q=>(s2.2 b n1).trans ((s1.2 b n2).trans q)) ⟨_,(s2.2 kS (fv ne)).trans (v7 hk λ_=>#[])⟩ hc)
theorem S4{a kS f:ak}{e1:Nat}{P:rC->aB->Prop}(J:List ai->aB->Prop){vs:List ai}(h64:vs.length<64)
 (jk:∀ks s1 h',J ks s1->(∀b o,b≠kS->s1.heap.get? b=ac o->h'.get? b=ac o)->(∃o,h'.get? kS=ac o)->J ks { s1 with heap:=h' })
 (jc:∀i x ks s1,vs[i]? = ac x->ks.length=i->J ks s1->wpAny (model prog w) A (call (.ref f) [x]) (λk s2=>J (ks++[k]) s2/\∀b o,(b=a\/b=kS)->s1.heap.get? b=ac o->s2.heap.get? b=ac o) (λ_ _=>False) s1)
 (ne:a≠kS) (hk:s.heap.get? kS=ac (seqObj "list" #[] 0)) (ha:s.heap.get? a=ac (seqObj "list" #[] e1)) (j0:J [] s)
 (fin:∀ks e s1,ks.length=vs.length->J ks s1->s1.heap.get? kS=ac (seqObj "list" (fL ks) e)->s1.heap.get? a=ac (seqObj "list" #[] e1)->wpAny (model prog w) A (ksk_end a false vs.toArray e1 (.ref kS) (fL ks)) P E s1) :
 wpAny (model prog w) A (ksk_rest a (.ref f) false vs.toArray e1 (.ref kS)) P E s:=by
 unfold ksk_rest;refine aY (wpAny_rule ?_);rw[List.forIn_toArray];refine aY (ksk_fold (I:=λi s1=>∃ks e,ks.length=i/\J ks s1/\s1.heap.get? kS=ac (seqObj "list" (fL ks) e)/\s1.heap.get? a=ac (seqObj "list" #[] e1)) vs 0 s ⟨[],0,rfl,j0,hk,ha⟩ (λj x s1 hx hI=>?_) λs1 hI=>?_)
 ·obtain⟨ks,e,hl,hJ,hk1,ha1⟩:=hI;rw[dS]at hl ⊢;have hlt:j<vs.length:=(eW.mp hx).1;refine aY (wpAny_attempt (ku (jc j x ks s1 hx hl hJ) (λk s2 h2=>?_) λ_ _ z=>z.elim));obtain⟨hJ2,kp⟩:=h2;have hk2:=kp kS _ (.inr rfl) hk1;have ha2:=kp a _ (.inl rfl) ha1;have su:=ub s2.heap kS (iT (·.push k));have ea:(fL ks).push k=fL (ks++[k]):=by simp
  obtain⟨c2,hc2⟩ : ∃c2,(s2.heap.update kS (iT (·.push k))).get? kS=ac (seqObj "list" (fL (ks++[k])) c2):=⟨_,by rw[<- ea];exact v7 hk2 (·.push k)⟩;dsimp only;refine aY (zf hk2 rfl ?_ (by rw[c7,eK];omega) (c8 (Dk (Array.size_push ..)) (by rw[c7,eK];omega)));exact bT ⟨rfl,ks++[k],c2,by rw[dC,hl];rfl,jk _ _ _ hJ2 (λb o n q=>(su.2 b n).trans q) ⟨_,hc2⟩,hc2,(su.2 a ne).trans ha2⟩
 ·obtain⟨ks,e,hl,hJ,hk1,ha1⟩:=hI;refine aY (ll hk1 rfl ?_);exact fin ks e s1 (by simpa using hl) hJ hk1 ha1
theorem SA{a kS:ak}{e e1:Nat}{ks vs:List ai}{lt:Nat->Nat->Bool}{P:rC->aB->Prop}(hl:ks.length=vs.length)(h64:vs.length<64)(O:vF vs.length lt)
 (hkk:2<=vs.length->∀(Q:SortKind->aB->Prop),Q oneType' s->wpAny (model prog w) A (keyKind' (fL ks)) Q (λ_ _=>False) s)
 (hcmp:∀i j C,i<vs.length->j<vs.length->C (lt i j) s->kas_ask prog w A oneType' ks i j C s)
 (hk:s.heap.get? kS=ac (seqObj "list" (fL ks) e)) (ha:s.heap.get? a=ac (seqObj "list" #[] e1)) (ne:a≠kS)
 (h:∀out h' c,qC lt vs out->(∀b o,b≠a->b≠kS->s.heap.get? b=ac o->h'.get? b=ac o)->(∃o,h'.get? kS=ac o)->h'.get? a=ac (seqObj "list" (fL out) c)->P (.done (.ret .none)) { s with heap:=h' }) :
 wpAny (model prog w) A (ksk_end a false vs.toArray e1 (.ref kS) (fL ks)) P E s:=by
 have V4:∀{n:Nat},Pm n (fL (b0 n)):=⟨Mu _⟩;unfold ksk_end;dsimp only;rw[ba dR,ba dR];by_cases h2:vs.toArray.size<2
 ·rw[bc h2,bc h2];rw[c7]at h2;refine aY (bT ?_);rw[StateT.run_pure];refine aY (bT ?_);dsimp only;have hout:qC lt vs vs:=⟨fL (b0 vs.length),V4,λi j hij hj=>by omega,by
   apply CO (by simp);intro i h1 h2;simp[h1]⟩
  refine JF (out:=vs) hk ha ne (by omega) h64 ?_ rfl λh' c kp ex hc=>h vs h' c hout kp ex hc;show((fL ks).zip vs.toArray).map (·.2)=vs.toArray;apply wa.mp;rw[Array.toList_map,Array.toList_zip];simp only[];rw[List.map_snd_zip (by omega)]
 ·rw[ba h2,ba h2];rw[c7]at h2;refine aY (ku (hkk (by omega) (λκ s'=>κ = oneType'/\s'=s) ⟨rfl,rfl⟩) (λκ s' hh=>?_) λ_ _ z=>z.elim);obtain⟨rfl,rfl⟩:=hh;have wp:=IP (cmp:=kas_ask prog w A oneType' ks) (s:=s') hcmp (To O (by omega));refine aY (ku (kat_run (E:=E) (Q:=λst' s2=>s2=s'/\∃p:Array Nat,Pm vs.length p/\Sd lt p vs.length/\arrOf st'=p.map (kas_item (ks.toArray.zip vs.toArray))/\failedOf st'=af) hl (by omega) h64 (λp st' s2 _ a2 a3 a4=>⟨a4.1,p,a4.2.1,a4.2.2,a2,a3⟩) wp) ?_ λ_ _ z=>z);rintro⟨⟨⟩,st'⟩ s2 ⟨rfl,p,pm,sd,har,hf⟩;dsimp only;have hout:qC lt vs (p.toList.map λi=>vs.getD i jg):=⟨p,pm,sd,rfl⟩;exact JF hk ha ne (by omega) (by rw[hout.len];exact h64) (kat_snds hl har) hf λh' c kp ex hc=>h _ h' c hout kp ex hc
theorem OE{f l:ak}{vs:List ai}{Q:ai->aB->Prop}(J:List ai->aB->Prop)(hl:s.heap.IsList l vs.toArray)(h64:vs.length<64)
 (j0:∀h':bq,(∀b o,s.heap.get? b=ac o->h'.get? b=ac o)->(∀b∈tm s.heap.objs.size,∃o,h'.get? b=ac o)->J [] { s with heap:=h' })
 (jk:∀ks s1 h',J ks s1->(∀b o,b∉tm s.heap.objs.size->s1.heap.get? b=ac o->h'.get? b=ac o)->(∀b o,s1.heap.get? b=ac o->∃o',h'.get? b=ac o')->J ks { s1 with heap:=h' })
 (jc:∀i x ks s1,vs[i]? = ac x->ks.length=i->J ks s1->wpAny (model prog w) A.in1.in1 (call (.ref f) [x]) (λk s2=>J (ks++[k]) s2/\∀b o,b∈tm s.heap.objs.size->s1.heap.get? b=ac o->s2.heap.get? b=ac o) (λ_ _=>False) s1)
 (je:∀ks s1,ks.length=vs.length->J ks s1->∃lt,vF vs.length lt/\(2<=vs.length->∀(Q:SortKind->aB->Prop),Q oneType' s1->wpAny (model prog w) A.in1.in1 (keyKind' (fL ks)) Q (λ_ _=>False) s1) /\
  (∀i j C,i<vs.length->j<vs.length->C (lt i j) s1->kas_ask prog w A.in1.in1 oneType' ks i j C s1) /\
  ∀out h' c,qC lt vs out->(∀b o,b∉tm s.heap.objs.size->s1.heap.get? b=ac o->h'.get? b=ac o)->(∀b o,s1.heap.get? b=ac o->∃o',h'.get? b=ac o')->h'.get? (s.heap.objs.size+1)=ac (seqObj "list" (fL out) c)->Q (.ref (s.heap.objs.size+1)) { s1 with heap:=h' }) :
 wpAny (model prog w) A (call (.builtin "sorted") [.ref l] [(rH "key", .ref f)]) Q E s:=by
 refine call_function_entry_kw kind_sorted plain_sorted entry_sorted (ksk_s1 _ _) ?_;unfold nq.«sorted»;refine aY (m:=checkCount "sorted" 1 1 _) (bT ?_);refine aY (collect_list hl ?_ (by rw[eK];omega));refine aY (C9 ?_ (by rw[eK];omega));generalize hn:s.heap.objs.size=n at *;generalize hh1:((s.heap.push (seqObj "list" #[] 0)).update n (iT (· ++ vs.toArray)))=h1;have hsz:h1.objs.size=n+1:=by rw[<- hh1,Heap.size_update,size_push',hn]
 have k1:∀b o,s.heap.get? b=ac o->h1.get? b=ac o:=λb o q=>by
  have hlt:b<n:=by rw[<- hn];exact du q
  rw[<- hh1,Heap.get?_update_ne _ _ _ _ (fT hlt),Heap.get?_push_ne _ _ _ (by rw[hn];exact fT hlt)];exact q
 have hoL:(h1.push (seqObj "list" vs.toArray 0)).get? (n+1)=ac (seqObj "list" vs.toArray 0):=by rw[<- hsz];exact fc _ rfl
 show wpAny _ _ _ _ _ { s with heap:=h1.push (seqObj "list" vs.toArray 0) };rw[hsz];refine aY (pV (wpAny_call_entry_kw slot_list_sort ⟨_,hoL,rfl⟩ entry_list_sort ?_ (ksk_l1 _ _)));show wpAny (model prog w) A.in1.in1 (nq.«list.sort» ⟨[.ref (n+1)],[(rH "key",.ref f)]⟩) _ _ _;rw[ksk_t1];generalize hh2:h1.push (seqObj "list" vs.toArray 0)=h2 at hoL ⊢;have k2:∀b o,s.heap.get? b=ac o->h2.get? b=ac o:=λb o q=>by rw[<- hh2];exact cU _ (k1 b o q)
 have z2:h2.objs.size=n+2:=by rw[<- hh2,tZ,hsz]
 obtain⟨e1,ho1⟩ : ∃e1,(h2.update (n+1) (iT λ_=>(#[]:Array ai))).get? (n+1)=ac (seqObj "list" #[] e1):=⟨_,v7 hoL λ_=>#[]⟩;have su:=ub h2 (n+1) (iT λ_=>(#[]:Array ai));unfold ksk_tree;refine aY (ll (s:={ s with heap:=h2 }) hoL rfl ?_);refine aY (zf (s:={ s with heap:=h2 }) hoL rfl ?_ (by rw[c7,eK];omega) (gZ _));refine aY (seqEpoch_at (s:={ s with heap:=h2.update (n+1) (iT λ_=>(#[]:Array ai)) }) ho1 rfl ?_);refine aY (wpAny_newTuple ?_ (by show vs.length<=_;rw[eK];omega));refine aY (C9 ?_ (gZ _));refine pV ?_;generalize hh3:h2.update (n+1) (iT λ_=>(#[]:Array ai))=h3 at ho1 su ⊢;have z3:h3.objs.size=n+2:=by rw[<- hh3,Heap.size_update,z2]
 have z4:(h3.push (seqObj "tuple" vs.toArray 0)).objs.size=n+3:=by rw[tZ,z3]
 show wpAny (model prog w) A.in1.in1 (ksk_rest (n+1) (.ref f) false vs.toArray e1 (.ref (h3.push (seqObj "tuple" vs.toArray 0)).objs.size)) _ _ { s with heap:=(h3.push (seqObj "tuple" vs.toArray 0)).push (seqObj "list" #[] 0) };rw[z4];have V5:∀b o,s.heap.get? b=ac o->((h3.push (seqObj "tuple" vs.toArray 0)).push (seqObj "list" #[] 0)).get? b=ac o:=λb o q=>by
  have hlt:b<n:=by rw[<- hn];exact du q
  exact cU _ (cU _ ((su.2 b (fT (Dh hlt))).trans (k2 b o q)))
 refine S4 (kS:=n+3) (a:=n+1) J h64 (λks s1 h' hJ kp ex=>jk ks s1 h' hJ (λb o hb q=>kp b o (λz=>hb (by simp[tm,z])) q) λb o q=>by
  by_cases z:b=n+3
  ·rw[z];exact ex
  ·exact⟨o,kp b o z q⟩)
  (λi x ks s1 hx hl' hJ=>ku (jc i x ks s1 hx hl' hJ) (λk s2 h2=>⟨h2.1,λb o hb q=>h2.2 b o (by rcases hb with z|z<;>simp[tm,z]) q⟩) λ_ _ z=>z) (show(n+1:Nat)≠n+3 by omega)
  (by rw[<- z4];exact fc _ rfl) (cU _ (cU _ ho1)) (j0 _ V5 λb hb=>?ex) λks e s1 hlk hJ hk1 ha1=>?_
 case ex=>
  have e0:∃o,h3.get? n=ac o:=by
   have q0:(s.heap.push (seqObj "list" #[] 0)).get? n=ac (seqObj "list" #[] 0):=by rw[<- hn];exact fc _ rfl
   obtain⟨o1,q1⟩ : ∃o1,h1.get? n=ac o1:=by rw[<- hh1];exact⟨_,v7 q0 (· ++ vs.toArray)⟩
   exact⟨_,(su.2 n (show(n:Nat)≠n+1 by omega)).trans (by rw[<- hh2];exact cU _ q1)⟩
  simp only[tm,cn,rm,or_false]at hb;rcases hb with rfl|rfl|rfl|rfl
  ·obtain⟨o,q⟩:=e0;exact⟨o,cU _ (cU _ q)⟩
  ·exact⟨_,cU _ (cU _ ho1)⟩
  ·exact⟨_,cU _ (by rw[<- z3];exact fc _ rfl)⟩
  ·exact⟨_,by rw[<- z4];exact fc _ rfl⟩
 obtain⟨lt,O,hkk,hcmp,fin⟩:=je ks s1 hlk hJ;refine SA hlk h64 O hkk hcmp hk1 ha1 (show(n+1:Nat)≠n+3 by omega) λout h' c so kp ex hc=>?_;exact⟨_,rfl,bT ⟨_,rfl,fin out h' c so (λb o hb q=>kp b o (λz=>hb (by simp[tm,z])) (λz=>hb (by simp[tm,z])) q) (λb o q=>by
  by_cases y1:b=n+1
  ·rw[y1];exact⟨_,hc⟩
  ·by_cases y2:b=n+3
   ·rw[y2];exact ex
   ·exact⟨o,kp b o y1 y2 q⟩) hc⟩⟩
end
end So
namespace L2
open PySem PySem.Spec PyProof.Rows
def Bh(X:Cx)(A:cR)(N':List Str)(env:Env)(s:aB)(H:Hp):Cx:={ X with A:=A.deeper env,N:=N',s₀:=s,H₀:=H,env:=env,outer:=X.stack,stack:=env::X.stack,ex:=[],fn:=λ_=>false,calm:=true,pn:=[],xe:=λ_ _=>False }
abbrev xo(qual:Str)(scope:gc)(s:aB)(f c':ak)(cl:List (Str×ak)):Env:=PySem.W.envX qual scope s.heap.objs.size f (.ref c') cl
structure sV(X:Cx)(x:Str)(ρ:List Nat)(N':List Str)(sc:gc)(cl:List (Str×ak)):Prop where
 kind:sc.kind=.function
 co:sc.isCoroutine=false
 gen:sc.isGenerator=false
 wf:∀y∈sc.names,y.2≠.cell
 par:sc.names.lookup x=ac .local
 clo:∀y c,cl.lookup y=ac c->X.env.cells.lookup y=ac c
 has:∀y,sc.names.lookup y=ac .free->∃c,cl.lookup y=ac c
 N:∃ys,N'=x::ys/\ys.length = ρ.length/\∀(i j:Nat) y,ρ[i]? = ac j->ys[i]? = ac y->X.N[j]? = ac y/\sc.names.lookup y=ac .free/\(X.env.kindOf y=ac .cell\/X.env.kindOf y=ac .free)
section
variable{X:Cx}{ah:List (ak×Obj)}{σ:St}{H:Hp}{s:aB}{A:cR}{k:Nat}{qual x:Str}{ps:vY}{body:bw}{sc:gc}{cl:List (Str×ak)}{pm ctv:ai}{f c':ak}{ρ:List Nat}{N':List Str}
def jI(ρ:List Nat)(σ:St)(v:V):St:=ac v :: ρ.map λj=>(σ[j]?).join
theorem S1{h1:bq}{tk:Nat}{v:V}{u:ai}(I:Inv X ah σ H s)(hA:A.frames=ac X.stack)(hd:A.handled=af)(S:sV X x ρ N' sc cl)(rv:RelV v u)
 (hns:h1.Ns s.heap.objs.size λy=>[(x,u)].reverse.lookup y) (hk:∀b o,s.heap.get? b=ac o->h1.get? b=ac o) :
 Inv (Bh X A N' (xo qual sc s f c' cl) s H) [] (jI ρ σ v) H { s with heap:=h1,toks:=tk }:=by
 obtain⟨ys,eN,el,ix⟩:=S.N;have noA:∀b:ak,b∉([]:List ak):=λb z=>absurd z (by simp);refine⟨⟨I.mod,S.kind,rfl,rfl,bJ _,λy z c h1 h2=>I.ok.inj y z c (S.clo y c h1) (S.clo z c h2),λy hy=>?_,λy c z=>(nomatch z),λ_=>hd,Md hA,.inr ⟨rfl,rfl⟩,λb z=>absurd z (noA b),I.bs,c8 I.ok.bsz I.sz,λb _ _=>noA b,λb z=>absurd z (noA b),I.stack,I.AX⟩,
  rfl,I.bare,Un.kept hk,⟨_,hns,λi y w h2 h3 h4=>?_⟩,λy c e=>?_,I.hok.fresh (bJ _),λy c e=>I.lr y c (S.clo y c e),λp hp=>absurd (show p∈([]:List (ak×Obj))from hp) (by simp),I.hok.kept hk,?_⟩
 ·have hy:sc.names.lookup y=ac .cell\/sc.names.lookup y=ac .free:=hy;rcases hy with hy|hy
  ·exact absurd rfl (S.wf _ (t0 hy))
  ·exact S.has y hy
 ·have h2:N'[i]? = ac y:=h2;subst eN;cases i with
  |zero=>
   have e:x=y:=by simpa using h2
   subst e;have e2:v=w:=by simpa [jI]using h3
   subst e2;exact⟨u,rv,.inl ⟨S.par,by simp⟩⟩
  |succ i=>
   have hy:ys[i]? = ac y:=by simpa using h2
   have h3:(ρ.map λj=>(σ[j]?).join)[i]? = ac (ac w):=by simpa [jI]using h3
   rw[fm]at h3;obtain⟨j,hj,e⟩:=lh.mp h3;have e2:σ[j]? = ac (ac w):=by
    cases q:σ[j]? with
    |none=>rw[q]at e;cases e
    |some z=>rw[q]at e;exact congrArg ac e
   obtain⟨n1,n2,n3⟩:=ix i j y hj hy;obtain⟨m,hm,hl⟩:=I.loc;have vis:vn X.env.scope y:=by
    rcases n3 with z|z
    ·exact .inr (.inl z)
    ·exact .inr (.inr z)
   obtain⟨u2,r2,lk⟩:=hl j y w n1 e2 vis;refine⟨u2,r2,.inr ⟨.inr n2,?_⟩⟩;obtain⟨c,hc⟩:=S.has y n2;refine⟨c,hc,?_⟩;have hX:=S.clo y c hc;rcases lk with ⟨z,_⟩|⟨_,c2,e3,ic⟩
   ·rcases n3 with y1|y1
    ·rw[z]at y1;cases y1
    ·rw[z]at y1;cases y1
   ·rw[hX]at e3;cases e3;obtain⟨o,ho,hd⟩:=ic;exact⟨o,hk _ _ ho,hd⟩
 ·obtain⟨v2,o,ho,hd⟩:=I.cell y c (S.clo y c e);exact⟨v2,o,hk _ _ ho,hd⟩
 ·subst eN;show(jI ρ σ v).length=(x::ys).length;simp[jI,el]
theorem Pn{u:ai}{v:V}{tb:TE}{Q:VK}(I:Inv X ah σ H s)(hA:A.frames=ac X.stack)(hr:e5 (k+1) A)(S:sV X x ρ N' sc cl)
 (ho:s.heap.get? f=ac (vT "<lambda>" qual ps body sc cl pm c' ctv)) (hcd:s.heap.CodeRec (.ref c') qual)
 (hbind:bindArgs (LF "<lambda>" qual ps body sc cl pm (.ref c') ctv) ⟨[u],[]⟩=pure [(x,u)]) (rv:RelV v u)
 (hb:∀env:Env,e5 k (A.deeper env)->env=xo qual sc s f c' cl->PE (Bh X A N' env s H) body tb) (h:tb (jI ρ σ v) H Q) :
 wpAny (model X.prog X.w) A (call (.ref f) [u]) (CE X.stack X.prog X.w H s Q) (λ_ _=>False) s:=by
 refine vX (PySem.W.kla_callFunE hr.depth ho rfl S.co S.gen rfl hcd ?_);rw[hbind];refine bT (wpAny_newFunctionEnv S.wf (λy hy=>by
  have e:y=(x,u):=by simpa using hy
  rw[e];exact S.par) (λh1 hns hsb=>⟨(I.nolimit).fresh _ hsb,?_⟩) S.kind)
 show codeAny _ _ (.expr body (xo qual sc s f c' cl)) _ _;have hk:∀b o,s.heap.get? b=ac o->h1.get? b=ac o:=λb o e=>hsb.extBut b o (fT (du e)) (cU _ e);have J:=S1 (tk:=s.toks+[(x,u)].length) (qual:=qual) (f:=f) (c':=c') I hA hr.hd S rv hns hk;refine PySem.W.kla_codeExpr (ku (hb _ (hr.deeper _) rfl [] _ (jI ρ σ v) H Q J h) (λk' s' hq=>?_) λ_ _ z=>z.elim);obtain⟨v2,H2,I2,r2,q⟩:=hq;exact⟨v2,H2,I2.os,I2.bare,I2.base,I2.hok,r2,q⟩
end
end L2
namespace So
theorem GL:∀{a b:List Int},a≠b->eB a b=true\/eB b a=true
 |[],[],h=>absurd rfl h
 |[],_::_,_=>.inl rfl
 |_::_,[],_=>.inr rfl
 |a::r,b::t,h=>by
  rw[eB,eB];by_cases e:a=b
  ·subst e;simp only[kK,i9];exact GL λz=>h (by rw[z])
  ·have e':¬ b=a:=λz=>e z.symm;simp only[mO,e,e',iU,i7];omega
theorem Hf:∀{a b:List Int},eB a b=true->eB b a=false
 |[],[],h=>by simp[eB]at h
 |[],_::_,_=>rfl
 |_::_,[],h=>by simp[eB]at h
 |a::r,b::t,h=>by
  rw[eB]at h ⊢;by_cases e:a=b
  ·subst e;simp only[kK,i9]at h ⊢;exact Hf h
  ·have e':¬ b=a:=λz=>e z.symm;simp only[mO,e,e',iU,i7,qp]at h ⊢;omega
theorem Le:∀{a b c:List Int},eB a b=true->eB b c=true->eB a c=true
 |[],[],_,h,_=>by simp[eB]at h
 |[],_::_,[],_,h=>by simp[eB]at h
 |[],_::_,_::_,_,_=>rfl
 |_::_,[],_,h,_=>by simp[eB]at h
 |_::_,_::_,[],_,h=>by simp[eB]at h
 |a::r,b::t,c::u,h,k=>by
  rw[eB]at h k ⊢;by_cases e:a=b
  ·subst e;simp only[kK,i9]at h;by_cases f:a=c
   ·subst f;simp only[kK,i9]at k ⊢;exact Le h k
   ·simp only[mO,f,iU]at k ⊢;exact k
  ·simp only[mO,e,iU,i7]at h;by_cases f:b=c
   ·subst f;simp only[mO,e,iU,i7];exact h
   ·simp only[mO,f,iU,i7]at k;have:¬ a=c:=by omega
    simp only[mO,this,iU,i7];omega
def nR(kz:List (List Int))(i j:Nat):Bool:=eB (kz.getD i []) (kz.getD j [])
theorem AQ{kz:List (List Int)}(nd:kz.Nodup):vF kz.length (nR kz):=by
 have inj:∀i j,i<kz.length->j<kz.length->i≠j->kz.getD i []≠kz.getD j []:=λi j hi hj ne e=>by
  rw[fk,fF hi,fk,fF hj]at e;exact ne ((tW nd).mp e)
 exact⟨λi j hi hj ne=>GL (inj i j hi hj ne),λi j _ _ h=>Hf h,λi j k _ _ _ h g=>Le h g⟩
def Co{α:Type}(d:α)(kz:List (List Int))(xs ys:List α):Prop:=∃p:Array Nat,Pm xs.length p/\Sd (nR kz) p xs.length/\ys=p.toList.map λi=>xs.getD i d
end So
namespace L2
open PySem PySem.Spec PyProof.Rows A So
variable[Tb:dm]
def Tab(T:ak)(q:Str)(H H':Hp):Prop:=H'=H\/∃ps ps' c,H T=ac (.tbl q ps)/\H c=af/\c≠T/\H'=upd (upd H T (.tbl q ps')) c (.ext (jw c q))/\ji H'
theorem Q7{c:ai}{p:Pos}:∀{l:List ai},t6 l->t6 (l++[rawInt p.line,rawInt p.col,c]):=λ{l} h=>by
 fun_induction t6 l with
 |case1=>exact trivial
 |case2 a b c' d e rest ih=>exact ih h
 |case3 _ _=>exact h.elim
theorem VI{c v:ai}{p p2:Pos}:∀{l:List ai},t6 l->codeAmong p2 (l++[rawInt p.line,rawInt p.col,c])=ac v->codeAmong p2 l=ac v\/v=c:=λ{l} h e=>by
 fun_induction t6 l with
 |case1=>
  simp only[jV,codeAmong,rawInt]at e;split at e
  ·exact .inr (by cases e;rfl)
  ·cases e
 |case2 a b c' d e' rest ih=>
  simp only[pT,codeAmong]at e ⊢;split at e
  ·rename_i q;rw[bc q];exact .inl e
  ·rename_i q;rw[ba q];exact ih h e
 |case3 _ _=>exact h.elim
def BM(mg:Str->Option ai)(base:bq):Prop:=∃bm o,mg "__builtins__" = ac (.ref bm)/\bm≠builtinsNs/\bm≠mainGlobals/\base.get? bm=ac o/\o.cls=.type "module" /\ o.dict=ac builtinsNs/\o.data=.plain
section
variable{X:Cx}{ah:List (ak×Obj)}{σ:St}{H:Hp}{s:aB}{qual x:Str}{ps:vY}{body:bw}{sc:gc}{cl:List (Str×ak)}{c T:ak}{pos:Pos}
theorem N3(c:ak)(q:Str):∀h1 h2:bq,jw c q h1->(∀o,h1.get? c=ac o->h2.get? c=ac o)->jw c q h2:=λh1 h2 ⟨o,vs,t,e,d,r⟩ k=>⟨o,vs,t,k o e,d,r⟩
theorem NE{Q:ai->aB->Prop}{E:ai->aB->Prop}(I:Inv X ah σ H s)(hc:X.env.code=.ref c)(C:lf X.base c T)(k:ji H){tps:Array ai}(hT:H T=ac (.tbl qual tps))(hB:BM X.mg X.base)
 (hdef:defaultsOf ps X.env=([],[])) (hq:X.env.qual ++ "<lambda>" = qual) (hcl:closureFor sc X.env=pure cl)
 (h:∀f c' ctv pm s' H',Tab T qual H H'->H' c'=ac (.ext (jw c' qual))->s'.heap.get? f=ac (vT "<lambda>" qual ps body sc cl pm c' ctv)->Inv X ah σ H' s'->gR X ah H' f->Q (.ref f) s') :
 wpAny (model X.prog X.w) X.A (eval (.Lambda ps body sc pos) X.env) Q E s:=by
 obtain⟨ok1,ok2⟩:=k.cd T qual tps hT;have hP:s.heap.get? T=ac (yM tps):=I.hok T _ hT;have hg:s.heap.Ns mainGlobals X.mg:=I.mod.glob.keeps I.bk;have C':lf s.heap c T:=C.keeps I.bk;obtain⟨bm,bo,b1,b2,b3,b4,b5,b6,b7⟩:=hB;have nT:∀b o,X.base.get? b=ac o->b≠T:=λb o e z=>by
  have:=(I.bs b o e).2;rw[z,hT]at this;cases this
 have hb:s.heap.BuiltinsAt X.mg T:=⟨bm,bo,b1,b2,b3,nT _ _ b4,I.bk _ _ b4,b5,b6,b7⟩;have hgT:mainGlobals≠T:=by obtain⟨o,es,ep,e,_⟩:=I.mod.glob;exact nT _ _ e
 refine PySem.W.kla_eval hdef ?_;rw[hq];cases hf:codeAmong pos tps.toList with
 |some v=>
  obtain⟨c',rfl,hc'⟩:=ok2 pos v hf;refine PySem.W.kla_makeFunctionHit hcl I.ok.glob hg hc C' hP ok1 hf hb λctv h' tk kp sz=>?_;have I':Inv X ah σ H { s with heap:=h'.push _,toks:=tk }:=I.kept (h':=h'.push (vT "<lambda>" qual ps body sc cl ((X.mg "__name__").getD .none) c' ctv)) λb o e=>cU _ (kp b o e);exact h _ c' ctv _ _ H (.inl rfl) hc' (fc _ rfl) I' (I.jS sz (I.hok.fresh sz))
 |none=>
  refine PySem.W.kla_makeFunction hcl I.ok.glob hg hc C' hP ok1 hf hgT hb λc' ctv h' tk kp h1 h2 hrec htb=>?_;have nc:H c'=af:=I.hok.fresh h1;have cT:c'≠T:=λz=>by rw[z,hT]at nc;cases nc
  have hx:jw c' qual h':=by obtain⟨c2,o,vs,t,e,r⟩:=hrec;cases e;exact⟨o,vs,t,r⟩
  obtain⟨oc,hoc⟩ : ∃o,h'.get? c'=ac o:=let ⟨o,_,_,e,_⟩:=hx;⟨o,e⟩;have u1:Un X.fs [] H (upd H T (.tbl qual (tps ++ #[rawInt pos.line,rawInt pos.col,.ref c']))) s.heap h':=by
   have nn:∀b,H b=af->b≠T:=λb n z=>by rw[z,hT]at n;cases n
   refine⟨λb o e n _ _=>kp b o (nn b n) e,λb o e n _ _=>⟨o.slots,kp b o (nn b n) e⟩,λb o e n _=>by rw[bh (nn b n)];exact n,λb o e _=>?_,λb xs e=>?_,λb o u e=>?_,λb w ps e=>?_⟩
   ·by_cases z:b=T
    ·rw[z];exact⟨_,htb⟩
    ·exact⟨o,kp b o z e⟩
   ·rw[bh (λz=>by rw[z,hT]at e;cases e)];exact e
   ·rw[bh (λz=>by rw[z,hT]at e;cases e)];exact e
   ·by_cases z:b=T
    ·subst z;rw[hT]at e;cases e;exact⟨_,cM⟩
    ·exact⟨#[],by rw[bh z,e];simp⟩
  have V6:eC X.prog X.w (upd H T (.tbl qual (tps ++ #[rawInt pos.line,rawInt pos.col,.ref c']))) h':=λb u e=>by
   by_cases z:b=T
   ·subst z;rw[cM]at e;cases e;exact htb
   ·rw[bh z]at e;refine(I.hok b u e).stay (λy v hy q=>kp y v ?_ q) (λy q=>by rw[bh (λw=>by rw[w,hT]at q;cases q)];exact q) λy xs q=>by rw[bh (λw=>by rw[w,hT]at q;cases q)];exact q
    rcases hy with w|w
    ·rw[w];exact z
    ·exactλw2=>by rw[w2,hT]at w;cases w
  have I1:Inv X ah σ (upd H T (.tbl qual (tps ++ #[rawInt pos.line,rawInt pos.col,.ref c']))) { s with heap:=h',toks:=tk }:=I.un u1 V6;have nc1:upd H T (.tbl qual (tps ++ #[rawInt pos.line,rawInt pos.col,.ref c'])) c'=af:=by rw[bh cT];exact nc
  have I2:Inv X ah σ (upd (upd H T (.tbl qual (tps ++ #[rawInt pos.line,rawInt pos.col,.ref c']))) c' (.ext (jw c' qual))) { s with heap:=h',toks:=tk }:=by
   have F:gR X ah (upd H T (.tbl qual (tps ++ #[rawInt pos.line,rawInt pos.col,.ref c']))) c':=⟨nc1,(I.jS (H':=H) h1 nc).2⟩;have wg:∀b u,(upd H T (.tbl qual (tps ++ #[rawInt pos.line,rawInt pos.col,.ref c']))) b=ac u->b≠c':=λb u e=>eh e nc1;refine I1.call' (s':={ s with heap:=h',toks:=tk }) (ch:=[c']) rfl ⟨λb u e _ _ _=>e,λb u e _ _ _=>⟨u.slots,e⟩,λb u e n hb=>?_,λb u e hb=>⟨u,e⟩,λb xs e=>by rw[bh (wg _ _ e)];exact e,λb q u e=>by rw[bh (wg _ _ e)];exact e,λb w ps e=>⟨#[],by rw[bh (wg _ _ e),e];simp⟩⟩ ?_ I.bare
    λb hb=>by
     obtain rfl:b=c':=by simpa using hb
     exact⟨F.2.2.2.1,F.2.1,F.2.2.2.2.1,F.2.2.2.2.2⟩
   ·rw[bh (λz=>hb (by simp[z]))];exact n
   ·intro b u e;by_cases z:b=c'
    ·subst z;rw[cM]at e;cases e;exact⟨hx,⟨oc,hoc⟩,N3 b qual⟩
    ·rw[bh z]at e;exact(I1.hok b u e).stay (λy v hy q=>q) (λy q=>by rw[bh (wg _ _ q)];exact q) λy xs q=>by rw[bh (wg _ _ q)];exact q
  have V7:∀b o,h'.get? b=ac o->(h'.push (vT "<lambda>" qual ps body sc cl ((X.mg "__name__").getD .none) c' ctv)).get? b=ac o:=λb o e=>cU _ e;have I3:=I2.kept (t':=tk) V7;have szs:s.heap.objs.size<=h'.objs.size:=c8 h1 (y7 h2);have ck:ji (upd (upd H T (.tbl qual (tps ++ #[rawInt pos.line,rawInt pos.col,.ref c']))) c' (.ext (jw c' qual))):=by
   have nT':∀{b:ak} {o:HO},H b=ac o->NT o->upd (upd H T (.tbl qual (tps ++ #[rawInt pos.line,rawInt pos.col,.ref c']))) c' (.ext (jw c' qual)) b=ac o:=λ{b o} e n=>by
    rw[bh (eh e nc),bh (λz=>by rw[z,hT]at e;cases e;exact n)];exact e
   refine⟨λr hr=>?_,λT2 q2 ps2 e=>?_⟩
   ·obtain⟨p0,e0⟩:=k.has r hr;by_cases z:r.1=T
    ·rw[z,hT]at e0;have:qual=r.2:=by injection e0 with e0;injection e0
     exact⟨_,by rw[bh (by rw[z];exact fv cT),z,cM,this]⟩
    ·exact⟨p0,by rw[bh (eh e0 nc),bh z];exact e0⟩
   ·by_cases z:T2=c'
    ·subst z;rw[cM]at e;cases e
    ·rw[bh z]at e;by_cases z2:T2=T
     ·subst z2;rw[cM]at e;have e1:qual=q2:=by injection e with e;injection e
      have e2:tps ++ #[rawInt pos.line,rawInt pos.col,.ref c']=ps2:=by injection e with e;injection e
      subst e1 e2;refine⟨by rw[v9];exact Q7 ok1,λp2 v hv=>?_⟩;rw[v9]at hv;rcases VI ok1 hv with q|q
      ·obtain⟨y,y1,y2⟩:=ok2 p2 v q;exact⟨y,y1,nT' y2 trivial⟩
      ·exact⟨c',q,cM⟩
     ·rw[bh z2]at e;obtain⟨t1,t2⟩:=k.cd T2 q2 ps2 e;refine⟨t1,λp2 v hv=>?_⟩;obtain⟨y,y1,y2⟩:=t2 p2 v hv;exact⟨y,y1,nT' y2 trivial⟩
  refine h h'.objs.size c' ctv _ _ _ (.inr ⟨tps,_,c',hT,nc,cT,rfl,ck⟩) cM (fc _ rfl) I3 ?_;refine I.jS szs ?_;rw[bh (v3 h2),bh (λz=>?_)]
  ·exact I.hok.fresh szs
  ·have:=I.hok.fresh szs;rw[z,hT]at this;cases this
end
end L2
namespace L2
open PySem PySem.Spec PyProof.Rows A So
variable[Tb:dm]
section
variable{X:Cx}{ah:List (ak×Obj)}{σ:St}{H:Hp}{s:aB}
theorem adopt{fp:List ak}{D:ak}{o:HO}{h':bq}{t':Nat}(I:Inv X ah σ H s)(hf:∀b∈fp,gR X ah H b)(hD:D∈fp)(k:∀b u,b∉fp->s.heap.get? b=ac u->h'.get? b=ac u)
 (new:eP X.prog X.w (upd H D o) h' D o):Inv X ah σ (upd H D o) { s with heap:=h',toks:=t' }:=by
 have hn:H D=af:=(hf D hD).1;have nfp:∀b u,H b=ac u->b∉fp:=λb u e z=>by rw[(hf b z).1]at e;cases e
 refine I.call' (s':={ s with heap:=h',toks:=t' }) (ch:=fp) rfl ⟨λb u e _ _ hb=>k b u hb e,λb u e _ _ hb=>⟨u.slots,k b u hb e⟩,λb u e hb hx=>?_,λb u e hb=>⟨u,k b u hb e⟩,λb xs e=>?_,λb q u e=>?_,λb w ps e=>⟨#[],?_⟩⟩ ?_ I.bare
  λb hb=>⟨(hf b hb).2.2.2.1,(hf b hb).2.1,(hf b hb).2.2.2.2.1,(hf b hb).2.2.2.2.2⟩
 ·rw[bh (λz=>hx (by rw[z];exact hD))];exact hb
 ·rw[bh (eh e hn)];exact e
 ·rw[bh (eh e hn)];exact e
 ·rw[bh (eh e hn),e];simp
 ·intro b u e;by_cases hb:b=D
  ·subst hb;rw[cM]at e;cases e;exact new
  ·rw[bh hb]at e;refine(I.hok b u e).stay (λc v hc q=>k c v ?_ q) (λc q=>by rw[bh (eh q hn)];exact q) λc xs q=>by rw[bh (eh q hn)];exact q
   rcases hc with z|z
   ·rw[z];exact nfp b u e
   ·exact nfp c _ z
theorem Hg:∀{ns:List Int} {au:List ai},Vals (ns.map V.int) au->lm au ns
 |[],_,.nil=>.nil
 |n::r,_,.cons h t=>by
  obtain⟨t1,rfl⟩:=h;exact .cons n t1 (Hg t)
end
def xT(c':ak)(q:Str)(tk:V->Hp->VK->Prop):List V->Hp->(List V->Hp->Prop)->Prop
 |[],H,R=>R [] H
 |x::xs,H,R=>tk x H λk H1=>H1 c'=ac (.ext (jw c' q))/\xT c' q tk xs H1 λks H2=>R (k::ks) H2
def KeysAre(H:Hp)(kz:List (List Int))(ks:List V):Prop:=P2 (λz k=>∃p,k=V.ref p/\H p=ac (.lst (z.map V.int))) kz ks
def S5(T:ak)(q:Str)(ρ:List Nat)(σ:St)(tb:TE)(Q:VK):VK:=λx H1=>∃a xs tps,x=.ref a/\xs.length<64/\H1 T=ac (.tbl q tps)/\ji H1 /\
 ∀H2 c',Tab T q H1 H2->H2 c'=ac (.ext (jw c' q))->Lst H2 a xs/\xT c' q (λv H K=>tb (jI ρ σ v) H K) xs H2 λks H3=>∃kz:List (List Int),kz.length=xs.length/\kz.Nodup/\KeysAre H3 kz ks /\
  ∀p ys,H3 p=af->Co .non kz xs ys->Q (.ref p) (upd H3 p (.lst ys))
def Go(T:ak)(q:Str)(ρ:List Nat)(te tb:TE):TE:=λσ H Q=>te σ H (S5 T q ρ σ tb Q)
theorem RZ{kz:List (List Int)}{xs:List V}{au out:List ai}(r:Vals xs au)(hz:kz.length=xs.length)(h:qC (nR kz) au out):∃ys,Co .non kz xs ys/\Vals ys out:=by
 obtain⟨p,pm,sd,rfl⟩:=h;have hl:=r.length;rw[<- hl]at pm sd;refine⟨p.toList.map λi=>xs.getD i .non,⟨p,pm,sd,rfl⟩,?_⟩;have key:∀l:List Nat,(∀i∈l,i<xs.length)->Vals (l.map λi=>xs.getD i .non) (l.map λi=>au.getD i jg):=λl hl'=>by
  induction l with
  |nil=>exact .nil
  |cons i t ih=>
   have hi:=hl' i c6;refine .cons ?_ (ih λj hj=>hl' j (er _ hj));have e1:xs[i]? = ac (xs.getD i .non):=by simp[hi]
   obtain⟨u,e2,r2⟩:=r.get e1;have:au.getD i jg=u:=by simp[e2]
   show RelV (xs.getD i .non) (au.getD i jg);rw[this];exact r2
 refine key _ λi hi=>?_;have:=(v8.mp pm.pm).mem_iff.mp hi;simpa using this
section
variable{X:Cx}{x qual:Str}{e:bw}{ps:vY}{body:bw}{sc:gc}{cl:List (Str×ak)}{c T:ak}{p pos MB V8:Pos}{k:Nat}{ρ:List Nat}{N':List Str}{te tb:TE}
theorem SD(hg:Gl X "sorted")(hm:X.mg "sorted" = af)(he:PE X e te)(hr:e5 (k+3) X.A)(hc:X.env.code=.ref c)(C:lf X.base c T)(hB:BM X.mg X.base)(hdef:defaultsOf ps X.env=([],[]))(hq:X.env.qual ++ "<lambda>" = qual)(hcl:closureFor sc X.env=pure cl)
 (S:sV X x ρ N' sc cl) (hbind:∀(pm:ai) (c':ak) (ctv u:ai),bindArgs (LF "<lambda>" qual ps body sc cl pm (.ref c') ctv) ⟨[u],[]⟩=pure [(x,u)])
 (hb:∀(A:cR) (f c':ak) (s:aB) (H:Hp) (env:Env),e5 k (A.deeper env)->env=xo qual sc s f c' cl->PE (Bh X A N' env s H) body tb)
 (hs:starEach [e] X.env=(false,eval e X.env)::starEach [] X.env:=by rfl) (hpl:(backTo pos (starEach [e] X.env)).any (·.1)=false:=by rfl) :
 PE X (.Call (.Name "sorted" p) [e] [⟨ac "key", .Lambda ps body sc MB,V8⟩] pos) (Go T qual ρ te tb):=by
 intro ah s σ H Q I h;have hboot:bootBuiltins "sorted" = ac (.builtin "sorted"):=by kernel_rfl
 refine yN (qk I hg hm hboot ?_);refine callWith_kw ?_ (by rw[hs];rfl) hpl rfl rfl;rw[hs];show wpAny _ _ (spliced ((false,eval e X.env)::backTo pos (starEach [] X.env))) _ _ s;refine Mb (bg (he ah s σ H _ I h) λu s1 ⟨x1,H1,I1,r1,q1⟩=>Mc ?_);obtain⟨a,xs,tps,rfl,h64,hT,ck,q2⟩:=q1;cases r1;show wpAny _ _ (evalAll ((do let v <- eval (.Lambda ps body sc MB) X.env;standAt pos;pure v)::((backToKw pos (keywordEach [] X.env)).map (·.2)))) _ _ s1;refine wpAny_evalAll_cons (aY (NE I1 hc C ck hT hB hdef hq hcl λf c' ctv pm s2 H2 tab hc' hf I2 fpf=>aY (vW (bT (wpAny_evalAll_nil ?_)))));obtain⟨hl2,kr⟩:=q2 H2 c' tab hc';show wpAny (model X.prog X.w) X.A (call (.builtin "sorted") [.ref a] [(rH "key", .ref f)]) (EP X ah σ Q) X.xe s2;obtain⟨au,n0,rv,hz,ho⟩:=tF I2 hl2;have hli:=rv.length;let Fn:List V->Hp->Prop:=λks H3=>∃kz:List (List Int),kz.length=xs.length/\kz.Nodup/\KeysAre H3 kz ks/\∀p ys,H3 p=af->Co .non kz xs ys->Q (.ref p) (upd H3 p (.lst ys));have flt:f<s2.heap.objs.size:=du hf;have fnt:f∉tm s2.heap.objs.size:=λz=>by
  simp only[tm,cn,rm,or_false]at z;have:(f:Nat)<s2.heap.objs.size:=flt;rcases z with z|z|z|z
  ·exact absurd this (by rw[z];exact oA _)
  ·exact absurd this (by rw[z];exact v4.mpr (y4 _ _))
  ·exact absurd this (by rw[z];exact v4.mpr (y4 _ _))
  ·exact absurd this (by rw[z];exact v4.mpr (y4 _ _))
 refine OE (vs:=au) (J:=λks s3=>∃Hc kv,Inv X ah σ Hc s3/\Vals kv ks/\s3.heap.get? f=ac (vT "<lambda>" qual ps body sc cl pm c' ctv)/\gR X ah Hc f/\(∀b∈tm s2.heap.objs.size,gR X ah Hc b/\∃o,s3.heap.get? b=ac o) /\
  Hc c'=ac (.ext (jw c' qual))/\xT c' qual (λv H K=>tb (jI ρ σ v) H K) (xs.drop ks.length) Hc λks' H3=>Fn (kv++ks') H3) ⟨_,ho,rfl,_,rfl⟩ (by omega) ?j0 ?jk ?jc ?je
 case j0=>
  intro h' kp ex;refine⟨H2,[],I2.kept kp,.nil,kp _ _ hf,fpf,λb hb=>⟨I2.jS ?_ (I2.hok.fresh ?_),ex b hb⟩,hc',kr⟩
  all_goals (simp only[tm,cn,rm,or_false]at hb;rcases hb with z|z|z|z<;>rw[z]<;>first|exact bJ _|exact y4 _ _)
 case jk=>
  rintro ks s3 h' ⟨Hc,kv,I3,rk,hf3,fp3,tm3,hc3,kr3⟩ kp ex;refine⟨Hc,kv,HV (t':=s3.toks) I3 (fp:=tm s2.heap.objs.size) (λb hb=>(tm3 b hb).1) (λb u hb q=>kp b u hb q),rk,kp _ _ fnt hf3,fp3,λb hb=>⟨(tm3 b hb).1,?_⟩,hc3,kr3⟩;obtain⟨o,q⟩:=(tm3 b hb).2;exact ex b o q
 case jc=>
  rintro i u ks s3 hu hks ⟨Hc,kv,I3,rk,hf3,fp3,tm3,hc3,kr3⟩;obtain⟨v,hv,ruv⟩ : ∃v,xs[i]? = ac v/\RelV v u:=by
   have hi:i<xs.length:=by rw[hli];exact(eW.mp hu).1
   have e1:xs[i]? = ac xs[i]:=by simp[hi]
   obtain⟨u2,e2,r2⟩:=rv.get e1;rw[hu]at e2;cases e2;exact⟨_,e1,r2⟩
  have hd:xs.drop ks.length=v::xs.drop (ks.length+1):=by obtain⟨hi,e⟩:=eW.mp hv;rw[hks,re hi,e]
  rw[hd]at kr3;have hrec:s3.heap.CodeRec (.ref c') qual:=by obtain⟨⟨o,vs,t,e1,e2,e3⟩,_⟩:=I3.hok c' _ hc3;exact⟨c',o,vs,t,rfl,e1,e2,e3⟩
  have hA:X.A.in1.in1.frames=ac X.stack:=I3.ok.frames;refine ku (Pn (k:=k) I3 hA hr.in1.in1 S hf3 hrec (hbind pm c' ctv u) ruv (λenv h1 h2=>hb _ f c' s3 Hc env h1 h2) kr3) (λkk s4 hce=>?_) λ_ _ z=>z;have WG:=hce;obtain⟨kvv,H4,os4,V9,un4,Wa,rk4,hc4,kr4⟩:=hce;have noF:∀b,gR X ah Hc b->b∉frs X.stack:=λb hb z=>by
   rcases cn.mp (I3.xc b z)with y|y
   ·exact hb.2.1 y
   ·exact hb.2.2.1 y
  have I4:Inv X ah σ H4 s4:=I3.call' os4 (ch:=[]) un4 Wa V9 (λb z=>absurd z (by simp));have fpk:∀b,gR X ah Hc b->(∃o,s3.heap.get? b=ac o)->gR X ah H4 b:=λb hb ⟨o,q⟩=>⟨un4.free b o q hb.1 (by simp),hb.2⟩;refine⟨⟨H4,kv++[kvv],I4,rk.append (.cons rk4 .nil),un4.keep _ _ hf3 fp3.1 (noF _ fp3) (by simp),fpk f fp3 ⟨_,hf3⟩,λb hb=>⟨fpk b (tm3 b hb).1 (tm3 b hb).2,?_⟩,hc4,?_⟩,λb o hb q=>un4.keep b o q (tm3 b hb).1.1 (noF _ (tm3 b hb).1) (by simp)⟩
  ·obtain⟨o,q⟩:=(tm3 b hb).2;exact un4.there b o q (by simp)
  ·rw[dC];simp only[ot,List.singleton_append];exact kr4
 case je=>
  rintro ks s3 hks ⟨Hc,kv,I3,rk,hf3,fp3,tm3,hc3,kr3⟩;rw[yC (by omega)]at kr3;obtain⟨kz,hz1,nd,ka,fin⟩:=kr3;rw[ko]at ka;have lk:=rk.length;have at_:∀i,i<au.length->∃pp o us nn,ks.getD i jg=.ref pp/\s3.heap.get? pp=ac o/\o.cls=.type "list" /\ o.data=.seq (fL us) nn/\lm us (kz.getD i []):=λi hi=>by
   have hzi:i<kz.length:=by omega
   have e1:kz[i]? = ac (kz.getD i []):=by simp[hzi]
   obtain⟨kvi,e2,pp,rfl,hp⟩:=P2.getL ka e1;obtain⟨u,e3,r3⟩:=rk.get e2;cases r3;obtain⟨_,us,nn,vu,ho⟩:=I3.hok pp _ hp;exact⟨pp,_,us,nn,by simp[e3],ho,rfl,rfl,Hg vu⟩
  have hord:=AQ nd;rw[hz1,hli]at hord;refine⟨nR kz,hord,λh2 Q' hq'=>?_,λi j C hi hj hC=>?_,λout h' cc so kp ex hD=>?_⟩
  ·refine PySem.W.kas_kind (T:=pZ "list") (by omega) (λv hv=>?_) (by decide) (by decide) hq';obtain⟨i,hi⟩:=rj hv;have hil:=(eW.mp hi).1;obtain⟨pp,o,us,nn,e1,e2,e3,_⟩:=at_ i (by omega);have:v=.ref pp:=by
    rw[<- e1];simp[hi]
   rw[this,<- e3];exact(PySem.W.Looks.ld e2).andThen .now
  ·obtain⟨p1,o1,us1,n1,a1,a2,a3,a4,a5⟩:=at_ i hi;obtain⟨p2,o2,us2,n2,b1,b2,b3,b4,b5⟩:=at_ j hj;unfold PySem.W.kas_ask;rw[a1,b1];exact Vj a2 a3 a4 b2 b3 b4 a5 b5 (by have:=hr.un;show X.A.units+1+1<cLine;omega) hC
  ·obtain⟨ys,sy,vy⟩:=RZ rv hz1 so;have hD':s2.heap.objs.size+1∈tm s2.heap.objs.size:=by simp[tm]
   have ly:ys.length=xs.length:=by rw[vy.length,so.len,hli]
   have nD:Hc (s2.heap.objs.size+1)=af:=(tm3 _ hD').1.1;refine⟨.ref (s2.heap.objs.size+1),_,adopt (t':=s3.toks) (o:=.lst ys) I3 (λb hb=>(tm3 b hb).1) hD' (λb u hb q=>kp b u hb q) ⟨by rw[ly];exact hz,out,cc,vy,hD⟩,rfl,fin _ ys nD sy⟩
end
end L2
namespace Mi
open PySem
def wC:D->Option (List Str)
 |.tup ds=>fM ds
 |.lst ds=>fM ds
 |_=>af
def uZ(x y:D):Rs D:=match y with
 |.str z=>(cQ (wC x)).bind λys=>bu (z∈ys/\ys.length<=1000) (.ok (.int (ys.idxOf z:Nat)))
 |_=>.no
def gj:List Int->List Int->Bool
 |[],[]=>false
 |[],_::_=>true
 |_::_,[]=>false
 |a::r,b::t=>if a==b then gj r t else decide (a<b)
def lB:List D->Option (List Int)
 |[]=>ac []
 |.int i::r=>(lB r).map (i :: ·)
 |_=>af
def uT:D->Rs (List Int)
 |.lst ds=>cQ (lB ds)
 |_=>.no
def insI(lt:Nat->Nat->Bool)(i:Nat):List Nat->List Nat
 |[]=>[i]
 |j::r=>if lt i j=true then i::j::r else j::insI lt i r
def sortI(lt:Nat->Nat->Bool):List Nat->List Nat
 |[]=>[]
 |i::r=>insI lt i (sortI lt r)
def kH(kz:List (List Int))(n:Nat):List Nat:=sortI (λi j=>gj (kz.getD i []) (kz.getD j [])) (b0 n)
def sortBy(kz:List (List Int))(ds:List D):List D:=(kH kz ds.length).map λi=>ds.getD i .non
def nL(ρ:List Nat)(e:Env)(d:D):Env:=ac (.d d) :: ρ.map λj=>(e[j]?).join
def j2(ρ:List Nat)(kf:E)(e:Env):List D->Rs (List (List Int))
 |[]=>.ok []
 |d::r=>(kf (nL ρ e d)).bind λk=>(uT k).bind λz=>(j2 ρ kf e r).bind λzs=>.ok (z::zs)
def ww(ρ:List Nat)(a kf:E):E:=λe=>(a e).bind λx=>(FG x).bind λds=>bu (ds.length<64) ((j2 ρ kf e ds).bind λkz=>bu kz.Nodup (.ok (.lst (sortBy kz ds))))
end Mi
namespace A
open PySem L2 PyProof.Rows
open Mi (D W Rs Fin aG Out Tg)
variable[Tb:dm]
section
variable{prog:cp}{w:bI}{Ar:cR}
theorem Cg(x y:Str)(t u:Tok):Mq (.str x t) (.str y u) (x.cps.toList==y.cps.toList):=VX x y t u
theorem w6{ys:List Str}{us:List ai}(r:Vals (ys.map V.str) us){i:Nat}(h:i<ys.length):∃t,us[i]? = ac (.str (ys.getD i dc) t):=by
 have e:(ys.map V.str)[i]? = ac (.str (ys.getD i dc)):=by simp[h]
 obtain⟨u,e2,r2⟩:=r.get e;obtain⟨t,rfl⟩:=r2;exact⟨t,e2⟩
theorem Fx{ys:List Str}{z:Str}(h:z∈ys):ys.idxOf z<ys.length/\ys.getD (ys.idxOf z) dc=z/\∀m,m<ys.idxOf z->ys.getD m dc≠z:=by
 have hl:=Lm h;refine⟨hl,by simp[hl],λm hm e=>?_⟩;have:m<ys.length:=Nat.lt_trans hm hl;have e2:ys[m]=z:=by simpa [this]using e
 have:=List.not_of_lt_findIdx (p:=(· == z)) (xs:=ys) (i:=m) hm;simp[e2]at this
theorem PF{E:ai->aB->Prop}{s:aB}{t:ak}{us:List ai}{ys:List Str}{z:Str}{tz:Tok}{Q:ai->aB->Prop}(ht:IsTup s.heap t us.toArray)(r:Vals (ys.map V.str) us)(hz:z∈ys)
 (h:Q (.int (ys.idxOf z:Nat) s.toks) { s with toks:=s.toks+1 }):wpAny (model prog w) Ar (call (.builtin "tuple.index") [.ref t,.str z tz]) Q E s:=by
 obtain⟨h1,h2,h3⟩:=Fx hz;have hl:=r.length;rw[aU]at hl;refine yQ LR ht.typeIs PySem.F.entry_tuple_index ?_ (PySem.F.args_tuple_index_2 _ _);show wpAny _ _ (Builtin.Tuple.tupleItemsOf (.ref t) >>= _) _ _ s;refine aY (tupleItemsOf_ ht ?_);refine aY (bT (aY (bT ?_)));dsimp only;rw[Std.Legacy.Range.forIn_eq_forIn_range'];have hsz:([0:min us.toArray.size us.toArray.size]:Std.Legacy.Range).size=us.length:=by simp[Std.Legacy.Range.size]
 rw[hsz];show wpAny _ _ (forIn (List.range' 0 us.length 1) _ _ >>= _) _ _ _;have go:∀(k i:Nat),ys.idxOf z=i+k->∀(G:Option rC×Unit->aB->Prop),G (ac (.done (.ret (.int (ys.idxOf z:Nat) s.toks))),()) { s with toks:=s.toks+1 } ->
  wpAny (model prog w) Ar.in1 (forIn (List.range' i (us.length - i) 1) ((af, ()) : Option rC × Unit) fun (i : Nat) (__s : Option rC × Unit) => (match us.toArray[i]? with
          | some y=>do
           let b <- eqBool y (lj z tz)
           if b=true then do
            let r <- retInt (i:Int)
            pure (ForInStep.done (ac r,()))
            else pure (nz (af,()))
          |x=>pure (nz (af,())):Sem (ForInStep (Option rC×Unit)))) G E s:=by
  intro k
  induction k with
  |zero=>
   intro i hi G hG;have hlt:i<us.length:=by omega
   obtain⟨t1,e1⟩:=w6 r (i:=i) (by omega);rw[show us.length-i=(us.length-i-1)+1 by omega,List.range'_succ,tX];have e2:us.toArray[i]? = ac (.str (ys.getD i dc) t1):=by simpa using e1
   rw[e2];have hz2:ys.getD i dc=z:=by rw[<- h2,hi];rfl
   rw[hz2];refine aY (aY (Cg z z t1 tz prog w _ _ _ _ ?_));simp only[kK,i9];refine aY (aY (wpAny_mkInt (bT (bT ?_))));rw[show(i:Nat)=ys.idxOf z from hi.symm];exact bT hG
  |succ k ih=>
   intro i hi G hG;have hlt:i<us.length:=by omega
   obtain⟨t1,e1⟩:=w6 r (i:=i) (by omega);rw[show us.length-i=(us.length-(i+1))+1 by omega,List.range'_succ,tX];have e2:us.toArray[i]? = ac (.str (ys.getD i dc) t1):=by simpa using e1
   rw[e2];have hz2:=h3 i (by omega);refine aY (aY (Cg _ z t1 tz prog w _ _ _ _ ?_));have:((ys.getD i dc).cps.toList==z.cps.toList)=false:=by
    rw[uR];intro e;apply hz2;cases hq:ys.getD i dc with
    | mk c=>cases z with
     |mk d=>
      rw[hq]at e;have:c=d:=wa.mp e;rw[this]
   rw[this];simp only[rE,iU];exact bT (ih (i+1) (by omega) G hG)
 refine aY (go (ys.idxOf z) 0 (by omega) _ ?_);exact bT ⟨_,rfl,h⟩
theorem S0{E:ai->aB->Prop}{s:aB}{t:ak}{us:List ai}{ys:List Str}{z:Str}{tz:Tok}{n:Nat}{Q:ai->aB->Prop}(ht:s.heap.get? t=ac { cls:=.type "list", data:=.seq us.toArray n })(r:Vals (ys.map V.str) us)(hz:z∈ys)(hl:ys.length<=1000)
 (h:Q (.int (ys.idxOf z:Nat) s.toks) { s with toks:=s.toks+1 }):wpAny (model prog w) Ar (call (.builtin "list.index") [.ref t,.str z tz]) Q E s:=by
 obtain⟨h1,h2,h3⟩:=Fx hz;have hlu:=r.length;rw[aU]at hlu;let e:ai->Bool:=λy=>match y with
  |.str a _=>a.cps.toList==z.cps.toList
  |_=>false
 have he:∀y,y∈us.toArray->Mq y (.str z tz) (e y):=λy hy=>by
  obtain⟨i,hi⟩:=rj (by simpa using hy:y∈us);have hil:=(eW.mp hi).1;obtain⟨t1,e1⟩:=w6 r (i:=i) (by omega);rw[e1]at hi;cases hi;exact Cg _ z t1 tz
 have ei:∀i (hi:i<us.toArray.size),e us.toArray[i]=decide (ys.getD i dc=z):=λi hi=>by
  have hi':i<us.length:=by simpa using hi
  obtain⟨t1,e1⟩:=w6 r (i:=i) (by omega);have:us.toArray[i]=.str (ys.getD i dc) t1:=by have:=(eW.mp e1).2;simpa using this
  rw[this];show((ys.getD i dc).cps.toList==z.cps.toList)=_;by_cases q:ys.getD i dc=z
  ·rw[q];simp
  ·rw[cS q,uR];intro y;apply q;cases hq:ys.getD i dc with
   | mk c=>cases z with
    |mk d=>
     rw[hq]at y;have:c=d:=wa.mp y;rw[this]
 refine rB LU ⟨_,ht,rfl⟩ PySem.F.entry_list_index (PySem.F.args_list_index_2 _ _) (PySem.MeetsSeq.list_index t us.toArray n (.str z tz) e he (ys.idxOf z) (by simp;omega) (by omega) (by rw[ei];simp only[h2];simp) (λm hm hj=>by rw[ei];simp only[h3 m hj];simp)) ⟨ht,h⟩
end
section
variable{X:Cx}{K:bb}{M:Nat->Bool}{to ta tb:TE}{t:TA}{o e:bw}{es:List bw}{apos cpos:Pos}{a b:Mi.E}
theorem Pf:oa X "tuple.index" (λx xs H Q=>∃(p:ak) (ys:List Str) (z:Str),x=.ref p/\xs=[.str z]/\z∈ys/\H p=ac (.tup (ys.map V.str))/\Q (.int (ys.idxOf z:Nat)) H):=by intro ah s σ H x xs v us Q I rx rv h;obtain⟨p,ys,z,rfl,rfl,hz,hp,q⟩:=h;cases rx;obtain⟨u,rfl,ru⟩:=vals1 rv;obtain⟨tz,rfl⟩:=ru;obtain⟨au,r,pt,_⟩:=I.tuple (.inl (.inl hp));exact PF pt r hz ⟨.int _,H,I.tok _,⟨_,rfl⟩,q⟩
theorem Ph:oa X "list.index" (λx xs H Q=>∃(p:ak) (ys:List Str) (z:Str),x=.ref p/\xs=[.str z]/\z∈ys/\ys.length<=1000/\Lst H p (ys.map V.str)/\Q (.int (ys.idxOf z:Nat)) H):=by intro ah s σ H x xs v us Q I rx rv h;obtain⟨p,ys,z,rfl,rfl,hz,hl,hp,q⟩:=h;cases rx;obtain⟨u,rfl,ru⟩:=vals1 rv;obtain⟨tz,rfl⟩:=ru;obtain⟨au,n,r,_,ho⟩:=tF I hp;exact S0 ho r hz hl ⟨.int _,H,I.tok _,⟨_,rfl⟩,q⟩
def F3(K:bb)(T2:String)(r1 r2:V->List V->Hp->VK->Prop)(to:TE)(t:TA):TE:=λσ H Q=>to σ H λx H1=>((∃p xs,x=V.ref p/\H1 p=ac (.tup xs))/\t σ H1 λxs H2=>r1 x xs H2 Q)\/(xS K T2 x H1/\t σ H1 λxs H2=>r2 x xs H2 Q)
theorem SF{T2 id1 id2:String}{r1 r2:V->List V->Hp->VK->Prop}{name:Str}(aI:yW "tuple")(slot1:Slot "tuple" name id1)(Wb:typeOf (.builtin id1)=pure (.type "method_descriptor"))(hm1:oa X id1 r1)
 (pa2:yW T2) (Wc:Slot T2 name id2) (We:typeOf (.builtin id2)=pure (.type "method_descriptor")) (hm2:oa X id2 r2) (ho:PE X o to) (ha:PA X (e::es) t)
 (hbase:attributeBase o name X.env (eval o X.env)=eval o X.env:=by rfl)
 (hfew:((backTo cpos (starEach (e::es) X.env)).all (λx=>!x.1)&&(backToKw cpos (keywordEach [] X.env)).all (λx=>x.1.isSome)
  && decide ((e::es).length+([]:List Keyword).length+(if([]:List Keyword).isEmpty then 0 else 1)<30))=true:=by rfl)
 (hline:(apos.endLine==cpos.line)=true:=by rfl) (hs:starEach (e::es) X.env=(false,eval e X.env)::starEach es X.env:=by rfl) (hplain:(backTo cpos (starEach es X.env)).any (·.1)=false:=by rfl) :
 PE X (.Call (.Attribute o name apos) (e::es) [] cpos) (F3 X.K T2 r1 r2 to t):=by
 intro ah s σ H Q I h;refine LM hbase hfew hline rfl (bg (ho ah s σ H _ I h) λv s1 ⟨x,H1,I1,rx,q⟩=>?_);rcases q with ⟨ty,q1⟩|⟨ty,q1⟩
 ·obtain⟨p,xs,rfl,hp⟩:=ty;cases rx;have h12:s1.TypeIs (.ref p) "tuple" /\ ∀a,ge p=.ref a->∃ob,s1.heap.get? a=ac ob/\ob.dict=af:=by
   obtain⟨_,au,_,ob,e1,e2,e3,_⟩:=(show eP X.prog X.w H1 s1.heap p (.tup xs)from I1.hok p _ hp);exact⟨⟨ob,e1,e2⟩,λa z=>by cases z;exact⟨ob,e1,e3⟩⟩
  obtain⟨h1,h2⟩:=h12;have rx:RelV (.ref p) (ge p):=rfl;refine⟨"tuple", id1,aI,slot1,Wb,h1,h2,?_⟩;have hA:=ha cpos ah s1 σ H1 _ I1 q1;rw[hs]at hA ⊢;refine zi (by show(false||(backTo cpos (starEach es X.env)).any (·.1))=false;rw[hplain]<;>rfl) (Dy ?_);exact bg hA λus s2 ⟨vs,H2,I2,r2',q2⟩=>hm1 ah s2 σ H2 _ vs _ us Q I2 rx r2' q2
 ·obtain⟨h1,h2⟩:=Cv I1 rx ty;refine⟨T2,id2,pa2,Wc,We,h1,h2,?_⟩;have hA:=ha cpos ah s1 σ H1 _ I1 q1;rw[hs]at hA ⊢;refine zi (by show(false||(backTo cpos (starEach es X.env)).any (·.1))=false;rw[hplain]<;>rfl) (Dy ?_);exact bg hA λus s2 ⟨vs,H2,I2,r2',q2⟩=>hm2 ah s2 σ H2 x vs v us Q I2 rx r2' q2
end
end A
namespace So
open PySem
theorem wN:∀a b:List Int,eB a b=Mi.gj a b
 |[],[]=>rfl
 |[],_::_=>rfl
 |_::_,[]=>rfl
 |a::r,b::t=>by rw[eB,Mi.gj,wN r t]
theorem AR(lt:Nat->Nat->Bool)(i:Nat):∀l:List Nat,(Mi.insI lt i l).Perm (i::l)
 |[]=>Dz _
 |j::r=>by
  unfold Mi.insI;split
  ·exact Dz _
  ·exact((AR lt i r).cons j).trans (List.Perm.swap i j r)
theorem u9(lt:Nat->Nat->Bool):∀l:List Nat,(Mi.sortI lt l).Perm l
 |[]=>Dz _
 |i::r=>(AR lt i _).trans ((u9 lt r).cons i)
section
variable{n:Nat}{lt:Nat->Nat->Bool}(O:vF n lt)
include O
theorem Kg{i:Nat}(hi:i<n):∀{l:List Nat},(∀x∈l,x<n)->i∉l->l.Pairwise (λa b=>lt a b=true)->(Mi.insI lt i l).Pairwise (λa b=>lt a b=true)
 |[],_,_,_=>CC _ _
 |j::r,hl,hn,hp=>by
  have hp':=jx.mp hp;have hj:=hl j c6;unfold Mi.insI;split
  ·rename_i h;refine jx.mpr ⟨λx hx=>?_,hp⟩;rcases cn.mp hx with rfl|hx
   ·exact h
   ·exact O.tr _ _ _ hi hj (hl x (er _ hx)) h (hp'.1 x hx)
  ·rename_i h;have hji:lt j i=true:=(O.tot i j hi hj λz=>hn (by rw[z];exact c6)).resolve_left h;refine jx.mpr ⟨λx hx=>?_,Kg hi (λx hx=>hl x (er _ hx)) (λz=>hn (er _ z)) hp'.2⟩;rcases cn.mp ((AR lt i r).mem_iff.mp hx)with rfl|hx
   ·exact hji
   ·exact hp'.1 x hx
theorem B8:∀{l:List Nat},(∀x∈l,x<n)->l.Nodup->(Mi.sortI lt l).Pairwise (λa b=>lt a b=true)
 |[],_,_=>.nil
 |i::r,hl,nd=>by
  have nd:=iO.mp nd;have hr:∀x∈r,x<n:=λx hx=>hl x (er _ hx);exact Kg O (hl i c6) (λx hx=>hr x ((u9 lt r).mem_iff.mp hx)) (λz=>nd.1 ((u9 lt r).mem_iff.mp z)) (B8 hr nd.2)
theorem K9:∀{a b:List Nat},(∀x∈a,x<n)->a.Perm b->a.Pairwise (λx y=>lt x y=true)->b.Pairwise (λx y=>lt x y=true)->a=b
 |[],b,_,p,_,_=>p.nil_eq
 |x::r,b,hl,p,ha,hb=>by
  cases b with
  |nil=>exact absurd p.length_eq (by simp)
  |cons y t=>
   have hx:x∈y::t:=p.mem_iff.mp c6;have hy:y∈x::r:=p.mem_iff.mpr c6;have e:x=y:=by
    rcases cn.mp hx with h|h
    ·exact h
    ·rcases cn.mp hy with h'|h'
     ·exact h'.symm
     ·have a1:=(jx.mp ha).1 y h';have a2:=(jx.mp hb).1 x h;rw[O.asy _ _ (hl x c6) (hl y hy) a1]at a2;cases a2
   subst e;rw[K9 (λz hz=>hl z (er _ hz)) (List.Perm.cons_inv p) (jx.mp ha).2 (jx.mp hb).2]
end
theorem P7{kz:List (List Int)}(nd:kz.Nodup){p:Array Nat}(pm:Pm kz.length p)(sd:Sd (nR kz) p kz.length):p.toList=Mi.kH kz kz.length:=by
 have O:=AQ nd;have e:Mi.kH kz kz.length=Mi.sortI (nR kz) (b0 kz.length):=by
  unfold Mi.kH nR
  congr 1
  funext i j;exact(wN _ _).symm
 have hp:p.toList.Perm (b0 kz.length):=by have:=v8.mp pm.pm;simpa using this
 have hb:∀x∈p.toList,x<kz.length:=λx hx=>by simpa using hp.mem_iff.mp hx
 rw[e];refine K9 O hb (hp.trans (u9 _ _).symm) ?_ (B8 O (λx hx=>by simpa using hx) yH);rw[CA];intro i j hi hj hij;have hi':i<p.size:=by simpa using hi
 have hj':j<p.size:=by simpa using hj
 have:=sd i j hij (by rw[<- pm.size];exact hj');rw[vx hi',vx hj']at this;simpa using this
end So
namespace A
open PySem L2 PyProof.Rows So
open Mi (D W Rs Fin aG Out Tg)
variable[Tb:dm]
theorem Ub{T:ak}{q:Str}{H H' Hv:Hp}(v:Vw H Hv)(t:Tab T q H H'):cu H Hv H' Hv:=by
 rcases t with rfl|⟨ps,ps',c,hT,hc,ne,rfl,ck⟩
 ·exact .refl v
 ·have get:∀{a o},H a=ac o->NT o->upd (upd H T (.tbl q ps')) c (.ext (jw c q)) a=ac o:=λ{a o} e n=>by
   rw[bh (eh e hc),bh (λz=>by rw[z,hT]at e;cases e;exact n)];exact e
  have back:∀{a o},upd (upd H T (.tbl q ps')) c (.ext (jw c q)) a=ac o->(∀w ps,o≠.tbl w ps)->(∀φ,o≠.ext φ)->H a=ac o:=λ{a o} e n1 n2=>by
   by_cases z:a=c
   ·subst z;rw[cM]at e;cases e;exact absurd rfl (n2 _)
   ·rw[bh z]at e;by_cases z2:a=T
    ·subst z2;rw[cM]at e;cases e;exact absurd rfl (n1 _ _)
    ·rw[bh z2]at e;exact e
  refine⟨⟨λa o e n=>get e n,λa e=>?_,λa w p0 e=>?_⟩,eA.refl _,⟨λa o e=>get (v.sub a o e) (v.nv a o e),λa xs e=>v.tup a xs (back e (λ_ _ z=>by cases z) (λ_ z=>by cases z)),λa o u e=>v.frz a o u (back e (λ_ _ z=>by cases z) (λ_ z=>by cases z)),ck,v.nv⟩,λ_ _ _ n=>n⟩
  ·by_cases z:a=c
   ·subst z;exact hc
   ·rw[bh z]at e;by_cases z2:a=T
    ·subst z2;rw[cM]at e;cases e
    ·rw[bh z2]at e;exact e
  ·by_cases z2:a=T
   ·subst z2;rw[hT]at e;cases e;exact⟨ps',by rw[bh (fv ne),cM]⟩
   ·exact⟨p0,by rw[bh (eh e hc),bh z2];exact e⟩
theorem Jz{Hv:Hp}:∀{ds:List D} {xs:List V} {bs:List Int},Mi.lB ds=ac bs->P2 (Rep Hv) ds xs->xs=bs.map V.int
 |[],_,bs,e,r=>by cases e;cases r;rfl
 |.int b::ds,_,bs,e,r=>by
  cases r with
  |cons x t=>
   cases hb:Mi.lB ds with
   |none=>rw[Mi.lB,hb]at e;cases e
   |some cs=>
    rw[Mi.lB,hb]at e;cases e;rw[Jz hb t,qm.mp x];rfl
section
variable{X:Cx}{K:bb}{M:Nat->Bool}{te tb ta:TE}{a b kf:Mi.E}{T:ak}{q:Str}{ρ:List Nat}
theorem OO{e:Mi.Env}{σ:L2.St}{H Hv:Hp}(I:R0 M e σ H Hv)(hM:∀j∈ρ,M j=false){d:D}{v:V}(r:Rep Hv d v):R0 (λ_=>false) (Mi.nL ρ e d) (jI ρ σ v) H Hv:=by
 refine⟨I.vw,by simp[Mi.nL,jI],λi w h _=>?_,λi w h m=>by cases m⟩;cases i with
 |zero=>
  have:W.d d=w:=by simpa [Mi.nL]using h
  subst this;exact⟨v,rfl,r⟩
 |succ i=>
  have h:(ρ.map λj=>(e[j]?).join)[i]? = ac (ac w):=by simpa [Mi.nL]using h
  rw[fm]at h;obtain⟨j,hj,e2⟩:=lh.mp h;have e3:e[j]? = ac (ac w):=by
   cases z:e[j]? with
   |none=>rw[z]at e2;cases e2
   |some y=>rw[z]at e2;exact congrArg ac e2
  obtain⟨u,hu,ru⟩:=I.nob j w e3 (hM j (pP hj));exact⟨u,by simp[jI,fm,hj,hu],ru⟩
theorem Gn{c':ak}(hk:AE (λ_=>false) qN tb kf)(hM:∀j∈ρ,M j=false){e:Mi.Env}{σ:L2.St}:∀{ds:List D} {xs:List V} {kz:List (List Int)} {H Hv:Hp} {R:List V->Hp->Prop},R0 M e σ H Hv->P2 (Rep Hv) ds xs->H c'=ac (.ext (jw c' q))->Mi.j2 ρ kf e ds=.ok kz ->
 (∀ks H3 Hv3,cu H Hv H3 Hv3->KeysAre H3 kz ks->R ks H3)->xT c' q (λv H K=>tb (jI ρ σ v) H K) xs H R
 |[],_,kz,H,Hv,R,I,.nil,_,hz,h=>by
  have:kz=[]:=by rw[Mi.j2]at hz;cases hz;rfl
  subst this;exact h [] H Hv (.refl I.vw) .nil
 |d::ds,_,kz,H,Hv,R,I,.cons (b:=v) (m:=xs) r t,hc,hz,h=>by
  rw[Mi.j2]at hz;show tb (jI ρ σ v) H _;cases hkd:kf (Mi.nL ρ e d)with
  |no=>rw[hkd]at hz;cases hz
  |ex z=>rw[hkd]at hz;cases hz
  |ok kd=>
   rw[hkd,Mi.aQ]at hz;cases kd with
   |lst es=>
    cases hes:Mi.lB es with
    |none=>rw[show Mi.uT (.lst es)=.no from by show Mi.cQ (Mi.lB es)=_;rw[hes];rfl]at hz;cases hz
    |some z=>
     rw[show Mi.uT (.lst es)=.ok z from by show Mi.cQ (Mi.lB es)=_;rw[hes];rfl,Mi.aQ]at hz;cases hzs:Mi.j2 ρ kf e ds with
     |no=>rw[hzs]at hz;cases hz
     |ex y=>rw[hzs]at hz;cases hz
     |ok zs=>
      rw[hzs]at hz;have hz:kz=z::zs:=by cases hz;rfl
      subst hz;refine hk _ _ H Hv _ (OO I hM r) ?_;rw[hkd];intro kv H1 Hv1 g1 kq;obtain⟨p,o,rfl,n0,hp,nv,ci⟩:=kq;cases o with
      |lst vs=>
       have hv:vs=z.map V.int:=Jz hes ci;subst hv;refine⟨g1.old.at hc,Gn hk hM (I.grow g1) (f8 g1.vis t) (g1.old.at hc) hzs λks H3 Hv3 g3 ka=>h _ H3 Hv3 (g1.trans g3) (.cons ⟨p,rfl,g3.old.at hp⟩ ka)⟩
      |_=>exact ci.elim
   |_=>cases hz
theorem EY{F:D->V->Prop}{ds:List D}{xs:List V}(h:P2 F ds xs):∀l:List Nat,(∀i∈l,i<ds.length)->P2 F (l.map λi=>ds.getD i .non) (l.map λi=>xs.getD i .non)
 |[],_=>.nil
 |i::r,hl=>by
  have hi:=hl i c6;have e1:ds[i]? = ac (ds.getD i .non):=by simp[hi]
  obtain⟨y,e2,f⟩:=h.getL e1;have:xs.getD i .non=y:=by simp[e2]
  refine .cons ?_ (EY h r λj hj=>hl j (er _ hj));show F (ds.getD i .non) (xs.getD i .non);rw[this];exact f
theorem VU(hT:(T,q)∈Tb.l)(hM:∀j∈ρ,M j=false)(ha:AE M qP te a)(hk:AE (λ_=>false) qN tb kf):AE M qN (Go T q ρ te tb) (Mi.ww ρ a kf):=λe σ H Hv Q I h=>
 ha e σ H Hv _ I ((aG.mp h).mono λx hx v H1 Hv1 g1 rx=>by
  cases x with
  |lst ds=>
   obtain⟨h64,hx⟩:=Mi.dh (show Fin (Mi.bu (ds.length<64) _) _ from hx);obtain⟨kz,hkz,hx⟩:=jJ (aG.mp hx);obtain⟨nd,hx⟩:=Mi.dh hx;have hx:=Mi.jQ hx;obtain⟨p,xs,rfl,l,r⟩:=RD.lst g1.vw rx;have lx:=r.len;have I1:=I.grow g1;obtain⟨tps,ht⟩:=g1.vw.cd.has _ hT;refine⟨p,xs,tps,rfl,by omega,ht,g1.vw.cd,λH2 c' tab hc'=>?_⟩;have g2:=Ub g1.vw tab;refine⟨l.old g2.old,Gn hk hM (I1.grow g2) r hc' hkz λks H3 Hv3 g3 ka=>?_⟩;have lk:kz.length=ds.length:=by
    have:∀(ds:List D) (kz:List (List Int)),Mi.j2 ρ kf e ds=.ok kz->kz.length=ds.length:=λds=>by
     induction ds with
     |nil=>intro kz h;rw[Mi.j2]at h;cases h;rfl
     |cons d ds ih=>
      intro kz h;rw[Mi.j2]at h;cases h1:kf (Mi.nL ρ e d)with
      |no=>rw[h1]at h;cases h
      |ex z=>rw[h1]at h;cases h
      |ok kd=>
       rw[h1,Mi.aQ]at h;cases h2:Mi.uT kd with
       |no=>rw[h2]at h;cases h
       |ex z=>rw[h2]at h;cases h
       |ok z=>
        rw[h2,Mi.aQ]at h;cases h3:Mi.j2 ρ kf e ds with
        |no=>rw[h3]at h;cases h
        |ex y=>rw[h3]at h;cases h
        |ok zs=>rw[h3]at h;cases h;rw[dH,dH,ih zs h3]
    exact this ds kz hkz
   refine⟨kz,by omega,nd,ka,λp2 ys hp2 so=>?_⟩;obtain⟨pa,pm,sd,rfl⟩:=so;have e0:pa.toList=Mi.kH kz ds.length:=by rw[<- lk];exact P7 nd (by rw[lk,lx];exact pm) (by rw[lk,lx];exact sd)
   have rr:P2 (Rep Hv3) (Mi.sortBy kz ds) (pa.toList.map λi=>xs.getD i .non):=by unfold Mi.sortBy;rw[<- e0];refine EY (f8 (g2.vis.trans g3.vis) r) _ λi hi=>?_;have:=(v8.mp pm.pm).mem_iff.mp hi;rw[lx];simpa using this
   obtain⟨g4,kk⟩:=s0 g3.vw rr hp2;have gg:=g1.trans (g2.trans (g3.trans g4));exact hx _ _ _ gg (KM.mono (κ:=qN) (g1.old.trans (g2.old.trans g3.old)) kk)
  |_=>exact hx.elim)
end
end A
namespace L2
open PySem PySem.Spec PyProof.Rows A So
structure uE(K:bb)(x qual:Str)(st:bE)(c f:ak)(fd:bU):Prop where
 ex:∃(oc:ai) (od:Option ak) (kV doc pm:ai) (an:Option ak) (ct:ai) (osl:Array (Option ai)),
  fd=l8 x qual (oh st) (kj st) (bH st) .none kV doc pm an (.ref c) ct/\K.lookup f=ac ⟨oc,od,.func fd,osl⟩/\tY K (.ref c) qual=true
section
variable{P:cp}{w:bI}{K:bb}{mg:Str->Option ai}{base:bq}
theorem uE.ok{x qual:Str}{st:bE}{c f:ak}{fd:bU}{N ps:List Str}{k:Nat}{sp:Sp}(F:uE K x qual st c f fd)(S:cD N ps (bH st))(len:∀vs H Q E,sp vs H Q E->vs.length=ps.length)
 (hbody:∀(A:cR) (outer:List Env) (s:aB) (H:Hp) (vs:List V) (Q:VK) (E:XK),e5 k (A.deeper (envOfC qual (bH st) s.heap.objs.size f (.ref c)))->sp vs H Q E ->
  ∃t,iZ (nK aX P w K mg base N qual (bH st) f (.ref c) A outer s H E).lz (kj st) t/\t { nx:=λ_ H'=>Q .non H',rt:=Q } (start N vs) H):bN P w K mg base aX (k+1) f fd ps sp:=by
 obtain⟨oc,od,kV,doc,pm,an,ct,osl,rfl,lk,hcd⟩:=F.ex;refine F5 lk hcd S len λA outer s H vs Q E hr hsp=>?_;obtain⟨t,h,q⟩:=hbody A outer s H vs Q E hr hsp;exact⟨t,h.lz,q⟩
end
structure wJ(K:bb)(mg:Str->Option ai)(x:Str)(st:bE)(ps:List Str)(c:ak):Prop where
 ex:∃(f:ak) (fd:bU),mg x=ac (.ref f)/\pU K (.ref f)=true/\Binds K fd ps []/\uE K x x st c f fd
theorem P6{K:bb}{h:bq}{mg:Str->Option ai}{x:Str}{st:bE}{ps:List Str}{f c:ak}{oc:ai}{od an:Option ak}{osl:Array (Option ai)}{kV doc pm ct:ai}(X:K.In h)(G:h.Ns mainGlobals mg)
 (hb:∀(kV doc pm:ai) (an:Option ak) (cdv ct:ai) (us:List ai),us.length=ps.length->bindArgs (l8 x x (oh st) (kj st) (bH st) .none kV doc pm an cdv ct) ⟨us,[]⟩=pure (ps.zip us))
 (a:gA K mainGlobals x=ac (ac (.ref f))) (l:K.lookup f=ac ⟨oc,od,.func (l8 x x (oh st) (kj st) (bH st) .none kV doc pm an (.ref c) ct),osl⟩)
 (cc:tY K (.ref c) x=true) (k:pU K (.ref f)=true):wJ K mg x st ps c:=by
 have F:=IY (st:=st) l cc k;exact⟨f,_,vU X G a,k,F.binds hb,⟨oc,od,kV,doc,pm,an,ct,osl,rfl,l,cc⟩⟩
theorem wJ.cal{P:cp}{w:bI}{K:bb}{mg:Str->Option ai}{base:bq}{CX:jt}{k:Nat}{x:Str}{st:bE}{ps:List Str}{c:ak}{sp:Sp}(F:wJ K mg x st ps c)(h:∀f fd,uE K x x st c f fd->bN P w K mg base CX k f fd ps sp) :
 bG P w K mg base CX k x ps sp:=by
 obtain⟨f,fd,h1,h2,h3,h4⟩:=F.ex;exact⟨f,fd,h1,h2,h3,h f fd h4⟩
theorem sV.one{X:Cx}{x y:Str}{j:Nat}{sc:gc}{c:ak}(hn:sc.names=[(x,.local),(y,.free)])(hxy:(y==x)=false)(hk:sc.kind=.function)(co:sc.isCoroutine=false)(gen:sc.isGenerator=false)(hc:X.env.cells=[(y,c)])(hN:X.N[j]? = ac y)(hy:X.env.kindOf y=ac .cell) :
 sV X x [j] [x,y] sc [(y,c)]:=by
 have hl:sc.names.lookup y=ac .free:=by rw[hn,oz,hxy];show oz y [(y,nA)]=_;rw[oz,kK]
 refine⟨hk,co,gen,λz hz=>?_,by rw[hn,oz,kK],λz d h=>by rw[hc];exact h,λz h=>?_,[y],rfl,rfl,λi k z h1 h2=>?_⟩
 ·rw[hn]at hz;rcases cn.mp hz with rfl|hz
  ·exactλq=>by cases q
  ·rw[eD.mp hz];exactλq=>by cases q
 ·rw[hn,oz]at h;split at h
  ·cases h
  ·rw[oz]at h;split at h
   ·rename_i q;exact⟨c,by rw[oz,q]⟩
   ·cases h
 ·cases i with
  |zero=>
   have e1:j=k:=by simpa using h1
   have e2:y=z:=by simpa using h2
   subst e1 e2;exact⟨hN,hl,.inl hy⟩
  |succ i=>simp at h1
section
variable[Tb:dm]
theorem OF{P:cp}{w:bI}{K:bb}{mg mb:Str->Option ai}{k:Nat}{fa a c T:ak}{q:Str}{fd:bU}{x:Str}{s₁:aB}{vs:List ai}{ns:List Int}(hTb:Tb.l=[(T,q)])
 (KX:K.In s₁.heap) (hns:s₁.heap.Ns mainGlobals mg) (hb:s₁.heap.Ns builtinsNs mb) (hbb:∀x:Str,x ≠ "__name__" -> mb x=bootBuiltins x) (hlim:s₁.heap.NoLimit) (hg:s₁.gens = #[])
 (ha:s₁.heap.get? a=ac { cls:=.type "list", data:=.seq vs.toArray }) (hi:lm vs ns) (hl:ns.length<=63) (hr:e5 k callerA)
 (hKa:K.lookup a=af) (hKT:K.lookup T=af) (C:lf s₁.heap c T) (hT:s₁.heap.get? T=ac (yM #[])) (hB:BM mg s₁.heap)
 (F:∀base:bq,K.In base->base.Ns mainGlobals mg->BM mg base->lf base c T->bN P w K mg base aX k fa fd [x] vM) (hbind:∀(s:aB) (u:ai),pY s fd ⟨[u],[]⟩ [(x,u)]) :
 codeAny (model P w) callerA (.call (.ref fa) ⟨[.ref a],[]⟩) (λr s'=>r=.ok (.ret (.bool true))/\OldK s₁.heap s'.heap/\s'.os=s₁.os/\qa s'.gens) s₁:=by
 have rv:=J4 hi;have lenV:=hi.length;have aT:a≠T:=λz=>by rw[z,hT]at ha;cases ha
 let H:Hp:=λb=>if b=a then ac (.frz { cls:=.type "list",data:=.seq vs.toArray } (.lst (ns.map V.int)))else if b=T then ac (.tbl q #[])else af;have Ha:H a=ac (.frz { cls:=.type "list", data:=.seq vs.toArray } (.lst (ns.map V.int))):=bc rfl;have HT:H T=ac (.tbl q #[]):=by show(if T=a then _ else _)=_;rw[ba (fv aT),bc rfl]
 have Hn:∀b,b≠a->b≠T->H b=af:=λb h1 h2=>by show(if b=a then _ else _)=_;rw[ba h1,ba h2]
 have Hd:∀{b u},H b=ac u->(b=a/\u=.frz { cls:=.type "list", data:=.seq vs.toArray } (.lst (ns.map V.int)))\/(b=T/\u=.tbl q #[]):=λ{b u} e=>by
  by_cases h1:b=a
  ·subst h1;rw[Ha]at e;cases e;exact .inl ⟨rfl,rfl⟩
  ·by_cases h2:b=T
   ·subst h2;rw[HT]at e;cases e;exact .inr ⟨rfl,rfl⟩
   ·rw[Hn b h1 h2]at e;cases e
 have hok:eC P w H s₁.heap:=λb u e=>by
  rcases Hd e with ⟨rfl,rfl⟩|⟨rfl,rfl⟩
  ·exact⟨ha,by rw[aU,eK];omega,vs,_,rv,ha⟩
  ·exact hT
 have free:∀{b:ak} {o:Obj},s₁.heap.get? b=ac o->o.cls≠.type "list" -> o≠yM #[]->H b=af:=λ{b o} e h1 h2=>by
  refine Hn b (λz=>?_) λz=>?_
  ·rw[z,ha]at e;cases e;exact h1 rfl
  ·rw[z,hT]at e;cases e;exact h2 rfl
 have zo:∀{b:ak} {o:Obj},s₁.heap.get? b=ac o->H b=af->(lL s₁.heap H).get? b=ac o:=λe n=>TH e n;have nsK:∀{b:ak} {m:Str->Option ai},s₁.heap.Ns b m->(lL s₁.heap H).Ns b m:=λ{b m} ⟨o,es,ep,e,d,r⟩=>⟨o,es,ep,zo e (Hn b (λz=>by rw[z,ha]at e;cases e;cases d) λz=>by rw[z,hT]at e;cases e;cases d),d,r⟩;have hKb:K.In (lL s₁.heap H):=λb o e=>zo (KX b o e) (Hn b (λz=>by rw[z,hKa]at e;cases e) λz=>by rw[z,hKT]at e;cases e);have hM:Mod K mg (lL s₁.heap H):=⟨hKb,nsK hns,⟨mb,nsK hb,hbb⟩,let ⟨mc,h1,h2⟩:=hlim;⟨mc,nsK h1,h2⟩⟩;have e0:wy P w K mg (lL s₁.heap H) callerA [] s₁ H:=⟨rfl,hM,λb o e=>Um e,Dk (PY _ _),trivial,λb hb=>absurd (show b∈([]:List ak)from hb) (by simp),hok,.of_eq hg⟩;have hB':BM mg (lL s₁.heap H):=by obtain⟨bm,bo,b1,b2,b3,b4,b5,b6,b7⟩:=hB;exact⟨bm,bo,b1,b2,b3,zo b4 (free b4 (by rw[b5];decide) (λz=>by rw[z]at b5;cases b5)),b5,b6,b7⟩
 have C':lf (lL s₁.heap H) c T:=by obtain⟨o,vs2,file,tf,flags,tg,inF,text,tt,e,h1,r⟩:=C;exact⟨o,vs2,file,tf,flags,tg,inF,text,tt,zo e (free e (by rw[h1];decide) (λz=>by rw[z]at h1;cases h1)),h1,r⟩
 have ck:ji H:=⟨λr hr=>by
  rw[hTb]at hr;obtain rfl:r=(T,q):=by simpa using hr
  exact⟨#[],HT⟩,λT2 q2 ps e=>by
  rcases Hd e with ⟨_,z⟩|⟨_,z⟩
  ·cases z
  ·cases z;exact⟨trivial,λpos v hv=>by cases hv⟩⟩
 refine rA ((F _ hKb (nsK hns) hB' C').run callerA [] s₁ H ⟨[.ref a],[]⟩ [.ref a] [.ref a] (λv _=>v=.bl true) (λ_ _ _=>False) hr e0 (hbind s₁ (.ref a)) (.cons rfl .nil) ⟨a,ns,rfl,.inr ⟨_,Ha⟩,hl,ck,λ_=>rfl⟩) λr s' h=>?_;cases r with
 |error e=>exact h.elim
 |ok fl=>
  cases fl with
  |next=>exact nC h
  |brk=>exact nC h
  |cont=>exact nC h
  |ret u=>
   obtain⟨v,H',os,bare,un,hok',r',q'⟩:=h;have q':v=.bl true:=q';subst q';obtain rfl:u=oB true:=r';have old:∀b o,s₁.heap.get? b=ac o->asItWas s₁.heap s'.heap b o:=λb o e=>by
    by_cases h1:b=a
    ·subst h1;have z2:=un.nE b _ _ Ha;obtain⟨e2,_⟩:=hok' b _ z2;rw[ha]at e;cases e;exact .inl e2
    ·by_cases h2:b=T
     ·subst h2;obtain⟨more,z2⟩:=un.nF b _ _ HT;have e2:s'.heap.get? b=ac (yM (#[]++more)):=hok' b _ z2;rw[hT]at e;cases e;obtain⟨oc,vs2,_,_,_,_,_,_,_,f1,f2,f3,f4,_⟩:=C;exact .inr (.inl ⟨⟨c,oc,vs2,f1,f2,f3,f4⟩,rfl,#[],more,rfl,e2⟩)
     ·exact .inl (un.keep b o e (Hn b h1 h2) (by intro z;exact absurd (show b∈([]:List ak)from z) (by simp)) (by simp))
   exact⟨rfl,⟨old,λb o e=>un.there b o e (by simp)⟩,os,bare⟩
theorem VA{l:CY}{k:Nat}{q:cp}{loose:List Str}{XP:(Str->Option ai)->bq->Prop}{YP:bI->bq->Prop}{d:DefRec}{K:Params->bb}{x dn:Str}{c T:ak}{qn:Str}(hTb:Tb.l=[(T,qn)])
 (hn:l.most=ac 63) (hdf:d.params.defaults=[]) (hr:e5 k callerA)
 (hY:∀(w:bI) (h:bq),YP w h->(K w.params).In h) (hL:∀w:bI,∀a o,(K w.params).lookup a=ac o->o.cls≠.type "list") (hK:∀w:bI,(K w.params).lookup T=af)
 (hrec:∃d,(recsOf q).find? (λe=>e.name==dn)=ac d) (htab:∀w:bI,PySem.W.tabIn (K w.params) dn=ac (c,T))
 (F:∀(w:bI) (mg:Str->Option ai) (fa:ak) (h:bq),(K w.params).In h->h.Ns mainGlobals mg->mg d.name=ac (.ref fa) ->
  ∃fd:bU,(∀(s:aB) (u:ai),pY s fd ⟨[u],[]⟩ [(x,u)]) /\
   ∀base:bq,(K w.params).In base->base.Ns mainGlobals mg->BM mg base->lf base c T->bN l.prog w (K w.params) mg base aX k fa fd [x] vM) :
 PySem.W.WalkO q loose XP YP l.row.toRowW d [] (λf vs=>C8 f vs):=by
 refine Att.Qu hn hdf λw s₀ s₁ mg mb fa o pm cd doc a vs ns G Y ho hd hcd hmg hobj hints hlen hg=>?_;have KX:=hY w _ Y;obtain⟨fd,hb,hF⟩:=F w mg fa _ KX G.T.g hmg;obtain⟨dd,hdd⟩:=hrec;obtain⟨C,hT⟩:=PySem.W.tab_of G.T KX hdd (htab w);have hB:BM mg s₁.heap:=by obtain⟨bm,ob,b1,b2,b3,b4,b5,b6⟩:=G.T.bmain;refine⟨bm,ob,b1,b2,λz=>?_,b3,b4,b5,b6⟩;obtain⟨o2,es,ep,e,d2,_⟩:=G.T.g;rw[z,e]at b3;cases b3;rw[d2]at b6;cases b6
 have hKa:(K w.params).lookup a=af:=by
  cases z:(K w.params).lookup a with
  |none=>rfl
  |some o2=>
   have e:=KX a o2 z;rw[hobj]at e;cases e;exact absurd rfl (hL w a _ z)
 exact OF hTb KX G.T.g G.T.b G.T.builtins G.T.nolimit hg hobj hints hlen hr hKa (hK w) C hT hB hF hb
end
end L2
namespace A
open PySem L2 PyProof.Rows So
open Mi (D W Rs Fin aG Out Tg)
variable[Tb:dm]
section
variable{K:bb}{M:Nat->Bool}{ta tb:TE}{a b:Mi.E}
def H9:V->List V->Hp->VK->Prop:=λx xs H Q=>∃(p:ak) (ys:List Str) (z:Str),x=.ref p/\xs=[.str z]/\z∈ys/\H p=ac (.tup (ys.map V.str))/\Q (.int (ys.idxOf z:Nat)) H
def Gb:V->List V->Hp->VK->Prop:=λx xs H Q=>∃(p:ak) (ys:List Str) (z:Str),x=.ref p/\xs=[.str z]/\z∈ys/\ys.length<=1000/\Lst H p (ys.map V.str)/\Q (.int (ys.idxOf z:Nat)) H
theorem U6{X:Cx}:oa X "tuple.index" H9:=Pf
theorem Vf{X:Cx}:oa X "list.index" Gb:=Ph
theorem RJ(ha:AE M qP ta a)(hb:AE M qP tb b):AE M qV (F3 K "list" H9 Gb ta (hV tb iF)) (Mi.m2 Mi.uZ a b):=λe σ H Hv Q I h=>
 ha e σ H Hv _ I ((aG.mp h).mono λx hx v H1 Hv1 g1 rx=>by
  obtain⟨y,hy,hk⟩:=jJ (aG.mp hx);cases y with
  |str z=>
   obtain⟨ys,ey,q1⟩:=hZ (aG.mp hk);obtain⟨⟨hz,hl⟩,q2⟩:=Mi.dh q1;have q3:=Mi.jQ q2;clear hk q1 q2 hx;cases x with
   |tup ds=>
    obtain⟨p,us,rfl,l,_,r⟩:=RD.tup g1.vw rx;have:=qF ey r;subst this;refine .inl ⟨⟨p,_,rfl,l⟩,hb e σ H1 Hv1 _ (I.grow g1) ?_⟩;rw[hy];intro v2 H2 Hv2 g2 ry;cases RD.str ry;exact⟨p,ys,z,rfl,rfl,hz,g2.old.at l,q3 _ _ _ (g1.trans g2) iz⟩
   |lst ds=>
    obtain⟨p,us,rfl,l,r⟩:=RD.lst g1.vw rx;have:=qF ey r;subst this;refine .inr ⟨.inl ⟨rfl,_,l.sq⟩,hb e σ H1 Hv1 _ (I.grow g1) ?_⟩;rw[hy];intro v2 H2 Hv2 g2 ry;cases RD.str ry;exact⟨p,ys,z,rfl,rfl,hz,hl,l.old g2.old,q3 _ _ _ (g1.trans g2) iz⟩
   |_=>cases ey
  |_=>exact hk.elim)
end
end A
namespace Mi
end Mi
namespace A
open PySem L2 PyProof.Rows So
open Mi (D W Rs Fin aG Out Tg)
variable[Tb:dm]
section
variable{K:bb}{M:Nat->Bool}{t:TE}{m:Mi.E}{w:Mi.EW}
theorem SM(y:Nat)(hy:M y=true)(ha:AW (λj=>M j && !(j==y)) qN t w):AS M qN (qG t) (Mi.bA w):=λH0 Hv0 e σ H Hv D I h=>by
 have nb:∀{j:Nat},(M j && !(j==y))=false->M j=false\/j=y:=λ{j} z=>by
  cases q:M j with
  |false=>exact .inl rfl
  |true=>rw[q]at z;exact .inr (by simpa using z)
 have nt:∀{j:Nat},(M j && !(j==y))=true->M j=true/\j≠y:=λ{j} z=>by simpa using z
 have fin:∀Hv',cu H0 Hv0 H Hv'->R0 (λj=>M j && !(j==y)) e σ H Hv'->qG t D σ H:=λHv' gw R=>
  ha e σ H Hv' _ R ((aG.mp h).mono λd hd v H1 Hv1 g1 r=>hd v H1 Hv1 (gw.trans g1) (KM.mono (κ:=qN) gw.old r))
 have other:(∀w0,e[y]?≠ac (ac w0))->qG t D σ H:=λaf=>fin Hv I.gw ⟨I.vw,I.len,λj w' z q=>by
  rcases nb q with q|rfl
  ·exact I.nob j w' z q
  ·exact absurd z (af w'),λj w' z q=>I.own j w' z (nt q).1⟩
 cases he:e[y]? with
 |none=>exact other λw0 z=>by rw[he]at z;cases z
 |some ow=>
  cases ow with
  |none=>exact other λw0 z=>by rw[he]at z;cases z
  |some w0=>
   obtain⟨p,Hv',q,I',s,r⟩:=I.Rc hy he;refine fin Hv' I'.gw ⟨I'.vw,I.len,λj w' z q2=>?_,λj w' z q2=>?_⟩
   ·by_cases hj:j=y
    ·subst hj;rw[he]at z;cases z;exact⟨_,q,r⟩
    ·exact I'.nob j w' (by rw[iE (fv hj)];exact z) ((nb q2).resolve_right hj)
   ·obtain⟨m1,hj⟩:=nt q2;exact I'.own j w' (by rw[iE (fv hj)];exact z) m1
end
end A
namespace L2
end L2
namespace L2
end L2
namespace L2
end L2
namespace Mi
open PySem
def qI{α:Type}(r:Rs α)(k:α->Prop)(x:pJ->Prop):Prop:=match r with
 |.ok a=>k a
 |.ex z=>x z
 |.no=>False
theorem yy{α β:Type}{r:Rs α}{f:α->Rs β}{k:β->Prop}{x:pJ->Prop}:qI (r.bind f) k x↔qI r (λa=>qI (f a) k x) x:=by cases r<;>exact wc
end Mi
namespace A
open PySem L2 PyProof.Rows So
open Mi (D W Rs Fin qI aG yy Out Tg pJ)
variable[Tb:dm]
end A
namespace L2
end L2
namespace L2
end L2
namespace L2
open PySem PySem.Spec PyProof.Rows
end L2
namespace Mi
open PySem
end Mi
namespace A
open PySem L2 PyProof.Rows So
open Mi (D W Rs Fin qI aG yy Out Tg pJ)
variable[Tb:dm]
end A
namespace PySem.W
end PySem.W
namespace L2
open PySem PySem.Spec PyProof.Rows
open A (E4)
end L2
namespace Mi
open PySem
end Mi
namespace A
open PySem L2 PyProof.Rows So
open Mi (D W Rs Fin qI aG yy Out Tg pJ)
variable[Tb:dm]
end A
namespace Mi
open PySem
end Mi
namespace L2
open PySem PySem.Spec PyProof.Rows
end L2
namespace A
open PySem L2 PyProof.Rows So
open Mi (D W Rs Fin aG)
variable[Tb:dm]
end A
namespace Mi
def Ji(m:S):S:=λe=>match m e with
 |.ok (.rt w)=>.ok (.rt w)
 |_=>.no
end Mi
namespace A
open PySem L2 PyProof.Rows So
open Mi (D W Rs Fin aG Out Tg)
variable[Tb:dm]
end A
namespace Mi
open PySem
def iW(a b:Str):Bool:=decide (¬ b.cps.toList<a.cps.toList)
def jN(xs:List Str):List Str:=xs.mergeSort iW
def mQ:List D->Rs D
 |[.lst ds]=>(cQ (fM ds)).bind λss=>bu (ss.length<64) (.ok (.lst ((jN ss).map D.str)))
 |_=>.no
theorem KQ{α:Type}{le:α->α->Prop}(MC:∀a b,le a b->le b a->a=b):∀(l m:List α),l.Perm m->l.Pairwise le->m.Pairwise le->l=m
 |[],m,h,_,_=>h.symm.eq_nil.symm
 |a::r,[],h,_,_=>nomatch h.eq_nil
 |a::r,b::t,h,hl,hm=>by
  have l1:=jx.mp hl;have m1:=jx.mp hm;have e:a=b:=by
   rcases cn.mp (h.mem_iff.mp (c6 ..))with z|z
   ·exact z
   ·rcases cn.mp (h.mem_iff.mpr (c6 ..))with y|y
    ·exact y.symm
    ·exact MC _ _ (l1.1 b y) (m1.1 a z)
  subst e;rw[KQ MC r t ((List.perm_cons a).mp h) l1.2 m1.2]
theorem qh{a b:Str}:iW a b=true↔a.cps.toList<=b.cps.toList:=by unfold iW;rw[kJ];exact wc
theorem VL{x y:Str}(h:x.cps.toList=y.cps.toList):x=y:=by obtain⟨x⟩:=x;obtain⟨y⟩:=y;exact congrArg Str.mk (wa.mp h)
theorem VS(a b:Str)(h:iW a b=true)(k:iW b a=true):a=b:=VL (List.le_antisymm (qh.mp h) (qh.mp k))
theorem Hy(a b c:Str)(h:iW a b=true)(k:iW b c=true):iW a c=true:=qh.mpr (List.le_trans (qh.mp h) (qh.mp k))
theorem Uu(a b:Str):(iW a b||iW b a)=true:=by rw[yY,qh,qh];exact List.le_total _ _
theorem uG(xs:List Str):(jN xs).Perm xs:=List.mergeSort_perm xs _
theorem G4(xs:List Str):(jN xs).Pairwise λa b=>iW a b=true:=List.pairwise_mergeSort (λa b c=>Hy a b c) (λa b=>Uu a b) xs
theorem IV{xs ys:List Str}(hp:ys.Perm xs)(hs:ys.Pairwise λa b=>iW a b=true):ys=jN xs:=KQ VS _ _ (hp.trans (uG xs).symm) hs (G4 xs)
theorem IZ{xs ys:List Str}:jN xs=jN ys↔xs.Perm ys:=⟨λh=>(uG xs).symm.trans (h ▸ uG ys),λh=>IV ((uG xs).trans h) (G4 xs)⟩
theorem Fv:∀(l:List Str) (x:Str),L6 x l=true->(x::l).Pairwise λa b=>iW a b=true
 |[],x,_=>CC ..
 |y::r,x,h=>by
  have h:(!PySem.Spec.ltCps y.cps.toList x.cps.toList&&L6 y r)=true:=h;rw[jA,PyProof.Rows.ltCps_eq]at h;have k:iW x y=true:=by unfold iW;have:=h.1;simpa using this
  have t:=Fv r y h.2;refine jx.mpr ⟨λz hz=>?_,t⟩;rcases cn.mp hz with rfl|hz
  ·exact k
  ·exact Hy _ _ _ k ((jx.mp t).1 z hz)
theorem Oi:∀l:List Str,PyProof.Rows.sortedS l=true->l.Pairwise λa b=>iW a b=true
 |[],_=>zd
 |x::r,h=>Fv r x h
end Mi
namespace L2
open PySem PySem.Spec PyProof.Rows
section
variable{X:Cx}
theorem Jc:∀{ss:List Str} {au:List ai},Vals (ss.map V.str) au->StrsAre au ss
 |[],_,.nil=>.nil
 |n::r,_,.cons h t=>by
  obtain⟨t1,rfl⟩:=h;exact .cons n t1 (Jc t)
theorem G2:∀{ss:List Str} {au:List ai},StrsAre au ss->Vals (ss.map V.str) au
 |[],_,.nil=>.nil
 |_::_,_,.cons y t r=>.cons ⟨t,rfl⟩ (G2 r)
end
end L2
namespace A
open PySem L2 PyProof.Rows So
open Mi (D W Rs Fin aG)
variable[Tb:dm]
section
variable{X:Cx}
def IL:List V->Hp->VK->Prop:=λvs H Q=>∃(a:ak) (ss:List Str),vs=[.ref a]/\Lst H a (ss.map V.str)/\ss.length<64/\∀p,H p=af->Q (.ref p) (upd H p (.lst ((Mi.jN ss).map V.str)))
theorem Kf:gu X (.builtin "sorted") IL:=by
 intro ah s σ H xs us Q I r h;obtain⟨a,ss,rfl,hl,h64,q⟩:=h;obtain⟨u,rfl,ru⟩:=vals1 r;cases(show u=ge a from ru);obtain⟨au,n0,rv,hz,ho⟩:=tF I hl;have hli:=rv.length;rw[aU]at hli;refine sorted_strs (vs:=au) (ss:=ss) ⟨_,ho,rfl,_,rfl⟩ (Jc rv) (by omega) λout ss' a1 a2 a3=>?_;obtain⟨e1,he⟩:=sortedAll_at s.heap au out;have e:=Mi.IV a2 (Mi.Oi ss' a3);subst e;have fr:H (s.heap.objs.size+1)=af:=I.hok.fresh (t8 _);refine⟨.ref (s.heap.objs.size+1),_,adopt (fp:=[s.heap.objs.size+1]) (D:=s.heap.objs.size+1) (o:=.lst ((Mi.jN ss).map V.str)) (t':=s.toks) I (λb hb=>?_) (eD.mpr rfl) (λb u _ q=>sortedAll_old q) ⟨?_,out.toList,e1,G2 a1,he⟩,rfl,q _ fr⟩
 ·rw[eD.mp hb];exact I.jS (t8 _) fr
 ·rw[aU,(Mi.uG ss).length_eq,eK];omega
end
theorem Ke{Hv:Hp}:∀{ds:List D} {ss:List Str} {xs:List V},Mi.fM ds=ac ss->P2 (Rep Hv) ds xs->ds=ss.map D.str/\xs=ss.map V.str
 |[],ss,_,h,.nil=>by cases h;exact⟨rfl,rfl⟩
 |d::r,ss,_,h,.cons k t=>by
  cases d with
  |str z=>
   rw[Mi.fM]at h;cases e:Mi.fM r with
   |none=>rw[e]at h;cases h
   |some q=>
    rw[e]at h;cases h;obtain⟨h1,h2⟩:=Ke e t;rw[pj.mp k,h1,h2];exact⟨rfl,rfl⟩
  |_=>simp[Mi.fM]at h
theorem HW:BN qN IL Mi.mQ:=λds vs H Hv Q vw r h=>by
 match ds,r,h with
 |[.lst ds],r,h=>
  obtain⟨v,ev,rr⟩:=lX r;subst ev;obtain⟨p,xs,rfl,l1,r1⟩:=RD.lst vw rr;have h:=aG.mp h;cases e:Mi.fM ds with
  |none=>rw[e]at h;exact h.elim
  |some ss=>
   rw[e]at h;obtain⟨h64,h⟩:=Mi.dh (show Fin (Mi.bu (ss.length<64) _) _ from h);obtain⟨e1,e2⟩:=Ke e r1;subst e2;refine⟨p,ss,rfl,l1,h64,λa ha=>?_⟩;have r2:P2 (Rep Hv) ((Mi.jN ss).map D.str) ((Mi.jN ss).map V.str):=by
    generalize Mi.jN ss=l
    induction l with
    |nil=>exact .nil
    |cons a r ih=>exact .cons (pj.mpr rfl) ih
   obtain⟨g,k⟩:=s0 vw r2 ha;exact(Mi.jQ h) _ _ _ g k
 |[],_,h=>exact h.elim
 |[.non],_,h=>exact h.elim
 |[.bl _],_,h=>exact h.elim
 |[.int _],_,h=>exact h.elim
 |[.str _],_,h=>exact h.elim
 |[.tup _],_,h=>exact h.elim
 |d::_::_,_,h=>cases d<;>exact(show False from h).elim
end A
namespace Mi
open PySem
end Mi
namespace A
open PySem L2 PyProof.Rows So
open Mi (D W Rs Fin qI aG yy Out Tg pJ)
variable[Tb:dm]
end A
namespace L2
open PySem PySem.Spec PyProof.Rows
end L2
namespace Mi
open PySem
end Mi
namespace A
open PySem L2 PyProof.Rows So
open Mi (D W Rs Fin aG Out Tg)
variable[Tb:dm]
end A
namespace Mi
open PySem
end Mi
namespace L2
open PySem PySem.Spec PyProof.Rows
end L2
namespace A
open PySem L2 PyProof.Rows
open Mi (D W Rs Fin aG)
variable[Tb:dm]
end A
namespace Mi
open PySem
end Mi
namespace L2
open PySem PySem.Spec PyProof.Rows
end L2
namespace A
open PySem L2 PyProof.Rows
open Mi (D W Rs Fin aG)
variable[Tb:dm]
end A
namespace Mi
open PySem
end Mi
namespace A
open PySem L2 PyProof.Rows So
open Mi (D W Rs Fin aG Out Tg)
variable[Tb:dm]
end A
namespace L2
end L2
namespace So
end So
namespace Mi
open PySem
end Mi
namespace L2
end L2
namespace A
end A
namespace L2
end L2
namespace A
end A
namespace L2
end L2
namespace Rv
end Rv
namespace L2
end L2
namespace A
end A
namespace So
end So
namespace L2
end L2
namespace A
end A
namespace Mi
open PySem
end Mi
namespace L2
open PySem PySem.Spec PyProof.Rows
open PySem.Builtin PySem.Builtin.Str
end L2
namespace A
open PySem L2 PyProof.Rows So
open Mi (D W Rs Fin aG)
variable[Tb:dm]
end A
namespace Mi
open PySem
def Tj(ys:List Str):Str:=ys.foldl (· ++ ·) dc
end Mi
namespace L2
open PySem PySem.Spec PyProof.Rows
end L2
namespace A
open PySem L2 PyProof.Rows So
open Mi (D W Rs Fin aG)
variable[Tb:dm]
end A
namespace Mi
def vK:D->D->Rs D
 |.int i,.int j=>bu (Hk i j) (.ok (.int (i*2 ^ j.toNat)))
 |_,_=>.no
end Mi
namespace A
open PySem L2 PyProof.Rows
open Mi (D W Rs Fin aG)
variable[Tb:dm]
theorem SR:B2 qV (rI Lb λi j=>.int (i*2 ^ j.toNat)) Mi.vK:=λx y v u H Hv Q vw rx ry h=>by
 cases x with
 | int i=>cases y with
  |int j=>cases RD.int rx;cases RD.int ry;obtain⟨hz,h⟩:=Mi.dh h;exact⟨i,j,rfl,rfl,hz,h _ H Hv (.refl vw) iz⟩
  |_=>exact h.elim
 |_=>cases y<;>exact h.elim
end A
namespace Mi
def wM(i j:Nat)(a b:E):S:=λe=>(eX [a,b] e).bind λds=>match ds with
 |[x,y]=>.ok (.nx ((e.set i (ac (.d x))).set j (ac (.d y))))
 |_=>.no
end Mi
namespace A
open PySem L2 PyProof.Rows
open Mi (D W Rs Fin aG)
variable[Tb:dm]{M:Nat->Bool}{κ:Kd}{tr:TA}{a b:Mi.E}
theorem QU{α β:Type}{F:α->β->Prop}{x y:α}{vs:List β}(r:P2 F [x,y] vs):∃v w,vs=[v,w]/\F x v/\F y w:=by
 cases r with
 |cons rx r=>
  cases r with
  |cons ry r=>
   cases r;exact⟨_,_,rfl,rx,ry⟩
theorem OD(i j:Nat)(hi:M i=false)(hj:M j=false)(ha:AA M qV tr (Mi.eX [a,b])):AS M κ (J6 i j tr) (Mi.wM i j a b):=λH0 Hv0 e σ H Hv D I h=>
 ha e σ H Hv _ I.toR0 ((aG.mp h).mono λds hd vs H1 Hv1 g1 r=>by
  have key:(∃x y,ds=[x,y])\/¬ ∃x y,ds=[x,y]:=Classical.em _;rcases key with ⟨x,y,rfl⟩|no
  ·obtain⟨v,w,rfl,rx,ry⟩:=QU r;exact⟨v,w,rfl,hd _ H1 Hv1 (((I.grow g1).set hi rx).set hj ry) g1.vis⟩
  ·exfalso
   match ds,no,hd with
   |[],_,hd=>exact hd
   |[_],_,hd=>exact hd
   |[x,y],no,_=>exact no ⟨x,y,rfl⟩
   |_::_::_::_,_,hd=>exact hd)
end A
namespace Mr
open PySem Mi
def ID:S:=
 (cJ (br (mV 1)) (.n 2)
 (bp (cB (m2 cz (mV 2) (mV 0)))
 iK
 bz))
def iA:Fn:=ee 2 3 ID
def JN:S:=
 (aD (i3 (aR iA [(wD (m2 aw (mV 0) (mC (.int 0)))),(wD (mN b9 [(mV 1)]))]))
 (bA (wD (mN jR [(bV [ac 1,af,af] (br (m2 aw (mV 0) (mC (.int 1)))) (.t [1,2]) (cB (m2 bM (mV 2) (mV 0))) (mV 1))]))))
def jq:Fn:=ee 2 2 JN
def Fp:S:=
 (aD (cJ (br (m2 aw (mV 0) (mC (.int 0)))) (.n 2)
 (bp (cH (cB (m2 cz (mV 2) (mV 1))) (cB (mN tG [(bV [ac 1,af] (br (aR jq [(wD (mV 0)),(wD (mV 2))])) (.n 1) dz (m2 b8 (mV 1) (mV 0)))])))
 (bA (wD (mV 2)))
 bz))
 (bA (wD (mC .non))))
def n9:Fn:=ee 2 3 Fp
def EZ:S:=
 (aD (aS 1 (mN b9 []))
 (aD (aS 2 (pb n9 [(wD (mV 0)),(wD (mV 1))]))
 (aD (qt 100 (cB (m2 oO (mV 2) (mC .non)))
 (aD (dI 1 (mV 2))
 (aS 2 (pb n9 [(wD (mV 0)),(wD (mV 1))]))))
 (bA (wV 1)))))
def uM:Fn:=fS 1 3 EZ
def JO:S:=
 (aD (aS 1 (m2 dCat (mN ie [(dP fE (mV 0) af (ac (mC (.int 63))))]) (m2 z6 (mN b9 [(mC (.int 60023))]) (mN mS [(m2 bM (mN cI [(mV 0)]) (mC (.int 0)))]))))
 (aD (aS 2 (mN cI [(mV 1)]))
 (aD (aS 3 (m2 bL (m2 aw (mV 1) (mC (.int 0))) (mC (.int 2))))
 (aD (tD 1 (mC (.int 0)) (m2 cW (m2 aw (mV 1) (mC (.int 0))) (mC (.int 2))))
 (aD (aS 4 (mN ie [(mV 1)]))
 (aD (aS 5 (mN b9 []))
 (aD (cJ (fj (mC (.int 63))) (.n 6)
 (aD (aS 7 (m2 bL (mV 6) (mV 2)))
 (aD (aS 8 (m2 bL (m2 de (m2 a9 (m2 a9 (m2 bL (m2 aw (mV 1) (mV 7)) (mC (.int 2147483647))) (mC (.int 12011))) (m2 de (mV 6) (mV 6))) (m2 a9 (mC (.int 48271)) (m2 de (mC (.int 614)) (mV 6)))) (mC (.int 2147483647))))
 (bp (cH (cB (m2 bM (mV 3) (mC (.int 0)))) (cB (m2 iu (m2 aw (mV 4) (mV 7)) (mC (.int 0)))))
 (aD (dI 5 (m2 bL (m2 aw (mV 4) (mV 7)) (mC (.int 2147483647))))
 (tD 4 (mV 7) (m2 cW (m2 aw (mV 4) (mV 7)) (mC (.int 2147483647)))))
 (dI 5 (m2 bL (m2 de (m2 a9 (m2 a9 (mV 8) (m2 de (mC (.int 709)) (mV 6))) (mC (.int 5))) (m2 a9 (mC (.int 69621)) (m2 de (m2 de (mC (.int 18)) (mV 6)) (mV 6)))) (mC (.int 2147483629))))))))
 (bA (wV 5)))))))))
def vm:Fn:=fS 1 9 JO
def EJ:S:=
 (aD (aS 2 (mC (.str "etaoinshrdlucmfwypvbgkqjxz")))
 (aD (bp (cB (m2 gr (m2 bL (mV 0) (mC (.int 4))) (mC (.int 2))))
 (aD (aS 3 (m2 xG (mC (.str "")) (bV [ac 2,ac 0,af] (fj (mC (.int 8))) (.n 2) dz (m2 aw (mV 0) (m2 bL (m2 cW (mV 1) (m2 a9 (mC (.int 4)) (m2 de (mC (.int 3)) (mV 2)))) (mC (.int 26)))))))
 (aD (bp (cB (m2 bM (m2 bL (mV 0) (mC (.int 4))) (mC (.int 0))))
 (bA (wD (bV [ac 3,af] (fj (mV 1)) (.n 1) dz (dP fE (mV 0) af (ac (m2 a9 (mV 1) (mC (.int 1))))))))
 bz)
 (bA (wD (bV [ac 3,af] (fj (mV 1)) (.n 1) dz (dP fE (mV 0) (ac (m2 fJ (mC (.int 7)) (mV 1))) af))))))
 bz)
 (aD (aS 4 (m2 bL (m2 cW (mV 0) (mC (.int 4))) (mC (.int 8))))
 (aD (aS 5 (m2 xG (mC (.str "")) (bV [ac 2,ac 0,af] (fj (mV 4)) (.n 2) dz (m2 aw (mV 0) (m2 bL (m2 a9 (m2 a9 (m2 cW (mV 1) (mC (.int 32))) (m2 de (mC (.int 5)) (mV 2))) (m2 de (mV 2) (mV 2))) (mC (.int 26)))))))
 (aD (aS 6 (m2 bL (m2 cW (mV 0) (mC (.int 256))) (m2 a9 (mV 4) (mC (.int 1)))))
 (bA (wD (bV [ac 5,ac 2,ac 6,ac 0,af] (fj (mV 1)) (.n 4) dz (m2 a9 (m2 a9 (dP fE (mV 0) af (ac (mV 2))) (m2 aw (mV 1) (m2 bL (m2 a9 (m2 cW (mV 3) (mC (.int 7))) (m2 de (mC (.int 5)) (mV 4))) (mC (.int 26))))) (dP fE (mV 0) (ac (mV 2)) af))))))))))
def vz:Fn:=fS 2 7 EJ
def KS:S:=
 (aD (aS 2 (mC (.str "abcdefghijklmnopqrstuvwxyz")))
 (aD (aS 3 (mN b9 []))
 (aD (cJ (fj (mV 1)) (.n 4)
 (aD (aS 5 (m2 cW (m2 aw (mV 0) (m2 a9 (mC (.int 48)) (mV 4))) (mC (.int 6))))
 (aD (aS 6 (mC (.str "")))
 (aD (cJ (fj (m2 a9 (mC (.int 1)) (m2 bL (m2 aw (mV 0) (m2 a9 (mC (.int 48)) (mV 4))) (mC (.int 6))))) (.n 7)
 (aD (aS 6 (m2 a9 (mV 6) (m2 aw (mV 2) (m2 bL (mV 5) (mC (.int 26))))))
 (aS 5 (m2 cW (mV 5) (mC (.int 26))))))
 (dI 3 (mV 6))))))
 (aD (bp (dU (cB (m2 bM (m2 bL (m2 aw (mV 0) (mC (.int 1))) (mC (.int 2))) (mC (.int 0)))) (cB (m2 gr (m1 BP (mV 3)) (mV 1))))
 (bA (wD (aR vz [(wD (m2 cW (m2 aw (mV 0) (mC (.int 1))) (mC (.int 2)))),(wD (mV 1))])))
 bz)
 (bA (wV 3))))))
def vL:Fn:=fS 2 8 KS
def IR:S:=
 (aD (aS 2 (bV [af] (fj (mV 1)) (.n 0) dz (mV 0)))
 (aD (aS 3 (mN b9 []))
 (aD (cJ (fj (mV 1)) (.n 4)
 (aD (xF 3 2 (m2 bL (mV 0) (mN cI [(mV 2)])))
 (aS 0 (m2 cW (mV 0) (m2 fJ (mV 1) (mV 4))))))
 (bA (wV 3)))))
def qw:Fn:=fS 2 5 IR
def Hz:S:=
 (aD (aS 3 (m2 a9 (mV 1) (m2 bL (m2 aw (mV 0) (mC (.int 0))) (m2 a9 (m2 fJ (mV 2) (mV 1)) (mC (.int 1))))))
 (aD (aS 4 (aR vL [(wD (mV 0)),(wD (mV 3))]))
 (aD (aS 5 (aR qw [(wD (m2 aw (mV 0) (mC (.int 2)))),(wD (mV 3))]))
 (aD (aS 6 (m2 aw (mN b9 [(mC (.int 4)),(mC (.int 1)),(mC (.int 2)),(mC (.int 3)),(mC (.int 2)),(mC (.int 3))]) (m2 bL (m2 aw (mV 0) (mC (.int 3))) (mC (.int 6)))))
 (aD (aS 7 (mN b9 []))
 (aD (cJ (fj (mV 3)) (.n 8)
 (cJ (fj (mV 3)) (.n 9)
 (aD (aS 10 (m2 aw (mV 0) (m2 a9 (m2 a9 (mC (.int 4)) (m2 cW (m2 de (mN gT [(mV 8),(mV 9)]) (m2 fJ (mN gT [(mV 8),(mV 9)]) (mC (.int 1)))) (mC (.int 2)))) (mN k8 [(mV 8),(mV 9)]))))
 (bp (cH (cB (m2 gr (m2 aw (mV 5) (mV 8)) (m2 aw (mV 5) (mV 9)))) (cB (m2 gr (m2 bL (mV 10) (mC (.int 4))) (mV 6))))
 (dI 7 (mN dTup [(m2 aw (mV 4) (mV 8)),(m2 aw (mV 4) (mV 9))]))
 bz))))
 (bA (wD (mN dTup [(mN jR [(mV 4)]),(mN jR [(mV 7)])])))))))))
def tq:Fn:=ee 3 11 Hz
def Iq:S:=
 (aD (vf 3 (FZ (mV 2) (mC (.bl true))))
 (aD (aS 4 (mN b9 [(mV 2)]))
 (aD (qt 20 (lG (mV 4))
 (aD (wZ 5 4)
 (cJ (br (mV 1)) (.t [6,7])
 (bp (cH (cB (m2 bM (mV 6) (mV 5))) (cB (oG 3 (mV 7))))
 (aD (f9 3 (mV 7) (mC (.bl true)))
 (dI 4 (mV 7)))
 bz))))
 (bA (wD (bV [ac 3,af] (br (mV 0)) (.n 1) (cB (lZ 0 (mV 1))) (mV 1)))))))
def uz:Fn:=fS 3 8 Iq
def Hu:S:=
 (aD (i3 (aR iA [(wD (m2 aw (mV 0) (mC (.int 0)))),(wD (mN b9 [(mV 1)]))]))
 (bA (wD (aR uz [(wD (m2 aw (mV 0) (mC (.int 0)))),(wD (m2 aw (mV 0) (mC (.int 1)))),(wD (mV 1))]))))
def qO:Fn:=fS 2 2 Hu
def EK:S:=(bA (wD (oP (m2 b8 (mN dTup [(mV 1),(mV 2)]) (m2 aw (mV 0) (mC (.int 1)))) (m2 b8 (mN dTup [(mV 2),(mV 1)]) (m2 aw (mV 0) (mC (.int 1)))))))
def qq:Fn:=ee 3 3 EK
def HU:S:=(bA (wD (m2 xt (aR jq [(wD (mV 0)),(wD (mV 2))]) (m2 zW (aR jq [(wD (mV 0)),(wD (mV 1))]) (mN dTup [(mV 1)])))))
def pN:Fn:=ee 3 3 HU
def Fl:S:=(bA (wD (bV [ac 0,af,af] (br (m2 aw (mV 0) (mC (.int 1)))) (.t [1,2]) (cB (aR pN [(wD (mV 0)),(wD (mV 1)),(wD (mV 2))])) (mN dTup [(mV 1),(mV 2)]))))
def sJ:Fn:=fS 1 1 Fl
def K0:S:=(bA (wD (bV [ac 1,af] (br (mV 0)) (.n 1) dz (m2 aw (mN b9 [(mV 1),(mN dTup [(m2 aw (mV 1) (mC (.int 1))),(m2 aw (mV 1) (mC (.int 0)))])]) (mN mS [(m2 bM (mV 1) (mV 0))])))))
def kT:Fn:=fS 2 2 K0
def Jy:S:=
 (aD (aS 2 (mN ie [(mV 0)]))
 (aD (cJ (fj (mN cI [(mV 0)])) (.n 3)
 (aD (aS 4 (bV [ac 2,af,af] (br (mV 1)) (.t [1,2]) (cB (m2 b8 (mV 1) (mV 0))) (mV 2)))
 (aS 2 (bV [ac 4,af] (br (mV 2)) (.n 1) (cB (m2 b8 (mV 1) (mV 0))) (mV 1)))))
 (bA (wD (m2 iu (mN cI [(mV 2)]) (mC (.int 0)))))))
def kP:Fn:=ee 2 5 Jy
def Ja:S:=
 (aD (bp (dU (cB (m2 bM (m2 bL (mV 2) (mC (.int 3))) (mC (.int 0)))) (cB (m2 bM (mN cI [(mV 1)]) (mC (.int 0)))))
 (aD (aS 3 (mN b9 []))
 (aD (cJ (br (mV 0)) (.n 4)
 (cJ (br (mV 0)) (.n 5)
 (bp (cH (cB (m2 d6 (mV 4) (mV 5))) (cH (cB (m2 cz (mN dTup [(mV 4),(mV 5)]) (mV 1))) (cB (m2 cz (mN dTup [(mV 5),(mV 4)]) (mV 1)))))
 (dI 3 (mN dTup [(mV 4),(mV 5)]))
 bz)))
 (aD (aS 3 (bV [ac 0,ac 1,af] (br (mV 3)) (.n 2) (dE (cB (aR kP [(wD (mV 0)),(wD (m2 a9 (mV 1) (mN b9 [(mV 2)])))]))) (mV 2)))
 (aD (bp (cB (m2 iu (mN cI [(mV 3)]) (mC (.int 0))))
 (bA (wD (m2 a9 (mV 1) (mN b9 [(m2 aw (mV 3) (m2 bL (m2 cW (mV 2) (mC (.int 3))) (mN cI [(mV 3)])))]))))
 bz)
 (bA (wD (dP fE (mV 1) (ac (mC (.int 1))) af)))))))
 bz)
 (aD (aS 6 (m2 bL (m2 cW (mV 2) (mC (.int 3))) (mN cI [(mV 1)])))
 (aD (aS 7 (aR kT [(wD (mV 1)),(wD (m2 aw (mV 1) (mV 6)))]))
 (aD (bp (dU (cB (m2 bM (m2 bL (mV 2) (mC (.int 3))) (mC (.int 1)))) (cB (aR kP [(wD (mV 0)),(wD (mV 7))])))
 (bA (wD (m2 a9 (dP fE (mV 1) af (ac (mV 6))) (dP fE (mV 1) (ac (m2 a9 (mV 6) (mC (.int 1)))) af))))
 bz)
 (bA (wD (mV 7)))))))
def r6:Fn:=ee 3 8 Ja
def Ih:S:=
 (aD (aS 2 (mN b9 []))
 (aD (cJ (br (mV 0)) (.n 3)
 (cJ (br (mV 0)) (.n 4)
 (bp (cB (m2 b8 (mN dTup [(mV 3),(mV 4)]) (mV 1)))
 (dI 2 (mN dTup [(mV 3),(mV 4)]))
 bz)))
 (bA (wD (mN dTup [(mN jR [(mV 0)]),(mN jR [(mV 2)])])))))
def qW:Fn:=ee 2 5 Ih
def KJ:S:=
 (aD (i3 (aR iA [(wD (m2 aw (mV 0) (mC (.int 0)))),(wD (mN b9 [(mV 1),(mV 2)]))]))
 (bA (wD (oP (m2 b8 (mN dTup [(mV 1),(mV 2)]) (m2 aw (mV 0) (mC (.int 1)))) (m2 b8 (mN dTup [(mV 2),(mV 1)]) (m2 aw (mV 0) (mC (.int 1))))))))
def mY:Fn:=ee 3 3 KJ
def Hm:S:=(bA (wD (ww [0] (mV 1) (bV [ac 1,af] (br (mV 0)) (.n 1) dz (m2 uZ (mV 0) (mV 1))))))
def mv:Fn:=fS 2 2 Hm
def IB:S:=
 (aD (aS 1 (mN b9 []))
 (aD (cJ (sF (mV 0)) (.t [2,3])
 (lF 1 (bV [ac 3,af] (br (dP qT (mV 0) (ac (m2 a9 (mV 2) (mC (.int 1)))) af)) (.n 1) dz (mN dTup [(mV 0),(mV 1)]))))
 (bA (wV 1))))
def nH:Fn:=fS 1 4 IB
def F8:S:=(bA (wD (bV [ac 0,af,af] (br (aR nH [(wD (m2 aw (mV 0) (mC (.int 0))))])) (.t [1,2]) (cB (aR mY [(wD (mV 0)),(wD (mV 1)),(wD (mV 2))])) (mN dTup [(mV 1),(mV 2)]))))
def lO:Fn:=fS 1 1 F8
def Kv:S:=
 (aD (qy (.t [1,2]) (mV 0))
 (aD (aS 3 (mN b9 []))
 (aD (cJ (br (aR nH [(wD (mV 1))])) (.t [4,5])
 (bp (dE (cB (aR mY [(wD (mV 0)),(wD (mV 4)),(wD (mV 5))])))
 (aD (aS 6 (bV [ac 2,ac 4,ac 5,af] (br (mV 1)) (.n 3) (cH (cB (m2 b8 (mN dTup [(mV 1),(mV 3)]) (mV 0))) (cB (m2 b8 (mN dTup [(mV 2),(mV 3)]) (mV 0)))) (mV 3)))
 (lF 3 (bV [ac 4,ac 5,af] (br (mV 6)) (.n 2) dz (mN dTup [(mV 0),(mV 2),(mV 1)]))))
 bz))
 (bA (wD (aR mv [(wD (mV 1)),(wD (mV 3))]))))))
def lP:Fn:=fS 1 7 Kv
def FO:S:=(bA (wD (sS (tp oi oi (mC (.int 1)) (mN cI [(mV 0)]) (mC (.int 8))) (mN tG [(bV [af] (br (mV 0)) (.n 0) dz (m2 b8 (mV 0) (mC (.str "abcdefghijklmnopqrstuvwxyz"))))]))))
def j9:Fn:=ee 1 1 FO
def JU:S:=
 (aD (bp (dE (cB (tp oi oi (mC (.int 1)) (mN cI [(mV 0)]) (mC (.int 8)))))
 iK
 bz)
 (aD (vf 1 (λ_=>.ok (.dk [])))
 (cJ (br (mV 0)) (.n 2)
 (aD (bp (dE (cB (aR j9 [(wD (mV 2))])))
 iK
 bz)
 (aD (bp (cB (lZ 1 (mV 2)))
 iK
 bz)
 (f9 1 (mV 2) (mC (.bl true))))))))
def vD:Fn:=ee 1 3 JU
def IA:S:=
 (aD (vf 2 (λ_=>.ok (.dt [])))
 (cJ (br (mV 1)) (.t [3,4])
 (aD (i3 (aR iA [(wD (mV 0)),(wD (mN b9 [(mV 3),(mV 4)]))]))
 (aD (bp (cB (m2 bM (mV 3) (mV 4)))
 iK
 bz)
 (aD (bp (cB (lZ 2 (mN dTup [(mV 3),(mV 4)])))
 iK
 bz)
 (aD (f9 2 (mN dTup [(mV 3),(mV 4)]) (mC (.bl true)))
 (f9 2 (mN dTup [(mV 4),(mV 3)]) (mC (.bl true)))))))))
def vt:Fn:=ee 2 5 IA
def Fh:S:=
 (aD (aS 1 (aR uM [(wD (mV 0))]))
 (aD (aS 2 (bV [ac 1,af] (br (m2 aw (mV 0) (mC (.int 0)))) (.n 1) (cB (m2 cz (mV 1) (mV 0))) (mV 1)))
 (bp (lG (mV 2))
 iK
 bz)))
def uH:Fn:=ee 1 3 Fh
def He:S:=
 (aD (i3 (aR vD [(wD (mV 0))]))
 (aD (i3 (aR vt [(wD (mV 0)),(wD (mV 1))]))
 (aD (aS 2 (bV [af,af] (br (mV 1)) (.t [0,1]) dz (mN dTup [(mV 0),(mV 1)])))
 (aD (aS 3 (mN dTup [(mN jR [(mV 0)]),(mN jR [(aR mv [(wD (mV 0)),(wD (mV 2))])])]))
 (aD (i3 (aR uH [(wD (mV 3))]))
 (bA (wD (mV 3))))))))
def sY:Fn:=ee 2 4 He
def E6:S:=
 (aD (qy (.t [3,4]) (mV 0))
 (aD (i3 (aR iA [(wD (mV 3)),(wD (mN b9 [(mV 1),(mV 2)]))]))
 (aD (bp (cB (m2 cz (mN dTup [(mV 1),(mV 2)]) (mV 4)))
 iK
 bz)
 (aD (bp (dE (cB (aR pN [(wD (mV 0)),(wD (mV 1)),(wD (mV 2))])))
 iK
 bz)
 (aD (aS 5 (bV [ac 1,ac 2,af] (br (mV 4)) (.n 2) (cB (m2 d6 (mV 2) (mN dTup [(mV 0),(mV 1)]))) (mV 2)))
 (bA (wD (aR sY [(wD (mV 3)),(wD (m2 a9 (mV 5) (mN b9 [(mN dTup [(mV 2),(mV 1)])])))]))))))))
def sw:Fn:=ee 3 6 E6
def Jp:S:=(bA (wD (bV [ac 1,af,af] (br (mV 0)) (.t [1,2]) (cB (m2 bM (mV 2) (mV 0))) (mV 1))))
def mU:Fn:=fS 2 2 Jp
def EE:S:=
 (aD (aS 1 (mN b9 []))
 (aD (cJ (br (mV 0)) (.t [2,3])
 (bp (cB (m2 bM (mN mQ [(aR mU [(wD (mV 0)),(wD (mV 3))])]) (mN mQ [(m2 a9 (aR mU [(wD (mV 0)),(wD (mV 2))]) (mN b9 [(mV 2)]))])))
 (dI 1 (mN dTup [(mV 2),(mV 3)]))
 bz))
 (bA (wV 1))))
def qY:Fn:=fS 1 4 EE
def xB:S:=
 (bp (cB (m2 d6 (m2 aw (mV 0) (mC (.int 0))) (m2 aw (mV 1) (mC (.int 0)))))
 iK
 bz)
def lC:Fn:=ee 2 2 xB
def FR:S:=
 (aD (i3 (aR lC [(wD (mV 0)),(wD (mV 1))]))
 (bA (wD (sS (m2 bM (aR lO [(wD (mV 0))]) (aR lO [(wD (mV 1))])) (m2 bM (aR lP [(wD (mV 0))]) (aR lP [(wD (mV 1))]))))))
def vj:Fn:=ee 2 2 FR
def Gv:S:=
 (aD (bp (dE (cB (aR vj [(wD (mV 0)),(wD (mV 1))])))
 iK
 bz)
 (aD (aS 2 (mN b9 []))
 (aD (aS 3 (mV 0))
 (aD (qt 100 (cB (m2 d6 (mV 3) (mV 1)))
 (aD (aS 4 (m2 aw (bV [ac 1,af] (br (aR sJ [(wD (mV 3))])) (.n 1) (cB (m2 cz (mV 1) (m2 aw (mV 0) (mC (.int 1))))) (mV 1)) (mC (.int 0))))
 (aD (dI 2 (mV 4))
 (aS 3 (aR sw [(wD (mV 3)),(wD (m2 aw (mV 4) (mC (.int 0)))),(wD (m2 aw (mV 4) (mC (.int 1))))])))))
 (bA (wV 2))))))
def qX:Fn:=fS 2 5 Gv
def K4:S:=
 (aD (aS 2 (mN cI [(mV 0)]))
 (aD (aS 3 (aR qw [(wD (mV 1)),(wD (mV 2))]))
 (aD (cJ (fj (mV 2)) (.n 4)
 (aS 1 (m2 cW (mV 1) (m2 fJ (mV 2) (mV 4)))))
 (aD (aS 5 (mN b9 []))
 (aD (cJ (fj (mV 2)) (.n 6)
 (cJ (fj (mV 2)) (.n 4)
 (aD (aS 7 (m2 a9 (m2 cW (m2 de (mN gT [(mV 6),(mV 4)]) (m2 fJ (mN gT [(mV 6),(mV 4)]) (mC (.int 1)))) (mC (.int 2))) (mN k8 [(mV 6),(mV 4)])))
 (bp (cH (cB (m2 gr (m2 aw (mV 3) (mV 6)) (m2 aw (mV 3) (mV 4)))) (cB (m2 bM (m2 bL (m2 cW (mV 1) (m2 vK (mC (.int 1)) (mV 7))) (mC (.int 2))) (mC (.int 1)))))
 (dI 5 (mN dTup [(m2 aw (mV 0) (mV 6)),(m2 aw (mV 0) (mV 4))]))
 bz))))
 (bA (wD (mN dTup [(mN jR [(mV 0)]),(mN jR [(mV 5)])]))))))))
def sT:Fn:=ee 2 8 K4
def K7:S:=
 (aD (bp (cB (m2 bM (m2 bL (mV 1) (mC (.int 3))) (mC (.int 0))))
 (bA (wD (aR sT [(wD (mN ie [(m2 aw (mV 0) (mC (.int 0)))])),(wD (m2 cW (mV 1) (mC (.int 3))))])))
 bz)
 (aD (aS 2 (mN ie [(m2 aw (mV 0) (mC (.int 1)))]))
 (aD (aS 3 (m2 bL (m2 cW (mV 1) (mC (.int 3))) (mC (.int 7))))
 (aD (aS 4 (m2 bL (m2 cW (mV 1) (mC (.int 21))) (mC (.int 2))))
 (aD (aS 1 (m2 cW (mV 1) (mC (.int 42))))
 (aD (cJ (fj (mV 3)) (.n 5)
 (aD (aS 6 (aR qY [(wD (mV 2))]))
 (bp (cB (m2 iu (mN cI [(mV 6)]) (mC (.int 0))))
 (aD (aS 2 (aR kT [(wD (mV 2)),(wD (m2 aw (mV 6) (m2 bL (mV 1) (mN cI [(mV 6)]))))]))
 (aS 1 (m2 cW (mV 1) (mN cI [(mV 6)]))))
 bz)))
 (aD (bp (cB (m2 bM (mV 4) (mC (.int 1))))
 (aS 2 (aR r6 [(wD (m2 aw (mV 0) (mC (.int 0)))),(wD (mV 2)),(wD (mV 1))]))
 bz)
 (bA (wD (aR qW [(wD (m2 aw (mV 0) (mC (.int 0)))),(wD (mV 2))]))))))))))
def qg:Fn:=ee 2 7 K7
def Ko:S:=
 (aD (aS 2 (mN ie [(mV 1)]))
 (aD (cJ (fj (mN cI [(m2 aw (mV 0) (mC (.int 0)))])) (.n 3)
 (cJ (br (m2 aw (mV 0) (mC (.int 1)))) (.t [4,5])
 (bp (cH (cB (m2 b8 (mV 5) (mV 2))) (cB (m2 cz (mV 4) (mV 2))))
 (dI 2 (mV 4))
 bz)))
 (bA (wV 2))))
def qM:Fn:=fS 2 6 Ko
def Ez:S:=
 (aD (aS 4 (aR qM [(wD (mV 0)),(wD (m2 a9 (mN b9 [(mV 1),(mV 2)]) (mN ie [(mV 3)])))]))
 (aD (vf 5 (λ_=>.ok (.dk [])))
 (aD (cJ (br (mV 4)) (.n 6)
 (f9 5 (mV 6) (m2 a9 (mN b9 [(mV 6)]) (bV [ac 6,af,af] (br (m2 aw (mV 0) (mC (.int 1)))) (.t [1,2]) (cB (m2 bM (mV 2) (mV 0))) (mV 1)))))
 (aD (aS 7 (mN b9 [(mV 1)]))
 (aD (cJ (fj (mN cI [(mV 4)])) (.n 8)
 (cJ (br (mV 4)) (.n 6)
 (aD (aS 9 (bV [ac 7,af] (br (mj 5 (mV 6))) (.n 1) (cB (m2 b8 (mV 1) (mV 0))) (mV 1)))
 (bp (cB (m2 iu (mN cI [(mV 9)]) (mC (.int 0))))
 (aS 7 (m2 a9 (mV 7) (bV [ac 7,ac 3,af] (br (mj 5 (mV 6))) (.n 2) (cH (cB (m2 cz (mV 2) (mV 0))) (cB (m2 cz (mV 2) (mV 1)))) (mV 2))))
 bz))))
 (bA (wD (m2 cz (mV 2) (mV 7)))))))))
def jX:Fn:=ee 4 10 Ez
def KU:S:=
 (aD (aS 1 (mN b9 [(mN b9 [])]))
 (aD (cJ (br (mV 0)) (.n 2)
 (aS 1 (m2 a9 (mV 1) (bV [ac 2,af] (br (mV 1)) (.n 1) dz (m2 a9 (mV 1) (mN b9 [(mV 0)]))))))
 (bA (wD (mV 1)))))
def pI:Fn:=ee 1 3 KU
def G8:S:=
 (aD (aS 1 (mN b9 []))
 (aD (cJ (sF (m2 aw (mV 0) (mC (.int 0)))) (.t [2,3])
 (cJ (br (dP qT (m2 aw (mV 0) (mC (.int 0))) (ac (m2 a9 (mV 2) (mC (.int 1)))) af)) (.n 4)
 (aD (aS 5 (bV [ac 3,ac 4,af] (br (m2 aw (mV 0) (mC (.int 0)))) (.n 2) (cH (cB (m2 d6 (mV 2) (mV 0))) (cB (m2 d6 (mV 2) (mV 1)))) (mV 2)))
 (aS 1 (m2 a9 (mV 1) (bV [ac 0,ac 3,ac 4,af] (br (aR pI [(wD (mV 5))])) (.n 3) dz (aR jX [(wD (mV 0)),(wD (mV 1)),(wD (mV 2)),(wD (mV 3))])))))))
 (bA (wD (mV 1)))))
def k4:Fn:=ee 1 6 G8
def ET:S:=
 (aD (aS 2 (mN b9 []))
 (aD (cJ (br (mN dTup [(mN dTup [(aR lO [(wD (mV 0))]),(aR lO [(wD (mV 1))])]),(mN dTup [(aR lP [(wD (mV 0))]),(aR lP [(wD (mV 1))])])])) (.t [3,4])
 (aD (lF 2 (bV [ac 3,af] (br (mV 4)) (.n 1) (cB (m2 cz (mV 1) (mV 0))) (mN dTup [(mN ie [(mV 1)]),(mC (.bl true))])))
 (lF 2 (bV [ac 4,af] (br (mV 3)) (.n 1) (cB (m2 cz (mV 1) (mV 0))) (mN dTup [(mN ie [(mV 1)]),(mC (.bl false))])))))
 (bA (wV 2))))
def uY:Fn:=fS 2 5 ET
def FV:S:=
 (aD (aS 3 (rR (cB (m2 b8 (mV 1) (aR qO [(wD (mV 0)),(wD (mV 2))]))) (mV 1) (mV 2)))
 (bA (wD (mN ie [(aR jq [(wD (mV 0)),(wD (mV 3))])]))))
def rW:Fn:=fS 3 4 FV
def Fw:S:=
 (aD (bp (dU (dE (cB (m1 (iG ["list"]) (mV 1)))) (dU (cB (m2 gr (mN cI [(mV 1)]) (mC (.int 2)))) (dU (cB (m2 d6 (m2 aw (mV 1) (mC (.int 0))) (mV 2))) (cB (m2 d6 (m2 aw (mV 1) (m1 sK (mC (.int 1)))) (mV 3))))))
 (bA (wD (mC (.bl false))))
 bz)
 (aD (cJ (fj (mN cI [(mV 1)])) (.n 5)
 (aD (bp (dU (dE (cB (m1 (iG ["str"]) (m2 aw (mV 1) (mV 5))))) (dU (cB (m2 cz (m2 aw (mV 1) (mV 5)) (m2 aw (mV 0) (mC (.int 0))))) (cB (m2 b8 (m2 aw (mV 1) (mV 5)) (dP fE (mV 1) af (ac (mV 5)))))))
 (bA (wD (mC (.bl false))))
 bz)
 (bp (cH (cB (m2 iu (mV 5) (mC (.int 0)))) (dE (cB (aR qq [(wD (mV 0)),(wD (m2 aw (mV 1) (m2 fJ (mV 5) (mC (.int 1))))),(wD (m2 aw (mV 1) (mV 5)))]))))
 (bA (wD (mC (.bl false))))
 bz)))
 (aD (aS 6 (aR qM [(wD (mV 0)),(wD (mV 4))]))
 (aD (cJ (uI (mC (.int 1)) (m2 fJ (mN cI [(mV 1)]) (mC (.int 1)))) (.n 5)
 (bp (cH (cB (m2 b8 (mN dTup [(m2 aw (mV 1) (m2 fJ (mV 5) (mC (.int 1)))),(m2 aw (mV 1) (mV 5))]) (m2 aw (mV 0) (mC (.int 1))))) (cB (m2 b8 (mN dTup [(m2 aw (mV 1) (m2 a9 (mV 5) (mC (.int 1)))),(m2 aw (mV 1) (mV 5))]) (m2 aw (mV 0) (mC (.int 1))))))
 (bp (cB (m2 cz (m2 aw (mV 1) (mV 5)) (mV 6)))
 (bA (wD (mC (.bl false))))
 bz)
 (bp (cB (m2 b8 (m2 aw (mV 1) (mV 5)) (mV 4)))
 (bA (wD (mC (.bl false))))
 bz)))
 (bA (wD (mC (.bl true))))))))
def qL:Fn:=ee 5 7 Fw
def I0:S:=
 (aD (bp (dU (dE (cB (m1 (iG ["tuple"]) (mV 0)))) (cB (m2 d6 (mN cI [(mV 0)]) (mC (.int 5)))))
 (bA (wD (mC (.bl false))))
 bz)
 (aD (qy (.t [2,3,4,5,6]) (mV 0))
 (aD (bp (dU (dE (cB (m1 (iG ["list"]) (mV 4)))) (dE (cB (m1 (iG ["bool"]) (mV 5)))))
 (bA (wD (mC (.bl false))))
 bz)
 (aD (aS 7 (m2 a9 (mN b9 [(mV 2),(mV 3)]) (mV 4)))
 (aD (cJ (fj (mN cI [(mV 7)])) (.n 8)
 (bp (dU (dE (cB (m1 (iG ["str"]) (m2 aw (mV 7) (mV 8))))) (dU (cB (m2 cz (m2 aw (mV 7) (mV 8)) (m2 aw (m2 aw (mV 1) (mC (.int 0))) (mC (.int 0))))) (cB (m2 b8 (m2 aw (mV 7) (mV 8)) (dP fE (mV 7) af (ac (mV 8)))))))
 (bA (wD (mC (.bl false))))
 bz))
 (aD (aS 9 (m2 aw (mV 1) (mN mS [(Be (mV 5))])))
 (aD (aS 10 (m2 aw (mV 1) (mN mS [(mV 5)])))
 (bA (wD (sS (aR jX [(wD (mV 9)),(wD (mV 2)),(wD (mV 3)),(wD (mV 4))]) (aR qL [(wD (mV 10)),(wD (mV 6)),(wD (mV 2)),(wD (mV 3)),(wD (mV 4))])))))))))))
def qH:Fn:=ee 2 11 I0
def HB:S:=
 (aD (bp (dE (cB (m1 (iG ["list"]) (mV 0))))
 (bA (wD (mC (.bl false))))
 bz)
 (aD (aS 4 (mN ie [(m2 aw (mV 1) (mC (.int 1)))]))
 (aD (cJ (br (mV 0)) (.n 5)
 (aD (bp (cB (m2 cz (mV 5) (mV 4)))
 (bA (wD (mC (.bl false))))
 bz)
 (aD (aS 4 (aR kT [(wD (mV 4)),(wD (mV 5))]))
 (bp (dU (cB (aR kP [(wD (m2 aw (mV 1) (mC (.int 0)))),(wD (mV 4))])) (cB (m2 d6 (aR k4 [(wD (mN dTup [(m2 aw (mV 1) (mC (.int 0))),(mN jR [(mV 4)])]))]) (mV 3))))
 (bA (wD (mC (.bl false))))
 bz))))
 (bA (wD (m2 bM (aR qW [(wD (m2 aw (mV 1) (mC (.int 0)))),(wD (mV 4))]) (mV 2)))))))
def qK:Fn:=ee 4 6 HB
def Cj:S:=
 (aD (i3 (aR lC [(wD (mV 0)),(wD (mV 1))]))
 (aD (aS 2 (aR uY [(wD (mV 0)),(wD (mV 1))]))
 (aD (bp (dE (lG (mV 2)))
 (bA (wD (mC .non)))
 bz)
 (aD (qy (.t [3,4]) (m2 aw (mV 2) (mC (.int 0))))
 (aD (wM 5 6 (m2 aw (mV 3) (mC (.int 0))) (m2 aw (mV 3) (m1 sK (mC (.int 1)))))
 (aD (aS 7 (aR rW [(wD (rR (lG (mV 4)) (mV 0) (mV 1))),(wD (mV 5)),(wD (mV 6))]))
 (bA (wD (mN dTup [(mV 5),(mV 6),(mV 7),(mV 4),(mV 3)])))))))))
def kC:Fn:=ee 2 8 Cj
def Kl:S:=
 (aD (aS 1 (aR vm [(wD (mV 0))]))
 (aD (aS 2 (aR tq [(wD (mV 1)),(wD (mC (.int 1))),(wD (m2 aw (mN b9 [(mC (.int 4)),(mC (.int 4)),(mC (.int 4)),(mC (.int 5))]) (m2 bL (m2 aw (mV 1) (mC (.int 33))) (mC (.int 4)))))]))
 (aD (aS 3 (aR k4 [(wD (mV 2))]))
 (aD (cJ (br (dP fE (mV 1) (ac (mC (.int 39))) (ac (mC (.int 40))))) (.n 4)
 (aD (aS 5 (aR qg [(wD (mV 2)),(wD (mV 4))]))
 (bp (cB (m2 bM (mV 3) (aR k4 [(wD (mV 5))])))
 (bp (dU (cB (m2 oO (aR kC [(wD (mV 2)),(wD (mV 5))]) (mC .non))) (dE (cB (aR qK [(wD (aR qX [(wD (mV 2)),(wD (mV 5))])),(wD (mV 2)),(wD (mV 5)),(wD (mV 3))]))))
 (bA (wD (mC (.bl false))))
 bz)
 (bp (dE (cB (aR qH [(wD (aR kC [(wD (mV 2)),(wD (mV 5))])),(wD (mN b9 [(mV 2),(mV 5)]))])))
 (bA (wD (mC (.bl false))))
 bz))))
 (bA (wD (mC (.bl true))))))))
def Cc:Fn:=ee 1 6 Kl
end Mr
namespace A
open PySem L2 PyProof.Rows
section
variable{P:cp}{w:bI}{K:bb}{mg:Str->Option ai}{base:bq}[Tb:dm]
variable{x qual:Str}{st:bE}{f:ak}{fd:bU}{N ps:List Str}{k:Nat}{m:Mi.S}
theorem fe(M:Nat->Bool)(F:cy K x qual st f fd)(S:cD N ps (bH st))
 (hb:∀(cdv:ai) (A:cR) (outer:List Env) (s:aB) (H:Hp) (E:XK),e5 k (A.deeper (envOfC qual (bH st) s.heap.objs.size f cdv))->N.Nodup->(A.deeper (envOfC qual (bH st) s.heap.objs.size f cdv)).units+1<cLine->(A.deeper (envOfC qual (bH st) s.heap.objs.size f cdv)).units+64<cLine ->
  ∃t,iZ (nK aX P w K mg base N qual (bH st) f cdv A outer s H E).lz (kj st) t/\AS M qV t m)
 (hM:∀i,i<ps.length->M i=false:=by decide):bN P w K mg base aX (k+1) f fd ps (bF (Mi.ee ps.length N.length m)):=
 F.ok S (λvs H Q E h=>Pa h) λcdv A outer s H vs Q E hr h=>
  let ⟨t,a,b⟩:=hb cdv A outer s H E hr S.nd (zI hr) hr.units
  ⟨t,a,PR b hM h⟩
theorem okN(M:Nat->Bool)(F:cy K x qual st f fd)(S:cD N ps (bH st))
 (hb:∀(cdv:ai) (A:cR) (outer:List Env) (s:aB) (H:Hp) (E:XK),e5 k (A.deeper (envOfC qual (bH st) s.heap.objs.size f cdv))->N.Nodup->(A.deeper (envOfC qual (bH st) s.heap.objs.size f cdv)).units+1<cLine->(A.deeper (envOfC qual (bH st) s.heap.objs.size f cdv)).units+64<cLine ->
  ∃t,iZ (nK aX P w K mg base N qual (bH st) f cdv A outer s H E).lz (kj st) t/\AS M qN t m)
 (hM:∀i,i<ps.length->M i=false:=by decide):bN P w K mg base aX (k+1) f fd ps (cO (Mi.fS ps.length N.length m)):=
 F.ok S (λvs H Q E h=>GC h) λcdv A outer s H vs Q E hr h=>
  let ⟨t,a,b⟩:=hb cdv A outer s H E hr S.nd (zI hr) hr.units
  ⟨t,a,runN b hM h⟩
end
theorem cZ{N P:List Str}{sc:gc}(a:sc.kind=.function:=by rfl)(b:sc.isCoroutine=false:=by rfl)(c:sc.isGenerator=false:=by rfl)(d:N.Nodup:=by decide +kernel)(e:N.take P.length=P:=by rfl)
 (f:∀x∈P,sc.names.lookup x=ac .local\/sc.names.lookup x=ac .cell:=by decide +kernel) (g:∀y∈sc.names,y.2≠.free:=by decide +kernel):cD N P sc:=⟨a,b,c,d,e,f,g⟩
section
variable{M:Nat->Bool}[Tb:dm]
theorem aZ(i:Nat)(hm:M i=false:=by rfl):AE M qV (io i) (Mi.mV i):=Fg i hm
theorem a6(i:Nat)(hm:M i=false:=by rfl):AW M qV (io i) (Mi.wD (Mi.mV i)):=AE.w (Fg i hm)
end
section
variable{X:Cx}{e:bw}{te:TE}{pos pos':Pos}{x:Str}
theorem pS(i:Nat)(he:PE X e te)(hN:X.N.Nodup:=by assumption)(hi:X.N[i]? = ac x:=by rfl)(hx:Loc X.env.scope x:=by exact cG rfl)(hs:swapsWith e (ac (.Name x pos')) pos.line X.env=pure false:=by rfl)
 (hf:X.fn x=true\/X.env.scope.names.lookup x=ac .local:=by first|exact .inl rfl|exact .inr rfl|assumption):PS X (.Assign [.Name x pos'] e pos) (mT te (ju i)):=kQ hN hi hx he hs hf
theorem pG(i:Nat)(hN:X.N.Nodup:=by assumption)(hi:X.N[i]? = ac x:=by rfl)(hx:Loc X.env.scope x:=by exact cG rfl)
 (hf:X.fn x=true\/X.env.scope.names.lookup x=ac .local:=by first|exact .inl rfl|exact .inr rfl|assumption):L2.PG X (.Name x pos) (ju i):=cK hN hi hx hf
theorem sI{a:Str}:[a].Nodup:=iO.mpr ⟨(λh=>nomatch h),yI⟩
theorem i8{a b:Str}(h:a≠b:=by decide):[a,b].Nodup:=iO.mpr ⟨λz=>h (eD.mp z),sI⟩
theorem pC{k k':Nat}{ps:List Str}{sp:Sp}{es:List bw}{t:TA}(C:bG X.prog X.w X.K X.mg X.base aX k x ps sp)(hr:e5 k' X.A)(ha:PA X (e::es) t)(hle:k<=k':=by decide)(hg:Gl X x:=by rfl)
 (hdb:(x==("__debug__" : Str))=false:=by decide) (he:starEach (e::es) X.env=(false,eval e X.env)::starEach es X.env:=by rfl) (hpl:(backTo pos (starEach es X.env)).any (·.1)=false:=by rfl) :
 PE X (.Call (.Name x pos') (e::es) [] pos) (oI sp [] E0 t):=Px C (hr.mono hle) hg Vg ha hdb he hpl
theorem aI(i:Nat)(hN:X.N[i]? = ac x:=by rfl)(hv:vn X.env.scope x:=by first|exact cG rfl|exact ft (cG rfl)|exact ft (ft rfl))(hd:(x==("__debug__" : Str))=false:=by decide)
 (hcd:(x==("__classdict__" : Str))=false:=by decide) (hs:starEach [Expr.Name x pos] X.env=(false,eval (.Name x pos) X.env)::starEach [] X.env:=by rfl):PA X [.Name x pos] (hV (io i) iF):=aA (pv i hN hv hd hcd) be hs
theorem pX{a b:bw}{ta tb:TE}(ha:PE X a ta)(hb:PE X b tb)(hs:GH b:=by exactλ_ _=>rfl):PE X (.Subscript a b pos) (oY (Cd X.K) ta tb):=oE oT ha hb hs
end
end A
namespace rN
open PySem L2 PyProof.Rows A
open Mr
def yd(x:Str):Str:=x ++ ".<locals>." ++ "<lambda>"
def top(i:Nat):bE:=PySem.Challenge.pw_arrowfind_k33_whole_chains_keep_partings.main.body.getD i (.Pass ⟨0,0,0,0⟩)
structure Txt(mg:Str->Option ai):Prop where
 cV:mg "len" = af
 gD:mg "range" = af
 n4:mg "max" = af
 u6:mg "min" = af
 gi:mg "tuple" = af
 fI:mg "list" = af
 rO:mg "isinstance" = af
 uQ:mg "all" = af
 WH:mg "any" = af
 Wf:mg "bool" = af
 MD:mg "str" = af
 nJ:mg "int" = af
 WI:mg "zip" = af
 ME:mg "enumerate" = af
 DB:mg "sorted" = af
 WJ:mg "reversed" = af
 DC:mg "set" = af
 Wg:∃t,mg "LETTERS" = ac (.str "abcdefghijklmnopqrstuvwxyz" t)
 Wh:∃t,mg "MOST_LETTERS" = ac (.int 8 t)
 Wi:∃t,mg "MOST_NAMES" = ac (.int 8 t)
section
variable{P:cp}{w:bI}{K:bb}{mg:Str->Option ai}{base:bq}[Tb:dm]
abbrev Bd:bE:=top 34
theorem NS:cD ["first","second"] ["first","second"] (bH Bd):=cZ
theorem Ra{f:ak}{fd:bU}(F:cy K "refuse_unlike_names" "refuse_unlike_names" Bd f fd)(T:Txt mg):bN P w K mg base aX 1 f fd ["first","second"] (bF lC):=
 fe (Mo []) F NS (λcdv A outer s H E hr nd hu a8=>by
  exact⟨_,(aV (cX (bR (mM a8) (pX (pv 0) aJ) (pX (pv 1) aJ) (c9 _))
 (aV lQ)
 dj)),
  (cY (bO (AE.p (aq m7 (AE.p (aq bj (am 0) (AE.p aH))) (AE.p (aq bj (am 1) (AE.p aH))))))
 lD
 di)⟩)
abbrev BW:bE:=top 22
theorem Uk:cD ["names","asked","name"] ["names","asked"] (bH BW):=cZ
theorem Sw{f:ak}{fd:bU}(F:cy K "refuse_strangers" "refuse_strangers" BW f fd)(T:Txt mg):bN P w K mg base aX 1 f fd ["names","asked"] (bF iA):=
 fe (Mo []) F Uk (λcdv A outer s H E hr nd hu a8=>by
  exact⟨_,(aV (d5 dN rfl (da (pv 1)) (pG 2)
 (aV (cX (bR (iL a8) (pv 2) (pv 0) rfl)
 (aV lQ)
 dj)))),
  (d3 (K:=K) (tg:=(.n 2)) (ib (aZ 1)) (by decide)
 (cY (bO (AE.p (aq iH (am 2) (am 0))))
 lD
 di))⟩)
abbrev zG:bE:=top 18
theorem Sj:cD ["net","one","other"] ["net","one","other"] (bH zG):=cZ
theorem Q6{f:ak}{fd:bU}(F:cy K "are_tied" "are_tied" zG f fd)(T:Txt mg)(jB:bG P w K mg base aX 1 "refuse_strangers" ["names","asked"] (bF iA)):bN P w K mg base aX 2 f fd ["net","one","other"] (bF mY):=
 fe (Mo []) F Sj (λcdv A outer s H E hr nd hu a8=>by
  exact⟨_,(aM (fz (pC jB hr (aA (pX (pv 0) aJ) (aA (d9 (aA (pv 1) (aI 2))) be))))
 (aV (bW (ES (jE (g9 a8) (dJ (aA (pv 1) (aI 2))) (pX (pv 0) aJ) rfl) (uy (jE (g9 a8) (dJ (aA (pv 2) (aI 1))) (pX (pv 0) aJ) rfl)))))),
  (aN (mW (AE.p (dw (aO (AE.w (aq bj (am 0) (AE.p aH))) (aO (AW.nv (AE.w (ed (aF (aZ 1) (aF (aZ 2) aW))))) bD)))))
 (dB (AE.w (JW (AE.p (aq h9 (AE.p (dL (aF (aZ 1) (aF (aZ 2) aW)))) (AE.p (aq bj (am 0) (AE.p aH))))) (aq h9 (AE.p (dL (aF (aZ 2) (aF (aZ 1) aW)))) (AE.p (aq bj (am 0) (AE.p aH))))))))⟩)
abbrev BG:bE:=top 37
theorem QQ:cD ["names","pairs","place","one"] ["names"] (bH BG):=cZ
theorem Qr{f:ak}{fd:bU}(F:cy K "pairs_of" "pairs_of" BG f fd)(T:Txt mg):bN P w K mg base aX 1 f fd ["names"] (cO nH):=
 okN (Mo [1]) F QQ (λcdv A outer s H E hr nd hu a8=>by
  exact⟨_,(aM (pS 1 (d9 be))
 (aM (d5 dN rfl (Zp.Jq rfl T.ME (pv 0)) (hW rfl (dG (pG 2) (dG (cK (i:=3) nd rfl (ft rfl)) g7)))
 (aV (fz (gQ g6 y9 za wo (pv 1) (aA (fN (N':=["one","other"]) (ρ:=[ac 3,af]) rfl (dY.of rfl (by kernel_rfl)) (da (j5 Jt (pv 0) (jP (a7 dO (pv 2) aJ)) kZ)) (λ_ _ _ _ _=>(cK (i:=1) i8 rfl (cG rfl))) (fH rfl) (λ_ _ _ _ _=>jv) (λ_ _ _ _ _=>(dJ (aA (pv 0) (aI 1))))) be)))))
 (aV (bW (pv 1))))),
  (aN (hO 1 rfl (ed aW))
 (aN (d3 (K:=K) (tg:=(.t [2,3])) (Zp.Jl (aZ 0)) (by decide)
 (yj 1 rfl (AE.nv (eE (K:=K) (tg:=(.n 1)) (fA (AE.p (jY EB (am 0) (jH (AE.p (aq dQ (am 2) (AE.p aH)))) kN))) (by decide) jn (dL (aF (aZ 0) (aF (aZ 1) aW)))))))
 (nM 1 rfl)))⟩)
abbrev Bt:bE:=top 30
theorem UI:cD ["net"] ["net"] (bH Bt):=cZ
theorem Vq{f:ak}{fd:bU}(F:cy K "ties_of" "ties_of" Bt f fd)(T:Txt mg)(uf:bG P w K mg base aX 2 "are_tied" ["net","one","other"] (bF mY))(ug:bG P w K mg base aX 1 "pairs_of" ["names"] (cO nH)):bN P w K mg base aX 3 f fd ["net"] (cO lO):=
 okN (Mo []) F UI (λcdv A outer s H E hr nd hu a8=>by
  exact⟨_,(aV (bW (fN (N':=["net","one","other"]) (ρ:=[ac 0,af,af]) rfl (dY.of rfl (by kernel_rfl)) (da (pC ug hr (aA (pX (pv 0) aJ) be))) (λ_ _ _ _ _=>(hW rfl (dG (cK (i:=1) (by show(["net","one","other"]:List Str).Nodup;decide +kernel) rfl (cG rfl)) (dG (cK (i:=2) (by show(["net","one","other"]:List Str).Nodup;decide +kernel) rfl (cG rfl)) g7)))) (qj (jD rfl (jD rfl qo jG) (qU jG))) (λ_ _ _ _ _=>(iy (gP (pC uf hr (aA (pv 0) (aA (pv 1) (aI 2))))))) (λ_ _ _ _ _=>(dJ (aA (pv 1) (aI 2))))))),
  (kY (AE.w (eE (K:=K) (tg:=(.t [1,2])) (fA (AE.np (eR (aO (AE.w (aq bj (am 0) (AE.p aH))) bD)))) (by decide) (fP (AE.p (dw (aO (a6 0) (aO (a6 1) (aO (a6 2) bD)))))) (dL (aF (aZ 1) (aF (aZ 2) aW))))))⟩)
abbrev Ac:bE:=top 21
theorem Fu:cD ["names","rows"] ["names","rows"] (bH Ac):=cZ
theorem O9{f:ak}{fd:bU}{cc TT:ak}(F:uE K "sorted_rows" "sorted_rows" Ac cc f fd)(T:Txt mg)(hB:BM mg base)(hC:lf base cc TT)(hTb:(TT,yd "sorted_rows")∈Tb.l):bN P w K mg base aX 4 f fd ["names","rows"] (cO mv):=
 F.ok Fu (λvs H Q E h=>GC h) (λA outer s H vs Q E hr h=>by
  have nd:=Fu.nd;have hu:=zI hr;have a8:=hr.units;exact⟨_,(aV (bW (SD (x := "row") (ρ:=[0]) (N':=["row","names"]) (k:=0) (qual:=yd "sorted_rows") rfl T.DB (pv 1) (hr.mono (by decide)) rfl hC hB rfl rfl rfl (sV.one rfl rfl rfl rfl rfl rfl rfl rfl) (λpm c' ctv u=>rfl) (λA f c' s H env hrl he=>by subst he;exact(fN (N':=["names","name"]) (ρ:=[ac 1,af]) rfl (dY.of rfl (by kernel_rfl)) (da (pv 0)) (λ_ _ _ _ _=>(cK (i:=1) i8 rfl (cG rfl))) (fH rfl) (λ_ _ _ _ _=>jv) (λ_ _ _ _ _=>(SF PySem.F.plainAttrs_tuple LR PySem.F.type_tuple_index U6 g6 LU PySem.F.type_list_index Vf (pv 0) (aI 1)))))))),
  _root_.A.runN (N:=["names","rows"]) (M:=Mo []) (kY (AE.w (VU hTb (by decide) (am 1) (eE (K:=K) (tg:=(.n 1)) (fA (am 0)) (by decide) jn (RJ (am 0) (am 1)))))) (by decide) h⟩)
abbrev BR:bE:=top 31
theorem U0:cD ["net","names","arrows","corners","one","other","middles"] ["net"] (bH BR):=cZ
theorem PZ{f:ak}{fd:bU}(F:cy K "corners_of" "corners_of" BR f fd)(T:Txt mg)(uf:bG P w K mg base aX 2 "are_tied" ["net","one","other"] (bF mY))(uh:bG P w K mg base aX 4 "sorted_rows" ["names","rows"] (cO mv))(ug:bG P w K mg base aX 1 "pairs_of" ["names"] (cO nH)):bN P w K mg base aX 5 f fd ["net"] (cO lP):=
 okN (Mo [3]) F U0 (λcdv A outer s H E hr nd hu a8=>by
  exact⟨_,(aM (sQ (pv 0) (hW rfl (dG (pG 1) (dG (cK (i:=2) nd rfl (ft rfl)) g7))))
 (aM (pS 3 (d9 be))
 (aM (d5 dN rfl (da (pC ug hr (aI 1))) (hW rfl (dG (cK (i:=4) nd rfl (ft rfl)) (dG (cK (i:=5) nd rfl (ft rfl)) g7)))
 (aV (cX (iJ (gP (pC uf hr (aA (pv 0) (aA (pv 4) (aI 5))))))
 (aM (pf (i:=6) (N':=["arrows","one","other","name"]) (ρ:=[ac 2,ac 4,ac 5,af]) rfl nd rfl (cG rfl) (dY.of rfl (by kernel_rfl)) (da (pv 1)) (λ_ _ _ _ _=>(cK (i:=3) (by show(["arrows","one","other","name"]:List Str).Nodup;decide +kernel) rfl (cG rfl))) (fH rfl) (λ_ _ _ _ _=>(iy (PW.pt (pw_and (bR (g9 a8) (dJ (aA (pv 1) (aI 3))) (pv 0) rfl) (pw_and1 (bR (g9 a8) (dJ (aA (pv 2) (aI 3))) (pv 0) rfl)))))) (λ_ _ _ _ _=>(pv 3)))
 (aV (fz (gQ g6 y9 za wo (pv 3) (aA (fN (N':=["one","other","middle"]) (ρ:=[ac 4,ac 5,af]) rfl (dY.of rfl (by kernel_rfl)) (da (pv 6)) (λ_ _ _ _ _=>(cK (i:=2) (by show(["one","other","middle"]:List Str).Nodup;decide +kernel) rfl (cG rfl))) (fH rfl) (λ_ _ _ _ _=>jv) (λ_ _ _ _ _=>(dJ (aA (pv 0) (aA (pv 2) (aI 1)))))) be)))))
 dj)))
 (aV (bW (pC uh hr (aA (pv 1) (aI 3)))))))),
  (aN (wG (K:=K) (.t [1,2]) (by decide) (aZ 0))
 (aN (hO 3 rfl (ed aW))
 (aN (d3 (K:=K) (tg:=(.t [4,5])) (ib (AE.nv (eR (aO (a6 1) bD)))) (by decide)
 (cY (iM (fP (AE.p (dw (aO (a6 0) (aO (a6 4) (aO (a6 5) bD)))))))
 (aN (bK 6 rfl (AE.nv (eE (K:=K) (tg:=(.n 3)) (fA (am 1)) (by decide) (kg (bO (AE.p (aq h9 (AE.p (dL (aF (aZ 1) (aF (aZ 3) aW)))) (am 0)))) (bO (AE.p (aq h9 (AE.p (dL (aF (aZ 2) (aF (aZ 3) aW)))) (am 0))))) (aZ 3))))
 (yj 3 rfl (AE.nv (eE (K:=K) (tg:=(.n 2)) (fA (am 6)) (by decide) jn (dL (aF (aZ 0) (aF (aZ 2) (aF (aZ 1) aW))))))))
 di))
 (SM 3 rfl (AE.w (eR (aO (a6 1) (aO (a6 3) bD))))))))⟩)
abbrev Cp:bE:=top 35
theorem T6:cD ["first","second","found","firsts","seconds"] ["first","second"] (bH Cp):=cZ
theorem P1{f:ak}{fd:bU}(F:cy K "roads_apart" "roads_apart" Cp f fd)(T:Txt mg)(qb:bG P w K mg base aX 3 "ties_of" ["net"] (cO lO))(qc:bG P w K mg base aX 5 "corners_of" ["net"] (cO lP)):bN P w K mg base aX 6 f fd ["first","second"] (cO uY):=
 okN (Mo [2]) F T6 (λcdv A outer s H E hr nd hu a8=>by
  exact⟨_,(aM (pS 2 (d9 be))
 (aM (d5 dN rfl (da (dJ (aA (dJ (aA (pC qb hr (aI 0)) (aA (pC qb hr (aI 1)) be))) (aA (dJ (aA (pC qc hr (aI 0)) (aA (pC qc hr (aI 1)) be))) be)))) (hW rfl (dG (cK (i:=3) nd rfl (ft rfl)) (dG (cK (i:=4) nd rfl (ft rfl)) g7)))
 (aM (fz (gQ g6 y9 za wo (pv 2) (aA (fN (N':=["firsts","row"]) (ρ:=[ac 3,af]) rfl (dY.of rfl (by kernel_rfl)) (da (pv 4)) (λ_ _ _ _ _=>(cK (i:=1) i8 rfl (cG rfl))) (fH rfl) (λ_ _ _ _ _=>(iy (bR (iL a8) (pv 1) (pv 0) rfl))) (λ_ _ _ _ _=>(dJ (aA (fg lV rfl T.fI jW (aI 1)) (aA gq be))))) be)))
 (aV (fz (gQ g6 y9 za wo (pv 2) (aA (fN (N':=["seconds","row"]) (ρ:=[ac 4,af]) rfl (dY.of rfl (by kernel_rfl)) (da (pv 3)) (λ_ _ _ _ _=>(cK (i:=1) i8 rfl (cG rfl))) (fH rfl) (λ_ _ _ _ _=>(iy (bR (iL a8) (pv 1) (pv 0) rfl))) (λ_ _ _ _ _=>(dJ (aA (fg lV rfl T.fI jW (aI 1)) (aA gq be))))) be))))))
 (aV (bW (pv 2))))),
  (aN (hO 2 rfl (ed aW))
 (aN (d3 (K:=K) (tg:=(.t [3,4])) (ib (dL (aF (dL (aF (AE.nv (eR (aO (a6 0) bD))) (aF (AE.nv (eR (aO (a6 1) bD))) aW))) (aF (dL (aF (AE.nv (eR (aO (a6 0) bD))) (aF (AE.nv (eR (aO (a6 1) bD))) aW))) aW)))) (by decide)
 (aN (yj 2 rfl (AE.nv (eE (K:=K) (tg:=(.n 1)) (fA (am 4)) (by decide) (bO (AE.p (aq iH (am 1) (am 0)))) (dL (aF (AE.nv (cw fI (aF (am 1) aW))) (aF gz aW))))))
 (yj 2 rfl (AE.nv (eE (K:=K) (tg:=(.n 1)) (fA (am 3)) (by decide) (bO (AE.p (aq iH (am 1) (am 0)))) (dL (aF (AE.nv (cw fI (aF (am 1) aW))) (aF gz aW))))))))
 (nM 2 rfl)))⟩)
abbrev Bf:bE:=top 17
theorem RQ:cD ["net","name"] ["net","name"] (bH Bf):=cZ
theorem TF{f:ak}{fd:bU}(F:cy K "elders_of" "elders_of" Bf f fd)(T:Txt mg)(jB:bG P w K mg base aX 1 "refuse_strangers" ["names","asked"] (bF iA)):bN P w K mg base aX 2 f fd ["net","name"] (bF jq):=
 fe (Mo []) F RQ (λcdv A outer s H E hr nd hu a8=>by
  exact⟨_,(aM (fz (pC jB hr (aA (pX (pv 0) aJ) (aA (d9 (aI 1)) be))))
 (aV (bW (fg mH rfl T.gi ma (aA (fN (N':=["name","tail","head"]) (ρ:=[ac 1,af,af]) rfl (dY.of rfl (by kernel_rfl)) (da (pX (pv 0) aJ)) (λ_ _ _ _ _=>(hW rfl (dG (cK (i:=1) (by show(["name","tail","head"]:List Str).Nodup;decide +kernel) rfl (cG rfl)) (dG (cK (i:=2) (by show(["name","tail","head"]:List Str).Nodup;decide +kernel) rfl (cG rfl)) g7)))) (qj (jD rfl (jD rfl qo jG) (qU jG))) (λ_ _ _ _ _=>(iy (bR (gI a8) (pv 2) (pv 0) (c9 _)))) (λ_ _ _ _ _=>(pv 1))) be))))),
  (aN (mW (AE.p (dw (aO (AE.w (aq bj (am 0) (AE.p aH))) (aO (AW.nv (AE.w (ed (aF (aZ 1) aW)))) bD)))))
 (dB (AE.w (cw gi (aF (AE.np (eE (K:=K) (tg:=(.t [1,2])) (fA (AE.p (aq bj (am 0) (AE.p aH)))) (by decide) (bO (AE.p (aq gH (am 2) (am 0)))) (aZ 1))) aW)))))⟩)
abbrev B7:bE:=top 27
theorem RS:cD ["names","steps","name","found","waiting","here","start","end"] ["names","steps","name"] (bH B7):=cZ
theorem QV{f:ak}{fd:bU}(F:cy K "names_along" "names_along" B7 f fd)(T:Txt mg):bN P w K mg base aX 1 f fd ["names","steps","name"] (cO uz):=
 okN (Mo [3,4]) F RS (λcdv A outer s H E hr nd hu a8=>by
  exact⟨_,(aM (kQ (i:=3) nd rfl (ft rfl) (Zp.RK (pv 2) gq))
 (aM (pS 4 (d9 (aI 2)))
 (aM (AM dN (wI (pv 4) (by intro _;rfl))
 (aM (pS 5 (UX g6 LY LZ Uo (pv 4)))
 (aV (d5 dN rfl (da (pv 1)) (hW rfl (dG (pG 6) (dG (pG 7) g7)))
 (aV (cX (PW.pt (pw_and (bR (gI a8) (pv 6) (pv 5) (c9 _)) (pw_and1 (wB (ON hu (pv 7) (pv 3)) rfl))))
 (aM (uK hu (pv 3) (pv 7) gq rfl)
 (aV (fz (gQ g6 kw kx ke (pv 4) (aI 7)))))
 dj))))))
 (aV (bW (fN (N':=["found","each"]) (ρ:=[ac 3,af]) rfl (dY.of rfl (by kernel_rfl)) (da (pv 0)) (λ_ _ _ _ _=>(cK (i:=1) i8 rfl (cG rfl))) (fH rfl) (λ_ _ _ _ _=>(iy (wB (Ci hu (pv 1) (pv 0)) rfl))) (λ_ _ _ _ _=>(pv 1)))))))),
  (aN (xk 3 rfl (Zp.Oz (aZ 2) gz))
 (aN (hO 4 rfl (ed (aF (aZ 2) aW)))
 (aN (Az 20 (xr (am 4))
 (aN (UE 5 4 rfl rfl)
 (d3 (K:=K) (tg:=(.t [6,7])) (ib (aZ 1)) (by decide)
 (cY (kg (bO (AE.p (aq gH (am 6) (am 5)))) (fP (AE.p (Qi 3 (aZ 7)))))
 (aN (vc 3 rfl (aZ 7) gz)
 (kD 4 rfl (aZ 7)))
 di))))
 (kY (AE.w (eE (K:=K) (tg:=(.n 1)) (fA (am 0)) (by decide) (fP (AE.p (AD 0 (aZ 1)))) (aZ 1)))))))⟩)
abbrev zA:bE:=top 19
theorem Pt:cD ["net","name"] ["net","name"] (bH zA):=cZ
theorem Ug{f:ak}{fd:bU}(F:cy K "names_below" "names_below" zA f fd)(T:Txt mg)(jB:bG P w K mg base aX 1 "refuse_strangers" ["names","asked"] (bF iA))(DD:bG P w K mg base aX 1 "names_along" ["names","steps","name"] (cO uz)):bN P w K mg base aX 2 f fd ["net","name"] (cO qO):=
 okN (Mo []) F Pt (λcdv A outer s H E hr nd hu a8=>by
  exact⟨_,(aM (fz (pC jB hr (aA (pX (pv 0) aJ) (aA (d9 (aI 1)) be))))
 (aV (bW (pC DD hr (aA (pX (pv 0) aJ) (aA (pX (pv 0) aJ) (aI 1))))))),
  (aN (mW (AE.p (dw (aO (AE.w (aq bj (am 0) (AE.p aH))) (aO (AW.nv (AE.w (ed (aF (aZ 1) aW)))) bD)))))
 (kY (AE.w (eR (aO (AE.w (aq bj (am 0) (AE.p aH))) (aO (AE.w (aq bj (am 0) (AE.p aH))) (aO (a6 1) bD)))))))⟩)
abbrev z8:bE:=top 36
theorem T5:cD ["net","one","other","lower"] ["net","one","other"] (bH z8):=cZ
theorem Sv{f:ak}{fd:bU}(F:cy K "list_that_parts" "list_that_parts" z8 f fd)(T:Txt mg)(nG:bG P w K mg base aX 2 "elders_of" ["net","name"] (bF jq))(DE:bG P w K mg base aX 2 "names_below" ["net","name"] (cO qO)):bN P w K mg base aX 3 f fd ["net","one","other"] (cO rW):=
 okN (Mo []) F T5 (λcdv A outer s H E hr nd hu a8=>by
  exact⟨_,(aM (pS 3 (HS (bR (g9 a8) (pv 1) (pC DE hr (aA (pv 0) (aI 2))) rfl) (pv 1) (pv 2)))
 (aV (bW (fg lV rfl T.fI jW (aA (pC nG hr (aA (pv 0) (aI 3))) be))))),
  (aN (bK 3 rfl (Gx (bO (AE.p (aq h9 (am 1) (AE.np (eR (aO (a6 0) (aO (a6 2) bD))))))) (aZ 1) (aZ 2)))
 (kY (AE.w (cw fI (aF (AE.p (dw (aO (a6 0) (aO (a6 3) bD)))) aW)))))⟩)
abbrev zQ:bE:=top 33
theorem UM:cD ["first","second","found","road","parted_in_first","one","other","held"] ["first","second"] (bH zQ):=cZ
theorem VM{f:ak}{fd:bU}(F:cy K "told_apart" "told_apart" zQ f fd)(T:Txt mg)(ui:bG P w K mg base aX 1 "refuse_unlike_names" ["first","second"] (bF lC))(DF:bG P w K mg base aX 6 "roads_apart" ["first","second"] (cO uY))(DG:bG P w K mg base aX 3 "list_that_parts" ["net","one","other"] (cO rW)):bN P w K mg base aX 7 f fd ["first","second"] (bF kC):=
 fe (Mo []) F UM (λcdv A outer s H E hr nd hu a8=>by
  exact⟨_,(aM (fz (pC ui hr (aA (pv 0) (aI 1))))
 (aM (pS 2 (pC DF hr (aA (pv 0) (aI 1))))
 (aM (cX (iJ (wI (pv 2) (by intro _;rfl)))
 (aV (bW wO))
 dj)
 (aM (sQ (pX (pv 2) aJ) (hW rfl (dG (pG 3) (dG (pG 4) g7))))
 (aM (Uj (i:=5) (j:=6) rfl nd rfl rfl (by decide) rfl rfl (aA (pX (pv 3) aJ) (aA (pX (pv 3) (JI Jd aJ)) be)) rfl)
 (aM (pS 7 (pC DG hr (aA (HS (wI (pv 4) (by intro _;rfl)) (pv 0) (pv 1)) (aA (pv 5) (aI 6)))))
 (aV (bW (dJ (aA (pv 5) (aA (pv 6) (aA (pv 7) (aA (pv 4) (aI 3)))))))))))))),
  (aN (mW (AE.p (dw (aO (a6 0) (aO (a6 1) bD)))))
 (aN (bK 2 rfl (AE.nv (eR (aO (a6 0) (aO (a6 1) bD)))))
 (aN (cY (iM (xr (am 2)))
 (dB (AE.w yt))
 di)
 (aN (wG (K:=K) (.t [3,4]) (by decide) (aq bj (am 2) (AE.p aH)))
 (aN (OD 5 6 rfl rfl (aF (aq bj (am 3) (AE.p aH)) (aF (aq bj (am 3) (AE.p (Ig Hl (AE.p aH)))) aW)))
 (aN (bK 7 rfl (AE.nv (eR (aO (AE.w (Gx (xr (am 4)) (aZ 0) (aZ 1))) (aO (a6 5) (aO (a6 6) bD))))))
 (dB (AE.w (dL (aF (aZ 5) (aF (aZ 6) (aF (aZ 7) (aF (aZ 4) (aF (aZ 3) aW))))))))))))))⟩)
abbrev Bc:bE:=top 32
theorem Tl:cD ["first","second"] ["first","second"] (bH Bc):=cZ
theorem TV{f:ak}{fd:bU}(F:cy K "say_same" "say_same" Bc f fd)(T:Txt mg)(qb:bG P w K mg base aX 3 "ties_of" ["net"] (cO lO))(qc:bG P w K mg base aX 5 "corners_of" ["net"] (cO lP))(ui:bG P w K mg base aX 1 "refuse_unlike_names" ["first","second"] (bF lC)):bN P w K mg base aX 6 f fd ["first","second"] (bF vj):=
 fe (Mo []) F Tl (λcdv A outer s H E hr nd hu a8=>by
  exact⟨_,(aM (fz (pC ui hr (aA (pv 0) (aI 1))))
 (aV (bW (zR (jE (gI a8) (pC qb hr (aI 0)) (pC qb hr (aI 1)) (c9 _)) (uy (jE (gI a8) (pC qc hr (aI 0)) (pC qc hr (aI 1)) (c9 _))))))),
  (aN (mW (AE.p (dw (aO (a6 0) (aO (a6 1) bD)))))
 (dB (AE.w (Bq (AE.p (aq gH (AE.np (eR (aO (a6 0) bD))) (AE.np (eR (aO (a6 1) bD))))) (aq gH (AE.np (eR (aO (a6 0) bD))) (AE.np (eR (aO (a6 1) bD))))))))⟩)
abbrev Al:bE:=top 42
theorem QJ:cD ["net","tail","head"] ["net","tail","head"] (bH Al):=cZ
theorem PV{f:ak}{fd:bU}(F:cy K "can_be_turned" "can_be_turned" Al f fd)(T:Txt mg)(nG:bG P w K mg base aX 2 "elders_of" ["net","name"] (bF jq)):bN P w K mg base aX 3 f fd ["net","tail","head"] (bF pN):=
 fe (Mo []) F QJ (λcdv A outer s H E hr nd hu a8=>by
  exact⟨_,(aV (bW (jE (QS a8) (fg (EG rfl) rfl T.DC boot_set (aA (pC nG hr (aA (pv 0) (aI 2))) be)) (fg (EG rfl) rfl T.DC boot_set (aA (a7 OP (pC nG hr (aA (pv 0) (aI 1))) (dJ (aI 1))) be)) (c9 _)))),
  (dB (AE.w (Tp (AE.p (dw (aO (a6 0) (aO (a6 2) bD)))) (AE.p (aq NW (AE.p (dw (aO (a6 0) (aO (a6 1) bD)))) (AE.p (dL (aF (aZ 1) aW))))))))⟩)
abbrev BA:bE:=top 39
theorem RN:cD ["net"] ["net"] (bH BA):=cZ
theorem UG{f:ak}{fd:bU}(F:cy K "turnable_in" "turnable_in" BA f fd)(T:Txt mg)(uj:bG P w K mg base aX 3 "can_be_turned" ["net","tail","head"] (bF pN)):bN P w K mg base aX 4 f fd ["net"] (cO sJ):=
 okN (Mo []) F RN (λcdv A outer s H E hr nd hu a8=>by
  exact⟨_,(aV (bW (fN (N':=["net","tail","head"]) (ρ:=[ac 0,af,af]) rfl (dY.of rfl (by kernel_rfl)) (da (pX (pv 0) aJ)) (λ_ _ _ _ _=>(hW rfl (dG (cK (i:=1) (by show(["net","tail","head"]:List Str).Nodup;decide +kernel) rfl (cG rfl)) (dG (cK (i:=2) (by show(["net","tail","head"]:List Str).Nodup;decide +kernel) rfl (cG rfl)) g7)))) (qj (jD rfl (jD rfl qo jG) (qU jG))) (λ_ _ _ _ _=>(iy (gP (pC uj hr (aA (pv 0) (aA (pv 1) (aI 2))))))) (λ_ _ _ _ _=>(dJ (aA (pv 1) (aI 2))))))),
  (kY (AE.w (eE (K:=K) (tg:=(.t [1,2])) (fA (AE.p (aq bj (am 0) (AE.p aH)))) (by decide) (fP (AE.p (dw (aO (a6 0) (aO (a6 1) (aO (a6 2) bD)))))) (dL (aF (aZ 1) (aF (aZ 2) aW))))))⟩)
abbrev BH:bE:=top 15
theorem SY:cD ["text"] ["text"] (bH BH):=cZ
theorem Rb{f:ak}{fd:bU}(F:cy K "is_word" "is_word" BH f fd)(T:Txt mg):bN P w K mg base aX 1 f fd ["text"] (bF j9):=
 fe (Mo []) F SY (λcdv A outer s H E hr nd hu a8=>by
  obtain⟨_,Wj⟩:=T.Wg;obtain⟨_,Wl⟩:=T.Wh;exact⟨_,(aV (bW (zR (S9 yq yq aJ (dD ga rfl T.cV fY (aI 0)) (AC (v:=(.int 8)) rfl Wl ⟨_,rfl⟩)) (uy (dD (IW rfl) rfl T.uQ boot_all (aA (fN (N':=["sign"]) (ρ:=[af]) rfl (dY.of rfl (by kernel_rfl)) (da (pv 0)) (λ_ _ _ _ _=>(cK (i:=0) sI rfl (cG rfl))) (fH rfl) (λ_ _ _ _ _=>jv) (λ_ _ _ _ _=>(jE (g9 a8) (pv 0) (AC (v:=(.str "abcdefghijklmnopqrstuvwxyz")) rfl Wj ⟨_,rfl⟩) rfl))) be)))))),
  (dB (AE.w (Bq (AE.p (Hx xE xE (AE.p aH) (AE.p (cw cV (aF (am 0) aW))) (AE.p aH))) (cw uQ (aF (AE.np (eE (K:=K) (tg:=(.n 0)) (fA (am 0)) (by decide) jn (aq h9 (am 0) (AE.p sE)))) aW)))))⟩)
abbrev zV:bE:=top 23
theorem O2:cD ["names","stood","name"] ["names"] (bH zV):=cZ
theorem Qd{f:ak}{fd:bU}(F:cy K "refuse_wrong_names" "refuse_wrong_names" zV f fd)(T:Txt mg)(DH:bG P w K mg base aX 1 "is_word" ["text"] (bF j9)):bN P w K mg base aX 2 f fd ["names"] (bF vD):=
 fe (Mo [1]) F O2 (λcdv A outer s H E hr nd hu a8=>by
  obtain⟨_,Wm⟩:=T.Wi;exact⟨_,(aM (cX (iJ (NY yq yq aJ (dD ga rfl T.cV fY (aI 0)) (AC (v:=(.int 8)) rfl Wm ⟨_,rfl⟩)))
 (aV lQ)
 dj)
 (aM (pS 1 K5)
 (aV (d5 dN rfl (da (pv 0)) (pG 2)
 (aM (cX (iJ (gP (pC DH hr (aI 2))))
 (aV lQ)
 dj)
 (aM (cX (wB (Ci hu (pv 2) (pv 1)) rfl)
 (aV lQ)
 dj)
 (aV (uK hu (pv 1) (pv 2) gq rfl)))))))),
  (aN (cY (iM (bO (AE.p (Hx xE xE (AE.p aH) (AE.p (cw cV (aF (am 0) aW))) (AE.p aH)))))
 lD
 di)
 (aN (xk 1 rfl Gw)
 (d3 (K:=K) (tg:=(.n 2)) (ib (aZ 0)) (by decide)
 (aN (cY (iM (fP (AE.p (dw (aO (a6 2) bD)))))
 lD
 di)
 (aN (cY (fP (AE.p (AD 1 (aZ 2))))
 lD
 di)
 (vc 1 rfl (aZ 2) gz))))))⟩)
abbrev Ag:bE:=top 24
theorem Pp:cD ["names","arrows","stood","tail","head"] ["names","arrows"] (bH Ag):=cZ
theorem Ol{f:ak}{fd:bU}(F:cy K "refuse_wrong_pairs" "refuse_wrong_pairs" Ag f fd)(T:Txt mg)(jB:bG P w K mg base aX 1 "refuse_strangers" ["names","asked"] (bF iA)):bN P w K mg base aX 2 f fd ["names","arrows"] (bF vt):=
 fe (Mo [2]) F Pp (λcdv A outer s H E hr nd hu a8=>by
  exact⟨_,(aM (pS 2 UT)
 (aV (d5 dN rfl (da (pv 1)) (hW rfl (dG (pG 3) (dG (pG 4) g7)))
 (aM (fz (pC jB hr (aA (pv 0) (aA (d9 (aA (pv 3) (aI 4))) be))))
 (aM (cX (bR (gI a8) (pv 3) (pv 4) (c9 _))
 (aV lQ)
 dj)
 (aM (cX (wB (Ci hu (dJ (aA (pv 3) (aI 4))) (pv 2)) rfl)
 (aV lQ)
 dj)
 (aM (uK hu (pv 2) (dJ (aA (pv 3) (aI 4))) gq rfl)
 (aV (uK hu (pv 2) (dJ (aA (pv 4) (aI 3))) gq rfl))))))))),
  (aN (xk 2 rfl TY)
 (d3 (K:=K) (tg:=(.t [3,4])) (ib (aZ 1)) (by decide)
 (aN (mW (AE.p (dw (aO (a6 0) (aO (AW.nv (AE.w (ed (aF (aZ 3) (aF (aZ 4) aW))))) bD)))))
 (aN (cY (bO (AE.p (aq gH (am 3) (am 4))))
 lD
 di)
 (aN (cY (fP (AE.p (AD 2 (dL (aF (aZ 3) (aF (aZ 4) aW))))))
 lD
 di)
 (aN (vc 2 rfl (dL (aF (aZ 3) (aF (aZ 4) aW))) gz)
 (vc 2 rfl (dL (aF (aZ 4) (aF (aZ 3) aW))) gz)))))))⟩)
abbrev A7:bE:=top 28
theorem T0:cD ["net","told","name"] ["net","told"] (bH A7):=cZ
theorem Oq{f:ak}{fd:bU}(F:cy K "first_ready" "first_ready" A7 f fd)(T:Txt mg)(nG:bG P w K mg base aX 2 "elders_of" ["net","name"] (bF jq)):bN P w K mg base aX 3 f fd ["net","told"] (bF n9):=
 fe (Mo []) F T0 (λcdv A outer s H E hr nd hu a8=>by
  exact⟨_,(aM (d5 dN rfl (da (pX (pv 0) aJ)) (pG 2)
 (aV (cX (PW.pt (pw_and (bR (iL a8) (pv 2) (pv 1) rfl) (pw_and1 (gP (dD (IW rfl) rfl T.uQ boot_all (aA (fN (N':=["told","elder"]) (ρ:=[ac 1,af]) rfl (dY.of rfl (by kernel_rfl)) (da (pC nG hr (aA (pv 0) (aI 2)))) (λ_ _ _ _ _=>(cK (i:=1) i8 rfl (cG rfl))) (fH rfl) (λ_ _ _ _ _=>jv) (λ_ _ _ _ _=>(jE (g9 a8) (pv 1) (pv 0) rfl))) be))))))
 (aV (bW (pv 2)))
 dj)))
 (aV (bW wO))),
  (aN (d3 (K:=K) (tg:=(.n 2)) (ib (aq bj (am 0) (AE.p aH))) (by decide)
 (cY (kg (bO (AE.p (aq iH (am 2) (am 1)))) (fP (AE.p (cw uQ (aF (AE.np (eE (K:=K) (tg:=(.n 1)) (fA (AE.p (dw (aO (a6 0) (aO (a6 2) bD))))) (by decide) jn (aq h9 (am 1) (am 0)))) aW)))))
 (dB (a6 2))
 di))
 (dB (AE.w yt)))⟩)
abbrev BZ:bE:=top 20
theorem QY:cD ["net","told","name"] ["net"] (bH BZ):=cZ
theorem R9{f:ak}{fd:bU}(F:cy K "in_turn" "in_turn" BZ f fd)(T:Txt mg)(zp:bG P w K mg base aX 3 "first_ready" ["net","told"] (bF n9)):bN P w K mg base aX 4 f fd ["net"] (cO uM):=
 okN (Mo [1]) F QY (λcdv A outer s H E hr nd hu a8=>by
  exact⟨_,(aM (pS 1 (d9 be))
 (aM (pS 2 (pC zp hr (aA (pv 0) (aI 1))))
 (aM (AM dN (bR Kb (pv 2) wO (c9 _))
 (aM (fz (gQ g6 kw kx ke (pv 1) (aI 2)))
 (aV (pS 2 (pC zp hr (aA (pv 0) (aI 1)))))))
 (aV (bW (pv 1)))))),
  (aN (hO 1 rfl (ed aW))
 (aN (bK 2 rfl (EH (aO (AW.p (a6 0)) (aO (AE.w (am 1)) bD))))
 (aN (Az 100 (bO (AE.p (aq G6 (am 2) (AE.p yt))))
 (aN (kD 1 rfl (aZ 2))
 (bK 2 rfl (EH (aO (AW.p (a6 0)) (aO (AE.w (am 1)) bD))))))
 (nM 1 rfl))))⟩)
abbrev Bn:bE:=top 25
theorem RT:cD ["net","told","left"] ["net"] (bH Bn):=cZ
theorem QR{f:ak}{fd:bU}(F:cy K "refuse_ring" "refuse_ring" Bn f fd)(T:Txt mg)(DI:bG P w K mg base aX 4 "in_turn" ["net"] (cO uM)):bN P w K mg base aX 5 f fd ["net"] (bF uH):=
 fe (Mo []) F RT (λcdv A outer s H E hr nd hu a8=>by
  exact⟨_,(aM (kQ (i:=1) nd rfl (ft rfl) (pC DI hr (aI 0)))
 (aM (pf (i:=2) (N':=["told","name"]) (ρ:=[ac 1,af]) rfl nd rfl (cG rfl) (dY.of rfl (by kernel_rfl)) (da (pX (pv 0) aJ)) (λ_ _ _ _ _=>(cK (i:=1) i8 rfl (cG rfl))) (fH rfl) (λ_ _ _ _ _=>(iy (bR (iL a8) (pv 1) (pv 0) rfl))) (λ_ _ _ _ _=>(pv 1)))
 (aV (cX (wI (pv 2) (by intro _;rfl))
 (aV lQ)
 dj)))),
  (aN (bK 1 rfl (AE.nv (eR (aO (a6 0) bD))))
 (aN (bK 2 rfl (AE.nv (eE (K:=K) (tg:=(.n 1)) (fA (AE.p (aq bj (am 0) (AE.p aH)))) (by decide) (bO (AE.p (aq iH (am 1) (am 0)))) (aZ 1))))
 (cY (xr (am 2))
 lD
 di)))⟩)
abbrev Ce:bE:=top 16
theorem T8:cD ["names","arrows","pairs","net"] ["names","arrows"] (bH Ce):=cZ
theorem SS{f:ak}{fd:bU}(F:cy K "net_made" "net_made" Ce f fd)(T:Txt mg)(uh:bG P w K mg base aX 4 "sorted_rows" ["names","rows"] (cO mv))(DJ:bG P w K mg base aX 2 "refuse_wrong_names" ["names"] (bF vD))(DK:bG P w K mg base aX 2 "refuse_wrong_pairs" ["names","arrows"] (bF vt))(DL:bG P w K mg base aX 5 "refuse_ring" ["net"] (bF uH)):bN P w K mg base aX 6 f fd ["names","arrows"] (bF sY):=
 fe (Mo []) F T8 (λcdv A outer s H E hr nd hu a8=>by
  exact⟨_,(aM (fz (pC DJ hr (aI 0)))
 (aM (fz (pC DK hr (aA (pv 0) (aI 1))))
 (aM (pf (i:=2) (N':=["tail","head"]) (ρ:=[af,af]) rfl nd rfl (cG rfl) (dY.of rfl (by kernel_rfl)) (da (pv 1)) (λ_ _ _ _ _=>(hW rfl (dG (cK (i:=0) i8 rfl (cG rfl)) (dG (cK (i:=1) i8 rfl (cG rfl)) g7)))) (qj (jD rfl (jD rfl qo jG) (qU jG))) (λ_ _ _ _ _=>jv) (λ_ _ _ _ _=>(dJ (aA (pv 0) (aI 1)))))
 (aM (pS 3 (dJ (aA (fg mH rfl T.gi ma (aI 0)) (aA (fg mH rfl T.gi ma (aA (pC uh hr (aA (pv 0) (aI 2))) be)) be))))
 (aM (fz (pC DL hr (aI 3)))
 (aV (bW (pv 3)))))))),
  (aN (mW (AE.p (dw (aO (a6 0) bD))))
 (aN (mW (AE.p (dw (aO (a6 0) (aO (a6 1) bD)))))
 (aN (bK 2 rfl (AE.nv (eE (K:=K) (tg:=(.t [0,1])) (fA (am 1)) (by decide) jn (dL (aF (aZ 0) (aF (aZ 1) aW))))))
 (aN (bK 3 rfl (dL (aF (cw gi (aF (am 0) aW)) (aF (cw gi (aF (AE.np (eR (aO (a6 0) (aO (a6 2) bD)))) aW)) aW))))
 (aN (mW (AE.p (dw (aO (a6 3) bD))))
 (dB (a6 3)))))))⟩)
abbrev Ap:bE:=top 40
theorem Rh:cD ["net","tail","head","names","arrows","others"] ["net","tail","head"] (bH Ap):=cZ
theorem PX{f:ak}{fd:bU}(F:cy K "net_turned" "net_turned" Ap f fd)(T:Txt mg)(DM:bG P w K mg base aX 6 "net_made" ["names","arrows"] (bF sY))(jB:bG P w K mg base aX 1 "refuse_strangers" ["names","asked"] (bF iA))(uj:bG P w K mg base aX 3 "can_be_turned" ["net","tail","head"] (bF pN)):bN P w K mg base aX 7 f fd ["net","tail","head"] (bF sw):=
 fe (Mo []) F Rh (λcdv A outer s H E hr nd hu a8=>by
  exact⟨_,(aM (sQ (pv 0) (hW rfl (dG (pG 3) (dG (pG 4) g7))))
 (aM (fz (pC jB hr (aA (pv 3) (aA (d9 (aA (pv 1) (aI 2))) be))))
 (aM (cX (bR (iL a8) (dJ (aA (pv 1) (aI 2))) (pv 4) rfl)
 (aV lQ)
 dj)
 (aM (cX (iJ (gP (pC uj hr (aA (pv 0) (aA (pv 1) (aI 2))))))
 (aV lQ)
 dj)
 (aM (pf (i:=5) (N':=["tail","head","arrow"]) (ρ:=[ac 1,ac 2,af]) rfl nd rfl (cG rfl) (dY.of rfl (by kernel_rfl)) (da (pv 4)) (λ_ _ _ _ _=>(cK (i:=2) (by show(["tail","head","arrow"]:List Str).Nodup;decide +kernel) rfl (cG rfl))) (fH rfl) (λ_ _ _ _ _=>(iy (bR (mM a8) (pv 2) (dJ (aA (pv 0) (aI 1))) (c9 _)))) (λ_ _ _ _ _=>(pv 2)))
 (aV (bW (pC DM hr (aA (pv 3) (aA (a7 dO (pv 5) (d9 (aA (dJ (aA (pv 2) (aI 1))) be))) be)))))))))),
  (aN (wG (K:=K) (.t [3,4]) (by decide) (aZ 0))
 (aN (mW (AE.p (dw (aO (a6 3) (aO (AW.nv (AE.w (ed (aF (aZ 1) (aF (aZ 2) aW))))) bD)))))
 (aN (cY (bO (AE.p (aq iH (AE.p (dL (aF (aZ 1) (aF (aZ 2) aW)))) (am 4))))
 lD
 di)
 (aN (cY (iM (fP (AE.p (dw (aO (a6 0) (aO (a6 1) (aO (a6 2) bD)))))))
 lD
 di)
 (aN (bK 5 rfl (AE.nv (eE (K:=K) (tg:=(.n 2)) (fA (am 4)) (by decide) (bO (AE.p (aq m7 (am 2) (AE.p (dL (aF (aZ 0) (aF (aZ 1) aW))))))) (aZ 2))))
 (dB (AE.w (dw (aO (a6 3) (aO (AE.w (aq dQ (am 5) (AE.np (ed (aF (dL (aF (aZ 2) (aF (aZ 1) aW))) aW))))) bD))))))))))⟩)
abbrev Cy:bE:=top 41
theorem Rm:cD ["first","second","chain","net","arrow"] ["first","second"] (bH Cy):=cZ
theorem Pl{f:ak}{fd:bU}(F:cy K "chain_to" "chain_to" Cy f fd)(T:Txt mg)(DN:bG P w K mg base aX 6 "say_same" ["first","second"] (bF vj))(DO:bG P w K mg base aX 4 "turnable_in" ["net"] (cO sJ))(DP:bG P w K mg base aX 7 "net_turned" ["net","tail","head"] (bF sw)):bN P w K mg base aX 8 f fd ["first","second"] (cO qX):=
 okN (Mo [2]) F Rm (λcdv A outer s H E hr nd hu a8=>by
  exact⟨_,(aM (cX (iJ (gP (pC DN hr (aA (pv 0) (aI 1)))))
 (aV lQ)
 dj)
 (aM (pS 2 (d9 be))
 (aM (pS 3 (pv 0))
 (aM (AM dN (bR (mM a8) (pv 3) (pv 1) (c9 _))
 (aM (pS 4 (oE oT (fN (N':=["second","each"]) (ρ:=[ac 1,af]) rfl (dY.of rfl (by kernel_rfl)) (da (pC DO hr (aI 3))) (λ_ _ _ _ _=>(cK (i:=1) i8 rfl (cG rfl))) (fH rfl) (λ_ _ _ _ _=>(iy (bR (iL a8) (pv 1) (pX (pv 0) aJ) rfl))) (λ_ _ _ _ _=>(pv 1))) aJ (λ_ _=>rfl)))
 (aM (fz (gQ g6 kw kx ke (pv 2) (aI 4)))
 (aV (pS 3 (pC DP hr (aA (pv 3) (aA (pX (pv 4) aJ) (aA (pX (pv 4) aJ) be)))))))))
 (aV (bW (pv 2))))))),
  (aN (cY (iM (fP (AE.p (dw (aO (a6 0) (aO (a6 1) bD))))))
 lD
 di)
 (aN (hO 2 rfl (ed aW))
 (aN (bK 3 rfl (aZ 0))
 (aN (Az 100 (bO (AE.p (aq m7 (am 3) (am 1))))
 (aN (bK 4 rfl (aq bj (AE.np (eE (K:=K) (tg:=(.n 1)) (fA (AE.np (eR (aO (a6 3) bD)))) (by decide) (bO (AE.p (aq iH (am 1) (AE.p (aq bj (am 0) (AE.p aH)))))) (aZ 1))) (AE.p aH)))
 (aN (kD 2 rfl (aZ 4))
 (bK 3 rfl (dw (aO (a6 3) (aO (AE.w (aq bj (am 4) (AE.p aH))) (aO (AE.w (aq bj (am 4) (AE.p aH))) bD))))))))
 (nM 2 rfl)))))⟩)
abbrev Am:bE:=top 44
theorem RG:cD ["_law_script","_law_cells","_law_many","_law_way","_law_left","_law_draws_here","_law_k","_law_at","_law_once"] ["_law_script"] (bH Am):=cZ
theorem PU{f:ak}{fd:bU}(F:cy K "_law_draws" "_law_draws" Am f fd)(T:Txt mg):bN P w K mg base aX 1 f fd ["_law_script"] (cO vm):=
 okN (Mo [1,4,5]) F RG (λcdv A outer s H E hr nd hu a8=>by
  exact⟨_,(aM (pS 1 (a7 KH (fg lV rfl T.fI jW (aA (j5 lK (pv 0) kZ (jP aJ)) be)) (a7 PD (d9 (aA aJ be)) (fg xy rfl T.nJ boot_int (aA (jE (gI a8) (dD ga rfl T.cV fY (aI 0)) aJ (c9 _)) be)))))
 (aM (pS 2 (dD ga rfl T.cV fY (aI 1)))
 (aM (pS 3 (a7 eY (pX (pv 1) aJ) aJ))
 (aM (sQ (a7 gv (pX (pv 1) aJ) aJ) (Ks (pv 1) aJ set_list))
 (aM (pS 4 (fg lV rfl T.fI jW (aI 1)))
 (aM (pS 5 (d9 be))
 (aM (d5 dN rfl (gJ rfl T.gD (aA aJ be)) (pG 6)
 (aM (pS 7 (a7 eY (pv 6) (pv 2)))
 (aM (pS 8 (a7 eY (a7 j7 (a7 dO (a7 dO (a7 eY (pX (pv 1) (pv 7)) aJ) aJ) (a7 j7 (pv 6) (pv 6))) (a7 dO aJ (a7 j7 aJ (pv 6)))) aJ))
 (aV (cX (PW.pt (pw_and (bR (gI a8) (pv 3) aJ (c9 _)) (pw_and1 (bR sX (pX (pv 4) (pv 7)) aJ (c9 _)))))
 (aM (fz (gQ g6 kw kx ke (pv 5) (aA (a7 eY (pX (pv 4) (pv 7)) aJ) be)))
 (aV (sQ (a7 gv (pX (pv 4) (pv 7)) aJ) (Ks (pv 4) (pv 7) set_list))))
 (aV (fz (gQ g6 kw kx ke (pv 5) (aA (a7 eY (a7 j7 (a7 dO (a7 dO (pv 8) (a7 j7 aJ (pv 6))) aJ) (a7 dO aJ (a7 j7 (a7 j7 aJ (pv 6)) (pv 6)))) aJ) be)))))))))
 (aV (bW (pv 5)))))))))),
  (aN (hO 1 rfl (aq Ru (AE.np (cw fI (aF (AE.p (jY lJ (am 0) kN (jH (AE.p aH)))) aW))) (AE.np (O5 (aF aH aW) (AE.p (cw nJ (aF (AE.p (aq gH (AE.p (cw cV (aF (am 0) aW))) (AE.p aH))) aW)))))))
 (aN (bK 2 rfl (cw cV (aF (am 1) aW)))
 (aN (bK 3 rfl (aq eZ (AE.p (aq bj (am 1) (AE.p aH))) (AE.p aH)))
 (aN (Lg 1 rfl (aq gn (AE.p (aq bj (am 1) (AE.p aH))) (AE.p aH)) (AE.p aH))
 (aN (hO 4 rfl (cw fI (aF (am 1) aW)))
 (aN (hO 5 rfl (ed aW))
 (aN (d3 (K:=K) (tg:=(.n 6)) (gE (AE.p aH)) (by decide)
 (aN (bK 7 rfl (aq eZ (am 6) (am 2)))
 (aN (bK 8 rfl (aq eZ (AE.p (aq j3 (AE.p (aq dQ (AE.p (aq dQ (AE.p (aq eZ (AE.p (aq bj (am 1) (am 7))) (AE.p aH))) (AE.p aH))) (AE.p (aq j3 (am 6) (am 6))))) (AE.p (aq dQ (AE.p aH) (AE.p (aq j3 (AE.p aH) (am 6))))))) (AE.p aH)))
 (cY (kg (bO (AE.p (aq gH (am 3) (AE.p aH)))) (bO (AE.p (aq sn (AE.p (aq bj (am 4) (am 7))) (AE.p aH)))))
 (aN (kD 5 rfl (aq eZ (AE.p (aq bj (am 4) (am 7))) (AE.p aH)))
 (Lg 4 rfl (aq gn (AE.p (aq bj (am 4) (am 7))) (AE.p aH)) (am 7)))
 (kD 5 rfl (aq eZ (AE.p (aq j3 (AE.p (aq dQ (AE.p (aq dQ (am 8) (AE.p (aq j3 (AE.p aH) (am 6))))) (AE.p aH))) (AE.p (aq dQ (AE.p aH) (AE.p (aq j3 (AE.p (aq j3 (AE.p aH) (am 6))) (am 6))))))) (AE.p aH)))))))
 (nM 5 rfl))))))))⟩)
abbrev A8:bE:=top 45
theorem NX:cD ["_law_cell","_law_many","_law_letters","_law_long","_law_size","_law_stem","_law_at"] ["_law_cell","_law_many"] (bH A8):=cZ
theorem NI{f:ak}{fd:bU}(F:cy K "_law_words" "_law_words" A8 f fd)(T:Txt mg):bN P w K mg base aX 1 f fd ["_law_cell","_law_many"] (cO vz):=
 okN (Mo []) F NX (λcdv A outer s H E hr nd hu a8=>by
  exact⟨_,(aM (kQ (i:=2) nd rfl (ft rfl) vp)
 (aM (cX (bR tI (a7 eY (pv 0) aJ) aJ (c9 _))
 (aM (kQ (i:=3) nd rfl (ft rfl) (gQ LX L0 L1 Jk vp (aA (fN (N':=["_law_letters","_law_cell","_law_k"]) (ρ:=[ac 2,ac 0,af]) rfl (dY.of rfl (by kernel_rfl)) (gJ rfl T.gD (aA aJ be)) (λ_ _ _ _ _=>(cK (i:=2) (by show(["_law_letters","_law_cell","_law_k"]:List Str).Nodup;decide +kernel) rfl (cG rfl))) (fH rfl) (λ_ _ _ _ _=>jv) (λ_ _ _ _ _=>(pX (pv 0) (a7 eY (a7 gv (pv 1) (a7 dO aJ (a7 j7 aJ (pv 2)))) aJ)))) be)))
 (aM (cX (bR (gI a8) (a7 eY (pv 0) aJ) aJ (c9 _))
 (aV (bW (fN (N':=["_law_long","_law_k"]) (ρ:=[ac 3,af]) rfl (dY.of rfl (by kernel_rfl)) (gJ rfl T.gD (aI 1)) (λ_ _ _ _ _=>(cK (i:=1) i8 rfl (cG rfl))) (fH rfl) (λ_ _ _ _ _=>jv) (λ_ _ _ _ _=>(j5 lK (pv 0) kZ (jP (a7 dO (pv 1) aJ)))))))
 dj)
 (aV (bW (fN (N':=["_law_long","_law_k"]) (ρ:=[ac 3,af]) rfl (dY.of rfl (by kernel_rfl)) (gJ rfl T.gD (aI 1)) (λ_ _ _ _ _=>(cK (i:=1) i8 rfl (cG rfl))) (fH rfl) (λ_ _ _ _ _=>jv) (λ_ _ _ _ _=>(j5 lK (pv 0) (jP (a7 nX aJ (pv 1))) kZ)))))))
 dj)
 (aM (pS 4 (a7 eY (a7 gv (pv 0) aJ) aJ))
 (aM (kQ (i:=5) nd rfl (ft rfl) (gQ LX L0 L1 Jk vp (aA (fN (N':=["_law_letters","_law_cell","_law_k"]) (ρ:=[ac 2,ac 0,af]) rfl (dY.of rfl (by kernel_rfl)) (gJ rfl T.gD (aI 4)) (λ_ _ _ _ _=>(cK (i:=2) (by show(["_law_letters","_law_cell","_law_k"]:List Str).Nodup;decide +kernel) rfl (cG rfl))) (fH rfl) (λ_ _ _ _ _=>jv) (λ_ _ _ _ _=>(pX (pv 0) (a7 eY (a7 dO (a7 dO (a7 gv (pv 1) aJ) (a7 j7 aJ (pv 2))) (a7 j7 (pv 2) (pv 2))) aJ)))) be)))
 (aM (kQ (i:=6) nd rfl (ft rfl) (a7 eY (a7 gv (pv 0) aJ) (a7 dO (pv 4) aJ)))
 (aV (bW (fN (N':=["_law_stem","_law_letters","_law_at","_law_cell","_law_k"]) (ρ:=[ac 5,ac 2,ac 6,ac 0,af]) rfl (dY.of rfl (by kernel_rfl)) (gJ rfl T.gD (aI 1)) (λ_ _ _ _ _=>(cK (i:=4) (by show(["_law_stem","_law_letters","_law_at","_law_cell","_law_k"]:List Str).Nodup;decide +kernel) rfl (cG rfl))) (fH rfl) (λ_ _ _ _ _=>jv) (λ_ _ _ _ _=>(a7 dO (a7 dO (j5 lK (pv 0) kZ (jP (pv 2))) (pX (pv 1) (a7 eY (a7 dO (a7 gv (pv 3) aJ) (a7 j7 aJ (pv 4))) aJ))) (j5 lK (pv 0) (jP (pv 2)) kZ))))))))))),
  (aN (bK 2 rfl sE)
 (aN (cY (bO (AE.p (aq sR (AE.p (aq eZ (am 0) (AE.p aH))) (AE.p aH))))
 (aN (bK 3 rfl (HX (AE.p sE) (AE.np (eE (K:=K) (tg:=(.n 2)) (j4.c (gE (AE.p aH))) (by decide) jn (aq bj (am 0) (AE.p (aq eZ (AE.p (aq gn (am 1) (AE.p (aq dQ (AE.p aH) (AE.p (aq j3 (AE.p aH) (am 2))))))) (AE.p aH))))))))
 (aN (cY (bO (AE.p (aq gH (AE.p (aq eZ (am 0) (AE.p aH))) (AE.p aH))))
 (kY (AE.w (eE (K:=K) (tg:=(.n 1)) (j4.c (gE (am 1))) (by decide) jn (jY lJ (am 0) kN (jH (AE.p (aq dQ (am 1) (AE.p aH))))))))
 di)
 (kY (AE.w (eE (K:=K) (tg:=(.n 1)) (j4.c (gE (am 1))) (by decide) jn (jY lJ (am 0) (jH (AE.p (aq n6 (AE.p aH) (am 1)))) kN))))))
 di)
 (aN (bK 4 rfl (aq eZ (AE.p (aq gn (am 0) (AE.p aH))) (AE.p aH)))
 (aN (bK 5 rfl (HX (AE.p sE) (AE.np (eE (K:=K) (tg:=(.n 2)) (j4.c (gE (am 4))) (by decide) jn (aq bj (am 0) (AE.p (aq eZ (AE.p (aq dQ (AE.p (aq dQ (AE.p (aq gn (am 1) (AE.p aH))) (AE.p (aq j3 (AE.p aH) (am 2))))) (AE.p (aq j3 (am 2) (am 2))))) (AE.p aH))))))))
 (aN (bK 6 rfl (aq eZ (AE.p (aq gn (am 0) (AE.p aH))) (AE.p (aq dQ (am 4) (AE.p aH)))))
 (kY (AE.w (eE (K:=K) (tg:=(.n 4)) (j4.c (gE (am 1))) (by decide) jn (aq dQ (AE.p (aq dQ (AE.p (jY lJ (am 0) kN (jH (am 2)))) (AE.p (aq bj (am 1) (AE.p (aq eZ (AE.p (aq dQ (AE.p (aq gn (am 3) (AE.p aH))) (AE.p (aq j3 (AE.p aH) (am 4))))) (AE.p aH))))))) (AE.p (jY lJ (am 0) (jH (am 2)) kN)))))))))))⟩)
abbrev BE:bE:=top 46
theorem OQ:cD ["_law_draws_here","_law_many","_law_letters","_law_names_here","_law_k","_law_rest","_law_name","_law_turn"] ["_law_draws_here","_law_many"] (bH BE):=cZ
theorem OS{f:ak}{fd:bU}(F:cy K "_law_names" "_law_names" BE f fd)(T:Txt mg)(DQ:bG P w K mg base aX 1 "_law_words" ["_law_cell","_law_many"] (cO vz)):bN P w K mg base aX 2 f fd ["_law_draws_here","_law_many"] (cO vL):=
 okN (Mo [3]) F OQ (λcdv A outer s H E hr nd hu a8=>by
  exact⟨_,(aM (pS 2 vp)
 (aM (pS 3 (d9 be))
 (aM (d5 dN rfl (gJ rfl T.gD (aI 1)) (pG 4)
 (aM (pS 5 (a7 gv (pX (pv 0) (a7 dO aJ (pv 4))) aJ))
 (aM (pS 6 vp)
 (aM (d5 dN rfl (gJ rfl T.gD (aA (a7 dO aJ (a7 eY (pX (pv 0) (a7 dO aJ (pv 4))) aJ)) be)) (pG 7)
 (aM (pS 6 (a7 dO (pv 6) (pX (pv 2) (a7 eY (pv 5) aJ))))
 (aV (pS 5 (a7 gv (pv 5) aJ)))))
 (aV (fz (gQ g6 kw kx ke (pv 3) (aI 6))))))))
 (aM (cX (PW.pt (pw_or (bR (gI a8) (a7 eY (pX (pv 0) aJ) aJ) aJ (c9 _)) (pw_or1 (bR tI (dD RU rfl T.cV fY (aA (fg (SE rfl) rfl T.DC boot_set (aI 3)) be)) (pv 1) (c9 _)))))
 (aV (bW (pC DQ hr (aA (a7 gv (pX (pv 0) aJ) aJ) (aI 1)))))
 dj)
 (aV (bW (pv 3))))))),
  (aN (bK 2 rfl sE)
 (aN (hO 3 rfl (ed aW))
 (aN (d3 (K:=K) (tg:=(.n 4)) (gE (am 1)) (by decide)
 (aN (bK 5 rfl (aq gn (AE.p (aq bj (am 0) (AE.p (aq dQ (AE.p aH) (am 4))))) (AE.p aH)))
 (aN (bK 6 rfl sE)
 (aN (d3 (K:=K) (tg:=(.n 7)) (gE (AE.p (aq dQ (AE.p aH) (AE.p (aq eZ (AE.p (aq bj (am 0) (AE.p (aq dQ (AE.p aH) (am 4))))) (AE.p aH)))))) (by decide)
 (aN (bK 6 rfl (aq dQ (am 6) (AE.p (aq bj (am 2) (AE.p (aq eZ (am 5) (AE.p aH)))))))
 (bK 5 rfl (aq gn (am 5) (AE.p aH)))))
 (kD 3 rfl (aZ 6))))))
 (aN (cY (jF (bO (AE.p (aq gH (AE.p (aq eZ (AE.p (aq bj (am 0) (AE.p aH))) (AE.p aH))) (AE.p aH)))) (bO (AE.p (aq sR (AE.p (RL (am 3))) (am 1)))))
 (kY (AE.w (eR (aO (AE.w (aq gn (AE.p (aq bj (am 0) (AE.p aH))) (AE.p aH))) (aO (a6 1) bD)))))
 di)
 (nM 3 rfl)))))⟩)
abbrev AY:bE:=top 47
theorem Qe:cD ["_law_draw","_law_many","_law_left","_law_ranks_here","_law_k"] ["_law_draw","_law_many"] (bH AY):=cZ
theorem N0{f:ak}{fd:bU}(F:cy K "_law_ranks" "_law_ranks" AY f fd)(T:Txt mg):bN P w K mg base aX 1 f fd ["_law_draw","_law_many"] (cO qw):=
 okN (Mo [2,3]) F Qe (λcdv A outer s H E hr nd hu a8=>by
  exact⟨_,(aM (pf (i:=2) (N':=["_law_k"]) (ρ:=[af]) rfl nd rfl (cG rfl) (dY.of rfl (by kernel_rfl)) (gJ rfl T.gD (aI 1)) (λ_ _ _ _ _=>(cK (i:=0) sI rfl (cG rfl))) (fH rfl) (λ_ _ _ _ _=>jv) (λ_ _ _ _ _=>(pv 0)))
 (aM (pS 3 (d9 be))
 (aM (d5 dN rfl (gJ rfl T.gD (aI 1)) (pG 4)
 (aM (fz (gQ g6 kw kx ke (pv 3) (aA (gQ g6 LY LZ R8 (pv 2) (aA (a7 eY (pv 0) (dD ga rfl T.cV fY (aI 2))) be)) be)))
 (aV (pS 0 (a7 gv (pv 0) (a7 nX (pv 1) (pv 4)))))))
 (aV (bW (pv 3)))))),
  (aN (hO 2 rfl (eE (K:=K) (tg:=(.n 0)) (j4.c (gE (am 1))) (by decide) jn (aZ 0)))
 (aN (hO 3 rfl (ed aW))
 (aN (d3 (K:=K) (tg:=(.n 4)) (gE (am 1)) (by decide)
 (aN (QP 3 2 (by decide) rfl rfl (AE.p (aq eZ (am 0) (AE.p (cw cV (aF (am 2) aW))))))
 (bK 0 rfl (aq gn (am 0) (AE.p (aq n6 (am 1) (am 4)))))))
 (nM 3 rfl))))⟩)
abbrev AH:bE:=top 48
theorem Pd:cD ["_law_draws_here","_law_least","_law_most","_law_many","_law_names_here","_law_ranks_here","_law_thick","_law_arrows","_law_j","_law_k","_law_cell"] ["_law_draws_here","_law_least","_law_most"] (bH AH):=cZ
theorem Pb{f:ak}{fd:bU}(F:cy K "_law_net" "_law_net" AH f fd)(T:Txt mg)(DR:bG P w K mg base aX 2 "_law_names" ["_law_draws_here","_law_many"] (cO vL))(uk:bG P w K mg base aX 1 "_law_ranks" ["_law_draw","_law_many"] (cO qw)):bN P w K mg base aX 3 f fd ["_law_draws_here","_law_least","_law_most"] (bF tq):=
 fe (Mo [7]) F Pd (λcdv A outer s H E hr nd hu a8=>by
  exact⟨_,(aM (pS 3 (a7 dO (pv 1) (a7 eY (pX (pv 0) aJ) (a7 dO (a7 nX (pv 2) (pv 1)) aJ))))
 (aM (pS 4 (pC DR hr (aA (pv 0) (aI 3))))
 (aM (pS 5 (pC uk hr (aA (pX (pv 0) aJ) (aI 3))))
 (aM (pS 6 (pX (d9 (aA aJ (aA aJ (aA aJ (aA aJ (aA aJ (aA aJ be))))))) (a7 eY (pX (pv 0) aJ) aJ)))
 (aM (pS 7 (d9 be))
 (aM (d5 dN rfl (gJ rfl T.gD (aI 3)) (pG 8)
 (aV (d5 dN rfl (gJ rfl T.gD (aI 3)) (pG 9)
 (aM (pS 10 (oE oT (pv 0) (a7 dO (a7 dO aJ (a7 gv (a7 j7 (dD (xJ rfl) rfl T.n4 boot_max (aA (pv 8) (aI 9))) (a7 nX (dD (xJ rfl) rfl T.n4 boot_max (aA (pv 8) (aI 9))) aJ)) aJ)) (dD (Im rfl) rfl T.u6 boot_min (aA (pv 8) (aI 9)))) (λ_ _=>rfl)))
 (aV (cX (PW.pt (pw_and (bR tI (pX (pv 5) (pv 8)) (pX (pv 5) (pv 9)) (c9 _)) (pw_and1 (bR tI (a7 eY (pv 10) aJ) (pv 6) (c9 _)))))
 (aV (fz (gQ g6 kw kx ke (pv 7) (aA (dJ (aA (pX (pv 4) (pv 8)) (aA (pX (pv 4) (pv 9)) be))) be))))
 dj))))))
 (aV (bW (dJ (aA (fg mH rfl T.gi ma (aI 4)) (aA (fg mH rfl T.gi ma (aI 7)) be))))))))))),
  (aN (bK 3 rfl (aq dQ (am 1) (AE.p (aq eZ (AE.p (aq bj (am 0) (AE.p aH))) (AE.p (aq dQ (AE.p (aq n6 (am 2) (am 1))) (AE.p aH)))))))
 (aN (bK 4 rfl (AE.nv (eR (aO (a6 0) (aO (a6 3) bD)))))
 (aN (bK 5 rfl (AE.nv (eR (aO (AE.w (aq bj (am 0) (AE.p aH))) (aO (a6 3) bD)))))
 (aN (bK 6 rfl (aq bj (AE.np (ed (aF aH (aF aH (aF aH (aF aH (aF aH (aF aH aW)))))))) (AE.p (aq eZ (AE.p (aq bj (am 0) (AE.p aH))) (AE.p aH)))))
 (aN (hO 7 rfl (ed aW))
 (aN (d3 (K:=K) (tg:=(.n 8)) (gE (am 3)) (by decide)
 (d3 (K:=K) (tg:=(.n 9)) (gE (am 3)) (by decide)
 (aN (bK 10 rfl (aq bj (am 0) (AE.p (aq dQ (AE.p (aq dQ (AE.p aH) (AE.p (aq gn (AE.p (aq j3 (AE.p (cw n4 (aF (am 8) (aF (am 9) aW)))) (AE.p (aq n6 (AE.p (cw n4 (aF (am 8) (aF (am 9) aW)))) (AE.p aH))))) (AE.p aH))))) (AE.p (cw u6 (aF (am 8) (aF (am 9) aW))))))))
 (cY (kg (bO (AE.p (aq sR (AE.p (aq bj (am 5) (am 8))) (AE.p (aq bj (am 5) (am 9)))))) (bO (AE.p (aq sR (AE.p (aq eZ (am 10) (AE.p aH))) (am 6)))))
 (kD 7 rfl (dL (aF (aq bj (am 4) (am 8)) (aF (aq bj (am 4) (am 9)) aW))))
 di))))
 (dB (AE.w (dL (aF (cw gi (aF (am 4) aW)) (aF (cw gi (aF (am 7) aW)) aW)))))))))))⟩)
abbrev BX:bE:=top 49
theorem Tc:cD ["_law_names_here","_law_draw","_law_many","_law_ranks_here","_law_k","_law_arrows","_law_j","_law_at"] ["_law_names_here","_law_draw"] (bH BX):=cZ
theorem NR{f:ak}{fd:bU}(F:cy K "_law_any" "_law_any" BX f fd)(T:Txt mg)(uk:bG P w K mg base aX 1 "_law_ranks" ["_law_draw","_law_many"] (cO qw)):bN P w K mg base aX 2 f fd ["_law_names_here","_law_draw"] (bF sT):=
 fe (Mo [5]) F Tc (λcdv A outer s H E hr nd hu a8=>by
  exact⟨_,(aM (pS 2 (dD ga rfl T.cV fY (aI 0)))
 (aM (pS 3 (pC uk hr (aA (pv 1) (aI 2))))
 (aM (d5 dN rfl (gJ rfl T.gD (aI 2)) (pG 4)
 (aV (pS 1 (a7 gv (pv 1) (a7 nX (pv 2) (pv 4))))))
 (aM (pS 5 (d9 be))
 (aM (d5 dN rfl (gJ rfl T.gD (aI 2)) (pG 6)
 (aV (d5 dN rfl (gJ rfl T.gD (aI 2)) (pG 4)
 (aM (pS 7 (a7 dO (a7 gv (a7 j7 (dD (xJ rfl) rfl T.n4 boot_max (aA (pv 6) (aI 4))) (a7 nX (dD (xJ rfl) rfl T.n4 boot_max (aA (pv 6) (aI 4))) aJ)) aJ) (dD (Im rfl) rfl T.u6 boot_min (aA (pv 6) (aI 4)))))
 (aV (cX (PW.pt (pw_and (bR tI (pX (pv 3) (pv 6)) (pX (pv 3) (pv 4)) (c9 _)) (pw_and1 (bR (gI a8) (a7 eY (a7 gv (pv 1) (a7 U2 aJ (pv 7))) aJ) aJ (c9 _)))))
 (aV (fz (gQ g6 kw kx ke (pv 5) (aA (dJ (aA (pX (pv 0) (pv 6)) (aA (pX (pv 0) (pv 4)) be))) be))))
 dj))))))
 (aV (bW (dJ (aA (fg mH rfl T.gi ma (aI 0)) (aA (fg mH rfl T.gi ma (aI 5)) be)))))))))),
  (aN (bK 2 rfl (cw cV (aF (am 0) aW)))
 (aN (bK 3 rfl (AE.nv (eR (aO (a6 1) (aO (a6 2) bD)))))
 (aN (d3 (K:=K) (tg:=(.n 4)) (gE (am 2)) (by decide)
 (bK 1 rfl (aq gn (am 1) (AE.p (aq n6 (am 2) (am 4))))))
 (aN (hO 5 rfl (ed aW))
 (aN (d3 (K:=K) (tg:=(.n 6)) (gE (am 2)) (by decide)
 (d3 (K:=K) (tg:=(.n 4)) (gE (am 2)) (by decide)
 (aN (bK 7 rfl (aq dQ (AE.p (aq gn (AE.p (aq j3 (AE.p (cw n4 (aF (am 6) (aF (am 4) aW)))) (AE.p (aq n6 (AE.p (cw n4 (aF (am 6) (aF (am 4) aW)))) (AE.p aH))))) (AE.p aH))) (AE.p (cw u6 (aF (am 6) (aF (am 4) aW))))))
 (cY (kg (bO (AE.p (aq sR (AE.p (aq bj (am 3) (am 6))) (AE.p (aq bj (am 3) (am 4)))))) (bO (AE.p (aq gH (AE.p (aq eZ (AE.p (aq gn (am 1) (AE.p (aq SR (AE.p aH) (am 7))))) (AE.p aH))) (AE.p aH)))))
 (kD 5 rfl (dL (aF (aq bj (am 0) (am 6)) (aF (aq bj (am 0) (am 4)) aW))))
 di))))
 (dB (AE.w (dL (aF (cw gi (aF (am 0) aW)) (aF (cw gi (aF (am 5) aW)) aW))))))))))⟩)
abbrev As:bE:=top 50
theorem VH:cD ["_law_arrows","_law_name"] ["_law_arrows","_law_name"] (bH As):=cZ
theorem Vu{f:ak}{fd:bU}(F:cy K "_law_elders" "_law_elders" As f fd)(T:Txt mg):bN P w K mg base aX 1 f fd ["_law_arrows","_law_name"] (cO mU):=
 okN (Mo []) F VH (λcdv A outer s H E hr nd hu a8=>by
  exact⟨_,(aV (bW (fN (N':=["_law_name","_law_tail","_law_head"]) (ρ:=[ac 1,af,af]) rfl (dY.of rfl (by kernel_rfl)) (da (pv 0)) (λ_ _ _ _ _=>(hW rfl (dG (cK (i:=1) (by show(["_law_name","_law_tail","_law_head"]:List Str).Nodup;decide +kernel) rfl (cG rfl)) (dG (cK (i:=2) (by show(["_law_name","_law_tail","_law_head"]:List Str).Nodup;decide +kernel) rfl (cG rfl)) g7)))) (qj (jD rfl (jD rfl qo jG) (qU jG))) (λ_ _ _ _ _=>(iy (bR (gI a8) (pv 2) (pv 0) (c9 _)))) (λ_ _ _ _ _=>(pv 1))))),
  (kY (AE.w (eE (K:=K) (tg:=(.t [1,2])) (fA (am 0)) (by decide) (bO (AE.p (aq gH (am 2) (am 0)))) (aZ 1))))⟩)
abbrev B4:bE:=top 51
theorem Rt:cD ["_law_arrows","_law_found","_law_tail","_law_head"] ["_law_arrows"] (bH B4):=cZ
theorem Vz{f:ak}{fd:bU}(F:cy K "_law_covered" "_law_covered" B4 f fd)(T:Txt mg)(zq:bG P w K mg base aX 1 "_law_elders" ["_law_arrows","_law_name"] (cO mU)):bN P w K mg base aX 2 f fd ["_law_arrows"] (cO qY):=
 okN (Mo [1]) F Rt (λcdv A outer s H E hr nd hu a8=>by
  exact⟨_,(aM (pS 1 (d9 be))
 (aM (d5 dN rfl (da (pv 0)) (hW rfl (dG (pG 2) (dG (pG 3) g7)))
 (aV (cX (bR (gI a8) (dD Kf rfl T.DB boot_sorted (aA (pC zq hr (aA (pv 0) (aI 3))) be)) (dD Kf rfl T.DB boot_sorted (aA (a7 dO (pC zq hr (aA (pv 0) (aI 2))) (d9 (aI 2))) be)) (c9 _))
 (aV (fz (gQ g6 kw kx ke (pv 1) (aA (dJ (aA (pv 2) (aI 3))) be))))
 dj)))
 (aV (bW (pv 1))))),
  (aN (hO 1 rfl (ed aW))
 (aN (d3 (K:=K) (tg:=(.t [2,3])) (ib (aZ 0)) (by decide)
 (cY (bO (AE.p (aq gH (AE.np (cw HW (aF (AE.np (eR (aO (a6 0) (aO (a6 3) bD)))) aW))) (AE.np (cw HW (aF (AE.p (aq dQ (AE.np (eR (aO (a6 0) (aO (a6 2) bD)))) (AE.np (ed (aF (aZ 2) aW))))) aW))))))
 (kD 1 rfl (dL (aF (aZ 2) (aF (aZ 3) aW))))
 di))
 (nM 1 rfl)))⟩)
abbrev BY:bE:=top 52
theorem N6:cD ["_law_arrows","_law_arrow"] ["_law_arrows","_law_arrow"] (bH BY):=cZ
theorem RR{f:ak}{fd:bU}(F:cy K "_law_flipped" "_law_flipped" BY f fd)(T:Txt mg):bN P w K mg base aX 1 f fd ["_law_arrows","_law_arrow"] (cO kT):=
 okN (Mo []) F N6 (λcdv A outer s H E hr nd hu a8=>by
  exact⟨_,(aV (bW (fN (N':=["_law_arrow","_law_one"]) (ρ:=[ac 1,af]) rfl (dY.of rfl (by kernel_rfl)) (da (pv 0)) (λ_ _ _ _ _=>(cK (i:=1) i8 rfl (cG rfl))) (fH rfl) (λ_ _ _ _ _=>jv) (λ_ _ _ _ _=>(oE oT (d9 (aA (pv 1) (aA (dJ (aA (pX (pv 1) aJ) (aA (pX (pv 1) aJ) be))) be))) (fg xy rfl T.nJ boot_int (aA (jE (gI a8) (pv 1) (pv 0) (c9 _)) be)) (λ_ _=>rfl)))))),
  (kY (AE.w (eE (K:=K) (tg:=(.n 1)) (fA (am 0)) (by decide) jn (aq bj (AE.np (ed (aF (aZ 1) (aF (dL (aF (aq bj (am 1) (AE.p aH)) (aF (aq bj (am 1) (AE.p aH)) aW))) aW)))) (AE.p (cw nJ (aF (AE.p (aq gH (am 1) (am 0))) aW)))))))⟩)
abbrev A9:bE:=top 53
theorem Vr:cD ["_law_names_here","_law_arrows","_law_left","_law_turn","_law_heads"] ["_law_names_here","_law_arrows"] (bH A9):=cZ
theorem Q8{f:ak}{fd:bU}(F:cy K "_law_comes_round" "_law_comes_round" A9 f fd)(T:Txt mg):bN P w K mg base aX 1 f fd ["_law_names_here","_law_arrows"] (bF kP):=
 fe (Mo []) F Vr (λcdv A outer s H E hr nd hu a8=>by
  exact⟨_,(aM (kQ (i:=2) nd rfl (ft rfl) (fg lV rfl T.fI jW (aI 0)))
 (aM (d5 dN rfl (gJ rfl T.gD (aA (dD ga rfl T.cV fY (aI 0)) be)) (pG 3)
 (aM (kQ (i:=4) nd rfl (ft rfl) (fN (N':=["_law_left","_law_tail","_law_head"]) (ρ:=[ac 2,af,af]) rfl (dY.of rfl (by kernel_rfl)) (da (pv 1)) (λ_ _ _ _ _=>(hW rfl (dG (cK (i:=1) (by show(["_law_left","_law_tail","_law_head"]:List Str).Nodup;decide +kernel) rfl (cG rfl)) (dG (cK (i:=2) (by show(["_law_left","_law_tail","_law_head"]:List Str).Nodup;decide +kernel) rfl (cG rfl)) g7)))) (qj (jD rfl (jD rfl qo jG) (qU jG))) (λ_ _ _ _ _=>(iy (bR (g9 a8) (pv 1) (pv 0) rfl))) (λ_ _ _ _ _=>(pv 2))))
 (aV (kQ (i:=2) nd rfl (ft rfl) (fN (N':=["_law_heads","_law_name"]) (ρ:=[ac 4,af]) rfl (dY.of rfl (by kernel_rfl)) (da (pv 2)) (λ_ _ _ _ _=>(cK (i:=1) i8 rfl (cG rfl))) (fH rfl) (λ_ _ _ _ _=>(iy (bR (g9 a8) (pv 1) (pv 0) rfl))) (λ_ _ _ _ _=>(pv 1)))))))
 (aV (bW (jE sX (dD ga rfl T.cV fY (aI 2)) aJ (c9 _)))))),
  (aN (bK 2 rfl (AE.nv (cw fI (aF (am 0) aW))))
 (aN (d3 (K:=K) (tg:=(.n 3)) (gE (AE.p (cw cV (aF (am 0) aW)))) (by decide)
 (aN (bK 4 rfl (AE.nv (eE (K:=K) (tg:=(.t [1,2])) (fA (am 1)) (by decide) (bO (AE.p (aq h9 (am 1) (am 0)))) (aZ 2))))
 (bK 2 rfl (AE.nv (eE (K:=K) (tg:=(.n 1)) (fA (am 2)) (by decide) (bO (AE.p (aq h9 (am 1) (am 0)))) (aZ 1))))))
 (dB (AE.w (aq sn (AE.p (cw cV (aF (am 2) aW))) (AE.p aH))))))⟩)
abbrev Bs:bE:=top 54
theorem UC:cD ["_law_names_here","_law_arrows","_law_cell","_law_pairs","_law_one","_law_other","_law_at","_law_turned"] ["_law_names_here","_law_arrows","_law_cell"] (bH Bs):=cZ
theorem On{f:ak}{fd:bU}(F:cy K "_law_spoiled" "_law_spoiled" Bs f fd)(T:Txt mg)(oC:bG P w K mg base aX 1 "_law_flipped" ["_law_arrows","_law_arrow"] (cO kT))(rP:bG P w K mg base aX 1 "_law_comes_round" ["_law_names_here","_law_arrows"] (bF kP)):bN P w K mg base aX 2 f fd ["_law_names_here","_law_arrows","_law_cell"] (bF r6):=
 fe (Mo [3]) F UC (λcdv A outer s H E hr nd hu a8=>by
  exact⟨_,(aM (cX (PW.pt (pw_or (bR (gI a8) (a7 eY (pv 2) aJ) aJ (c9 _)) (pw_or1 (bR (gI a8) (dD ga rfl T.cV fY (aI 1)) aJ (c9 _)))))
 (aM (pS 3 (d9 be))
 (aM (d5 dN rfl (da (pv 0)) (pG 4)
 (aV (d5 dN rfl (da (pv 0)) (pG 5)
 (aV (cX (PW.pt (pw_and (bR (mM a8) (pv 4) (pv 5) (c9 _)) (pw_and (bR (iL a8) (dJ (aA (pv 4) (aI 5))) (pv 1) rfl) (pw_and1 (bR (iL a8) (dJ (aA (pv 5) (aI 4))) (pv 1) rfl)))))
 (aV (fz (gQ g6 kw kx ke (pv 3) (aA (dJ (aA (pv 4) (aI 5))) be))))
 dj)))))
 (aM (pf (i:=3) (N':=["_law_names_here","_law_arrows","_law_pair"]) (ρ:=[ac 0,ac 1,af]) rfl nd rfl (cG rfl) (dY.of rfl (by kernel_rfl)) (da (pv 3)) (λ_ _ _ _ _=>(cK (i:=2) (by show(["_law_names_here","_law_arrows","_law_pair"]:List Str).Nodup;decide +kernel) rfl (cG rfl))) (fH rfl) (λ_ _ _ _ _=>(iy (iJ (gP (pC rP hr (aA (pv 0) (aA (a7 dO (pv 1) (d9 (aI 2))) be))))))) (λ_ _ _ _ _=>(pv 2)))
 (aM (cX (bR sX (dD ga rfl T.cV fY (aI 3)) aJ (c9 _))
 (aV (bW (a7 dO (pv 1) (d9 (aA (oE oT (pv 3) (a7 eY (a7 gv (pv 2) aJ) (dD ga rfl T.cV fY (aI 3))) (λ_ _=>rfl)) be)))))
 dj)
 (aV (bW (j5 lK (pv 1) (jP aJ) kZ)))))))
 dj)
 (aM (pS 6 (a7 eY (a7 gv (pv 2) aJ) (dD ga rfl T.cV fY (aI 1))))
 (aM (pS 7 (pC oC hr (aA (pv 1) (aA (pX (pv 1) (pv 6)) be))))
 (aM (cX (PW.pt (pw_or (bR (gI a8) (a7 eY (pv 2) aJ) aJ (c9 _)) (pw_or1 (gP (pC rP hr (aA (pv 0) (aI 7)))))))
 (aV (bW (a7 dO (j5 lK (pv 1) kZ (jP (pv 6))) (j5 lK (pv 1) (jP (a7 dO (pv 6) aJ)) kZ))))
 dj)
 (aV (bW (pv 7))))))),
  (aN (cY (jF (bO (AE.p (aq gH (AE.p (aq eZ (am 2) (AE.p aH))) (AE.p aH)))) (bO (AE.p (aq gH (AE.p (cw cV (aF (am 1) aW))) (AE.p aH)))))
 (aN (hO 3 rfl (ed aW))
 (aN (d3 (K:=K) (tg:=(.n 4)) (ib (aZ 0)) (by decide)
 (d3 (K:=K) (tg:=(.n 5)) (ib (aZ 0)) (by decide)
 (cY (kg (bO (AE.p (aq m7 (am 4) (am 5)))) (kg (bO (AE.p (aq iH (AE.p (dL (aF (aZ 4) (aF (aZ 5) aW)))) (am 1)))) (bO (AE.p (aq iH (AE.p (dL (aF (aZ 5) (aF (aZ 4) aW)))) (am 1))))))
 (kD 3 rfl (dL (aF (aZ 4) (aF (aZ 5) aW))))
 di)))
 (aN (hO 3 rfl (eE (K:=K) (tg:=(.n 2)) (fA (am 3)) (by decide) (iM (fP (AE.p (dw (aO (a6 0) (aO (AE.w (aq dQ (am 1) (AE.np (ed (aF (aZ 2) aW))))) bD)))))) (aZ 2)))
 (aN (cY (bO (AE.p (aq sn (AE.p (cw cV (aF (am 3) aW))) (AE.p aH))))
 (dB (AE.w (aq dQ (am 1) (AE.np (ed (aF (aq bj (am 3) (AE.p (aq eZ (AE.p (aq gn (am 2) (AE.p aH))) (AE.p (cw cV (aF (am 3) aW)))))) aW))))))
 di)
 (dB (AE.w (jY lJ (am 1) (jH (AE.p aH)) kN)))))))
 di)
 (aN (bK 6 rfl (aq eZ (AE.p (aq gn (am 2) (AE.p aH))) (AE.p (cw cV (aF (am 1) aW)))))
 (aN (bK 7 rfl (AE.nv (eR (aO (a6 1) (aO (AE.w (aq bj (am 1) (am 6))) bD)))))
 (aN (cY (jF (bO (AE.p (aq gH (AE.p (aq eZ (am 2) (AE.p aH))) (AE.p aH)))) (fP (AE.p (dw (aO (a6 0) (aO (a6 7) bD))))))
 (dB (AE.w (aq dQ (AE.p (jY lJ (am 1) kN (jH (am 6)))) (AE.p (jY lJ (am 1) (jH (AE.p (aq dQ (am 6) (AE.p aH)))) kN)))))
 di)
 (dB (a6 7))))))⟩)
abbrev zB:bE:=top 55
theorem Tk:cD ["_law_names_here","_law_arrows","_law_told","_law_tail","_law_head"] ["_law_names_here","_law_arrows"] (bH zB):=cZ
theorem N8{f:ak}{fd:bU}(F:cy K "_law_sorted" "_law_sorted" zB f fd)(T:Txt mg):bN P w K mg base aX 1 f fd ["_law_names_here","_law_arrows"] (bF qW):=
 fe (Mo [2]) F Tk (λcdv A outer s H E hr nd hu a8=>by
  exact⟨_,(aM (pS 2 (d9 be))
 (aM (d5 dN rfl (da (pv 0)) (pG 3)
 (aV (d5 dN rfl (da (pv 0)) (pG 4)
 (aV (cX (bR (g9 a8) (dJ (aA (pv 3) (aI 4))) (pv 1) rfl)
 (aV (fz (gQ g6 kw kx ke (pv 2) (aA (dJ (aA (pv 3) (aI 4))) be))))
 dj)))))
 (aV (bW (dJ (aA (fg mH rfl T.gi ma (aI 0)) (aA (fg mH rfl T.gi ma (aI 2)) be))))))),
  (aN (hO 2 rfl (ed aW))
 (aN (d3 (K:=K) (tg:=(.n 3)) (ib (aZ 0)) (by decide)
 (d3 (K:=K) (tg:=(.n 4)) (ib (aZ 0)) (by decide)
 (cY (bO (AE.p (aq h9 (AE.p (dL (aF (aZ 3) (aF (aZ 4) aW)))) (am 1))))
 (kD 2 rfl (dL (aF (aZ 3) (aF (aZ 4) aW))))
 di)))
 (dB (AE.w (dL (aF (cw gi (aF (am 0) aW)) (aF (cw gi (aF (am 2) aW)) aW)))))))⟩)
abbrev A3:bE:=top 56
theorem TR:cD ["_law_net_here","_law_draw","_law_arrows","_law_turns","_law_bent","_law_k","_law_some"] ["_law_net_here","_law_draw"] (bH A3):=cZ
theorem Tq{f:ak}{fd:bU}(F:cy K "_law_second" "_law_second" A3 f fd)(T:Txt mg)(DS:bG P w K mg base aX 2 "_law_any" ["_law_names_here","_law_draw"] (bF sT))(DT:bG P w K mg base aX 2 "_law_covered" ["_law_arrows"] (cO qY))(oC:bG P w K mg base aX 1 "_law_flipped" ["_law_arrows","_law_arrow"] (cO kT))(DU:bG P w K mg base aX 2 "_law_spoiled" ["_law_names_here","_law_arrows","_law_cell"] (bF r6))(ul:bG P w K mg base aX 1 "_law_sorted" ["_law_names_here","_law_arrows"] (bF qW)):bN P w K mg base aX 3 f fd ["_law_net_here","_law_draw"] (bF qg):=
 fe (Mo []) F TR (λcdv A outer s H E hr nd hu a8=>by
  exact⟨_,(aM (cX (bR (gI a8) (a7 eY (pv 1) aJ) aJ (c9 _))
 (aV (bW (pC DS hr (aA (fg lV rfl T.fI jW (aA (pX (pv 0) aJ) be)) (aA (a7 gv (pv 1) aJ) be)))))
 dj)
 (aM (pS 2 (fg lV rfl T.fI jW (aA (pX (pv 0) aJ) be)))
 (aM (pS 3 (a7 eY (a7 gv (pv 1) aJ) aJ))
 (aM (pS 4 (a7 eY (a7 gv (pv 1) aJ) aJ))
 (aM (pS 1 (a7 gv (pv 1) aJ))
 (aM (d5 dN rfl (gJ rfl T.gD (aI 3)) (pG 5)
 (aM (pS 6 (pC DT hr (aI 2)))
 (aV (cX (bR sX (dD ga rfl T.cV fY (aI 6)) aJ (c9 _))
 (aM (pS 2 (pC oC hr (aA (pv 2) (aA (oE oT (pv 6) (a7 eY (pv 1) (dD ga rfl T.cV fY (aI 6))) (λ_ _=>rfl)) be))))
 (aV (pS 1 (a7 gv (pv 1) (dD ga rfl T.cV fY (aI 6))))))
 dj))))
 (aM (cX (bR (gI a8) (pv 4) aJ (c9 _))
 (aV (pS 2 (pC DU hr (aA (pX (pv 0) aJ) (aA (pv 2) (aI 1))))))
 dj)
 (aV (bW (pC ul hr (aA (pX (pv 0) aJ) (aI 2)))))))))))),
  (aN (cY (bO (AE.p (aq gH (AE.p (aq eZ (am 1) (AE.p aH))) (AE.p aH))))
 (dB (AE.w (dw (aO (AW.nv (AE.w (cw fI (aF (AE.p (aq bj (am 0) (AE.p aH))) aW)))) (aO (AE.w (aq gn (am 1) (AE.p aH))) bD)))))
 di)
 (aN (bK 2 rfl (AE.nv (cw fI (aF (AE.p (aq bj (am 0) (AE.p aH))) aW))))
 (aN (bK 3 rfl (aq eZ (AE.p (aq gn (am 1) (AE.p aH))) (AE.p aH)))
 (aN (bK 4 rfl (aq eZ (AE.p (aq gn (am 1) (AE.p aH))) (AE.p aH)))
 (aN (bK 1 rfl (aq gn (am 1) (AE.p aH)))
 (aN (d3 (K:=K) (tg:=(.n 5)) (gE (am 3)) (by decide)
 (aN (bK 6 rfl (AE.nv (eR (aO (a6 2) bD))))
 (cY (bO (AE.p (aq sn (AE.p (cw cV (aF (am 6) aW))) (AE.p aH))))
 (aN (bK 2 rfl (AE.nv (eR (aO (a6 2) (aO (AE.w (aq bj (am 6) (AE.p (aq eZ (am 1) (AE.p (cw cV (aF (am 6) aW))))))) bD)))))
 (bK 1 rfl (aq gn (am 1) (AE.p (cw cV (aF (am 6) aW))))))
 di)))
 (aN (cY (bO (AE.p (aq gH (am 4) (AE.p aH))))
 (bK 2 rfl (dw (aO (AE.w (aq bj (am 0) (AE.p aH))) (aO (a6 2) (aO (a6 1) bD)))))
 di)
 (dB (AE.w (dw (aO (AE.w (aq bj (am 0) (AE.p aH))) (aO (a6 2) bD))))))))))))⟩)
abbrev A1:bE:=top 58
theorem TB:cD ["_law_net_here","_law_some","_law_met","_law_turn","_law_tail","_law_head"] ["_law_net_here","_law_some"] (bH A1):=cZ
theorem S8{f:ak}{fd:bU}(F:cy K "_law_high" "_law_high" A1 f fd)(T:Txt mg):bN P w K mg base aX 1 f fd ["_law_net_here","_law_some"] (cO qM):=
 okN (Mo [2]) F TB (λcdv A outer s H E hr nd hu a8=>by
  exact⟨_,(aM (pS 2 (fg lV rfl T.fI jW (aI 1)))
 (aM (d5 dN rfl (gJ rfl T.gD (aA (dD ga rfl T.cV fY (aA (pX (pv 0) aJ) be)) be)) (pG 3)
 (aV (d5 dN rfl (da (pX (pv 0) aJ)) (hW rfl (dG (pG 4) (dG (pG 5) g7)))
 (aV (cX (PW.pt (pw_and (bR (g9 a8) (pv 5) (pv 2) rfl) (pw_and1 (bR (iL a8) (pv 4) (pv 2) rfl))))
 (aV (fz (gQ g6 kw kx ke (pv 2) (aI 4))))
 dj)))))
 (aV (bW (pv 2))))),
  (aN (hO 2 rfl (cw fI (aF (am 1) aW)))
 (aN (d3 (K:=K) (tg:=(.n 3)) (gE (AE.p (cw cV (aF (AE.p (aq bj (am 0) (AE.p aH))) aW)))) (by decide)
 (d3 (K:=K) (tg:=(.t [4,5])) (ib (aq bj (am 0) (AE.p aH))) (by decide)
 (cY (kg (bO (AE.p (aq h9 (am 5) (am 2)))) (bO (AE.p (aq iH (am 4) (am 2)))))
 (kD 2 rfl (aZ 4))
 di)))
 (nM 2 rfl)))⟩)
abbrev zM:bE:=top 59
theorem Qx:cD ["_law_net_here","_law_one","_law_other","_law_held","_law_high_here","_law_family","_law_name","_law_met","_law_turn","_law_some"] ["_law_net_here","_law_one","_law_other","_law_held"] (bH zM):=cZ
theorem UF{f:ak}{fd:bU}(F:cy K "_law_parted" "_law_parted" zM f fd)(T:Txt mg)(uo:bG P w K mg base aX 1 "_law_high" ["_law_net_here","_law_some"] (cO qM)):bN P w K mg base aX 2 f fd ["_law_net_here","_law_one","_law_other","_law_held"] (bF jX):=
 fe (Mo [5]) F Qx (λcdv A outer s H E hr nd hu a8=>by
  exact⟨_,(aM (pS 4 (pC uo hr (aA (pv 0) (aA (a7 dO (d9 (aA (pv 1) (aI 2))) (fg lV rfl T.fI jW (aI 3))) be))))
 (aM (pS 5 K5)
 (aM (d5 dN rfl (da (pv 4)) (cK (i:=6) nd rfl (ft rfl))
 (aV (uK hu (pv 5) (pv 6) (a7 dO (d9 (aI 6)) (fN (N':=["_law_name","_law_tail","_law_head"]) (ρ:=[ac 6,af,af]) rfl (dY.of rfl (by kernel_rfl)) (da (pX (pv 0) aJ)) (λ_ _ _ _ _=>(hW rfl (dG (cK (i:=1) (by show(["_law_name","_law_tail","_law_head"]:List Str).Nodup;decide +kernel) rfl (cG rfl)) (dG (cK (i:=2) (by show(["_law_name","_law_tail","_law_head"]:List Str).Nodup;decide +kernel) rfl (cG rfl)) g7)))) (qj (jD rfl (jD rfl qo jG) (qU jG))) (λ_ _ _ _ _=>(iy (bR (gI a8) (pv 2) (pv 0) (c9 _)))) (λ_ _ _ _ _=>(pv 1)))) rfl)))
 (aM (kQ (i:=7) nd rfl (ft rfl) (d9 (aI 1)))
 (aM (d5 dN rfl (gJ rfl T.gD (aA (dD ga rfl T.cV fY (aI 4)) be)) (pG 8)
 (aV (d5 dN rfl (da (pv 4)) (cK (i:=6) nd rfl (ft rfl))
 (aM (pf (i:=9) (N':=["_law_met","_law_here"]) (ρ:=[ac 7,af]) rfl nd rfl (cG rfl) (dY.of rfl (by kernel_rfl)) (da (FJ hu (pv 5) (pv 6) (λ_ _=>rfl))) (λ_ _ _ _ _=>(cK (i:=1) i8 rfl (cG rfl))) (fH rfl) (λ_ _ _ _ _=>(iy (bR (g9 a8) (pv 1) (pv 0) rfl))) (λ_ _ _ _ _=>(pv 1)))
 (aV (cX (bR sX (dD ga rfl T.cV fY (aI 9)) aJ (c9 _))
 (aV (kQ (i:=7) nd rfl (ft rfl) (a7 dO (pv 7) (fN (N':=["_law_met","_law_held","_law_here"]) (ρ:=[ac 7,ac 3,af]) rfl (dY.of rfl (by kernel_rfl)) (da (FJ hu (pv 5) (pv 6) (λ_ _=>rfl))) (λ_ _ _ _ _=>(cK (i:=2) (by show(["_law_met","_law_held","_law_here"]:List Str).Nodup;decide +kernel) rfl (cG rfl))) (fH rfl) (λ_ _ _ _ _=>(iy (PW.pt (pw_and (bR (iL a8) (pv 2) (pv 0) rfl) (pw_and1 (bR (iL a8) (pv 2) (pv 1) rfl)))))) (λ_ _ _ _ _=>(pv 2))))))
 dj))))))
 (aV (bW (jE (iL a8) (pv 2) (pv 7) rfl)))))))),
  (aN (bK 4 rfl (AE.nv (eR (aO (a6 0) (aO (AE.w (aq dQ (AE.np (ed (aF (aZ 1) (aF (aZ 2) aW)))) (AE.np (cw fI (aF (am 3) aW))))) bD)))))
 (aN (xk 5 rfl Gw)
 (aN (d3 (K:=K) (tg:=(.n 6)) (ib (aZ 4)) (by decide)
 (vc 5 rfl (aZ 6) (aq dQ (AE.np (ed (aF (aZ 6) aW))) (AE.np (eE (K:=K) (tg:=(.t [1,2])) (fA (AE.p (aq bj (am 0) (AE.p aH)))) (by decide) (bO (AE.p (aq gH (am 2) (am 0)))) (aZ 1))))))
 (aN (bK 7 rfl (AE.nv (ed (aF (aZ 1) aW))))
 (aN (d3 (K:=K) (tg:=(.n 8)) (gE (AE.p (cw cV (aF (am 4) aW)))) (by decide)
 (d3 (K:=K) (tg:=(.n 6)) (ib (aZ 4)) (by decide)
 (aN (bK 9 rfl (AE.nv (eE (K:=K) (tg:=(.n 1)) (fA (AE.p (Kx 5 (aZ 6)))) (by decide) (bO (AE.p (aq h9 (am 1) (am 0)))) (aZ 1))))
 (cY (bO (AE.p (aq sn (AE.p (cw cV (aF (am 9) aW))) (AE.p aH))))
 (bK 7 rfl (aq dQ (am 7) (AE.np (eE (K:=K) (tg:=(.n 2)) (fA (AE.p (Kx 5 (aZ 6)))) (by decide) (kg (bO (AE.p (aq iH (am 2) (am 0)))) (bO (AE.p (aq iH (am 2) (am 1))))) (aZ 2)))))
 di))))
 (dB (AE.w (aq iH (am 2) (am 7)))))))))⟩)
abbrev Ax:bE:=top 57
theorem Pu:cD ["_law_net_here","_law_one","_law_other"] ["_law_net_here","_law_one","_law_other"] (bH Ax):=cZ
theorem VE{f:ak}{fd:bU}(F:cy K "_law_tied" "_law_tied" Ax f fd)(T:Txt mg):bN P w K mg base aX 1 f fd ["_law_net_here","_law_one","_law_other"] (bF qq):=
 fe (Mo []) F Pu (λcdv A outer s H E hr nd hu a8=>by
  exact⟨_,(aV (bW (ES (jE (g9 a8) (dJ (aA (pv 1) (aI 2))) (pX (pv 0) aJ) rfl) (uy (jE (g9 a8) (dJ (aA (pv 2) (aI 1))) (pX (pv 0) aJ) rfl))))),
  (dB (AE.w (JW (AE.p (aq h9 (AE.p (dL (aF (aZ 1) (aF (aZ 2) aW)))) (AE.p (aq bj (am 0) (AE.p aH))))) (aq h9 (AE.p (dL (aF (aZ 2) (aF (aZ 1) aW)))) (AE.p (aq bj (am 0) (AE.p aH)))))))⟩)
abbrev BB:bE:=top 61
theorem Rq:cD ["_law_net_here","_law_road","_law_one","_law_other","_law_held","_law_k","_law_high_here"] ["_law_net_here","_law_road","_law_one","_law_other","_law_held"] (bH BB):=cZ
theorem O6{f:ak}{fd:bU}(F:cy K "_law_open" "_law_open" BB f fd)(T:Txt mg)(DV:bG P w K mg base aX 1 "_law_tied" ["_law_net_here","_law_one","_law_other"] (bF qq))(uo:bG P w K mg base aX 1 "_law_high" ["_law_net_here","_law_some"] (cO qM)):bN P w K mg base aX 2 f fd ["_law_net_here","_law_road","_law_one","_law_other","_law_held"] (bF qL):=
 fe (Mo []) F Rq (λcdv A outer s H E hr nd hu a8=>by
  exact⟨_,(aM (cX (PW.pt (pw_or (iJ (gP (dD qA rfl T.rO rK (aA (pv 1) (aA (qS rfl T.fI jW) be))))) (pw_or (bR tI (dD ga rfl T.cV fY (aI 1)) aJ (c9 _)) (pw_or (bR (mM a8) (pX (pv 1) aJ) (pv 2) (c9 _)) (pw_or1 (bR (mM a8) (pX (pv 1) (JI Jd aJ)) (pv 3) (c9 _)))))))
 (aV (bW gq))
 dj)
 (aM (d5 dN rfl (gJ rfl T.gD (aA (dD ga rfl T.cV fY (aI 1)) be)) (pG 5)
 (aM (cX (PW.pt (pw_or (iJ (gP (dD qA rfl T.rO rK (aA (pX (pv 1) (pv 5)) (aA (qS rfl T.MD boot_str) be))))) (pw_or (bR (iL a8) (pX (pv 1) (pv 5)) (pX (pv 0) aJ) rfl) (pw_or1 (bR (g9 a8) (pX (pv 1) (pv 5)) (j5 lK (pv 1) kZ (jP (pv 5))) rfl)))))
 (aV (bW gq))
 dj)
 (aV (cX (PW.pt (pw_and (bR sX (pv 5) aJ (c9 _)) (pw_and1 (iJ (gP (pC DV hr (aA (pv 0) (aA (pX (pv 1) (a7 nX (pv 5) aJ)) (aA (pX (pv 1) (pv 5)) be)))))))))
 (aV (bW gq))
 dj))))
 (aM (pS 6 (pC uo hr (aA (pv 0) (aI 4))))
 (aM (d5 dN rfl (NH rfl T.gD (aA aJ (aA (a7 nX (dD ga rfl T.cV fY (aI 1)) aJ) be))) (pG 5)
 (aV (cX (PW.pt (pw_and (bR (g9 a8) (dJ (aA (pX (pv 1) (a7 nX (pv 5) aJ)) (aA (pX (pv 1) (pv 5)) be))) (pX (pv 0) aJ) rfl) (pw_and1 (bR (g9 a8) (dJ (aA (pX (pv 1) (a7 dO (pv 5) aJ)) (aA (pX (pv 1) (pv 5)) be))) (pX (pv 0) aJ) rfl))))
 (aV (cX (bR (iL a8) (pX (pv 1) (pv 5)) (pv 6) rfl)
 (aV (bW gq))
 dj))
 (aV (cX (bR (g9 a8) (pX (pv 1) (pv 5)) (pv 4) rfl)
 (aV (bW gq))
 dj)))))
 (aV (bW gq)))))),
  (aN (cY (jF (iM (fP (AE.p (qE (ty_list K) (am 1))))) (jF (bO (AE.p (aq sR (AE.p (cw cV (aF (am 1) aW))) (AE.p aH)))) (jF (bO (AE.p (aq m7 (AE.p (aq bj (am 1) (AE.p aH))) (am 2)))) (bO (AE.p (aq m7 (AE.p (aq bj (am 1) (AE.p (Ig Hl (AE.p aH))))) (am 3)))))))
 (dB (AE.w gz))
 di)
 (aN (d3 (K:=K) (tg:=(.n 5)) (gE (AE.p (cw cV (aF (am 1) aW)))) (by decide)
 (aN (cY (jF (iM (fP (AE.p (qE (ty_str K) (AE.p (aq bj (am 1) (am 5))))))) (jF (bO (AE.p (aq iH (AE.p (aq bj (am 1) (am 5))) (AE.p (aq bj (am 0) (AE.p aH)))))) (bO (AE.p (aq h9 (AE.p (aq bj (am 1) (am 5))) (AE.p (jY lJ (am 1) kN (jH (am 5)))))))))
 (dB (AE.w gz))
 di)
 (cY (kg (bO (AE.p (aq sn (am 5) (AE.p aH)))) (iM (fP (AE.p (dw (aO (a6 0) (aO (AE.w (aq bj (am 1) (AE.p (aq n6 (am 5) (AE.p aH))))) (aO (AE.w (aq bj (am 1) (am 5))) bD))))))))
 (dB (AE.w gz))
 di)))
 (aN (bK 6 rfl (AE.nv (eR (aO (a6 0) (aO (a6 4) bD)))))
 (aN (d3 (K:=K) (tg:=(.n 5)) (UK (AE.p aH) (AE.p (aq n6 (AE.p (cw cV (aF (am 1) aW))) (AE.p aH)))) (by decide)
 (cY (kg (bO (AE.p (aq h9 (AE.p (dL (aF (aq bj (am 1) (AE.p (aq n6 (am 5) (AE.p aH)))) (aF (aq bj (am 1) (am 5)) aW)))) (AE.p (aq bj (am 0) (AE.p aH)))))) (bO (AE.p (aq h9 (AE.p (dL (aF (aq bj (am 1) (AE.p (aq dQ (am 5) (AE.p aH)))) (aF (aq bj (am 1) (am 5)) aW)))) (AE.p (aq bj (am 0) (AE.p aH)))))))
 (cY (bO (AE.p (aq iH (AE.p (aq bj (am 1) (am 5))) (am 6))))
 (dB (AE.w gz))
 di)
 (cY (bO (AE.p (aq h9 (AE.p (aq bj (am 1) (am 5))) (am 4))))
 (dB (AE.w gz))
 di)))
 (dB (AE.w gz))))))⟩)
abbrev zz:bE:=top 62
theorem TL:cD ["_law_told","_law_nets","_law_one","_law_other","_law_held","_law_first","_law_road","_law_some","_law_k","_law_net_here","_law_rest"] ["_law_told","_law_nets"] (bH zz):=cZ
theorem OR{f:ak}{fd:bU}(F:cy K "_law_apart" "_law_apart" zz f fd)(T:Txt mg)(uq:bG P w K mg base aX 2 "_law_parted" ["_law_net_here","_law_one","_law_other","_law_held"] (bF jX))(DW:bG P w K mg base aX 2 "_law_open" ["_law_net_here","_law_road","_law_one","_law_other","_law_held"] (bF qL)):bN P w K mg base aX 3 f fd ["_law_told","_law_nets"] (bF qH):=
 fe (Mo []) F TL (λcdv A outer s H E hr nd hu a8=>by
  exact⟨_,(aM (cX (PW.pt (pw_or (iJ (gP (dD qA rfl T.rO rK (aA (pv 0) (aA (qS rfl T.gi ma) be))))) (pw_or1 (bR (mM a8) (dD ga rfl T.cV fY (aI 0)) aJ (c9 _)))))
 (aV (bW gq))
 dj)
 (aM (sQ (pv 0) (hW rfl (dG (pG 2) (dG (pG 3) (dG (pG 4) (dG (pG 5) (dG (pG 6) g7)))))))
 (aM (cX (PW.pt (pw_or (iJ (gP (dD qA rfl T.rO rK (aA (pv 4) (aA (qS rfl T.fI jW) be))))) (pw_or1 (iJ (gP (dD qA rfl T.rO rK (aA (pv 5) (aA (qS rfl T.Wf boot_bool) be))))))))
 (aV (bW gq))
 dj)
 (aM (pS 7 (a7 dO (d9 (aA (pv 2) (aI 3))) (pv 4)))
 (aM (d5 dN rfl (gJ rfl T.gD (aA (dD ga rfl T.cV fY (aI 7)) be)) (pG 8)
 (aV (cX (PW.pt (pw_or (iJ (gP (dD qA rfl T.rO rK (aA (pX (pv 7) (pv 8)) (aA (qS rfl T.MD boot_str) be))))) (pw_or (bR (iL a8) (pX (pv 7) (pv 8)) (pX (pX (pv 1) aJ) aJ) rfl) (pw_or1 (bR (g9 a8) (pX (pv 7) (pv 8)) (j5 lK (pv 7) kZ (jP (pv 8))) rfl)))))
 (aV (bW gq))
 dj)))
 (aM (pS 9 (oE oT (pv 1) (fg xy rfl T.nJ boot_int (aA (QC (pv 5)) be)) (λ_ _=>rfl)))
 (aM (pS 10 (oE oT (pv 1) (fg xy rfl T.nJ boot_int (aI 5)) (λ_ _=>rfl)))
 (aV (bW (zR (pC uq hr (aA (pv 9) (aA (pv 2) (aA (pv 3) (aI 4))))) (uy (pC DW hr (aA (pv 10) (aA (pv 6) (aA (pv 2) (aA (pv 3) (aI 4))))))))))))))))),
  (aN (cY (jF (iM (fP (AE.p (qE (ty_tuple K) (am 0))))) (bO (AE.p (aq m7 (AE.p (cw cV (aF (am 0) aW))) (AE.p aH)))))
 (dB (AE.w gz))
 di)
 (aN (wG (K:=K) (.t [2,3,4,5,6]) (by decide) (aZ 0))
 (aN (cY (jF (iM (fP (AE.p (qE (ty_list K) (am 4))))) (iM (fP (AE.p (qE (ty_bool K) (am 5))))))
 (dB (AE.w gz))
 di)
 (aN (bK 7 rfl (aq dQ (AE.np (ed (aF (aZ 2) (aF (aZ 3) aW)))) (am 4)))
 (aN (d3 (K:=K) (tg:=(.n 8)) (gE (AE.p (cw cV (aF (am 7) aW)))) (by decide)
 (cY (jF (iM (fP (AE.p (qE (ty_str K) (AE.p (aq bj (am 7) (am 8))))))) (jF (bO (AE.p (aq iH (AE.p (aq bj (am 7) (am 8))) (AE.p (aq bj (AE.p (aq bj (am 1) (AE.p aH))) (AE.p aH)))))) (bO (AE.p (aq h9 (AE.p (aq bj (am 7) (am 8))) (AE.p (jY lJ (am 7) kN (jH (am 8)))))))))
 (dB (AE.w gz))
 di))
 (aN (bK 9 rfl (aq bj (am 1) (AE.p (cw nJ (aF (AE.p (NQ (am 5))) aW)))))
 (aN (bK 10 rfl (aq bj (am 1) (AE.p (cw nJ (aF (am 5) aW)))))
 (dB (AE.w (Bq (AE.p (dw (aO (a6 9) (aO (a6 2) (aO (a6 3) (aO (a6 4) bD)))))) (dw (aO (a6 10) (aO (a6 6) (aO (a6 2) (aO (a6 3) (aO (a6 4) bD))))))))))))))))⟩)
abbrev Cs:bE:=top 60
theorem Sc:cD ["_law_some","_law_found","_law_name"] ["_law_some"] (bH Cs):=cZ
theorem U1{f:ak}{fd:bU}(F:cy K "_law_lists" "_law_lists" Cs f fd)(T:Txt mg):bN P w K mg base aX 1 f fd ["_law_some"] (bF pI):=
 fe (Mo []) F Sc (λcdv A outer s H E hr nd hu a8=>by
  exact⟨_,(aM (pS 1 (d9 (aA (d9 be) be)))
 (aM (d5 dN rfl (da (pv 0)) (cK (i:=2) nd rfl (ft rfl))
 (aV (pS 1 (a7 dO (pv 1) (fN (N':=["_law_name","_law_one"]) (ρ:=[ac 2,af]) rfl (dY.of rfl (by kernel_rfl)) (da (pv 1)) (λ_ _ _ _ _=>(cK (i:=1) i8 rfl (cG rfl))) (fH rfl) (λ_ _ _ _ _=>jv) (λ_ _ _ _ _=>(a7 dO (pv 1) (d9 (aI 0)))))))))
 (aV (bW (pv 1))))),
  (aN (bK 1 rfl (AE.nv (ed (aF (AE.nv (ed aW)) aW))))
 (aN (d3 (K:=K) (tg:=(.n 2)) (ib (aZ 0)) (by decide)
 (bK 1 rfl (aq dQ (am 1) (AE.np (eE (K:=K) (tg:=(.n 1)) (fA (am 1)) (by decide) jn (aq dQ (am 1) (AE.np (ed (aF (aZ 0) aW)))))))))
 (dB (a6 1))))⟩)
abbrev Bl:bE:=top 63
theorem VJ:cD ["_law_net_here","_law_found","_law_k","_law_one","_law_other","_law_rest"] ["_law_net_here"] (bH Bl):=cZ
theorem Va{f:ak}{fd:bU}(F:cy K "_law_says" "_law_says" Bl f fd)(T:Txt mg)(uq:bG P w K mg base aX 2 "_law_parted" ["_law_net_here","_law_one","_law_other","_law_held"] (bF jX))(DX:bG P w K mg base aX 1 "_law_lists" ["_law_some"] (bF pI)):bN P w K mg base aX 3 f fd ["_law_net_here"] (bF k4):=
 fe (Mo []) F VJ (λcdv A outer s H E hr nd hu a8=>by
  exact⟨_,(aM (pS 1 (d9 be))
 (aM (d5 dN rfl (Zp.Jq rfl T.ME (pX (pv 0) aJ)) (hW rfl (dG (pG 2) (dG (cK (i:=3) nd rfl (ft rfl)) g7)))
 (aV (d5 dN rfl (da (j5 Jt (pX (pv 0) aJ) (jP (a7 dO (pv 2) aJ)) kZ)) (cK (i:=4) nd rfl (ft rfl))
 (aM (pf (i:=5) (N':=["_law_one","_law_other","_law_name"]) (ρ:=[ac 3,ac 4,af]) rfl nd rfl (cG rfl) (dY.of rfl (by kernel_rfl)) (da (pX (pv 0) aJ)) (λ_ _ _ _ _=>(cK (i:=2) (by show(["_law_one","_law_other","_law_name"]:List Str).Nodup;decide +kernel) rfl (cG rfl))) (fH rfl) (λ_ _ _ _ _=>(iy (PW.pt (pw_and (bR (mM a8) (pv 2) (pv 0) (c9 _)) (pw_and1 (bR (mM a8) (pv 2) (pv 1) (c9 _))))))) (λ_ _ _ _ _=>(pv 2)))
 (aV (pS 1 (a7 dO (pv 1) (fN (N':=["_law_net_here","_law_one","_law_other","_law_held"]) (ρ:=[ac 0,ac 3,ac 4,af]) rfl (dY.of rfl (by kernel_rfl)) (da (pC DX hr (aI 5))) (λ_ _ _ _ _=>(cK (i:=3) (by show(["_law_net_here","_law_one","_law_other","_law_held"]:List Str).Nodup;decide +kernel) rfl (cG rfl))) (fH rfl) (λ_ _ _ _ _=>jv) (λ_ _ _ _ _=>(pC uq hr (aA (pv 0) (aA (pv 1) (aA (pv 2) (aI 3))))))))))))))
 (aV (bW (pv 1))))),
  (aN (bK 1 rfl (AE.nv (ed aW)))
 (aN (d3 (K:=K) (tg:=(.t [2,3])) (Zp.Jl (aq bj (am 0) (AE.p aH))) (by decide)
 (d3 (K:=K) (tg:=(.n 4)) (ib (jY EB (AE.p (aq bj (am 0) (AE.p aH))) (jH (AE.p (aq dQ (am 2) (AE.p aH)))) kN)) (by decide)
 (aN (bK 5 rfl (AE.nv (eE (K:=K) (tg:=(.n 2)) (fA (AE.p (aq bj (am 0) (AE.p aH)))) (by decide) (kg (bO (AE.p (aq m7 (am 2) (am 0)))) (bO (AE.p (aq m7 (am 2) (am 1))))) (aZ 2))))
 (bK 1 rfl (aq dQ (am 1) (AE.np (eE (K:=K) (tg:=(.n 3)) (fA (AE.p (dw (aO (a6 5) bD)))) (by decide) jn (dw (aO (a6 0) (aO (a6 1) (aO (a6 2) (aO (a6 3) bD))))))))))))
 (dB (a6 1))))⟩)
abbrev B0:bE:=top 64
theorem OU:cD ["_law_told","_law_net_here","_law_other","_law_says_here","_law_arrows","_law_arrow"] ["_law_told","_law_net_here","_law_other","_law_says_here"] (bH B0):=cZ
theorem SV{f:ak}{fd:bU}(F:cy K "_law_keeps" "_law_keeps" B0 f fd)(T:Txt mg)(oC:bG P w K mg base aX 1 "_law_flipped" ["_law_arrows","_law_arrow"] (cO kT))(rP:bG P w K mg base aX 1 "_law_comes_round" ["_law_names_here","_law_arrows"] (bF kP))(ul:bG P w K mg base aX 1 "_law_sorted" ["_law_names_here","_law_arrows"] (bF qW))(rQ:bG P w K mg base aX 3 "_law_says" ["_law_net_here"] (bF k4)):bN P w K mg base aX 4 f fd ["_law_told","_law_net_here","_law_other","_law_says_here"] (bF qK):=
 fe (Mo []) F OU (λcdv A outer s H E hr nd hu a8=>by
  exact⟨_,(aM (cX (iJ (gP (dD qA rfl T.rO rK (aA (pv 0) (aA (qS rfl T.fI jW) be)))))
 (aV (bW gq))
 dj)
 (aM (pS 4 (fg lV rfl T.fI jW (aA (pX (pv 1) aJ) be)))
 (aM (d5 dN rfl (da (pv 0)) (pG 5)
 (aM (cX (bR (iL a8) (pv 5) (pv 4) rfl)
 (aV (bW gq))
 dj)
 (aM (pS 4 (pC oC hr (aA (pv 4) (aI 5))))
 (aV (cX (PW.pt (pw_or (gP (pC rP hr (aA (pX (pv 1) aJ) (aI 4)))) (pw_or1 (bR (mM a8) (pC rQ hr (aA (dJ (aA (pX (pv 1) aJ) (aA (fg mH rfl T.gi ma (aI 4)) be))) be)) (pv 3) (c9 _)))))
 (aV (bW gq))
 dj)))))
 (aV (bW (jE (gI a8) (pC ul hr (aA (pX (pv 1) aJ) (aI 4))) (pv 2) (c9 _))))))),
  (aN (cY (iM (fP (AE.p (qE (ty_list K) (am 0)))))
 (dB (AE.w gz))
 di)
 (aN (bK 4 rfl (AE.nv (cw fI (aF (AE.p (aq bj (am 1) (AE.p aH))) aW))))
 (aN (d3 (K:=K) (tg:=(.n 5)) (ib (aZ 0)) (by decide)
 (aN (cY (bO (AE.p (aq iH (am 5) (am 4))))
 (dB (AE.w gz))
 di)
 (aN (bK 4 rfl (AE.nv (eR (aO (a6 4) (aO (a6 5) bD)))))
 (cY (jF (fP (AE.p (dw (aO (AE.w (aq bj (am 1) (AE.p aH))) (aO (a6 4) bD))))) (bO (AE.p (aq m7 (AE.p (dw (aO (AE.w (dL (aF (aq bj (am 1) (AE.p aH)) (aF (cw gi (aF (am 4) aW)) aW)))) bD))) (am 3)))))
 (dB (AE.w gz))
 di))))
 (dB (AE.w (aq gH (AE.p (dw (aO (AE.w (aq bj (am 1) (AE.p aH))) (aO (a6 4) bD)))) (am 2)))))))⟩)
abbrev Aw:bE:=top 65
theorem UH:cD ["_law_script","_law_draws_here","_law_net_here","_law_says_here","_law_draw","_law_other"] ["_law_script"] (bH Aw):=cZ
theorem QA{f:ak}{fd:bU}(F:cy K "law" "law" Aw f fd)(T:Txt mg)(zr:bG P w K mg base aX 7 "told_apart" ["first","second"] (bF kC))(DY:bG P w K mg base aX 8 "chain_to" ["first","second"] (cO qX))(DZ:bG P w K mg base aX 1 "_law_draws" ["_law_script"] (cO vm))(D0:bG P w K mg base aX 3 "_law_net" ["_law_draws_here","_law_least","_law_most"] (bF tq))(D1:bG P w K mg base aX 3 "_law_second" ["_law_net_here","_law_draw"] (bF qg))(D2:bG P w K mg base aX 3 "_law_apart" ["_law_told","_law_nets"] (bF qH))(rQ:bG P w K mg base aX 3 "_law_says" ["_law_net_here"] (bF k4))(D3:bG P w K mg base aX 4 "_law_keeps" ["_law_told","_law_net_here","_law_other","_law_says_here"] (bF qK)):bN P w K mg base aX 9 f fd ["_law_script"] (bF Cc):=
 fe (Mo []) F UH (λcdv A outer s H E hr nd hu a8=>by
  exact⟨_,(aM (pS 1 (pC DZ hr (aI 0)))
 (aM (pS 2 (pC D0 hr (aA (pv 1) (aA aJ (aA (pX (d9 (aA aJ (aA aJ (aA aJ (aA aJ be))))) (a7 eY (pX (pv 1) aJ) aJ)) be)))))
 (aM (pS 3 (pC rQ hr (aI 2)))
 (aM (d5 dN rfl (da (j5 lK (pv 1) (jP aJ) (jP aJ))) (pG 4)
 (aM (pS 5 (pC D1 hr (aA (pv 2) (aI 4))))
 (aV (cX (bR (gI a8) (pv 3) (pC rQ hr (aI 5)) (c9 _))
 (aV (cX (PW.pt (pw_or (bR Kb (pC zr hr (aA (pv 2) (aI 5))) wO (c9 _)) (pw_or1 (iJ (gP (pC D3 hr (aA (pC DY hr (aA (pv 2) (aI 5))) (aA (pv 2) (aA (pv 5) (aI 3))))))))))
 (aV (bW gq))
 dj))
 (aV (cX (iJ (gP (pC D2 hr (aA (pC zr hr (aA (pv 2) (aI 5))) (aA (d9 (aA (pv 2) (aI 5))) be)))))
 (aV (bW gq))
 dj))))))
 (aV (bW gq)))))),
  (aN (bK 1 rfl (AE.nv (eR (aO (a6 0) bD))))
 (aN (bK 2 rfl (dw (aO (a6 1) (aO (AE.w aH) (aO (AE.w (aq bj (AE.np (ed (aF aH (aF aH (aF aH (aF aH aW)))))) (AE.p (aq eZ (AE.p (aq bj (am 1) (AE.p aH))) (AE.p aH))))) bD)))))
 (aN (bK 3 rfl (dw (aO (a6 2) bD)))
 (aN (d3 (K:=K) (tg:=(.n 4)) (ib (jY lJ (am 1) (jH (AE.p aH)) (jH (AE.p aH)))) (by decide)
 (aN (bK 5 rfl (dw (aO (a6 2) (aO (a6 4) bD))))
 (cY (bO (AE.p (aq gH (am 3) (AE.p (dw (aO (a6 5) bD))))))
 (cY (jF (bO (AE.p (aq G6 (AE.p (dw (aO (a6 2) (aO (a6 5) bD)))) (AE.p yt)))) (iM (fP (AE.p (dw (aO (AW.nv (AE.w (eR (aO (a6 2) (aO (a6 5) bD))))) (aO (a6 2) (aO (a6 5) (aO (a6 3) bD)))))))))
 (dB (AE.w gz))
 di)
 (cY (iM (fP (AE.p (dw (aO (AE.w (dw (aO (a6 2) (aO (a6 5) bD)))) (aO (AW.nv (AE.w (ed (aF (aZ 2) (aF (aZ 5) aW))))) bD))))))
 (dB (AE.w gz))
 di))))
 (dB (AE.w gz))))))⟩)
end
end rN
namespace L2
open PySem PySem.Spec PyProof.Rows
theorem cE.Th{P:cp}{w:bI}{K:bb}{mg:Str->Option ai}{CX:jt}{k:Nat}{x p:Str}{st:bE}{sp:Sp}{fa c T:ak}(F:cE K mg x st [p])(hm:mg x=ac (.ref fa))(h:∀base,K.In base->base.Ns mainGlobals mg->BM mg base->lf base c T->∀f fd,cy K x x st f fd->bN P w K mg base CX k f fd [p] sp) :
 ∃fd:bU,(∀(s:aB) (u:ai),pY s fd ⟨[u],[]⟩ [(p,u)])/\∀base:bq,K.In base->base.Ns mainGlobals mg->BM mg base->lf base c T->bN P w K mg base CX k fa fd [p] sp:=by
 obtain⟨f,fd,h1,h2,h3,h5,h4⟩:=F.ex;rw[h1]at hm;cases hm;exact⟨fd,λs u=>h5 s [u] rfl,λbase kb nb b1 b2=>h base kb nb b1 b2 _ fd h4⟩
def GK(K:bb):Bool:=K.all λp=>match p.2.cls with|.type "list" => false|_=>true
theorem TX{K:bb}(h:GK K=true){a:ak}{o:Obj}(e:K.lookup a=ac o)(c:o.cls=.type "list"):False:=by
 have hm:(a,o)∈K:=by
  clear h
  induction K with
  |nil=>cases e
  |cons p r ih=>
   obtain⟨b,x⟩:=p;simp only[oz]at e;split at e
   ·rename_i q;cases e;rw[mO.mp q];exact List.Mem.head _
   ·exact List.Mem.tail _ (ih e)
 have h2:=rl.mp h _ hm;simp only[c]at h2;cases h2
end L2
namespace Mi
open PySem
@[simp] theorem jO {α:Type} (a:α):cQ (ac a)=.ok a:=rfl
@[simp] theorem Wy {α:Type} {c:Prop} [Decidable c] (h:c) (r:Rs α):bu c r=r:=bc h
@[simp] theorem lE (a b:Str):bP (.str a) (.str b)=decide (a=b):=by rw[bP];by_cases h:a=b<;>simp[h]
@[simp] theorem Qp (a b:Int):bP (.int a) (.int b)=decide (a=b):=by rw[bP];by_cases h:a=b<;>simp[h]
@[simp] theorem R4 (x:Str):(D.str x).dep=0:=by simp[D.dep]
@[simp] theorem Wx (x:Int):(D.int x).dep=0:=by simp[D.dep]
@[simp] theorem Wz (x:Bool):(D.bl x).dep=0:=by simp[D.dep]
@[simp] theorem WA:D.non.dep=0:=by simp[D.dep]
@[simp] theorem wH (ds:List D):(D.lst ds).dep=eJ ds+1:=by simp[D.dep]
@[simp] theorem At (ds:List D):(D.tup ds).dep=eJ ds+1:=by simp[D.dep]
@[simp] theorem zD:eJ []=0:=rfl
@[simp] theorem pK (d:D) (r:List D):eJ (d::r)=max d.dep (eJ r):=by rw[eJ]
@[simp] theorem uC:∀xs:List Str,eJ (xs.map D.str)=0
 |[]=>rfl
 |x::r=>by rw[cF,pK,R4,uC r];rfl
theorem Cf(xs:List Str)(x:Str):((xs.map D.str).any λe=>bP e (.str x))=decide (x∈xs):=by
 induction xs with
 |nil=>rfl
 |cons y r ih=>
  rw[cF,nk,ih,lE];by_cases h:y=x
  ·simp[h]
  ·have h2:¬ x=y:=λz=>h z.symm;simp[h,h2]
theorem pz(xs:List Str)(x:Str):b8 (.str x) (.lst (xs.map D.str))=.ok (.bl (decide (x∈xs))):=by show bu _ _=_;rw[aK (by rw[uC];omega),Cf]
theorem qe(xs:List Str)(x:Str):cz (.str x) (.lst (xs.map D.str))=.ok (.bl (!decide (x∈xs))):=by show bu _ _=_;rw[aK (by rw[uC];omega),Cf]
theorem AI(xs:List Str)(x:Str):cz (.str x) (.tup (xs.map D.str))=.ok (.bl (!decide (x∈xs))):=by show bu _ _=_;rw[aK (by rw[uC];omega),Cf]
theorem vA(x y:Str):bM (.str x) (.str y)=.ok (.bl (decide (x=y))):=by show bu _ _=_;rw[aK (by simp),lE]
theorem vN(x y:Str):d6 (.str x) (.str y)=.ok (.bl (!decide (x=y))):=by show bu _ _=_;rw[aK (by simp),lE]
theorem k7(x y:Int):bM (.int x) (.int y)=.ok (.bl (decide (x=y))):=by show bu _ _=_;rw[aK (by simp),Qp]
theorem Fy{α:Type}(f:α->Bool)(xs:List α):nZ (xs.map λx=>D.bl (f x))=ac (xs.map f):=by
 induction xs with
 |nil=>rfl
 |cons a r ih=>rw[cF,nZ,ih];rfl
theorem qv(xs:List Str):fM (xs.map D.str)=ac xs:=by
 induction xs with
 |nil=>rfl
 |cons a r ih=>rw[cF,fM,ih];rfl
theorem rS(n:Nat)(b:S)(a0:W):ee 1 n b [a0]=(b ([ac a0]++bZ (n-1) af)).bind nN:=aK rfl
theorem i5(n:Nat)(b:S)(a0 a1:W):ee 2 n b [a0,a1]=(b ([ac a0,ac a1]++bZ (n-2) af)).bind nN:=aK rfl
theorem tH(n:Nat)(b:S)(a0 a1 a2:W):ee 3 n b [a0,a1,a2]=(b ([ac a0,ac a1,ac a2]++bZ (n-3) af)).bind nN:=aK rfl
theorem KD(n:Nat)(b:S)(a0 a1 a2 a3:W):ee 4 n b [a0,a1,a2,a3]=(b ([ac a0,ac a1,ac a2,ac a3]++bZ (n-4) af)).bind nN:=aK rfl
theorem qZ(n:Nat)(b:S)(a0:W):fS 1 n b [a0]=(b ([ac a0]++bZ (n-1) af)).bind lU:=aK rfl
theorem mz(n:Nat)(b:S)(a0 a1:W):fS 2 n b [a0,a1]=(b ([ac a0,ac a1]++bZ (n-2) af)).bind lU:=aK rfl
theorem JX(n:Nat)(b:S)(a0 a1 a2:W):fS 3 n b [a0,a1,a2]=(b ([ac a0,ac a1,ac a2]++bZ (n-3) af)).bind lU:=aK rfl
theorem Fq{α:Type}(r:Rs α):bu (1<=16777216) r=r:=aK (by decide)
theorem sH(i j:Int):a9 (.int i) (.int j)=.ok (.int (i+j)):=rfl
theorem ED(i j:Str):a9 (.str i) (.str j)=bu (i.length+j.length<=16777216) (.ok (.str (i++j))):=rfl
theorem og(i j:List D):a9 (.lst i) (.lst j)=bu (i.length+j.length<=16777216) (.ok (.lst (i++j))):=rfl
theorem Qf(i j:Int):fJ (.int i) (.int j)=.ok (.int (i-j)):=rfl
theorem JQ(i j:Int):de (.int i) (.int j)=bu (mI i j) (.ok (.int (i*j))):=rfl
theorem div_ii(i j:Int):cW (.int i) (.int j)=bu (mE j) (.ok (.int (i/j))):=rfl
theorem oJ(i j:Int):bL (.int i) (.int j)=bu (0<j) (.ok (.int (i%j))):=rfl
theorem sC(i j:Int):gr (.int i) (.int j)=.ok (.bl (decide (i<j))):=rfl
theorem zF(i j:Int):iu (.int i) (.int j)=.ok (.bl (decide (j<i))):=rfl
theorem J8(x:D):oO x .non=.ok (.bl (!vg x)):=rfl
theorem Vo:vg .non=true:=rfl
theorem Rg(x:Str):vg (.str x)=false:=rfl
theorem oU(ds:List D):cI [.lst ds]=.ok (.int ds.length):=rfl
theorem FN(ds:List D):cI [.tup ds]=.ok (.int ds.length):=rfl
theorem RW(z:Str):cI [.str z]=bu (z.length<=16777216) (.ok (.int z.length)):=rfl
theorem FP(i j:Int):gT [.int i,.int j]=.ok (.int (max i j)):=rfl
theorem EA(i j:Int):k8 [.int i,.int j]=.ok (.int (min i j)):=rfl
theorem JE(ds:List D):tG [.lst ds]=(cQ (nZ ds)).bind λbs=>.ok (.bl (bs.all id)):=rfl
theorem RM(ds:List D):ie [.lst ds]=.ok (.lst ds):=rfl
theorem Qg(ds:List D):jR [.lst ds]=.ok (.tup ds):=rfl
theorem Ti(ds:List D)(lo hi:Option Int):fE (.lst ds) lo hi=.ok (.lst (gf ds lo hi)):=rfl
theorem Bo(z:Str)(lo hi:Option Int):fE (.str z) lo hi=bu (z.length<=16777216) (.ok (.str (pD z lo hi))):=rfl
theorem Rf(ds:List D):x6 (.lst ds)=.ok ds:=rfl
theorem B5(ds:List D):x6 (.tup ds)=.ok ds:=rfl
theorem mZ(b:Bool):oK (.bl b)=.ok b:=rfl
theorem nP(b:Int):oN (.int b)=.ok b:=rfl
theorem pF(x:D):xh (.d x)=.ok x:=rfl
theorem Uc(x:D):Ba (.d x)=bu (pc x=true) (.ok x):=rfl
theorem Uv(i:Nat)(d:D)(e:Mi.Env):(Tg.n i).put d e=.ok (e.set i (ac (.d d))):=rfl
theorem all_cons(i:Nat)(is:List Nat)(d:D)(ds:List D)(e:Mi.Env):rY (i::is) (d::ds) e=rY is ds (e.set i (ac (.d d))):=rfl
theorem Vx(w:W):nN (.rt w)=.ok w:=rfl
theorem Se(e:Mi.Env):nN (.nx e)=.ok (.d .non):=rfl
theorem Vc(w:W):lU (.rt w)=.ok w:=rfl
theorem av{f:D->D->Rs D}{a b:E}{e:Mi.Env}{x y:D}{z:Rs D}(ha:a e=.ok x)(hb:b e=.ok y)(h:f x y=z):m2 f a b e=z:=by unfold m2;rw[ha,aQ,hb,aQ,h]
theorem aL{s t:S}{e e':Mi.Env}(h:s e=.ok (.nx e')):aD s t e=t e':=by unfold aD;rw[h];rfl
theorem oM{s t:S}{e:Mi.Env}{w:W}(h:s e=.ok (.rt w)):aD s t e=.ok (.rt w):=by unfold aD;rw[h];rfl
theorem bv{i:Nat}{a:E}{e:Mi.Env}{d:D}(h:a e=.ok d):aS i a e=.ok (.nx (e.set i (ac (.d d)))):=by unfold aS;rw[h];rfl
theorem eI{a:EW}{e:Mi.Env}{w:W}(h:a e=.ok w):bA a e=.ok (.rt w):=by unfold bA;rw[h];rfl
theorem bY{a:E}{e:Mi.Env}{d:D}(h:a e=.ok d):wD a e=.ok (.d d):=by unfold wD;rw[h];rfl
theorem gF{c:C}{s t:S}{e:Mi.Env}(h:c e=.ok true):bp c s t e=s e:=by unfold bp;rw[h];rfl
theorem dr{c:C}{s t:S}{e:Mi.Env}(h:c e=.ok false):bp c s t e=t e:=by unfold bp;rw[h];rfl
theorem bx{a:E}{e:Mi.Env}{b:Bool}(h:a e=.ok (.bl b)):cB a e=.ok b:=by unfold cB;rw[h];rfl
theorem eL{ρ:List (Option Nat)}{it:I}{tg:Tg}{c:C}{a:E}{e:Mi.Env}{xs ys:List D}(h:it e=.ok xs)(hl:xs.length<=16777216)(hc:dA tg c a (kW ρ e) xs=.ok ys):bV ρ it tg c a e=.ok (.lst ys):=by unfold bV;rw[h,aQ,aK hl,hc,aQ]
theorem gs{a:E}{e:Mi.Env}{n:Int}(h:a e=.ok (.int n))(hr:okR n):fj a e=.ok (dv 0 n):=by unfold fj;rw[h,aQ,nP,aQ,aK hr]
theorem ej{it:I}{tg:Tg}{b:S}{e:Mi.Env}{xs:List D}(h:it e=.ok xs):cJ it tg b e=fV tg b xs e:=by unfold cJ;rw[h];rfl
theorem dM{a:E}{e:Mi.Env}{x:D}{xs:List D}(h:a e=.ok x)(hx:x6 x=.ok xs):br a e=.ok xs:=by unfold br;rw[h,aQ,hx]
theorem mJ{i:Nat}{a:E}{e:Mi.Env}{d:D}{ds:List D}(h:a e=.ok d)(hg:getL e i=.ok ds)(hl:ds.length<16777216):dI i a e=.ok (.nx (putL e i (ds++[d]))):=by unfold dI;rw[h,aQ,hg,aQ,aK hl]
theorem dX{f:List D->Rs D}{a:E}{e:Mi.Env}{x:D}(h:a e=.ok x):mN f [a] e=f [x]:=by unfold mN;rw[eX,h];rfl
theorem la{f:List D->Rs D}{a b:E}{e:Mi.Env}{x y:D}(h:a e=.ok x)(h':b e=.ok y):mN f [a,b] e=f [x,y]:=by unfold mN;rw[eX,h,aQ,eX,h'];rfl
theorem o0{a:E}{e:Mi.Env}{x:D}(h:a e=.ok x):mN b9 [a] e=.ok (.lst [x]):=by rw[dX h];exact aK (by simp)
theorem eS{a b:E}{e:Mi.Env}{x y:D}(h:a e=.ok x)(h':b e=.ok y):mN dTup [a,b] e=.ok (.tup [x,y]):=by rw[la h h'];exact aK (by simp)
theorem gG{f:Fn}{a:EW}{e:Mi.Env}{x:W}{d:D}(h:a e=.ok x)(hf:f [x]=.ok (.d d)):aR f [a] e=.ok d:=by unfold aR jr;rw[d8,h];simp only[aQ,d8,hf,pF]
theorem call2{f:Fn}{a b:EW}{e:Mi.Env}{x y:W}{d:D}(h:a e=.ok x)(h':b e=.ok y)(hf:f [x,y]=.ok (.d d)):aR f [a,b] e=.ok d:=by unfold aR jr;rw[d8,h,aQ,d8,h'];simp only[aQ,d8,hf,pF]
theorem mD{f:Fn}{a b c:EW}{e:Mi.Env}{x y z:W}{d:D}(h:a e=.ok x)(h':b e=.ok y)(h'':c e=.ok z)(hf:f [x,y,z]=.ok (.d d)):aR f [a,b,c] e=.ok d:=by unfold aR jr;rw[d8,h,aQ,d8,h',aQ,d8,h''];simp only[aQ,d8,hf,pF]
theorem fi{α:Type}{tg:Tg}{c:C}{a:E}{e:Mi.Env}(f g:α->D)(p:α->Bool):∀(xs:List α),(∀x∈xs,∃e1,tg.put (f x) e=.ok e1/\c e1=.ok (p x)/\(p x=true->a e1=.ok (g x)))->dA tg c a e (xs.map f)=.ok ((xs.filter p).map g)
 |[],_=>rfl
 |x::r,h=>by
  obtain⟨e1,h1,h2,h3⟩:=h x c6;have ih:=fi (tg:=tg) (c:=c) (a:=a) (e:=e) f g p r λy hy=>h y (er _ hy);rw[cF,dA,h1,aQ,h2,aQ];cases hp:p x with
  |true=>rw[bc rfl,h3 hp,aQ,ih,aQ,CD hp];rfl
  |false=>rw[ba dR,ih,CG (by rw[hp];exact dR)]
theorem fO{tg:Tg}{body:S}(Inv:Nat->Mi.Env->Prop):∀(xs:List D) (k:Nat),(∀i x e,xs[i]? = ac x->Inv (k+i) e->∃e1 e2,tg.put x e=.ok e1/\body e1=.ok (.nx e2)/\Inv (k+i+1) e2)->∀e,Inv k e->∃e',fV tg body xs e=.ok (.nx e')/\Inv (k+xs.length) e'
 |[],k,_,e,h=>⟨e,rfl,h⟩
 |x::r,k,hs,e,h=>by
  obtain⟨e1,e2,h1,h2,h3⟩:=hs 0 x e rfl h;obtain⟨e',h4,h5⟩:=fO Inv r (k+1) (λi y e hy hi=>by
   have:=hs (i+1) y e (by simpa using hy) (by rw[show k+(i+1)=k+1+i by omega];exact hi);rw[show k+(i+1)+1=k+1+i+1 by omega]at this;exact this) e2 h3
  refine⟨e',?_,by rw[dH,show k+(r.length+1)=k+1+r.length by omega];exact h5⟩;rw[fV,h1,aQ,h2,aQ];exact h4
theorem G3{α:Type}{tg:Tg}{body:S}{e:Mi.Env}{w:Out}(f:α->D)(st:Option α->Mi.Env)(p:α->Bool)(out:α->Out):∀(xs:List α) (o:Option α),
 (∀x∈xs,∀o,∃e1,tg.put (f x) (st o)=.ok e1/\body e1=.ok (if p x=true then out x else .nx (st (ac x)))) ->
 (∀x∈xs,p x=true->∃w,out x=.rt w) ->
 fV tg body (xs.map f) (st o)=.ok (match xs.find? p with|some x=>out x|none=>.nx (st (xs.getLast?.or o)))
 |[],o,_,_=>by cases o<;>rfl
 |x::r,o,h,ho=>by
  obtain⟨e1,h1,h2⟩:=h x c6 o;rw[cF,fV,h1,aQ,h2,aQ];cases hp:p x with
  |true=>
   obtain⟨w,hw⟩:=ho x c6 hp;rw[List.find?_cons_of_pos hp];simp only[i9,hw]
  |false=>
   rw[List.find?_cons_of_neg (by rw[hp];exact dR)];have ih:=G3 (e:=e) (w:=w) f st p out r (ac x) (λy hy=>h y (er _ hy)) λy hy=>ho y (er _ hy);simp only[rE,iU];rw[ih];have:(r.getLast?.or (ac x))=((x::r).getLast?.or o):=by
    cases r with
    |nil=>rfl
    |cons y t=>simp[List.getLast?_cons]
   rw[this]
end Mi
namespace Mr
open PySem Mi
abbrev Ar:=Str×Str
def pairD(p:Ar):D:=.tup [.str p.1,.str p.2]
def aP(ae:List Str):D:=.tup (ae.map D.str)
def dg(ag:List Ar):D:=.tup (ag.map pairD)
def ao(ae:List Str)(ag:List Ar):D:=.tup [aP ae,dg ag]
def aj(xs:List Str):D:=.lst (xs.map D.str)
theorem at0{α:Type}(a:α)(r:List α):eo (a::r) 0=ac a:=by simp[eo,f7]
theorem at1{α:Type}(a b:α)(r:List α):eo (a::b::r) 1=ac b:=by unfold eo f7;rw[bc (by decide),bc (by simp only[dH];omega)];rfl
theorem gm(ae:List Str)(ag:List Ar):aw (ao ae ag) (.int 0)=.ok (aP ae):=by unfold ao aw;simp[at0]
theorem j8(ae:List Str)(ag:List Ar):aw (ao ae ag) (.int 1)=.ok (dg ag):=by unfold ao aw;simp[at1]
theorem uX{ae asked:List Str}(h:∀x∈asked,x∈ae):iA [.d (aP ae),.d (aj asked)]=.ok (.d .non):=by
 have key:∀(xs:List Str) (o:Option W),(∀x∈xs,x∈ae)->∃o',fV (.n 2) (bp (cB (m2 cz (mV 2) (mV 0))) iK bz) (xs.map D.str) [ac (.d (aP ae)),ac (.d (aj asked)),o]=.ok (.nx [ac (.d (aP ae)),ac (.d (aj asked)),o']):=by
  intro xs
  induction xs with
  |nil=>exactλo _=>⟨o,rfl⟩
  |cons x r ih=>
   intro o hx;obtain⟨o',e⟩:=ih (ac (.d (.str x))) λy hy=>hx y (er _ hy);refine⟨o',?_⟩;rw[cF,fV];have:x∈ae:=hx x c6;simp only[aP,Uv,vO,vP,bp,cB,m2,mV,bz,aQ,iD,gV,AI,this,decide_true,Dg,mZ,rE,iU];exact e
 obtain⟨o',e⟩:=key asked af h;unfold aj at e;unfold iA ID;rw[i5];simp only[cJ,br,mV,aj,y6,m9,yE,pT,jV,iD,gV,aQ,Rf,e,Se]
def bQ(ag:List Ar)(x:Str):List Str:=(ag.filter λp=>decide (p.2=x)).map (·.1)
theorem x9{ae:List Str}{ag:List Ar}{x:Str}(hx:x∈ae)(hl:ag.length<=64):jq [.d (ao ae ag),.d (.str x)]=.ok (.d (.tup ((bQ ag x).map D.str))):=by
 have hr:=uX (ae:=ae) (asked:=[x]) (by simpa using hx);unfold jq JN;rw[i5];have hc:dA (.t [1,2]) (cB (m2 bM (mV 2) (mV 0))) (mV 1) [ac (.d (.str x)),af,af] (ag.map pairD)=.ok ((ag.filter λp=>decide (p.2=x)).map λp=>D.str p.1):=fi pairD (λp=>D.str p.1) (λp=>decide (p.2=x)) ag λp _=>⟨[ac (.d (.str x)),ac (.d (.str p.1)),ac (.d (.str p.2))],rfl,by simp only[cB,m2,mV,iD,gV,aQ,vA,mZ],λ_=>by simp only[mV,iD,gV]⟩
 have hg:bu (([D.str x]:List D).length<=16777216) (Rs.ok (D.lst [D.str x]))=.ok (.lst [.str x]):=aK (by simp);unfold aj at hr;have hp:kW [ac 1,af,af] [ac (W.d (ao ae ag)),ac (W.d (D.str x))]=[ac (.d (.str x)),af,af]:=rfl;simp only[dH,gL,dS,Fq]at hg;simp only[cF,jz,aD,i3,aR,jr,d8,wD,m2,mV,y6,yE,pT,jV,gV,mC,aQ,gm,mN,eX,iD,b9,dH,gL,dS,Fq,bA]at hr ⊢;rw[hr];simp only[aQ,pF,bV,br,m2,mV,mC,gV,j8,dg,B5,hp];rw[aK (by rw[aU];omega),hc];simp only[aQ,Qg,Vx,bQ,fG];rfl
def ready(ag:List Ar)(told:List Str)(x:Str):Bool:=!decide (x∈told)&&(bQ ag x).all λy=>decide (y∈told)
def nxt(ae:List Str)(ag:List Ar)(told:List Str):Option Str:=ae.find? (ready ag told)
def pr:Option Str->D
 |some x=>.str x
 |none=>.non
theorem Qt(x:Str):pr (ac x)=.str x:=rfl
theorem N9:pr af=.non:=rfl
theorem ph{ag:List Ar}{x:Str}(hl:ag.length<=64):(bQ ag x).length<=64:=by unfold bQ;rw[aU];exact c8 (gX _ _) hl
theorem Qo{ae:List Str}{ag:List Ar}(hl:ag.length<=64)(told:List Str):n9 [.d (ao ae ag),.d (aj told)]=.ok (.d (pr (nxt ae ag told))):=by
 unfold n9 Fp;rw[i5];have step:∀x∈ae,∀o:Option Str,∃e1,(Tg.n 2).put (D.str x) [ac (.d (ao ae ag)),ac (.d (aj told)),o.map λy=>W.d (.str y)]=.ok e1 /\
  (bp (cH (cB (m2 cz (mV 2) (mV 1))) (cB (mN tG [(bV [ac 1,af] (br (aR jq [(wD (mV 0)),(wD (mV 2))])) (.n 1) dz (m2 b8 (mV 1) (mV 0)))]))) (bA (wD (mV 2))) bz) e1 =
   .ok (if ready ag told x=true then .rt (.d (.str x))else .nx [ac (.d (ao ae ag)),ac (.d (aj told)),(ac x).map λy=>W.d (.str y)]):=by
  intro x hx o;refine⟨[ac (.d (ao ae ag)),ac (.d (aj told)),ac (.d (.str x))],rfl,?_⟩;have hc:dA (.n 1) dz (m2 b8 (mV 1) (mV 0)) [ac (.d (aj told)),af] ((bQ ag x).map D.str)=.ok (((bQ ag x).filter λ_=>true).map λy=>D.bl (decide (y∈told))):=
   fi D.str (λy=>D.bl (decide (y∈told))) (λ_=>true) _ λy _=>⟨[ac (.d (aj told)),ac (.d (.str y))],rfl,rfl,λ_=>by simp only[m2,mV,aj,iD,gV,aQ,pz]⟩
  have hf:((bQ ag x).filter λ_=>true)=bQ ag x:=ng.mpr λ_ _=>rfl;rw[hf]at hc;have hp:kW [ac 1,af] [ac (W.d (ao ae ag)),ac (W.d (aj told)),ac (W.d (D.str x))]=[ac (.d (aj told)),af]:=rfl;have hn:cz (.str x) (aj told)=.ok (.bl (!decide (x∈told))):=qe told x;simp only[bp,cH,cB,m2,mV,iD,gV,aQ,hn,mZ,mN,eX,bA,wD,bz];unfold ready;cases hm:decide (x∈told)with
  |true=>rfl
  |false=>
   simp only[Bool.not_false,bV,br,aR,jr,d8,wD,mV,gV,aQ,iD,x9 hx hl,pF,B5,hp,i9];rw[aK (by rw[aU];have:=ph (x:=x) hl;omega),hc];simp only[aQ,JE,Fy,jO,yL,mZ,Bool.true_and];have:(List.all (bQ ag x) (id ∘ λy=>decide (y∈told)))=(bQ ag x).all λy=>decide (y∈told):=rfl;rw[this];cases(bQ ag x).all λy=>decide (y∈told)<;>rfl
 have hf:=G3 (e:=[]) (w:=.rt (.d .non)) D.str (λo=>[ac (.d (ao ae ag)),ac (.d (aj told)),o.map λy=>W.d (.str y)]) (ready ag told) (λx=>.rt (.d (.str x))) ae af step λx _ _=>⟨_,rfl⟩;simp only[Option.map_none]at hf;simp only[aD,cJ,br,m2,mV,y6,m9,yE,pT,jV,gV,mC,aQ,gm,aP,B5,hf,bA,wD];unfold nxt;cases ae.find? (ready ag told)with
 |none=>rfl
 |some x=>rfl
structure iw(ae:List Str)(ag:List Ar):Prop where
 nd:ae.Nodup
 pos:1<=ae.length
 le:ae.length<=8
 al:ag.length<=64
 tl:∀p∈ag,p.1∈ae
 rk:∃r:Str->Int,∀p∈ag,r p.1<r p.2
theorem lA{ag:List Ar}{x y:Str}:y∈bQ ag x↔(y,x)∈ag:=by
 unfold bQ;constructor
 ·intro h;obtain⟨p,hp,rfl⟩:=cL.mp h;obtain⟨h1,h2⟩:=cx.mp hp;have:p.2=x:=by simpa using h2
  rw[<- this];exact h1
 ·intro h;exact cL.mpr ⟨(y,x),cx.mpr ⟨h,by simp⟩,rfl⟩
theorem Bw{α:Type}(f:α->Int):∀(l:List α),l≠[]->∃x∈l,∀y∈l,f x<=f y
 |[],h=>absurd rfl h
 |[a],_=>⟨a,by simp,by simp⟩
 |a::b::r,_=>by
  obtain⟨x,hx,hm⟩:=Bw f (b::r) (by simp);by_cases h:f a<=f x
  ·refine⟨a,c6,λy hy=>?_⟩;rcases cn.mp hy with rfl|hy
   ·exact v6 _
   ·exact Int.le_trans h (hm y hy)
  ·refine⟨x,er _ hx,λy hy=>?_⟩;rcases cn.mp hy with rfl|hy
   ·omega
   ·exact hm y hy
theorem iw.next{ae:List Str}{ag:List Ar}(N:iw ae ag){told:List Str}(h:∃x∈ae,x∉told):∃x,nxt ae ag told=ac x/\x∈ae/\x∉told:=by
 obtain⟨r,hr⟩:=N.rk;obtain⟨x0,h1,h2⟩:=h;obtain⟨x,hx,hm⟩:=Bw r (ae.filter λx=>!decide (x∈told)) (λz=>by
  have:x0∈ae.filter λx=>!decide (x∈told):=cx.mpr ⟨h1,by simpa using h2⟩;rw[z]at this;cases this)
 obtain⟨hx1,hx2⟩:=cx.mp hx;have hx2:x∉told:=by simpa using hx2
 have rd:ready ag told x=true:=by
  unfold ready;rw[jA];refine⟨by simpa using hx2,rl.mpr λy hy=>?_⟩;have hy:=lA.mp hy;by_cases hyt:y∈told
  ·simpa using hyt
  ·have:=hm y (cx.mpr ⟨N.tl _ hy,by simpa using hyt⟩);have:=hr _ hy;have:r y<r x:=this;omega
 unfold nxt;cases hf:ae.find? (ready ag told)with
 |none=>exact absurd rd (by simpa using Lv.mp hf x hx1)
 |some z=>
  have hz:=List.find?_some hf;refine⟨z,rfl,List.mem_of_find?_eq_some hf,λhzt=>?_⟩;unfold ready at hz;rw[jA]at hz;simp[hzt]at hz
def ord(ae:List Str)(ag:List Ar):Nat->List Str
 |0=>[]
 | k+1=>match nxt ae ag (ord ae ag k)with
  |some x=>ord ae ag k++[x]
  |none=>ord ae ag k
theorem i4{α:Type}[DecidableEq α]:∀{l m:List α},l.Nodup->(∀x∈l,x∈m)->l.length<=m.length
 |[],_,_,_=>gZ _
 |a::l,m,nd,h=>by
  have nd:=iO.mp nd;have:l.length<=(m.erase a).length:=i4 nd.2 λx hx=>(CK (λz:x=a=>nd.1 (z ▸ hx))).mpr (h x (er _ hx));have hm:=h a c6;rw[yz hm]at this;have:0<m.length:=tP hm;rw[dH];omega
theorem iw.ya{ae:List Str}{ag:List Ar}(N:iw ae ag):∀k,k<=ae.length->(ord ae ag k).length=k/\(ord ae ag k).Nodup/\(∀x∈ord ae ag k,x∈ae)
 |0,_=>⟨rfl,yI,by simp[ord]⟩
 |k+1,h=>by
  obtain⟨h1,h2,h3⟩:=N.ya k (by omega);have ex:∃x∈ae,x∉ord ae ag k:=by refine gN λz=>?_;have hall:∀x∈ae,x∈ord ae ag k:=λx hx=>gN λy=>z ⟨x,hx,y⟩;have:=i4 N.nd hall;omega
  obtain⟨x,hx,hm,hn⟩:=N.next ex;rw[ord,hx];refine⟨by simp[h1],?_,λy hy=>?_⟩
  ·rw[kn];refine⟨h2,by simp,λa ha b hb=>?_⟩;have:b=x:=by simpa using hb
   subst this;exactλz=>hn (z ▸ ha)
  ·rcases eg.mp hy with hy|hy
   ·exact h3 y hy
   ·have:y=x:=by simpa using hy
    rw[this];exact hm
theorem iw.Ss{ae:List Str}{ag:List Ar}(N:iw ae ag){k:Nat}(h:k<ae.length):∃x,nxt ae ag (ord ae ag k)=ac x/\ord ae ag (k+1)=ord ae ag k++[x]:=by
 obtain⟨h1,h2,h3⟩:=N.ya k (by omega);have ex:∃x∈ae,x∉ord ae ag k:=by refine gN λz=>?_;have hall:∀x∈ae,x∈ord ae ag k:=λx hx=>gN λy=>z ⟨x,hx,y⟩;have:=i4 N.nd hall;omega
 obtain⟨x,hx,_⟩:=N.next ex;exact⟨x,hx,by rw[ord,hx]⟩
theorem iw.J3{ae:List Str}{ag:List Ar}(N:iw ae ag):∀x∈ae,x∈ord ae ag ae.length:=λx hx=>by
 obtain⟨h1,h2,h3⟩:=N.ya ae.length (bJ _);refine gN λz=>?_;have:(x::ord ae ag ae.length).length<=ae.length:=i4 (iO.mpr ⟨z,h2⟩) λy hy=>by
  rcases cn.mp hy with rfl|hy
  ·exact hx
  ·exact h3 y hy
 rw[dH]at this;omega
theorem iw.O3{ae:List Str}{ag:List Ar}(N:iw ae ag):nxt ae ag (ord ae ag ae.length)=af:=by unfold nxt;refine Lv.mpr λx hx=>?_;unfold ready;simp[N.J3 x hx]
theorem Lh(o:Option Str):pc (pr o)=true:=by cases o<;>simp[pr,pc]
theorem VR{ae:List Str}{ag:List Ar}(N:iw ae ag):uM [.d (ao ae ag)]=.ok (.d (aj (ord ae ag ae.length))):=by
 have fr:=λtold=>Qo (ae:=ae) N.al told;have fr':∀told:List Str,n9 [.d (ao ae ag),.d (.lst (told.map D.str))]=.ok (.d (pr (nxt ae ag told))):=fr;have key:∀(j k:Nat),k+j=ae.length->∃o,gO (cB (m2 oO (mV 2) (mC .non))) (aD (dI 1 (mV 2)) (aS 2 (pb n9 [(wD (mV 0)),(wD (mV 1))]))) (j+92)
  [ac (.d (ao ae ag)),ac (.d (aj (ord ae ag k))),ac (.d (pr (nxt ae ag (ord ae ag k))))]=.ok (.nx [ac (.d (ao ae ag)),ac (.d (aj (ord ae ag ae.length))),o]):=by
  intro j
  induction j with
  |zero=>
   intro k hk;obtain rfl:k=ae.length:=by omega
   refine⟨ac (.d .non),?_⟩;rw[gO,N.O3];simp only[cB,m2,mV,N9,iD,gV,mC,aQ,J8,Vo,Dg,mZ,aD,dI,getL,putL,vO,vP,aS,pb,jr,d8,wD,rE,iU]
  |succ j ih=>
   intro k hk;obtain⟨x,hx,e⟩:=N.Ss (k:=k) (by omega);obtain⟨o,ho⟩:=ih (k+1) (by omega);refine⟨o,?_⟩;have hl:=(N.ya k (by omega)).1;have hg:((ord ae ag k).map D.str).length<16777216:=by rw[aU,hl];have:=N.le;omega
   have hs:D.lst ((ord ae ag k).map D.str++[D.str x])=aj (ord ae ag (k+1)):=by rw[e,aj,fo];rfl
   rw[show j+1+92=(j+92)+1 by omega,gO,hx];simp only[cB,m2,mV,aj,Qt,iD,gV,mC,aQ,J8,Rg,Bool.not_false,mZ,aD,dI,getL,putL,vO,vP,aK hg,hs,aS,pb,jr,d8,wD,fr',Uc,aK (Lh _),i9];exact ho
 obtain⟨o,ho⟩:=key ae.length 0 (by omega);unfold uM EZ;rw[qZ];have hw:∀(c:C) (b:S) (e e':Mi.Env) (n m:Nat),gO c b n e=.ok (.nx e')->gO c b (n+m) e=.ok (.nx e'):=by
  intro c b e e' n m
  induction n generalizing e with
  |zero=>intro h;cases h
  |succ n ih=>
   intro h;rw[show n+1+m=(n+m)+1 by omega,gO];rw[gO]at h
   revert h
   cases c e with
   |ok k=>
    cases k with
    |false=>exact id
    |true=>
     simp only[aQ,i9];cases b e with
     |ok o'=>
      cases o' with
      |nx e2=>exact ih _
      |ct e2=>exact ih _
      |bk e2=>exact id
      |rt w=>exact id
     |ex x=>exact id
     |no=>exact id
   |ex x=>exact id
   |no=>exact id
 have ho:=hw _ _ _ _ _ (8-ae.length) ho;rw[show ae.length+92+(8-ae.length)=100 by have:=N.le;omega]at ho;have f0:=fr [];have h0:aj []=D.lst []:=rfl;rw[h0]at f0;have hg0:bu (([]:List D).length<=16777216) (Rs.ok (D.lst []))=.ok (.lst []):=aK (by simp);simp only[gL]at hg0;have ho:gO (cB (m2 oO (mV 2) (mC .non))) (aD (dI 1 (mV 2)) (aS 2 (pb n9 [(wD (mV 0)),(wD (mV 1))]))) 100 [ac (.d (ao ae ag)),ac (.d (.lst [])),ac (.d (pr (nxt ae ag [])))]=.ok (.nx [ac (.d (ao ae ag)),ac (.d (aj (ord ae ag ae.length))),o]):=ho;simp only[aD,aS,qt,mN,eX,b9,aQ,hg0,gL,pT,jV,m9,yE,y6,vP,vO,pb,jr,d8,wD,mV,gV,iD,f0,Ba,aK (Lh _),cF,jz];rw[ho];rfl
end Mr
namespace Mr
open PySem Mi
theorem HH{α:Type}(xs:List α)(k:Nat):gf xs af (ac (k:Int))=xs.take k:=by
 show(xs.drop 0).take ((if(k:Int)<0 then((k:Int)+(xs.length:Int)).toNat else min (k:Int).toNat xs.length)-0)=_;rw[ba (by omega),vQ,Nat.sub_zero,jf];rcases Dl k xs.length with h|h
 ·rw[Dj h]
 ·rw[Di h,tO (bJ _),tO h]
theorem wL:∀xs ys:List Str,d0 (xs.map D.str) (ys.map D.str)=decide (xs=ys)
 |[],[]=>rfl
 |[],_::_=>rfl
 |_::_,[]=>rfl
 |x::xs,y::ys=>by
  rw[cF,cF,d0,lE,wL xs ys];by_cases h1:x=y<;>by_cases h2:xs=ys<;>simp[h1,h2]
end Mr
namespace My
def wl:List Nat:=[101,116,97,111,105,110,115,104,114,100,108,117,99,109,102,119,121,112,118,98,103,107,113,106,120,122]
def h6(n:Int):Nat:=wl.getD (n%26).toNat 0
def h7(c:Int):List Nat:=(b0 8).map λ(k:Nat)=>h6 (c/(4+3*(k:Int)))
def ir(c:Int)(n:Nat):List Nat:=(b0 n).map λ(k:Nat)=>h6 (c/32+5*(k:Int)+(k:Int)*(k:Int))
def words(c:Int)(many:Nat):List (List Nat):=
 if c%4<2 then
  if c%4=0 then(b0 many).map λ(k:Nat)=>(h7 c).take (k+1)
  else(b0 many).map λ(k:Nat)=>(h7 c).drop (7-k)
 else
  (b0 many).map λ(k:Nat)=>(ir c (c/4%8).toNat).take (c/256%(c/4%8+1)).toNat++[h6 (c/7+5*(k:Int))]++(ir c (c/4%8).toNat).drop (c/256%(c/4%8+1)).toNat
def fX(x:List Nat):Prop:=1<=x.length/\x.length<=8/\∀c∈x,97<=c/\c<=122
theorem Bg:∀c∈wl,97<=c/\c<=122:=by decide
theorem Vb:wl.Nodup:=by decide
theorem xP:wl.length=26:=by decide
theorem Ca(n:Int):h6 n∈wl:=by
 unfold h6;have h1:=gC n (b:=26) (by decide);have h2:=gB n (b:=26) (by decide);have h3:(n%26).toNat<wl.length:=by rw[xP];omega
 rw[fk,fF h3];exact pR h3
theorem RY{n m:Int}(h:h6 n=h6 m):n%26=m%26:=by
 unfold h6 at h;have h1:=gC n (b:=26) (by decide);have h2:=gB n (b:=26) (by decide);have h3:(n%26).toNat<wl.length:=by rw[xP];omega
 have h1':=gC m (b:=26) (by decide);have h2':=gB m (b:=26) (by decide);have h3':(m%26).toNat<wl.length:=by rw[xP];omega
 rw[fk,fF h3,fk,fF h3']at h;have:=(tW Vb).mp h;omega
theorem mP(c:Int):(h7 c).length=8:=by simp[h7]
theorem rZ(c:Int)(n:Nat):(ir c n).length=n:=by simp[ir]
theorem Gh(c:Int):∀x∈h7 c,97<=x/\x<=122:=λx hx=>by
 obtain⟨k,_,rfl⟩:=cL.mp hx;exact Bg _ (Ca _)
theorem K8(c:Int)(n:Nat):∀x∈ir c n,97<=x/\x<=122:=λx hx=>by
 obtain⟨k,_,rfl⟩:=cL.mp hx;exact Bg _ (Ca _)
theorem vh(c:Int)(many:Nat):(words c many).length=many:=by unfold words;split<;>(try split)<;>simp
theorem Au{α:Type}(f:Nat->α)(n:Nat)(h:∀i j,i<n->j<n->f i=f j->i=j):((b0 n).map f).Nodup:=by
 induction n with
 |zero=>simp
 |succ n ih=>
  rw[List.range_succ,fo,List.map_singleton];rw[kn];refine⟨ih λi j hi hj=>h i j (by omega) (by omega),by simp,λa ha b hb=>?_⟩;obtain⟨i,hi,rfl⟩:=cL.mp ha;have hi:=fb.mp hi;have hb:b=f n:=by simpa using hb
  subst hb;intro e;have:=h i n (by omega) (by omega) e;omega
theorem uD(c:Int)(many:Nat)(hm:many<=8):(words c many).Nodup:=by
 unfold words;split
 ·split
  ·refine Au _ _ λi j hi hj e=>?_;have:=congrArg CT e;rw[gY,gY,mP]at this;omega
  ·refine Au _ _ λi j hi hj e=>?_;have:=congrArg CT e;rw[jy,jy,mP]at this;omega
 ·refine Au _ _ λi j hi hj e=>?_;rw[ot,ot]at e;have e1:=List.append_cancel_left e;have e2:=List.append_cancel_right e1;have e3:h6 (c/7+5*(i:Int))=h6 (c/7+5*(j:Int)):=by simpa using e2
  have:=RY e3;omega
theorem hU(c:Int)(many:Nat)(hm:many<=8):∀x∈words c many,fX x:=by
 unfold words;split
 ·split
  ·intro x hx;obtain⟨k,hk,rfl⟩:=cL.mp hx;have hk:=fb.mp hk;refine⟨by rw[gY,mP];omega,by rw[gY,mP];omega,λy hy=>Gh c y (CL hy)⟩
  ·intro x hx;obtain⟨k,hk,rfl⟩:=cL.mp hx;have hk:=fb.mp hk;refine⟨by rw[jy,mP];omega,by rw[jy,mP];omega,λy hy=>Gh c y (tQ hy)⟩
 ·intro x hx;obtain⟨k,hk,rfl⟩:=cL.mp hx;have h1:=gC (c/4) (b:=8) (by decide);have h2:=gB (c/4) (b:=8) (by decide);have h3:=gC (c/256) (b:=c/4%8+1) (by omega);have h4:=gB (c/256) (b:=c/4%8+1) (by omega);have hl:((ir c (c/4%8).toNat).take (c/256%(c/4%8+1)).toNat++[h6 (c/7+5*(k:Int))]++(ir c (c/4%8).toNat).drop (c/256%(c/4%8+1)).toNat).length=(c/4%8).toNat+1:=by
   rw[dC,dC,gY,jy,rZ];simp;omega
  refine⟨by rw[hl];omega,by rw[hl];omega,λy hy=>?_⟩;rcases eg.mp hy with hy|hy
  ·rcases eg.mp hy with hy|hy
   ·exact K8 c _ y (CL hy)
   ·have:y=h6 (c/7+5*(k:Int)):=by simpa using hy
    subst this;exact Bg _ (Ca _)
  ·exact K8 c _ y (tQ hy)
end My
namespace Mi
open PySem
def S'(l:List Nat):Str:=⟨l.toArray⟩
theorem wt(l:List Nat):(S' l).cps.toList=l:=rfl
theorem kB(l:List Nat):(S' l).length=l.length:=by simp[S',rG]
theorem Hb{x y:Str}(h:x.cps.toList=y.cps.toList):x=y:=by obtain⟨a⟩:=x;obtain⟨b⟩:=y;have h:a.toList=b.toList:=h;rw[wa.mp h]
theorem RI{l m:List Nat}(h:S' l=S' m):l=m:=by have:=congrArg (λx:Str=>x.cps.toList) h;simpa [S']using this
theorem S2(l m:List Nat):S' l++S' m=S' (l++m):=by show(⟨l.toArray++m.toArray⟩ : Str)=⟨(l++m).toArray⟩;simp
theorem Jb:∀l:List Str,(l9 "" l).cps.toList=l.flatMap (·.cps.toList)
 |[]=>by simp[l9,dc]
 |[x]=>by simp[l9]
 |x::y::r=>by
  have ih:=Jb (y::r);have e:l9 "" (x::y::r)=x ++ "" ++ l9 "" (y::r):=rfl;have e2:("" : Str).cps.toList=[]:=by decide +kernel
  rw[e];show((x.cps++("" : Str).cps)++(l9 "" (y::r)).cps).toList=_;rw[v9,v9,e2,ih];simp
theorem join_ones(l:List Nat):l9 "" (l.map λx=>S' [x])=S' l:=by
 refine Hb ?_;rw[Jb,wt]
 induction l with
 |nil=>rfl
 |cons a r ih=>rw[cF,nh,ih];rfl
theorem Ge{α:Type}(xs:List α)(k:Nat):gf xs af (ac (k:Int))=xs.take k:=by
 show(xs.drop 0).take ((if(k:Int)<0 then((k:Int)+(xs.length:Int)).toNat else min (k:Int).toNat xs.length)-0)=_;rw[ba (by omega),vQ,Nat.sub_zero,jf];rcases Dl k xs.length with h|h
 ·rw[Dj h]
 ·rw[Di h,tO (bJ _),tO h]
theorem E8{α:Type}(xs:List α)(k:Nat):gf xs (ac (k:Int)) af=xs.drop k:=by
 show(xs.drop (if(k:Int)<0 then((k:Int)+(xs.length:Int)).toNat else min (k:Int).toNat xs.length)).take (xs.length-(if(k:Int)<0 then((k:Int)+(xs.length:Int)).toNat else min (k:Int).toNat xs.length))=_;rw[ba (by omega),jf];rcases Dl k xs.length with h|h
 ·rw[Dj h];exact tO (by rw[jy];exact bJ _)
 ·rw[Di h,yB (bJ _),yB h];simp
theorem Je(l:List Nat)(k:Nat):pD (S' l) af (ac (k:Int))=S' (l.take k):=by unfold pD;rw[wt,Ge];rfl
theorem Fd(l:List Nat)(k:Nat):pD (S' l) (ac (k:Int)) af=S' (l.drop k):=by unfold pD;rw[wt,E8];rfl
def et:Str := "etaoinshrdlucmfwypvbgkqjxz"
theorem T4:et.cps.toList=My.wl:=by decide +kernel
theorem S6:et.length<=16777216:=by decide +kernel
theorem yg{α:Type}{xs:List α}{i:Int}(h0:0<=i)(h1:i<xs.length)(d:α):eo xs i=ac (xs.getD i.toNat d):=by
 unfold eo f7;rw[bc h0,bc h1];have h3:i.toNat<xs.length:=by omega
 show xs[i.toNat]? = _;rw[fk,fF h3];rfl
theorem R6(n:Int):eo et.cps.toList (n%26)=ac (My.h6 n):=by rw[T4];have h1:=gC n (b:=26) (by decide);have h2:=gB n (b:=26) (by decide);exact yg h1 (by rw[My.xP];omega) 0
theorem lT{cs:List Int}{i:Int}(h0:0<=i)(h1:i<cs.length):aw (.lst (cs.map D.int)) (.int i)=.ok (.int (cs.getD i.toNat 0)):=by
 show cQ (eo (cs.map D.int) i)=_;rw[yg h0 (by rw[aU];exact h1) (.int 0),jO];have h3:i.toNat<cs.length:=by omega
 rw[fk,fm,fk,fF h3];rfl
theorem Ah{cs:List Str}{i:Int}(h0:0<=i)(h1:i<cs.length):aw (.lst (cs.map D.str)) (.int i)=.ok (.str (cs.getD i.toNat dc)):=by
 show cQ (eo (cs.map D.str) i)=_;rw[yg h0 (by rw[aU];exact h1) (.str dc),jO];have h3:i.toNat<cs.length:=by omega
 rw[fk,fm,fk,fF h3];rfl
theorem Cb(n:Nat):dv 0 (n:Int)=(b0 n).map λ(k:Nat)=>D.int (k:Int):=by unfold dv;rw[show((n:Int)-0).toNat=n by omega];exact tR λk _=>by rw[Int.zero_add]
theorem ja(n:Nat):(dv 0 (n:Int)).length=n:=by rw[Cb];simp
theorem kE{n i:Nat}{x:D}(h:(dv 0 (n:Int))[i]? = ac x):i<n/\x=.int (i:Int):=by
 rw[Cb,fm]at h;cases hr:(b0 n)[i]? with
 |none=>rw[hr]at h;cases h
 |some k=>
  rw[hr]at h;obtain⟨h1,h2⟩:=eW.mp hr;rw[Lw]at h2;subst h2;rw[tU]at h1;exact⟨h1,(iS h).symm⟩
theorem tK{tg:Tg}{a:E}{e:Mi.Env}(g:Nat->D)(n:Nat)(h:∀k<n,∃e1,tg.put (.int (k:Int)) e=.ok e1/\a e1=.ok (g k)):dA tg dz a e (dv 0 (n:Int))=.ok ((b0 n).map g):=by
 rw[Cb,fi (λ(k:Nat)=>D.int (k:Int)) g (λ_=>true) (b0 n) λk hk=>?_]
 ·rw[ng.mpr λ_ _=>rfl]
 ·obtain⟨e1,h1,h2⟩:=h k (fb.mp hk);exact⟨e1,h1,rfl,λ_=>h2⟩
theorem mn{i:Int}(h0:-1000<=i)(h1:i<=1000):okR i:=by unfold okR;omega
theorem lu{i j:Int}(h0:-(2 ^ 64)<i)(h1:i<2 ^ 64):mI i j:=.inl ⟨h0,h1⟩
theorem Ld{i j:Int}(h0:-(2 ^ 64)<j)(h1:j<2 ^ 64):mI i j:=.inr ⟨h0,h1⟩
theorem gt{j:Int}(h0:0<j)(h1:j<2 ^ 64):mE j:=by
 refine⟨h0,?_⟩;have h2:j.natAbs<2 ^ 64:=by omega
 have h3:j.natAbs≠0:=by omega
 have:=(Nat.log2_lt h3).mpr h2;omega
end Mi
namespace Mr
open PySem Mi
open My (words h7 ir h6 mP rZ vh uD)
theorem BO(n:Int):aw (.str et) (.int (n%26))=.ok (.str (S' [h6 n])):=by show bu _ _=_;rw[aK S6,R6];rfl
theorem GG(l:List Nat)(h:l.length<=8):xG (.str "") (.lst (l.map λx=>D.str (S' [x])))=.ok (.str (S' l)):=by
 show(cQ (fM (l.map λx=>D.str (S' [x])))).bind _=_;have e:l.map (λx=>D.str (S' [x]))=(l.map λx=>S' [x]).map D.str:=by rw[fG];rfl
 rw[e,qv,jO,aQ,aK ?_,join_ones];have h1:((l.map λx=>S' [x]).map (·.length)).sum=l.length:=by
  clear h e
  induction l with
  |nil=>rfl
  |cons a r ih=>rw[cF,cF,List.sum_cons,ih,kB,dH];simp;omega
 have h2:("" : Str).length=0:=by decide +kernel
 rw[h1,h2];omega
theorem st1(c:Int)(k:Nat)(d32:mE 32)(m5:mI 5 (k:Int))(mk:mI (k:Int) k):(m2 a9 (m2 a9 (m2 cW (mV 1) (mC (.int 32))) (m2 de (mC (.int 5)) (mV 2))) (m2 de (mV 2) (mV 2))) [ac (.d (.str et)),ac (.d (.int c)),ac (.d (.int k))]=.ok (.int (c/32+5*(k:Int)+(k:Int)*(k:Int))):=(av (av (av rfl rfl (aK d32)) (av rfl rfl (aK m5)) rfl) (av rfl rfl (aK mk)) rfl)
theorem st2(c:Int)(e:Mi.Env)(a:E)(h:a e=.ok (.int c))(h0:e[0]? = ac (ac (.d (.str et)))):m2 aw (mV 0) (m2 bL a (mC (.int 26))) e=.ok (.str (S' [h6 c])):=av (x:=.str et) (by unfold mV;rw[h0]) (av h rfl (aK (by decide))) (BO _)
theorem Ob{k n:Nat}(h:k<n)(h8:n<8):mI (k:Int) k:=lu (by omega) (by omega)
theorem size_of(c:Int):∃n:Nat,c/4%8=(n:Int)/\n<8:=by have z1:=gC (c/4) (b:=8) (by decide);have z2:=gB (c/4) (b:=8) (by decide);exact⟨(c/4%8).toNat,by omega,by omega⟩
theorem at_of(c:Int)(n:Nat):∃t:Nat,c/256%((n:Int)+1)=(t:Int)/\t<=n:=by have z3:=gC (c/256) (b:=(n:Int)+1) (by omega);have z4:=gB (c/256) (b:=(n:Int)+1) (by omega);exact⟨(c/256%((n:Int)+1)).toNat,by omega,by omega⟩
theorem SG(c:Int)(m:Nat)(hm:m<=8):vz [.d (.int c),.d (.int (m:Int))]=.ok (.d (aj ((words c m).map S'))):=by
 unfold vz EJ;rw[mz];have hr8:okR 8:=mn (by decide) (by decide);have hrm:okR (m:Int):=mn (by omega) (by omega);have hl0:(rH "etaoinshrdlucmfwypvbgkqjxz")=et:=rfl;have g4:∀r:Rs D,bu ((0:Int)<4) r=r:=λr=>aK (by decide);have g26:∀r:Rs D,bu ((0:Int)<26) r=r:=λr=>aK (by decide);have g8:∀r:Rs D,bu ((0:Int)<8) r=r:=λr=>aK (by decide);by_cases c1:c%4<2
 ·have ud:dA (.n 2) dz (m2 aw (mV 0) (m2 bL (m2 cW (mV 1) (m2 a9 (mC (.int 4)) (m2 de (mC (.int 3)) (mV 2)))) (mC (.int 26)))) [ac (.d (.str et)),ac (.d (.int c)),af] (dv 0 8)=.ok ((h7 c).map λx=>D.str (S' [x])):=by
   have:=tK (tg:=.n 2) (a:=m2 aw (mV 0) (m2 bL (m2 cW (mV 1) (m2 a9 (mC (.int 4)) (m2 de (mC (.int 3)) (mV 2)))) (mC (.int 26)))) (e:=[ac (.d (.str et)),ac (.d (.int c)),af]) (λk=>D.str (S' [h6 (c/(4+3*(k:Int)))])) 8 λk hk=>⟨[ac (.d (.str et)),ac (.d (.int c)),ac (.d (.int k))],rfl,by
    simp only[m2,mV,gV,iD,mC,aQ,JQ];rw[aK (lu (by decide) (by decide))];simp only[aQ,sH,div_ii];rw[aK (gt (by omega) (by omega))];simp only[aQ,oJ,g26,BO]⟩
   rw[show((8:Nat):Int)=8 from rfl]at this;rw[this];unfold h7;rw[fG];rfl
  have hp:kW [ac 2,ac 0,af] [ac (.d (.int c)),ac (.d (.int (m:Int))),ac (.d (.str et)),af,af,af,af]=[ac (.d (.str et)),ac (.d (.int c)),af]:=rfl;have hj:=GG (h7 c) (by rw[mP];omega);have hw8:(dv 0 8).length<=16777216:=by rw[show(8:Int)=((8:Nat):Int)from rfl,ja];omega
  have hwm:(dv 0 (m:Int)).length<=16777216:=by rw[ja];omega
  by_cases c2:c%4=0
  ·have hc:dA (.n 1) dz (dP fE (mV 0) af (ac (m2 a9 (mV 1) (mC (.int 1))))) [ac (.d (.str (S' (h7 c)))),af] (dv 0 (m:Int))=.ok ((words c m).map λl=>D.str (S' l)):=by
    rw[tK (λk=>D.str (S' ((h7 c).take (k+1)))) m λk hk=>⟨[ac (.d (.str (S' (h7 c)))),ac (.d (.int k))],rfl,by
     simp only[dP,mV,gV,jK,m2,iD,mC,aQ,sH,nP,Bo];rw[aK (by rw[kB,mP];omega),show(k:Int)+1=((k+1:Nat):Int)by omega,Je]⟩]
    unfold words;rw[bc c1,bc c2,fG];rfl
   have hp2:∀z,kW [ac 3,af] [ac (.d (.int c)),ac (.d (.int (m:Int))),ac (.d (.str et)),ac z,af,af,af]=[ac z,af]:=λ_=>rfl;have hmod:cB (m2 gr (m2 bL (mV 0) (mC (.int 4))) (mC (.int 2))) [ac (.d (.int c)),ac (.d (.int (m:Int))),ac (.d (.str et)),af,af,af,af]=.ok true:=bx ((av (av rfl rfl (g4 _)) rfl rfl).trans (by rw[sC,ce c1]))
   have D4:cB (m2 bM (m2 bL (mV 0) (mC (.int 4))) (mC (.int 0))) [ac (.d (.int c)),ac (.d (.int (m:Int))),ac (.d (.str et)),ac (.d (.str (S' (h7 c)))),af,af,af]=.ok true:=bx ((av (av rfl rfl (g4 _)) rfl rfl).trans (by rw[k7,ce c2]))
   show Rs.bind _ lU=_;rw[aL (e':=[ac (.d (.int c)),ac (.d (.int (m:Int))),ac (.d (.str et)),af,af,af,af]) (bv rfl)];refine(congrArg (λr=>Rs.bind r lU) (oM (w:=.d (aj ((words c m).map S'))) ?_)).trans rfl;rw[gF hmod,aL (e':=[ac (.d (.int c)),ac (.d (.int (m:Int))),ac (.d (.str et)),ac (.d (.str (S' (h7 c)))),af,af,af]) (bv (av rfl (eL (gs rfl hr8) hw8 ud) hj))];rw[oM ((gF D4).trans (eI (bY (eL (gs rfl hrm) hwm hc))))];rw[aj,fG];rfl
  ·have hc:dA (.n 1) dz (dP fE (mV 0) (ac (m2 fJ (mC (.int 7)) (mV 1))) af) [ac (.d (.str (S' (h7 c)))),af] (dv 0 (m:Int))=.ok ((words c m).map λl=>D.str (S' l)):=by
    rw[tK (λk=>D.str (S' ((h7 c).drop (7-k)))) m λk hk=>⟨[ac (.d (.str (S' (h7 c)))),ac (.d (.int k))],rfl,by
     simp only[dP,mV,gV,jK,m2,mC,iD,aQ,Qf,nP,Bo];rw[aK (by rw[kB,mP];omega),show(7:Int)-(k:Int)=((7-k:Nat):Int)by omega,Fd]⟩]
    unfold words;rw[bc c1,ba c2,fG];rfl
   have hp2:∀z,kW [ac 3,af] [ac (.d (.int c)),ac (.d (.int (m:Int))),ac (.d (.str et)),ac z,af,af,af]=[ac z,af]:=λ_=>rfl;have hmod:cB (m2 gr (m2 bL (mV 0) (mC (.int 4))) (mC (.int 2))) [ac (.d (.int c)),ac (.d (.int (m:Int))),ac (.d (.str et)),af,af,af,af]=.ok true:=bx ((av (av rfl rfl (g4 _)) rfl rfl).trans (by rw[sC,ce c1]))
   have D4:cB (m2 bM (m2 bL (mV 0) (mC (.int 4))) (mC (.int 0))) [ac (.d (.int c)),ac (.d (.int (m:Int))),ac (.d (.str et)),ac (.d (.str (S' (h7 c)))),af,af,af]=.ok false:=bx ((av (av rfl rfl (g4 _)) rfl rfl).trans (by rw[k7,cS c2]))
   show Rs.bind _ lU=_;rw[aL (e':=[ac (.d (.int c)),ac (.d (.int (m:Int))),ac (.d (.str et)),af,af,af,af]) (bv rfl)];refine(congrArg (λr=>Rs.bind r lU) (oM (w:=.d (aj ((words c m).map S'))) ?_)).trans rfl;rw[gF hmod,aL (e':=[ac (.d (.int c)),ac (.d (.int (m:Int))),ac (.d (.str et)),ac (.d (.str (S' (h7 c)))),af,af,af]) (bv (av rfl (eL (gs rfl hr8) hw8 ud) hj))];rw[aL (dr D4),eI (bY (eL (gs rfl hrm) hwm hc))];rw[aj,fG];rfl
 ·obtain⟨n,hn,hn8⟩:=size_of c;obtain⟨t,ht,ht8⟩:=at_of c n;have hrn:okR (n:Int):=mn (by omega) (by omega);have d4:mE 4:=gt (by decide) (by decide);have d32:mE 32:=gt (by decide) (by decide);have Wn:mE 256:=gt (by decide) (by decide);have d7:mE 7:=gt (by decide) (by decide);have Wo:dA (.n 2) dz (m2 aw (mV 0) (m2 bL (m2 a9 (m2 a9 (m2 cW (mV 1) (mC (.int 32))) (m2 de (mC (.int 5)) (mV 2))) (m2 de (mV 2) (mV 2))) (mC (.int 26)))) [ac (.d (.str et)),ac (.d (.int c)),af] (dv 0 (n:Int))=.ok ((ir c n).map λx=>D.str (S' [x])):=by
   rw[tK (λk=>D.str (S' [h6 (c/32+5*(k:Int)+(k:Int)*(k:Int))])) n λk hk=>⟨[ac (.d (.str et)),ac (.d (.int c)),ac (.d (.int k))],rfl,by
    exact st2 _ _ _ (st1 c k d32 (lu (by decide) (by decide)) (Ob hk hn8)) rfl⟩]
   unfold ir;rw[fG];rfl
  have hp:kW [ac 2,ac 0,af] [ac (.d (.int c)),ac (.d (.int (m:Int))),ac (.d (.str et)),af,ac (.d (.int (n:Int))),af,af]=[ac (.d (.str et)),ac (.d (.int c)),af]:=rfl;have hj:=GG (ir c n) (by rw[rZ];omega);have hwn:(dv 0 (n:Int)).length<=16777216:=by rw[ja];omega
  have hwm:(dv 0 (m:Int)).length<=16777216:=by rw[ja];omega
  have hc:dA (.n 4) dz (m2 a9 (m2 a9 (dP fE (mV 0) af (ac (mV 2))) (m2 aw (mV 1) (m2 bL (m2 a9 (m2 cW (mV 3) (mC (.int 7))) (m2 de (mC (.int 5)) (mV 4))) (mC (.int 26))))) (dP fE (mV 0) (ac (mV 2)) af))
   [ac (.d (.str (S' (ir c n)))),ac (.d (.str et)),ac (.d (.int (t:Int))),ac (.d (.int c)),af] (dv 0 (m:Int))=.ok ((words c m).map λl=>D.str (S' l)):=by
   rw[tK (λk=>D.str (S' ((ir c n).take t++[h6 (c/7+5*(k:Int))]++(ir c n).drop t))) m λk hk=>⟨[ac (.d (.str (S' (ir c n)))),ac (.d (.str et)),ac (.d (.int (t:Int))),ac (.d (.int c)),ac (.d (.int k))],rfl,by
    have gS:∀r:Rs D,bu ((S' (ir c n)).length<=16777216) r=r:=λr=>aK (by rw[kB,rZ];omega);have gM:∀r:Rs D,bu (mI 5 (k:Int)) r=r:=λr=>aK (lu (by decide) (by decide));simp only[m2,dP,mV,gV,jK,iD,aQ,nP,Bo,Je,gS,mC,div_ii,aK d7,JQ,gM,sH,oJ,g26,BO,ED,Fd];rw[aK (by rw[kB,kB,gY,rZ];simp;omega)];simp only[S2,aQ,ED];rw[aK (by rw[kB,kB,dC,gY,jy,rZ];simp;omega)]⟩]
   unfold words;rw[ba c1,fG,hn,ht];rfl
  have hmod:cB (m2 gr (m2 bL (mV 0) (mC (.int 4))) (mC (.int 2))) [ac (.d (.int c)),ac (.d (.int (m:Int))),ac (.d (.str et)),af,af,af,af]=.ok false:=bx ((av (av rfl rfl (g4 _)) rfl rfl).trans (by rw[sC,cS c1]))
  show Rs.bind _ lU=_;rw[aL (e':=[ac (.d (.int c)),ac (.d (.int (m:Int))),ac (.d (.str et)),af,af,af,af]) (bv rfl)];rw[aL (dr hmod)];rw[aL (e':=[ac (.d (.int c)),ac (.d (.int (m:Int))),ac (.d (.str et)),af,ac (.d (.int (n:Int))),af,af]) (bv (d:=.int (n:Int)) ((av (av rfl rfl (aK d4)) rfl (g8 _)).trans (by rw[hn])))];rw[aL (e':=[ac (.d (.int c)),ac (.d (.int (m:Int))),ac (.d (.str et)),af,ac (.d (.int (n:Int))),ac (.d (.str (S' (ir c n)))),af]) (bv (av rfl (eL (gs rfl hrn) hwn Wo) hj))];rw[aL (e':=[ac (.d (.int c)),ac (.d (.int (m:Int))),ac (.d (.str et)),af,ac (.d (.int (n:Int))),ac (.d (.str (S' (ir c n)))),ac (.d (.int (t:Int)))]) (bv (d:=.int (t:Int)) ((av (av rfl rfl (aK Wn)) (av rfl rfl rfl) (aK (by omega))).trans (by rw[ht])))];rw[eI (bY (eL (gs rfl hrm) hwm hc))];simp only[aQ,Vc,aj,fG];rfl
end Mr
namespace Mr
open PySem Mi
open My (words vh uD fX)
theorem k9(n:Nat)(h:n<=8):okR (n:Int):=mn (by omega) (by omega)
theorem Q9{ls:List Int}{z:Int}(h0:0<=z)(h1:z<ls.length)(hl:ls.length<=100):wW (ls.map D.int) z=.ok (.int (ls.getD z.toNat 0),(ls.eraseIdx z.toNat).map D.int):=by
 have h3:z.toNat<ls.length:=by omega
 unfold wW;rw[aK (by omega),show f7 (ls.map D.int).length z=ac z.toNat by
  unfold f7;rw[bc h0,bc (by rw[aU];exact h1)],jO,aQ,fm,fF h3,fk,fF h3]
 show Rs.ok (D.int ls[z.toNat],(ls.map D.int).eraseIdx z.toNat)=_;have:∀(l:List Int) (k:Nat),(l.map D.int).eraseIdx k=(l.eraseIdx k).map D.int:=by
  intro l
  induction l with
  |nil=>intro k;rfl
  |cons a r ih=>
   intro k;cases k with
   |zero=>rfl
   |succ k=>rw[cF,Lp,ih k];rfl
 rw[this];rfl
theorem j6(e:Mi.Env):mN b9 [] e=.ok (.lst []):=by show bu (([]:List D).length<=16777216) (Rs.ok (D.lst []))=_;exact aK (by simp)
theorem Gi(d:Int)(m:Nat)(hm:m<=8):∃rs:List Int,qw [.d (.int d),.d (.int (m:Int))]=.ok (.d (.lst (rs.map D.int)))/\rs.length=m:=by
 unfold qw IR;rw[mz];have hw:(dv 0 (m:Int)).length<=16777216:=by rw[ja];omega
 have hc:dA (.n 0) dz (mV 0) [af] (dv 0 (m:Int))=.ok ((b0 m).map λ(k:Nat)=>D.int (k:Int)):=tK (λk=>D.int (k:Int)) m λk _=>⟨[ac (.d (.int k))],rfl,rfl⟩
 have hr:((b0 m).map λ(k:Nat)=>D.int (k:Int))=((b0 m).map λ(k:Nat)=>(k:Int)).map D.int:=by rw[fG];rfl
 rw[hr]at hc;obtain⟨e',h1,h2⟩:=fO (tg:=.n 4) (body:=aD (xF 3 2 (m2 bL (mV 0) (mN cI [(mV 2)]))) (aS 0 (m2 cW (mV 0) (m2 fJ (mV 1) (mV 4)))))
  (λi e=>∃(d:Int) (ls rs:List Int) (o:Option W),e=[ac (.d (.int d)),ac (.d (.int (m:Int))),ac (.d (.lst (ls.map D.int))),ac (.d (.lst (rs.map D.int))),o]/\ls.length+i=m/\rs.length=i) (dv 0 (m:Int)) 0 (λi x e hx ⟨d,ls,rs,o,he,hl,hrs⟩=>by
   obtain⟨hi,rfl⟩:=kE hx;subst he;rw[dS]at hl hrs;have hpos:(0:Int)<(ls.length:Int):=by omega
   have z1:=gC d (b:=(ls.length:Int)) (by omega);have z2:=gB d hpos;refine⟨[ac (.d (.int d)),ac (.d (.int (m:Int))),ac (.d (.lst (ls.map D.int))),ac (.d (.lst (rs.map D.int))),ac (.d (.int (i:Int)))],[ac (.d (.int (d/((m:Int)-(i:Int))))),ac (.d (.int (m:Int))),ac (.d (.lst ((ls.eraseIdx (d%(ls.length:Int)).toNat).map D.int))),ac (.d (.lst ((rs++[ls.getD (d%(ls.length:Int)).toNat 0]).map D.int))),ac (.d (.int (i:Int)))],rfl,?_,d/((m:Int)-(i:Int)),ls.eraseIdx (d%(ls.length:Int)).toNat,rs++[ls.getD (d%(ls.length:Int)).toNat 0],ac (.d (.int (i:Int))),rfl,?_,?_⟩
   ·have h0:m2 bL (mV 0) (mN cI [(mV 2)]) [ac (.d (.int d)),ac (.d (.int (m:Int))),ac (.d (.lst (ls.map D.int))),ac (.d (.lst (rs.map D.int))),ac (.d (.int (i:Int)))]=.ok (.int (d%(ls.length:Int))):=
     av (x:=.int d) (y:=.int (ls.length:Int)) rfl (by show Rs.ok (D.int ((ls.map D.int).length:Int))=_;rw[aU]) (aK hpos)
    rw[aL (e':=[ac (.d (.int d)),ac (.d (.int (m:Int))),ac (.d (.lst ((ls.eraseIdx (d%(ls.length:Int)).toNat).map D.int))),ac (.d (.lst ((rs++[ls.getD (d%(ls.length:Int)).toNat 0]).map D.int))),ac (.d (.int (i:Int)))])]
    ·exact bv (av rfl (av rfl rfl rfl) (aK (gt (by omega) (by omega))))
    ·unfold xF;rw[h0];simp only[aQ,nP,getL,iD,gV,Q9 z1 z2 (by omega),putL,vO,vP];rw[aK (by rw[aU];omega),fo];rfl
   ·rw[List.length_eraseIdx_of_lt (by omega)];omega
   ·rw[dC,hrs];simp) [ac (.d (.int d)),ac (.d (.int (m:Int))),ac (.d (.lst (((b0 m).map λ(k:Nat)=>(k:Int)).map D.int))),ac (.d (.lst [])),af] ⟨d,_,[],af,rfl,by simp,rfl⟩
 obtain⟨d2,ls,rs,o,he,hl,hrs⟩:=h2;subst he;rw[ja,dS]at hl hrs;refine⟨rs,?_,hrs⟩;rw[aL (e':=[ac (.d (.int d)),ac (.d (.int (m:Int))),ac (.d (.lst (((b0 m).map λ(k:Nat)=>(k:Int)).map D.int))),af,af]) (bv (eL (gs rfl (k9 m hm)) hw hc))];rw[aL (e':=[ac (.d (.int d)),ac (.d (.int (m:Int))),ac (.d (.lst (((b0 m).map λ(k:Nat)=>(k:Int)).map D.int))),ac (.d (.lst [])),af]) (bv (j6 _))];rw[aL ((ej (gs rfl (k9 m hm))).trans h1)];rfl
theorem Bu(val:Nat->Str):∀i,(met val i).length<=i
 |0=>bJ _
 |i+1=>by
  have ih:=Bu val i;unfold met;split
  ·omega
  ·rw[dC,oq];omega
theorem Hr(val:Nat->Str):∀n,(met val n).length=n->met val n=(b0 n).map val/\(met val n).Nodup
 |0,_=>⟨rfl,yI⟩
 |n+1,h=>by
  have hl:=Bu val n;unfold met at h ⊢;split at h
  ·omega
  ·rename_i hm;rw[ba hm];rw[dC,oq]at h;obtain⟨e,nd⟩:=Hr val n (by omega);refine⟨by rw[e,List.range_succ,fo];rfl,?_⟩;rw[kn];refine⟨nd,by simp,λa ha b hb=>?_⟩;have:b=val n:=by simpa using hb
   subst this;exactλz=>hm (z ▸ ha)
theorem NG{ys:List Str}(h:ys.length<=jZ ys):ys.Nodup:=by
 unfold jZ at h;have hl:=Bu (λi=>ys.getD i dc) ys.length;obtain⟨e,nd⟩:=Hr _ ys.length (Nat.le_antisymm hl h);have:(b0 ys.length).map (λi=>ys.getD i dc)=ys:=by refine CO (by simp) λi h1 h2=>?_;simp[fk,h2]
 rw[this]at e;rw[<- e];exact nd
def abc:Str := "abcdefghijklmnopqrstuvwxyz"
theorem SU:abc.length<=16777216:=by decide +kernel
theorem O7:abc.cps.toList.length=26:=by decide +kernel
theorem U9:∀k,k<26->97<=abc.cps.toList.getD k 0/\abc.cps.toList.getD k 0<=122:=by decide +kernel
theorem Vi(n:Int):∃c,(97<=c/\c<=122)/\aw (.str abc) (.int (n%26))=.ok (.str (S' [c])):=by have h1:=gC n (b:=26) (by decide);have h2:=gB n (b:=26) (by decide);refine⟨abc.cps.toList.getD (n%26).toNat 0,U9 _ (by omega),?_⟩;show bu _ _=_;rw[aK SU,yg h1 (by rw[O7];omega) 0];rfl
theorem SH(ds:List Int)(hd:ds.length=63)(m:Nat)(hm:m<=8):∃ae:List Str,vL [.d (.lst (ds.map D.int)),.d (.int (m:Int))]=.ok (.d (aj ae))/\ae.length=m/\ae.Nodup/\∀x∈ae,fX x.cps.toList:=by
 have inner:∀(k:Nat) (x:Str) (o:Option W) (rest:Int) (ns:List Str),∀j:Nat,x.length+j<=64->∃(x':Str) (o':Option W) (rest':Int),fV (.n 7) (aD (aS 6 (m2 a9 (mV 6) (m2 aw (mV 2) (m2 bL (mV 5) (mC (.int 26)))))) (aS 5 (m2 cW (mV 5) (mC (.int 26)))))
  (dv 0 (j:Int)) [ac (.d (.lst (ds.map D.int))),ac (.d (.int (m:Int))),ac (.d (.str abc)),ac (.d (aj ns)),ac (.d (.int (k:Int))),ac (.d (.int rest)),ac (.d (.str x)),o] =
  .ok (.nx [ac (.d (.lst (ds.map D.int))),ac (.d (.int (m:Int))),ac (.d (.str abc)),ac (.d (aj ns)),ac (.d (.int (k:Int))),ac (.d (.int rest')),ac (.d (.str x')),o'])/\x'.length=x.length+j/\((∀c∈x.cps.toList,97<=c/\c<=122)->∀c∈x'.cps.toList,97<=c/\c<=122):=by
  intro k x o rest ns j hj;obtain⟨e',h1,x',rest',o',he,hl,hlow⟩:=fO (tg:=.n 7) (body:=aD (aS 6 (m2 a9 (mV 6) (m2 aw (mV 2) (m2 bL (mV 5) (mC (.int 26)))))) (aS 5 (m2 cW (mV 5) (mC (.int 26)))))
   (λi e=>∃(y:Str) (r:Int) (o:Option W),e=[ac (.d (.lst (ds.map D.int))),ac (.d (.int (m:Int))),ac (.d (.str abc)),ac (.d (aj ns)),ac (.d (.int (k:Int))),ac (.d (.int r)),ac (.d (.str y)),o]/\y.length=x.length+i/\((∀c∈x.cps.toList,97<=c/\c<=122)->∀c∈y.cps.toList,97<=c/\c<=122)) (dv 0 (j:Int)) 0 (λi z e hz ⟨y,r,o,he,hl,hlow⟩=>by
    obtain⟨hi,rfl⟩:=kE hz;subst he;obtain⟨c,hlc,hc⟩:=Vi r;refine⟨[ac (.d (.lst (ds.map D.int))),ac (.d (.int (m:Int))),ac (.d (.str abc)),ac (.d (aj ns)),ac (.d (.int (k:Int))),ac (.d (.int r)),ac (.d (.str y)),ac (.d (.int (i:Int)))],
     [ac (.d (.lst (ds.map D.int))),ac (.d (.int (m:Int))),ac (.d (.str abc)),ac (.d (aj ns)),ac (.d (.int (k:Int))),ac (.d (.int (r/26))),ac (.d (.str (y++S' [c]))),ac (.d (.int (i:Int)))],rfl,?_,y++S' [c],r/26,_,rfl,?_,λhx=>?_⟩
    ·rw[aL (e':=[ac (.d (.lst (ds.map D.int))),ac (.d (.int (m:Int))),ac (.d (.str abc)),ac (.d (aj ns)),ac (.d (.int (k:Int))),ac (.d (.int r)),ac (.d (.str (y++S' [c]))),ac (.d (.int (i:Int)))]) (bv (av (x:=.str y) (y:=.str (S' [c])) rfl ((av rfl (av rfl rfl (aK (by decide))) hc)) (aK (by rw[kB];simp;omega))))];exact bv (av rfl rfl (aK (gt (by decide) (by decide))))
    ·show(y.cps++(S' [c]).cps).size=_;rw[Array.size_append];show y.length+1=_;omega
    ·intro k hk;have hk:k∈(y.cps++(S' [c]).cps).toList:=hk;rw[v9]at hk;rcases eg.mp hk with q|q
     ·exact hlow hx k q
     ·rw[eD.mp q];exact hlc) _ ⟨x,rest,o,rfl,rfl,λh=>h⟩
  subst he;rw[ja,dS]at hl;exact⟨x',o',rest',h1,hl,hlow⟩
 have Wp:∀(k:Nat),k<8->aw (.lst (ds.map D.int)) (.int (48+(k:Int)))=.ok (.int (ds.getD (48+k) 0)):=λk hk=>by
  have:=lT (cs:=ds) (i:=48+(k:Int)) (by omega) (by omega);rw[show(48+(k:Int)).toNat=48+k by omega]at this;exact this
 have hd1:aw (.lst (ds.map D.int)) (.int 1)=.ok (.int (ds.getD 1 0)):=lT (by decide) (by omega);unfold vL KS;rw[mz];have hab:(rH "abcdefghijklmnopqrstuvwxyz")=abc:=rfl;obtain⟨e',h1,ns,o4,o5,o6,o7,he,hl,hwf⟩:=fO (tg:=.n 4) (body:=(aD (aS 5 (m2 cW (m2 aw (mV 0) (m2 a9 (mC (.int 48)) (mV 4))) (mC (.int 6))))
  (aD (aS 6 (mC (.str "")))
  (aD (cJ (fj (m2 a9 (mC (.int 1)) (m2 bL (m2 aw (mV 0) (m2 a9 (mC (.int 48)) (mV 4))) (mC (.int 6))))) (.n 7)
  (aD (aS 6 (m2 a9 (mV 6) (m2 aw (mV 2) (m2 bL (mV 5) (mC (.int 26))))))
  (aS 5 (m2 cW (mV 5) (mC (.int 26))))))
  (dI 3 (mV 6))))))
  (λi e=>∃(ns:List Str) (o4 o5 o6 o7:Option W),e=[ac (.d (.lst (ds.map D.int))),ac (.d (.int (m:Int))),ac (.d (.str abc)),ac (.d (aj ns)),o4,o5,o6,o7]/\ns.length=i/\∀x∈ns,fX x.cps.toList) (dv 0 (m:Int)) 0 (λi x e hx ⟨ns,o4,o5,o6,o7,he,hl,hwf⟩=>by
   obtain⟨hi,rfl⟩:=kE hx;subst he;rw[dS]at hl;obtain⟨v,hv⟩ : ∃v,ds.getD (48+i) 0=v:=⟨_,rfl⟩;have D5:=Wp i (by omega);rw[hv]at D5;have q1:=gC v (b:=6) (by decide);have q2:=gB v (b:=6) (by decide);obtain⟨j,hj⟩ : ∃j:Nat,1+v%6=(j:Int):=⟨(1+v%6).toNat,by omega⟩;have e0:("" : Str).length=0:=by decide +kernel
   obtain⟨x',o',rest',hin,hxl,Wq⟩:=inner i "" o7 (v/6) ns j (by rw[e0];omega);refine⟨[ac (.d (.lst (ds.map D.int))),ac (.d (.int (m:Int))),ac (.d (.str abc)),ac (.d (aj ns)),ac (.d (.int (i:Int))),o5,o6,o7],[ac (.d (.lst (ds.map D.int))),ac (.d (.int (m:Int))),ac (.d (.str abc)),ac (.d (aj (ns++[x']))),ac (.d (.int (i:Int))),ac (.d (.int rest')),ac (.d (.str x')),o'],rfl,?_,ns++[x'],_,_,_,_,rfl,by rw[dC,hl];simp,λy hy=>by
    rcases eg.mp hy with q|q
    ·exact hwf y q
    ·rw[eD.mp q];have hn:x'.cps.toList.length=x'.length:=zg;refine⟨by rw[hn,hxl,e0];omega,by rw[hn,hxl,e0];omega,Wq λc hc=>?_⟩;rw[show("" : Str).cps.toList=[]by decide +kernel]at hc;cases hc⟩
   rw[aL (e':=[ac (.d (.lst (ds.map D.int))),ac (.d (.int (m:Int))),ac (.d (.str abc)),ac (.d (aj ns)),ac (.d (.int (i:Int))),ac (.d (.int (v/6))),o6,o7]) (bv (av (av rfl (av rfl rfl rfl) D5) rfl (aK (gt (by decide) (by decide)))))];rw[aL (e':=[ac (.d (.lst (ds.map D.int))),ac (.d (.int (m:Int))),ac (.d (.str abc)),ac (.d (aj ns)),ac (.d (.int (i:Int))),ac (.d (.int (v/6))),ac (.d (.str "")),o7]) (bv rfl)];rw[aL ((ej (gs (n:=(j:Int)) ((av rfl (av (av rfl (av rfl rfl rfl) D5) rfl (aK (by decide))) rfl).trans (by rw[sH,hj])) (mn (by omega) (by omega)))).trans hin)];rw[mJ (d:=.str x') (ds:=ns.map D.str) rfl rfl (by rw[aU];omega)];show Rs.ok (Out.nx [_,_,_,ac (W.d (D.lst (ns.map D.str++[D.str x']))),_,_,_,_])=_;rw[aj,fo];rfl) [ac (.d (.lst (ds.map D.int))),ac (.d (.int (m:Int))),ac (.d (.str abc)),ac (.d (.lst [])),af,af,af,af] ⟨[],af,af,af,af,rfl,rfl,λ_ z=>(nomatch z)⟩
 subst he;rw[ja,dS]at hl;rw[aL (e':=[ac (.d (.lst (ds.map D.int))),ac (.d (.int (m:Int))),ac (.d (.str abc)),af,af,af,af,af]) (bv rfl)];rw[aL (e':=[ac (.d (.lst (ds.map D.int))),ac (.d (.int (m:Int))),ac (.d (.str abc)),ac (.d (.lst [])),af,af,af,af]) (bv (j6 _))];rw[aL ((ej (gs rfl (k9 m hm))).trans h1)];obtain⟨v,hv⟩ : ∃v,ds.getD 1 0=v:=⟨_,rfl⟩;rw[hv]at hd1;have zu:m1 BP (mV 3) [ac (.d (.lst (ds.map D.int))),ac (.d (.int (m:Int))),ac (.d (.str abc)),ac (.d (aj ns)),o4,o5,o6,o7]=.ok (.int (jZ ns:Int)):=by show(cQ (fM (ns.map D.str))).bind _=_;rw[qv,jO,aQ,aK (by omega)]
 have hw:=SG (v/2) m hm;by_cases hcond:v%2=0\/(jZ ns:Int)<(m:Int)
 ·refine⟨(words (v/2) m).map S',?_,by rw[aU,vh],?_,λx hx=>by
   obtain⟨l,hl',rfl⟩:=cL.mp hx;exact My.hU _ _ hm l hl'⟩
  ·refine(congrArg (λr=>Rs.bind r lU) (oM (w:=.d (aj ((words (v/2) m).map S'))) ?_)).trans rfl;rw[gF]
   ·exact eI (bY (by
     unfold aR jr;simp only[d8,wD];rw[show m2 cW (m2 aw (mV 0) (mC (.int 1))) (mC (.int 2)) [ac (.d (.lst (ds.map D.int))),ac (.d (.int (m:Int))),ac (.d (.str abc)),ac (.d (aj ns)),o4,o5,o6,o7]=.ok (.int (v/2))from av (av rfl rfl hd1) rfl (aK (gt (by decide) (by decide)))];simp only[aQ,mV,iD,gV,hw,pF]))
   ·unfold dU;rw[bx (b:=decide (v%2=0)) ((av (av (av rfl rfl hd1) rfl (aK (by decide))) rfl rfl).trans (k7 _ _)),aQ];by_cases hv2:v%2=0
    ·rw[ce hv2];rfl
    ·rw[cS hv2,ba dR];exact bx ((av zu rfl rfl).trans (by rw[sC,ce (hcond.resolve_left hv2)]))
  ·refine List.Pairwise.map _ (λa b h z=>h (RI z)) (uD _ _ hm)
 ·have h1:¬ v%2=0:=λz=>hcond (.inl z);have h2:¬ (jZ ns:Int)<(m:Int):=λz=>hcond (.inr z);refine⟨ns,?_,hl,NG (by omega),hwf⟩;rw[aL (e':=[ac (.d (.lst (ds.map D.int))),ac (.d (.int (m:Int))),ac (.d (.str abc)),ac (.d (aj ns)),o4,o5,o6,o7])]
  ·rfl
  ·rw[dr]
   ·rfl
   ·unfold dU;rw[bx (b:=decide (v%2=0)) ((av (av (av rfl rfl hd1) rfl (aK (by decide))) rfl rfl).trans (k7 _ _)),aQ,cS h1,ba dR];exact bx ((av zu rfl rfl).trans (by rw[sC,cS h2]))
end Mr
namespace Mr
open PySem Mi
theorem Rx{ls:List Int}{z v:Int}(h0:0<=z)(h1:z<ls.length):∃j,f7 (ls.map D.int).length z=ac j/\(ls.map D.int).set j (.int v)=(ls.set j v).map D.int:=by
 refine⟨z.toNat,?_,?_⟩
 ·unfold f7;rw[bc h0,bc (by rw[aU];exact h1)]
 ·rw[List.map_set]
theorem Ki{i:Nat}{k a:E}{e:Mi.Env}{ls:List Int}{z v:Int}(ha:a e=.ok (.int v))(hk:k e=.ok (.int z))(hg:getL e i=.ok (ls.map D.int))(h0:0<=z)(h1:z<ls.length):∃ls':List Int,ls'.length=ls.length/\tD i k a e=.ok (.nx (putL e i (ls'.map D.int))):=by obtain⟨j,hj,hs⟩:=Rx (v:=v) h0 h1;refine⟨ls.set j v,by simp,?_⟩;unfold tD;rw[ha,aQ,hk,aQ,nP,aQ,hg,aQ,hj,jO,aQ,hs]
theorem R3(ns:List Int):∃cs:List Int,m2 dCat (mN ie [(dP fE (mV 0) af (ac (mC (.int 63))))]) (m2 z6 (mN b9 [(mC (.int 60023))]) (mN mS [(m2 bM (mN cI [(mV 0)]) (mC (.int 0)))])) [ac (.d (.lst (ns.map D.int))),af,af,af,af,af,af,af,af]=.ok (.lst (cs.map D.int))/\1<=cs.length/\cs.length<=64:=by
 have h1:mN ie [(dP fE (mV 0) af (ac (mC (.int 63))))] [ac (.d (.lst (ns.map D.int))),af,af,af,af,af,af,af,af]=.ok (.lst ((ns.take 63).map D.int)):=by have:=Ge (ns.map D.int) 63;rw[show((63:Nat):Int)=63 from rfl]at this;simp only[mN,eX,dP,mV,gV,jK,mC,aQ,nP,Ti,this,RM,vR]
 have h2:m2 bM (mN cI [(mV 0)]) (mC (.int 0)) [ac (.d (.lst (ns.map D.int))),af,af,af,af,af,af,af,af]=.ok (.bl (decide ((ns.length:Int)=0))):=(av (x:=.int (ns.length:Int)) (y:=.int 0) (by show Rs.ok (D.int ((ns.map D.int).length:Int))=_;rw[aU]) rfl rfl).trans (k7 _ _)
 have h3:mN b9 [(mC (.int 60023))] [ac (.d (.lst (ns.map D.int))),af,af,af,af,af,af,af,af]=.ok (.lst [.int 60023]):=by show bu (([D.int 60023]:List D).length<=16777216) _=_;exact aK (by simp)
 have h4:mN mS [(m2 bM (mN cI [(mV 0)]) (mC (.int 0)))] [ac (.d (.lst (ns.map D.int))),af,af,af,af,af,af,af,af]=.ok (.int (if decide ((ns.length:Int)=0)then 1 else 0)):=by exact(dX h2).trans rfl
 by_cases hz:ns.length=0
 ·refine⟨[60023],?_,by simp,by simp⟩;rw[ce (by omega)]at h4;have:ns=[]:=Ll hz;subst this;refine(av h1 (av h3 h4 (z:=.ok (.lst [.int 60023])) ?_) (z:=.ok (.lst [.int 60023])) ?_)
  ·show bu _ _=_;rw[aK (by decide)];rfl
  ·show bu _ _=_;rw[aK (by simp)];rfl
 ·refine⟨ns.take 63,?_,by rw[gY];omega,by rw[gY];omega⟩;rw[cS (by omega)]at h4;refine(av h1 (av h3 h4 (z:=.ok (.lst [])) ?_) (z:=.ok (.lst ((ns.take 63).map D.int))) ?_)
  ·show bu _ _=_;rw[aK (by decide)];rfl
  ·show bu _ _=_;rw[aK (by rw[aU,gY];simp;omega),ko]
theorem NN(k:Nat)(h:k<63)(c:Int):mI (c%2147483647+12011+(k:Int)*(k:Int)) (48271+614*(k:Int)):=by refine Ld ?_ ?_<;>omega
theorem OB{cs:List Int}{k:Nat}{z:Int}{e:Mi.Env}(hk:k<63)(h0:0<=z)(h1:z<cs.length)(e1:mV 1 e=.ok (.lst (cs.map D.int)))(e6:mV 6 e=.ok (.int (k:Int)))(e7:mV 7 e=.ok (.int z)) :
 ∃o:Int,0<=o/\o<2147483647/\m2 bL (m2 de (m2 a9 (m2 a9 (m2 bL (m2 aw (mV 1) (mV 7)) (mC (.int 2147483647))) (mC (.int 12011))) (m2 de (mV 6) (mV 6))) (m2 a9 (mC (.int 48271)) (m2 de (mC (.int 614)) (mV 6)))) (mC (.int 2147483647)) e=.ok (.int o):=
 ⟨_,gC _ (by decide),gB _ (by decide),av (av (av (av (av (av e1 e7 (lT h0 h1)) rfl (aK (by decide))) rfl rfl) (av e6 e6 (aK (lu (by omega) (by omega)))) rfl) (av rfl (av rfl e6 (aK (lu (by decide) (by decide)))) rfl) (aK (NN k hk _))) rfl (aK (by decide))⟩
theorem Sy(ns:List Int):∃ds:List Int,vm [.d (.lst (ns.map D.int))]=.ok (.d (.lst (ds.map D.int)))/\ds.length=63:=by
 obtain⟨cs0,hcs,hp0,hp1⟩:=R3 ns;unfold vm JO;rw[qZ];have hm:∀cs:List Int,mN cI [(mV 1)] [ac (.d (.lst (ns.map D.int))),ac (.d (.lst (cs.map D.int))),af,af,af,af,af,af,af]=.ok (.int (cs.length:Int)):=λcs=>by
  show Rs.ok (D.int ((cs.map D.int).length:Int))=_;rw[aU]
 have hx0:aw (.lst (cs0.map D.int)) (.int 0)=.ok (.int (cs0.getD 0 0)):=lT (by decide) (by omega);obtain⟨c0,hc0⟩ : ∃v,cs0.getD 0 0=v:=⟨_,rfl⟩;rw[hc0]at hx0;obtain⟨cs,hcl,zu⟩:=Ki (i:=1) (k:=mC (.int 0)) (a:=m2 cW (m2 aw (mV 1) (mC (.int 0))) (mC (.int 2))) (e:=[ac (.d (.lst (ns.map D.int))),ac (.d (.lst (cs0.map D.int))),ac (.d (.int (cs0.length:Int))),ac (.d (.int (c0%2))),af,af,af,af,af]) (ls:=cs0) (z:=0) (v:=c0/2)
  (av (av rfl rfl hx0) rfl (aK (gt (by decide) (by decide)))) rfl rfl (by decide) (by omega)
 have hL:cs.length=cs0.length:=hcl;obtain⟨e',h1,left,ds,o6,o7,o8,he,hl,hd⟩:=fO (tg:=.n 6) (body:=(aD (aS 7 (m2 bL (mV 6) (mV 2)))
  (aD (aS 8 (m2 bL (m2 de (m2 a9 (m2 a9 (m2 bL (m2 aw (mV 1) (mV 7)) (mC (.int 2147483647))) (mC (.int 12011))) (m2 de (mV 6) (mV 6))) (m2 a9 (mC (.int 48271)) (m2 de (mC (.int 614)) (mV 6)))) (mC (.int 2147483647))))
  (bp (cH (cB (m2 bM (mV 3) (mC (.int 0)))) (cB (m2 iu (m2 aw (mV 4) (mV 7)) (mC (.int 0)))))
  (aD (dI 5 (m2 bL (m2 aw (mV 4) (mV 7)) (mC (.int 2147483647))))
  (tD 4 (mV 7) (m2 cW (m2 aw (mV 4) (mV 7)) (mC (.int 2147483647)))))
  (dI 5 (m2 bL (m2 de (m2 a9 (m2 a9 (mV 8) (m2 de (mC (.int 709)) (mV 6))) (mC (.int 5))) (m2 a9 (mC (.int 69621)) (m2 de (m2 de (mC (.int 18)) (mV 6)) (mV 6)))) (mC (.int 2147483629))))))))
  (λi e=>∃(left ds:List Int) (o6 o7 o8:Option W),e=[ac (.d (.lst (ns.map D.int))),ac (.d (.lst (cs.map D.int))),ac (.d (.int (cs0.length:Int))),ac (.d (.int (c0%2))),ac (.d (.lst (left.map D.int))),ac (.d (.lst (ds.map D.int))),o6,o7,o8]/\left.length=cs0.length/\ds.length=i)
  (dv 0 (63:Int)) 0 (λi x e hx ⟨left,ds,o6,o7,o8,he,hl,hd⟩=>by
   obtain⟨hi,rfl⟩:=kE (n:=63) hx;subst he;rw[dS]at hd;have hpos:(0:Int)<(cs0.length:Int):=by omega
   obtain⟨z,hz⟩ : ∃z,(i:Int)%(cs0.length:Int)=z:=⟨_,rfl⟩;have z0:0<=z:=by rw[<- hz];exact gC _ (by omega)
   have z1:z<(cs0.length:Int):=by rw[<- hz];exact gB _ hpos
   obtain⟨on,on0,on1,hon⟩:=OB (cs:=cs) (k:=i) (z:=z) (e:=[ac (.d (.lst (ns.map D.int))),ac (.d (.lst (cs.map D.int))),ac (.d (.int (cs0.length:Int))),ac (.d (.int (c0%2))),ac (.d (.lst (left.map D.int))),ac (.d (.lst (ds.map D.int))),ac (.d (.int (i:Int))),ac (.d (.int z)),o8]) hi z0 (by omega) rfl rfl rfl;have hlx:aw (.lst (left.map D.int)) (.int z)=.ok (.int (left.getD z.toNat 0)):=lT z0 (by omega);obtain⟨lv,hlv⟩ : ∃v,left.getD z.toNat 0=v:=⟨_,rfl⟩;rw[hlv]at hlx;have q1:cB (m2 bM (mV 3) (mC (.int 0))) [ac (.d (.lst (ns.map D.int))),ac (.d (.lst (cs.map D.int))),ac (.d (.int (cs0.length:Int))),ac (.d (.int (c0%2))),ac (.d (.lst (left.map D.int))),ac (.d (.lst (ds.map D.int))),ac (.d (.int (i:Int))),ac (.d (.int z)),ac (.d (.int on))]=.ok (decide (c0%2=0)):=bx ((av rfl rfl rfl).trans (k7 _ _));have q2:cB (m2 iu (m2 aw (mV 4) (mV 7)) (mC (.int 0))) [ac (.d (.lst (ns.map D.int))),ac (.d (.lst (cs.map D.int))),ac (.d (.int (cs0.length:Int))),ac (.d (.int (c0%2))),ac (.d (.lst (left.map D.int))),ac (.d (.lst (ds.map D.int))),ac (.d (.int (i:Int))),ac (.d (.int z)),ac (.d (.int on))]=.ok (decide (0<lv)):=bx (av (av rfl rfl hlx) rfl rfl);have pre:∀t:S,aD (aS 7 (m2 bL (mV 6) (mV 2))) (aD (aS 8 (m2 bL (m2 de (m2 a9 (m2 a9 (m2 bL (m2 aw (mV 1) (mV 7)) (mC (.int 2147483647))) (mC (.int 12011))) (m2 de (mV 6) (mV 6))) (m2 a9 (mC (.int 48271)) (m2 de (mC (.int 614)) (mV 6)))) (mC (.int 2147483647)))) t)
    [ac (.d (.lst (ns.map D.int))),ac (.d (.lst (cs.map D.int))),ac (.d (.int (cs0.length:Int))),ac (.d (.int (c0%2))),ac (.d (.lst (left.map D.int))),ac (.d (.lst (ds.map D.int))),ac (.d (.int (i:Int))),o7,o8]=t [ac (.d (.lst (ns.map D.int))),ac (.d (.lst (cs.map D.int))),ac (.d (.int (cs0.length:Int))),ac (.d (.int (c0%2))),ac (.d (.lst (left.map D.int))),ac (.d (.lst (ds.map D.int))),ac (.d (.int (i:Int))),ac (.d (.int z)),ac (.d (.int on))]:=λt=>by
    rw[aL (e':=[ac (.d (.lst (ns.map D.int))),ac (.d (.lst (cs.map D.int))),ac (.d (.int (cs0.length:Int))),ac (.d (.int (c0%2))),ac (.d (.lst (left.map D.int))),ac (.d (.lst (ds.map D.int))),ac (.d (.int (i:Int))),ac (.d (.int z)),o8]) (bv (d:=.int z) ((av rfl rfl (aK hpos)).trans (by rw[hz])))];rw[aL (e':=[ac (.d (.lst (ns.map D.int))),ac (.d (.lst (cs.map D.int))),ac (.d (.int (cs0.length:Int))),ac (.d (.int (c0%2))),ac (.d (.lst (left.map D.int))),ac (.d (.lst (ds.map D.int))),ac (.d (.int (i:Int))),ac (.d (.int z)),ac (.d (.int on))]) (bv hon)]
   by_cases hb:c0%2=0/\0<lv
   ·obtain⟨left',hl',hs'⟩:=Ki (i:=4) (k:=mV 7) (a:=m2 cW (m2 aw (mV 4) (mV 7)) (mC (.int 2147483647))) (e:=[ac (.d (.lst (ns.map D.int))),ac (.d (.lst (cs.map D.int))),ac (.d (.int (cs0.length:Int))),ac (.d (.int (c0%2))),ac (.d (.lst (left.map D.int))),ac (.d (.lst ((ds++[lv%2147483647]).map D.int))),ac (.d (.int (i:Int))),ac (.d (.int z)),ac (.d (.int on))]) (ls:=left) (z:=z) (v:=lv/2147483647)
     (av (av rfl rfl hlx) rfl (aK (gt (by decide) (by decide)))) rfl rfl z0 (by omega)
    refine⟨[ac (.d (.lst (ns.map D.int))),ac (.d (.lst (cs.map D.int))),ac (.d (.int (cs0.length:Int))),ac (.d (.int (c0%2))),ac (.d (.lst (left.map D.int))),ac (.d (.lst (ds.map D.int))),ac (.d (.int (i:Int))),o7,o8],
     [ac (.d (.lst (ns.map D.int))),ac (.d (.lst (cs.map D.int))),ac (.d (.int (cs0.length:Int))),ac (.d (.int (c0%2))),ac (.d (.lst (left'.map D.int))),ac (.d (.lst ((ds++[lv%2147483647]).map D.int))),ac (.d (.int (i:Int))),ac (.d (.int z)),ac (.d (.int on))],rfl,?_,left',ds++[lv%2147483647],_,_,_,rfl,by omega,by rw[dC,hd];simp⟩
    rw[pre,gF (by unfold cH;rw[q1,aQ,ce hb.1,bc rfl,q2,ce hb.2])];rw[aL (e':=[ac (.d (.lst (ns.map D.int))),ac (.d (.lst (cs.map D.int))),ac (.d (.int (cs0.length:Int))),ac (.d (.int (c0%2))),ac (.d (.lst (left.map D.int))),ac (.d (.lst ((ds++[lv%2147483647]).map D.int))),ac (.d (.int (i:Int))),ac (.d (.int z)),ac (.d (.int on))]),hs']
    ·rfl
    ·rw[mJ (d:=.int (lv%2147483647)) (ds:=ds.map D.int) (av (av rfl rfl hlx) rfl (aK (by decide))) rfl (by rw[aU];omega),fo];rfl
   ·obtain⟨v,hv⟩ : ∃v,m2 bL (m2 de (m2 a9 (m2 a9 (mV 8) (m2 de (mC (.int 709)) (mV 6))) (mC (.int 5))) (m2 a9 (mC (.int 69621)) (m2 de (m2 de (mC (.int 18)) (mV 6)) (mV 6)))) (mC (.int 2147483629)) [ac (.d (.lst (ns.map D.int))),ac (.d (.lst (cs.map D.int))),ac (.d (.int (cs0.length:Int))),ac (.d (.int (c0%2))),ac (.d (.lst (left.map D.int))),ac (.d (.lst (ds.map D.int))),ac (.d (.int (i:Int))),ac (.d (.int z)),ac (.d (.int on))]=.ok (.int v):=
     ⟨_,av (av (av (av rfl (av rfl rfl (aK (lu (by decide) (by decide)))) rfl) rfl rfl) (av rfl (av (av rfl rfl (aK (lu (by decide) (by decide)))) rfl (aK (Ld (by omega) (by omega)))) rfl) (aK (lu (by omega) (by omega)))) rfl (aK (by decide))⟩
    refine⟨[ac (.d (.lst (ns.map D.int))),ac (.d (.lst (cs.map D.int))),ac (.d (.int (cs0.length:Int))),ac (.d (.int (c0%2))),ac (.d (.lst (left.map D.int))),ac (.d (.lst (ds.map D.int))),ac (.d (.int (i:Int))),o7,o8],
     [ac (.d (.lst (ns.map D.int))),ac (.d (.lst (cs.map D.int))),ac (.d (.int (cs0.length:Int))),ac (.d (.int (c0%2))),ac (.d (.lst (left.map D.int))),ac (.d (.lst ((ds++[v]).map D.int))),ac (.d (.int (i:Int))),ac (.d (.int z)),ac (.d (.int on))],rfl,?_,left,ds++[v],_,_,_,rfl,hl,by rw[dC,hd];simp⟩
    rw[pre,dr (by
     unfold cH;rw[q1,aQ];by_cases hb1:c0%2=0
     ·rw[ce hb1,bc rfl,q2,cS λz=>hb ⟨hb1,z⟩]
     ·rw[cS hb1,ba dR])]
    rw[mJ (d:=.int v) (ds:=ds.map D.int) hv rfl (by rw[aU];omega),fo];rfl) [ac (.d (.lst (ns.map D.int))),ac (.d (.lst (cs.map D.int))),ac (.d (.int (cs0.length:Int))),ac (.d (.int (c0%2))),ac (.d (.lst (cs.map D.int))),ac (.d (.lst [])),af,af,af] ⟨cs,[],af,af,af,rfl,hL,rfl⟩
 subst he;have hlen:=ja 63;rw[show((63:Nat):Int)=63 from rfl]at hlen;rw[hlen,dS]at hd;refine⟨ds,?_,hd⟩;rw[aL (e':=[ac (.d (.lst (ns.map D.int))),ac (.d (.lst (cs0.map D.int))),af,af,af,af,af,af,af]) (bv hcs)];rw[aL (e':=[ac (.d (.lst (ns.map D.int))),ac (.d (.lst (cs0.map D.int))),ac (.d (.int (cs0.length:Int))),af,af,af,af,af,af]) (bv (hm cs0))];rw[aL (e':=[ac (.d (.lst (ns.map D.int))),ac (.d (.lst (cs0.map D.int))),ac (.d (.int (cs0.length:Int))),ac (.d (.int (c0%2))),af,af,af,af,af]) (bv (av (av rfl rfl hx0) rfl (aK (by decide))))];rw[aL (e':=[ac (.d (.lst (ns.map D.int))),ac (.d (.lst (cs.map D.int))),ac (.d (.int (cs0.length:Int))),ac (.d (.int (c0%2))),af,af,af,af,af]) zu];rw[aL (e':=[ac (.d (.lst (ns.map D.int))),ac (.d (.lst (cs.map D.int))),ac (.d (.int (cs0.length:Int))),ac (.d (.int (c0%2))),ac (.d (.lst (cs.map D.int))),af,af,af,af]) (bv rfl)];rw[aL (e':=[ac (.d (.lst (ns.map D.int))),ac (.d (.lst (cs.map D.int))),ac (.d (.int (cs0.length:Int))),ac (.d (.int (c0%2))),ac (.d (.lst (cs.map D.int))),ac (.d (.lst [])),af,af,af]) (bv (j6 _))];rw[aL ((ej (gs rfl (mn (by decide) (by decide)))).trans h1)];rfl
end Mr
namespace Mr
open PySem Mi
abbrev Ix:=Nat×Nat
def eB(p q:Ix):Prop:=p.1<q.1\/(p.1=q.1/\p.2<q.2)
def nth(ae:List Str)(i:Nat):Str:=ae.getD i dc
def arrOf(ae:List Str)(p:Ix):Ar:=(nth ae p.1,nth ae p.2)
structure iV(ae:List Str)(A:List Ix)(r:Nat->Int):Prop where
 nd:ae.Nodup
 pos:1<=ae.length
 le:ae.length<=8
 cj:A.Pairwise eB
 all:∀p∈A,p.1<ae.length/\p.2<ae.length/\r p.1<r p.2
 al:A.length<=64
theorem kA{ae:List Str}{i:Nat}(h:i<ae.length):nth ae i∈ae:=by unfold nth;rw[fk,fF h];exact pR h
theorem kR{ae:List Str}(nd:ae.Nodup){i j:Nat}(hi:i<ae.length)(hj:j<ae.length)(h:nth ae i=nth ae j):i=j:=by unfold nth at h;rw[fk,fF hi,fk,fF hj]at h;exact(tW nd).mp h
theorem yr{ae:List Str}{x:Str}(h:x∈ae):∃i,i<ae.length/\nth ae i=x:=by obtain⟨i,hi,e⟩:=yD h;refine⟨i,hi,?_⟩;unfold nth;rw[fk,fF hi];exact e
theorem iV.bC{ae:List Str}{A:List Ix}{r:Nat->Int}(N:iV ae A r):iw ae (A.map (arrOf ae)):=by
 refine⟨N.nd,N.pos,N.le,by rw[aU];exact N.al,λp hp=>?_,λx=>r (ae.idxOf x),λp hp=>?_⟩
 ·obtain⟨q,hq,rfl⟩:=cL.mp hp;exact kA (N.all q hq).1
 ·obtain⟨q,hq,rfl⟩:=cL.mp hp;obtain⟨h1,h2,h3⟩:=N.all q hq;have key:∀i,i<ae.length->ae.idxOf (nth ae i)=i:=λi hi=>by
   have hm:=kA hi;have hl:ae.idxOf (nth ae i)<ae.length:=Lm hm;refine kR N.nd hl hi ?_;have h4:ae[ae.idxOf (nth ae i)]=nth ae i:=CN hl;show ae.getD (ae.idxOf (nth ae i)) dc=_;rw[fk,fF hl];exact h4
  show r (ae.idxOf (nth ae q.1))<r (ae.idxOf (nth ae q.2));rw[key _ h1,key _ h2];exact h3
def good(m:Nat)(r:Nat->Int)(A:List Ix)(j k:Nat):Prop:=A.Pairwise eB/\(∀p∈A,p.1<m/\p.2<m/\r p.1<r p.2/\(p.1<j\/(p.1=j/\p.2<k)))/\A.length<=8*j+k
theorem good.skip{m:Nat}{r:Nat->Int}{A:List Ix}{j k:Nat}(h:good m r A j k):good m r A j (k+1):=⟨h.1,λp hp=>⟨(h.2.1 p hp).1,(h.2.1 p hp).2.1,(h.2.1 p hp).2.2.1,by have:=(h.2.1 p hp).2.2.2;omega⟩,by have:=h.2.2;omega⟩
theorem good.add{m:Nat}{r:Nat->Int}{A:List Ix}{j k:Nat}(h:good m r A j k)(hj:j<m)(hk:k<m)(hr:r j<r k):good m r (A++[(j,k)]) j (k+1):=by
 refine⟨List.pairwise_append.mpr ⟨h.1,CC _ _,λp hp q hq=>?_⟩,λp hp=>?_,by rw[dC];have:=h.2.2;simp;omega⟩
 ·have:q=(j,k):=by simpa using hq
  subst this;have:=(h.2.1 p hp).2.2.2;exact this
 ·rcases eg.mp hp with hp|hp
  ·exact(h.skip.2.1 p hp)
  ·have:p=(j,k):=by simpa using hp
   subst this;exact⟨hj,hk,hr,.inr ⟨rfl,by omega⟩⟩
theorem good.next{m:Nat}{r:Nat->Int}{A:List Ix}{j k:Nat}(h:good m r A j k)(hk:k<=8):good m r A (j+1) 0:=⟨h.1,λp hp=>⟨(h.2.1 p hp).1,(h.2.1 p hp).2.1,(h.2.1 p hp).2.2.1,by have:=(h.2.1 p hp).2.2.2;omega⟩,by have:=h.2.2;omega⟩
def ia(ae:List Str)(A:List Ix):D:=.lst ((A.map (arrOf ae)).map pairD)
theorem EQ{a:Int}(h0:0<=a)(h1:a<8):-(2 ^ 64)<a/\a<2 ^ 64/\0<=a*(a-1)/2/\a*(a-1)/2<=21:=by
 have:a=0\/a=1\/a=2\/a=3\/a=4\/a=5\/a=6\/a=7:=by omega
 rcases this with h|h|h|h|h|h|h|h<;>subst h<;>decide
theorem Ou{ds:List Int}(hd:ds.length=63){e:Mi.Env}{j k:Nat}(hj:j<8)(hk:k<8)(e0:mV 0 e=.ok (.lst (ds.map D.int)))(e8:mV 8 e=.ok (.int (j:Int)))(e9:mV 9 e=.ok (.int (k:Int))) :
 ∃c:Int,m2 aw (mV 0) (m2 a9 (m2 a9 (mC (.int 4)) (m2 cW (m2 de (mN gT [(mV 8),(mV 9)]) (m2 fJ (mN gT [(mV 8),(mV 9)]) (mC (.int 1)))) (mC (.int 2)))) (mN k8 [(mV 8),(mV 9)])) e=.ok (.int c):=by
 have hx:mN gT [(mV 8),(mV 9)] e=.ok (.int (max (j:Int) (k:Int))):=(la e8 e9).trans (FP _ _);have hn:mN k8 [(mV 8),(mV 9)] e=.ok (.int (min (j:Int) (k:Int))):=(la e8 e9).trans (EA _ _);obtain⟨t1,t2,t3,t4⟩:=EQ (a:=max (j:Int) (k:Int)) (by omega) (by omega);exact⟨_,av e0 (av (av rfl (av (av hx (av hx rfl rfl) (aK (lu t1 t2))) rfl (aK (gt (by decide) (by decide)))) rfl) hn rfl) (lT (by omega) (by omega))⟩
theorem Oh(ds:List Int)(hd:ds.length=63)(lo hi:Nat)(h0:1<=lo)(h1:lo<=hi)(h2:hi<=8) :
 ∃ae A r,tq [.d (.lst (ds.map D.int)),.d (.int (lo:Int)),.d (.int (hi:Int))]=.ok (.d (ao ae (A.map (arrOf ae))))/\iV ae A r/\lo<=ae.length/\ae.length<=hi/\∀x∈ae,My.fX x.cps.toList:=by
 have hx:∀i:Nat,i<4->aw (.lst (ds.map D.int)) (.int (i:Int))=.ok (.int (ds.getD i 0)):=λi hi=>by
  have:=lT (cs:=ds) (i:=(i:Int)) (by omega) (by omega)
  rwa [jf]at this
 have hw:(0:Int)<(hi:Int)-(lo:Int)+1:=by omega
 have q1:=gC (ds.getD 0 0) (b:=(hi:Int)-(lo:Int)+1) (by omega);have q2:=gB (ds.getD 0 0) hw;obtain⟨m,hm⟩ : ∃m:Nat,(lo:Int)+ds.getD 0 0%((hi:Int)-(lo:Int)+1)=(m:Int):=⟨((lo:Int)+ds.getD 0 0%((hi:Int)-(lo:Int)+1)).toNat,by omega⟩;have hm1:lo<=m:=by omega
 have hm2:m<=hi:=by omega
 have hm8:m<=8:=by omega
 obtain⟨ae,hn,hnl,hnd,hwf⟩:=SH ds hd m hm8;obtain⟨rs,hr,hrl⟩:=Gi (ds.getD 2 0) m hm8;have q3:=gC (ds.getD 3 0) (b:=6) (by decide);have q4:=gB (ds.getD 3 0) (b:=6) (by decide);obtain⟨th,hth⟩ : ∃th,aw (.lst ([4,1,2,3,2,3].map D.int)) (.int (ds.getD 3 0%6))=.ok (.int th):=⟨_,lT q3 (by simp;omega)⟩;have hrx:∀i:Nat,i<m->aw (.lst (rs.map D.int)) (.int (i:Int))=.ok (.int (rs.getD i 0)):=λi hi=>by
  have:=lT (cs:=rs) (i:=(i:Int)) (by omega) (by omega)
  rwa [jf]at this
 have hnx:∀i:Nat,i<m->aw (aj ae) (.int (i:Int))=.ok (.str (nth ae i)):=λi hi=>by
  have:=Ah (cs:=ae) (i:=(i:Int)) (by omega) (by omega)
  rwa [jf]at this
 have inner:∀(j:Nat) (A:List Ix) (o9 o10:Option W),j<m->good m (λi=>rs.getD i 0) A j 0->∃(A':List Ix) (p9 p10:Option W),fV (.n 9) (aD (aS 10 (m2 aw (mV 0) (m2 a9 (m2 a9 (mC (.int 4)) (m2 cW (m2 de (mN gT [(mV 8),(mV 9)]) (m2 fJ (mN gT [(mV 8),(mV 9)]) (mC (.int 1)))) (mC (.int 2)))) (mN k8 [(mV 8),(mV 9)]))))
  (bp (cH (cB (m2 gr (m2 aw (mV 5) (mV 8)) (m2 aw (mV 5) (mV 9)))) (cB (m2 gr (m2 bL (mV 10) (mC (.int 4))) (mV 6)))) (dI 7 (mN dTup [(m2 aw (mV 4) (mV 8)),(m2 aw (mV 4) (mV 9))])) bz)) (dv 0 (m:Int))
  [ac (.d (.lst (ds.map D.int))),ac (.d (.int (lo:Int))),ac (.d (.int (hi:Int))),ac (.d (.int (m:Int))),ac (.d (aj ae)),ac (.d (.lst (rs.map D.int))),ac (.d (.int th)),ac (.d (ia ae A)),ac (.d (.int (j:Int))),o9,o10] =
  .ok (.nx [ac (.d (.lst (ds.map D.int))),ac (.d (.int (lo:Int))),ac (.d (.int (hi:Int))),ac (.d (.int (m:Int))),ac (.d (aj ae)),ac (.d (.lst (rs.map D.int))),ac (.d (.int th)),ac (.d (ia ae A')),ac (.d (.int (j:Int))),p9,p10])/\good m (λi=>rs.getD i 0) A' (j+1) 0:=by
  intro j A o9 o10 hj hg;obtain⟨e',f1,A',p9,p10,he,hg'⟩:=fO (tg:=.n 9) (body:=aD (aS 10 (m2 aw (mV 0) (m2 a9 (m2 a9 (mC (.int 4)) (m2 cW (m2 de (mN gT [(mV 8),(mV 9)]) (m2 fJ (mN gT [(mV 8),(mV 9)]) (mC (.int 1)))) (mC (.int 2)))) (mN k8 [(mV 8),(mV 9)]))))
   (bp (cH (cB (m2 gr (m2 aw (mV 5) (mV 8)) (m2 aw (mV 5) (mV 9)))) (cB (m2 gr (m2 bL (mV 10) (mC (.int 4))) (mV 6)))) (dI 7 (mN dTup [(m2 aw (mV 4) (mV 8)),(m2 aw (mV 4) (mV 9))])) bz))
   (λk e=>∃(A:List Ix) (o9 o10:Option W),e=[ac (.d (.lst (ds.map D.int))),ac (.d (.int (lo:Int))),ac (.d (.int (hi:Int))),ac (.d (.int (m:Int))),ac (.d (aj ae)),ac (.d (.lst (rs.map D.int))),ac (.d (.int th)),ac (.d (ia ae A)),ac (.d (.int (j:Int))),o9,o10]/\good m (λi=>rs.getD i 0) A j k)
   (dv 0 (m:Int)) 0 (λk x e hx ⟨A,o9,o10,he,hg⟩=>by
    obtain⟨hk,rfl⟩:=kE hx;subst he;rw[dS]at hg;obtain⟨c,hc⟩:=Ou hd (e:=[ac (.d (.lst (ds.map D.int))),ac (.d (.int (lo:Int))),ac (.d (.int (hi:Int))),ac (.d (.int (m:Int))),ac (.d (aj ae)),ac (.d (.lst (rs.map D.int))),ac (.d (.int th)),ac (.d (ia ae A)),ac (.d (.int (j:Int))),ac (.d (.int (k:Int))),o10]) (j:=j) (k:=k) (by omega) (by omega) rfl rfl rfl;have c1:cB (m2 gr (m2 aw (mV 5) (mV 8)) (m2 aw (mV 5) (mV 9))) [ac (.d (.lst (ds.map D.int))),ac (.d (.int (lo:Int))),ac (.d (.int (hi:Int))),ac (.d (.int (m:Int))),ac (.d (aj ae)),ac (.d (.lst (rs.map D.int))),ac (.d (.int th)),ac (.d (ia ae A)),ac (.d (.int (j:Int))),ac (.d (.int (k:Int))),ac (.d (.int c))]=.ok (decide (rs.getD j 0<rs.getD k 0)):=bx (av (av rfl rfl (hrx j hj)) (av rfl rfl (hrx k hk)) rfl);have c2:cB (m2 gr (m2 bL (mV 10) (mC (.int 4))) (mV 6)) [ac (.d (.lst (ds.map D.int))),ac (.d (.int (lo:Int))),ac (.d (.int (hi:Int))),ac (.d (.int (m:Int))),ac (.d (aj ae)),ac (.d (.lst (rs.map D.int))),ac (.d (.int th)),ac (.d (ia ae A)),ac (.d (.int (j:Int))),ac (.d (.int (k:Int))),ac (.d (.int c))]=.ok (decide (c%4<th)):=bx (av (av rfl rfl (aK (by decide))) rfl rfl);by_cases hb:rs.getD j 0<rs.getD k 0/\c%4<th
    ·refine⟨[ac (.d (.lst (ds.map D.int))),ac (.d (.int (lo:Int))),ac (.d (.int (hi:Int))),ac (.d (.int (m:Int))),ac (.d (aj ae)),ac (.d (.lst (rs.map D.int))),ac (.d (.int th)),ac (.d (ia ae A)),ac (.d (.int (j:Int))),ac (.d (.int (k:Int))),o10],
      [ac (.d (.lst (ds.map D.int))),ac (.d (.int (lo:Int))),ac (.d (.int (hi:Int))),ac (.d (.int (m:Int))),ac (.d (aj ae)),ac (.d (.lst (rs.map D.int))),ac (.d (.int th)),ac (.d (ia ae (A++[(j,k)]))),ac (.d (.int (j:Int))),ac (.d (.int (k:Int))),ac (.d (.int c))],rfl,?_,A++[(j,k)],ac (.d (.int (k:Int))),ac (.d (.int c)),rfl,by rw[dS];exact hg.add hj hk hb.1⟩
     rw[aL (e':=[ac (.d (.lst (ds.map D.int))),ac (.d (.int (lo:Int))),ac (.d (.int (hi:Int))),ac (.d (.int (m:Int))),ac (.d (aj ae)),ac (.d (.lst (rs.map D.int))),ac (.d (.int th)),ac (.d (ia ae A)),ac (.d (.int (j:Int))),ac (.d (.int (k:Int))),ac (.d (.int c))]) (bv hc)];rw[gF (by unfold cH;rw[c1,aQ,ce hb.1,bc rfl,c2,ce hb.2])];rw[mJ (d:=pairD (nth ae j,nth ae k)) (ds:=(A.map (arrOf ae)).map pairD) (eS (av rfl rfl (hnx j hj)) (av rfl rfl (hnx k hk))) rfl (by rw[aU,aU];have:=hg.2.2;omega)];show Rs.ok (Out.nx [_,_,_,_,_,_,_,ac (W.d (D.lst ((A.map (arrOf ae)).map pairD++[pairD (nth ae j,nth ae k)]))),_,_,_])=_;rw[ia,fo,fo];rfl
    ·refine⟨[ac (.d (.lst (ds.map D.int))),ac (.d (.int (lo:Int))),ac (.d (.int (hi:Int))),ac (.d (.int (m:Int))),ac (.d (aj ae)),ac (.d (.lst (rs.map D.int))),ac (.d (.int th)),ac (.d (ia ae A)),ac (.d (.int (j:Int))),ac (.d (.int (k:Int))),o10],
      [ac (.d (.lst (ds.map D.int))),ac (.d (.int (lo:Int))),ac (.d (.int (hi:Int))),ac (.d (.int (m:Int))),ac (.d (aj ae)),ac (.d (.lst (rs.map D.int))),ac (.d (.int th)),ac (.d (ia ae A)),ac (.d (.int (j:Int))),ac (.d (.int (k:Int))),ac (.d (.int c))],rfl,?_,A,ac (.d (.int (k:Int))),ac (.d (.int c)),rfl,by rw[dS];exact hg.skip⟩
     rw[aL (e':=[ac (.d (.lst (ds.map D.int))),ac (.d (.int (lo:Int))),ac (.d (.int (hi:Int))),ac (.d (.int (m:Int))),ac (.d (aj ae)),ac (.d (.lst (rs.map D.int))),ac (.d (.int th)),ac (.d (ia ae A)),ac (.d (.int (j:Int))),ac (.d (.int (k:Int))),ac (.d (.int c))]) (bv hc)];rw[dr (by
      unfold cH;rw[c1,aQ];by_cases hb1:rs.getD j 0<rs.getD k 0
      ·rw[ce hb1,bc rfl,c2,cS λz=>hb ⟨hb1,z⟩]
      ·rw[cS hb1,ba dR])]
     rfl) _ ⟨A,o9,o10,rfl,hg⟩
  subst he;rw[ja,dS]at hg';exact⟨A',p9,p10,f1,hg'.next hm8⟩
 obtain⟨e',f1,A,p8,p9,p10,he,hg⟩:=fO (tg:=.n 8) (body:=(cJ (fj (mV 3)) (.n 9)
  (aD (aS 10 (m2 aw (mV 0) (m2 a9 (m2 a9 (mC (.int 4)) (m2 cW (m2 de (mN gT [(mV 8),(mV 9)]) (m2 fJ (mN gT [(mV 8),(mV 9)]) (mC (.int 1)))) (mC (.int 2)))) (mN k8 [(mV 8),(mV 9)]))))
  (bp (cH (cB (m2 gr (m2 aw (mV 5) (mV 8)) (m2 aw (mV 5) (mV 9)))) (cB (m2 gr (m2 bL (mV 10) (mC (.int 4))) (mV 6)))) (dI 7 (mN dTup [(m2 aw (mV 4) (mV 8)),(m2 aw (mV 4) (mV 9))])) bz))))
  (λj e=>∃(A:List Ix) (o8 o9 o10:Option W),e=[ac (.d (.lst (ds.map D.int))),ac (.d (.int (lo:Int))),ac (.d (.int (hi:Int))),ac (.d (.int (m:Int))),ac (.d (aj ae)),ac (.d (.lst (rs.map D.int))),ac (.d (.int th)),ac (.d (ia ae A)),o8,o9,o10]/\good m (λi=>rs.getD i 0) A j 0)
  (dv 0 (m:Int)) 0 (λj x e hx ⟨A,o8,o9,o10,he,hg⟩=>by
   obtain⟨hj,rfl⟩:=kE hx;subst he;rw[dS]at hg;obtain⟨A',p9,p10,f1,hg'⟩:=inner j A o9 o10 hj hg;exact⟨_,_,rfl,(ej (gs rfl (k9 m hm8))).trans f1,A',_,p9,p10,rfl,by rw[dS];exact hg'⟩)
  [ac (.d (.lst (ds.map D.int))),ac (.d (.int (lo:Int))),ac (.d (.int (hi:Int))),ac (.d (.int (m:Int))),ac (.d (aj ae)),ac (.d (.lst (rs.map D.int))),ac (.d (.int th)),ac (.d (.lst [])),af,af,af] ⟨[],af,af,af,rfl,zd,λp hp=>absurd hp (by simp),gZ _⟩
 subst he;rw[ja,dS]at hg;refine⟨ae,A,λi=>rs.getD i 0,?_,⟨hnd,by omega,by omega,hg.1,λp hp=>?_,by have:=hg.2.2;omega⟩,by omega,by omega,hwf⟩
 ·unfold tq Hz;rw[tH];have hx0:=hx 0 (by decide);have hx2:=hx 2 (by decide);have hx3:=hx 3 (by decide);rw[show((0:Nat):Int)=0 from rfl]at hx0;rw[show((2:Nat):Int)=2 from rfl]at hx2;rw[show((3:Nat):Int)=3 from rfl]at hx3;rw[aL (e':=[ac (.d (.lst (ds.map D.int))),ac (.d (.int (lo:Int))),ac (.d (.int (hi:Int))),ac (.d (.int (m:Int))),af,af,af,af,af,af,af]) (bv (d:=.int (m:Int)) ((av rfl (av (av rfl rfl hx0) (av (av rfl rfl rfl) rfl rfl) (aK hw)) rfl).trans (by rw[sH,hm])))];rw[aL (e':=[ac (.d (.lst (ds.map D.int))),ac (.d (.int (lo:Int))),ac (.d (.int (hi:Int))),ac (.d (.int (m:Int))),ac (.d (aj ae)),af,af,af,af,af,af]) (bv (call2 rfl rfl hn))];rw[aL (e':=[ac (.d (.lst (ds.map D.int))),ac (.d (.int (lo:Int))),ac (.d (.int (hi:Int))),ac (.d (.int (m:Int))),ac (.d (aj ae)),ac (.d (.lst (rs.map D.int))),af,af,af,af,af]) (bv (call2 (bY (av rfl rfl hx2)) rfl hr))];have hl6:mN b9 [(mC (.int 4)),(mC (.int 1)),(mC (.int 2)),(mC (.int 3)),(mC (.int 2)),(mC (.int 3))] [ac (.d (.lst (ds.map D.int))),ac (.d (.int (lo:Int))),ac (.d (.int (hi:Int))),ac (.d (.int (m:Int))),ac (.d (aj ae)),ac (.d (.lst (rs.map D.int))),af,af,af,af,af]=.ok (.lst ([4,1,2,3,2,3].map D.int)):=by
   show bu (([4,1,2,3,2,3].map D.int).length<=16777216) _=_;exact aK (by simp)
  rw[aL (e':=[ac (.d (.lst (ds.map D.int))),ac (.d (.int (lo:Int))),ac (.d (.int (hi:Int))),ac (.d (.int (m:Int))),ac (.d (aj ae)),ac (.d (.lst (rs.map D.int))),ac (.d (.int th)),af,af,af,af]) (bv (av hl6 (av (av rfl rfl hx3) rfl (aK (by decide))) hth))];rw[aL (e':=[ac (.d (.lst (ds.map D.int))),ac (.d (.int (lo:Int))),ac (.d (.int (hi:Int))),ac (.d (.int (m:Int))),ac (.d (aj ae)),ac (.d (.lst (rs.map D.int))),ac (.d (.int th)),ac (.d (.lst [])),af,af,af]) (bv (j6 _))];rw[aL ((ej (gs rfl (k9 m hm8))).trans f1)];rw[eI (bY (eS (x:=aP ae) (y:=dg (A.map (arrOf ae))) (dX (x:=aj ae) rfl) (dX (x:=ia ae A) rfl)))];rfl
 ·obtain⟨a,b,c,_⟩:=hg.2.1 p hp;exact⟨by omega,by omega,c⟩
end Mr
namespace Mr
open PySem Mi
open My (words vh uD)
end Mr
namespace Mr
open PySem Mi
open My (words vh uD)
end Mr
namespace Mr
open PySem Mi
end Mr
namespace Mr
open PySem Mi
inductive j1(ag:List Ar)(x:Str):Str->Prop
 |refl:j1 ag x x
 |step {y z:Str}:j1 ag x y->(y,z)∈ag->j1 ag x z
structure Good(ae:List Str)(ag:List Ar)(x:Str)(met:List Str):Prop where
 nd:met.Nodup
 sub:∀y∈met,y∈ae
 r:∀y∈met,j1 ag x y
 x:x∈met
def xu(ag:List Ar)(met:List Str):Prop:=∀p∈ag,p.1∈met->p.2∈met
theorem xu.all{ag:List Ar}{met:List Str}(h:xu ag met){x:Str}(hx:x∈met):∀{y:Str},j1 ag x y->y∈met
 |_,.refl=>hx
 |_,.step r a=>h _ a (h.all hx r)
theorem Good.iff{ae:List Str}{ag:List Ar}{x:Str}{met:List Str}(g:Good ae ag x met)(h:xu ag met)(y:Str):y∈met↔j1 ag x y:=⟨g.r y,h.all g.x⟩
theorem N5{ae met:List Str}(nd:met.Nodup)(sub:∀y∈met,y∈ae)(h:ae.length<=met.length):∀y∈ae,y∈met:=λy hy=>by
 apply gN;intro hn;have:=i4 (l:=y::met) (m:=ae) (iO.mpr ⟨hn,nd⟩) (λz hz=>by
  rcases cn.mp hz with rfl|hz
  ·exact hy
  ·exact sub z hz)
 simp at this;omega
end Mr
namespace Mr
open PySem Mi
noncomputable def rch (ag:List Ar) (x y:Str):Bool:=@decide (j1 ag x y) (v5 _)
theorem BU{ag:List Ar}{x y:Str}:rch ag x y=true↔j1 ag x y:=by unfold rch;exact@kJ _ (v5 _)
noncomputable def wj (ae:List Str) (ag:List Ar) (x:Str):List Str:=ae.filter (rch ag x)
theorem OM{ag:List Ar}{x:Str}{met:List Str}(h:∀y,y∈met↔j1 ag x y)(y:Str):decide (y∈met)=rch ag x y:=by rw[iQ,BU,kJ];exact h y
def eQ(fs:List Str):W:=.dk (fs.map λy=>((fu y:Ky),D.bl true))
theorem JL(fs:List Str)(y:Str):(iX (fs.map λy=>((fu y:Ky),D.bl true)) (fu y)).isSome=decide (y∈fs):=by
 unfold iX
 induction fs with
 |nil=>rfl
 |cons a r ih=>
  rw[cF,l5];by_cases h:a=y
  ·subst h;simp
  ·rw[cS (λz:(fu a:Ky)=fu y=>h (wb z))];simp only[ih];rw[oR];exact⟨λz=>er _ z,λz=>by
    rcases cn.mp z with z|z
    ·exact absurd z.symm h
    ·exact z⟩
theorem Hj{i:Nat}{k:E}{e:Mi.Env}{fs:List Str}{y:Str}(hk:k e=.ok (.str y))(hw:wV i e=.ok (eQ fs)):lZ i k e=.ok (.bl (decide (y∈fs))):=by unfold lZ;rw[hk,aQ,hw,aQ,<- JL];rfl
theorem Rn{i:Nat}{k:E}{e:Mi.Env}{fs:List Str}{y:Str}(hk:k e=.ok (.str y))(hw:wV i e=.ok (eQ fs)):oG i k e=.ok (.bl (!decide (y∈fs))):=by unfold oG;rw[hk,aQ,hw,aQ,<- JL];rfl
theorem Fi{i:Nat}{k:E}{e:Mi.Env}{fs:List Str}{y:Str}(hk:k e=.ok (.str y))(hw:wV i e=.ok (eQ fs))(hn:y∉fs)(hl:fs.length<=1000):f9 i k (mC (.bl true)) e=.ok (.nx (e.set i (ac (eQ (fs++[y]))))):=by
 unfold f9;have h1:w9 (eQ fs) (.str y) (.bl true)=.ok (eQ (fs++[y])):=by
  show bu ((fs.map λy=>((fu y:Ky),D.bl true)).length<16777216) ((cQ (pL (.str y))).bind λk=>Rs.ok (W.dk (Mi.putK k (.bl true) (fs.map λy=>((fu y:Ky),D.bl true)))))=_;rw[aK (by rw[aU];omega)];show Rs.ok (W.dk (Mi.putK (fu y:Ky) (.bl true) (fs.map λy=>((fu y:Ky),D.bl true))))=_;unfold Mi.putK;rw[ba (by
   rw[CS,yX,yG];intro z hz;simp only[DA,i7];exactλq=>hn (wb q ▸ hz))]
  unfold eQ;rw[fo];rfl
 show(k e).bind _=_;rw[hk,aQ,hw,aQ,h1];rfl
structure sm(ae:List Str)(ag:List Ar)(x:Str)(h:Option Str)(fs ws:List Str):Prop where
 g:Good ae ag x fs
 wnd:ws.Nodup
 ur:∀y∈ws,y∈fs
 ex:∀y∈fs,y∉ws->h=ac y\/∀p∈ag,p.1=y->p.2∈fs
abbrev xa:S:=(aD (wZ 5 4)
 (cJ (br (mV 1)) (.t [6,7])
 (bp (cH (cB (m2 bM (mV 6) (mV 5))) (cB (oG 3 (mV 7))))
 (aD (f9 3 (mV 7) (mC (.bl true)))
 (dI 4 (mV 7)))
 bz)))
theorem VT{ae:List Str}{ag:List Ar}(N:iw ae ag)(hd:∀p∈ag,p.2∈ae){x h:Str}{fs ws:List Str}(w:sm ae ag x af fs (ws++[h]))(o5 o6 o7:Option W) :
 ∃fs' ws' p6 p7,xa [ac (.d (aP ae)),ac (.d (dg ag)),ac (.d (.str x)),ac (eQ fs),ac (.d (aj (ws++[h]))),o5,o6,o7]=.ok (.nx [ac (.d (aP ae)),ac (.d (dg ag)),ac (.d (.str x)),ac (eQ fs'),ac (.d (aj ws')),ac (.d (.str h)),p6,p7]) /\
  sm ae ag x af fs' ws'/\fs.length<=fs'.length/\ws'.length+fs.length=ws.length+fs'.length:=by
 have hnd:=kn.mp w.wnd;have hh:h∈fs:=w.ur h (by simp);have hnw:h∉ws:=λz=>hnd.2.2 h z h (by simp) rfl;obtain⟨e',f1,fs',ws',p6,p7,he,w',hl,hl2,hx,_⟩:=fO (tg:=.t [6,7]) (body:=(bp (cH (cB (m2 bM (mV 6) (mV 5))) (cB (oG 3 (mV 7)))) (aD (f9 3 (mV 7) (mC (.bl true))) (dI 4 (mV 7))) bz))
  (λi e=>∃(fs' ws':List Str) (o6 o7:Option W),e=[ac (.d (aP ae)),ac (.d (dg ag)),ac (.d (.str x)),ac (eQ fs'),ac (.d (aj ws')),ac (.d (.str h)),o6,o7]/\sm ae ag x (ac h) fs' ws'/\fs.length<=fs'.length/\ws'.length+fs.length=ws.length+fs'.length/\(∀j p,j<i->ag[j]? = ac p->p.1=h->p.2∈fs')/\h∈fs') (ag.map pairD) 0 (λi d e hi ⟨f1,w1,o6,o7,he,W1,hl,hl2,hx,hf1⟩=>by
   subst he;rw[dS]at hx ⊢;rw[fm]at hi;obtain⟨p,hp,rfl⟩:=lh.mp hi;have hpm:=pP hp;have c1:cB (m2 bM (mV 6) (mV 5)) [ac (.d (aP ae)),ac (.d (dg ag)),ac (.d (.str x)),ac (eQ f1),ac (.d (aj w1)),ac (.d (.str h)),ac (.d (.str p.1)),ac (.d (.str p.2))]=.ok (decide (p.1=h)):=bx ((av rfl rfl rfl).trans (vA _ _));have c2:cB (oG 3 (mV 7)) [ac (.d (aP ae)),ac (.d (dg ag)),ac (.d (.str x)),ac (eQ f1),ac (.d (aj w1)),ac (.d (.str h)),ac (.d (.str p.1)),ac (.d (.str p.2))]=.ok (!decide (p.2∈f1)):=bx (Rn rfl rfl);have hl8:f1.length<=8:=c8 (i4 W1.g.nd W1.g.sub) N.le;have hw8:w1.length<=8:=c8 (i4 W1.wnd (λy hy=>W1.g.sub y (W1.ur y hy))) N.le;by_cases hb:p.1=h/\p.2∉f1
   ·refine⟨[ac (.d (aP ae)),ac (.d (dg ag)),ac (.d (.str x)),ac (eQ f1),ac (.d (aj w1)),ac (.d (.str h)),ac (.d (.str p.1)),ac (.d (.str p.2))],[ac (.d (aP ae)),ac (.d (dg ag)),ac (.d (.str x)),ac (eQ (f1++[p.2])),ac (.d (aj (w1++[p.2]))),ac (.d (.str h)),ac (.d (.str p.1)),ac (.d (.str p.2))],rfl,?_,f1++[p.2],w1++[p.2],_,_,rfl,⟨⟨?_,λy hy=>?_,λy hy=>?_,jU _ W1.g.x⟩,?_,λy hy=>?_,λy hy hn=>?_⟩,by rw[dC];omega,by rw[dC,dC];simp;omega,λj q hj hq h1=>?_,jU _ hf1⟩
    ·rw[gF (by unfold cH;rw[c1,aQ,ce hb.1,bc rfl,c2,cS hb.2];rfl)];rw[aL (Fi (y:=p.2) (fs:=f1) rfl rfl hb.2 (by omega))];rw[mJ (d:=.str p.2) (ds:=w1.map D.str) rfl rfl (by rw[aU];omega)];show Rs.ok (Out.nx [_,_,_,_,ac (W.d (D.lst (w1.map D.str++[.str p.2]))),_,_,_])=_;rw[aj,fo];rfl
    ·exact kn.mpr ⟨W1.g.nd,by simp,λa ha b hb'=>by
      have:b=p.2:=by simpa using hb'
      subst this;exactλz=>hb.2 (z ▸ ha)⟩
    ·rcases eg.mp hy with z|z
     ·exact W1.g.sub y z
     ·have:y=p.2:=by simpa using z
      subst this;exact hd p hpm
    ·rcases eg.mp hy with z|z
     ·exact W1.g.r y z
     ·have:y=p.2:=by simpa using z
      subst this;exact .step (W1.g.r p.1 (hb.1 ▸ hf1)) hpm
    ·exact kn.mpr ⟨W1.wnd,by simp,λa ha b hb'=>by
      have:b=p.2:=by simpa using hb'
      subst this;exactλz=>hb.2 (z ▸ W1.ur a ha)⟩
    ·rcases eg.mp hy with z|z
     ·exact jU _ (W1.ur y z)
     ·exact gW _ z
    ·rcases eg.mp hy with z|z
     ·rcases W1.ex y z (λq=>hn (jU _ q))with q|q
      ·exact .inl q
      ·exact .inr λr hr h1=>jU _ (q r hr h1)
     ·exact absurd (gW _ z) hn
    ·by_cases hji:j=i
     ·subst hji;rw[hp]at hq;cases hq;simp
     ·exact jU _ (hx j q (by omega) hq h1)
   ·refine⟨[ac (.d (aP ae)),ac (.d (dg ag)),ac (.d (.str x)),ac (eQ f1),ac (.d (aj w1)),ac (.d (.str h)),ac (.d (.str p.1)),ac (.d (.str p.2))],[ac (.d (aP ae)),ac (.d (dg ag)),ac (.d (.str x)),ac (eQ f1),ac (.d (aj w1)),ac (.d (.str h)),ac (.d (.str p.1)),ac (.d (.str p.2))],rfl,?_,f1,w1,_,_,rfl,W1,hl,hl2,λj q hj hq h1=>?_,hf1⟩
    ·rw[dr (by
      unfold cH;rw[c1,aQ];by_cases h1:p.1=h
      ·rw[ce h1,bc rfl,c2,ce (gN λz=>hb ⟨h1,z⟩)];rfl
      ·rw[cS h1,ba dR])]
     rfl
    ·by_cases hji:j=i
     ·subst hji;rw[hp]at hq;cases hq;exact gN λz=>hb ⟨h1,z⟩
     ·exact hx j q (by omega) hq h1) [ac (.d (aP ae)),ac (.d (dg ag)),ac (.d (.str x)),ac (eQ fs),ac (.d (aj ws)),ac (.d (.str h)),o6,o7]
  ⟨fs,ws,o6,o7,rfl,⟨w.g,hnd.1,λy hy=>w.ur y (jU _ hy),λy hy hn=>by
   by_cases hyh:y=h
   ·exact .inl (by rw[hyh])
   ·rcases w.ex y hy (λz=>by
     rcases eg.mp z with z|z
     ·exact hn z
     ·exact hyh (by simpa using z))with q|q
    ·cases q
    ·exact .inr q⟩,bJ _,rfl,λj p hj=>absurd hj (vZ _),hh⟩
 subst he;refine⟨fs',ws',p6,p7,?_,⟨w'.g,w'.wnd,w'.ur,λy hy hn=>.inr ?_⟩,hl,hl2⟩
 ·rw[show xa=aD (wZ 5 4) (cJ (br (mV 1)) (.t [6,7]) (bp (cH (cB (m2 bM (mV 6) (mV 5))) (cB (oG 3 (mV 7)))) (aD (f9 3 (mV 7) (mC (.bl true))) (dI 4 (mV 7))) bz))from rfl];rw[aL (e':=[ac (.d (aP ae)),ac (.d (dg ag)),ac (.d (.str x)),ac (eQ fs),ac (.d (aj ws)),ac (.d (.str h)),o6,o7]) (by
   show(cQ (((ws++[h]).map D.str)[((ws++[h]).map D.str).length-1]?)).bind _=_;have e1:((ws++[h]).map D.str)[((ws++[h]).map D.str).length-1]? = ac (.str h):=by simp
   have e2:((ws++[h]).map D.str).dropLast=ws.map D.str:=by simp
   rw[e1,jO,aQ,e2];rfl)]
  exact(ej (dM (x:=dg ag) rfl rfl)).trans f1
 ·rcases w'.ex y hy hn with q|q
  ·cases q;intro p hp h1;obtain⟨j,hj⟩:=rj hp;exact hx j p (by rw[aU];have:=(eW.mp hj).1;omega) hj h1
  ·exact q
end Mr
namespace Mr
open PySem Mi
theorem Kt{ae:List Str}{ag:List Ar}(N:iw ae ag)(hd:∀p∈ag,p.2∈ae){x:Str}:∀(n:Nat) (fs ws:List Str) (o5 o6 o7:Option W),sm ae ag x af fs ws->(ae.length-fs.length)+ws.length<n ->
 ∃fs' p5 p6 p7,gO (lG (mV 4)) xa n [ac (.d (aP ae)),ac (.d (dg ag)),ac (.d (.str x)),ac (eQ fs),ac (.d (aj ws)),o5,o6,o7]=.ok (.nx [ac (.d (aP ae)),ac (.d (dg ag)),ac (.d (.str x)),ac (eQ fs'),ac (.d (aj [])),p5,p6,p7])/\sm ae ag x af fs' []
 |0,_,_,_,_,_,_,h=>absurd h (vZ _)
 |n+1,fs,ws,o5,o6,o7,w,h=>by
  have hc:lG (mV 4) [ac (.d (aP ae)),ac (.d (dg ag)),ac (.d (.str x)),ac (eQ fs),ac (.d (aj ws)),o5,o6,o7]=.ok (!(ws.map D.str).isEmpty):=rfl;rcases List.eq_nil_or_concat ws with rfl|⟨ws1,y,rfl⟩
  ·exact⟨fs,o5,o6,o7,by rw[gO,hc];rfl,w⟩
  ·rw[List.concat_eq_append]at w h hc ⊢;obtain⟨fs',ws',p6,p7,f1,w',l1,l2⟩:=VT N hd w o5 o6 o7;have l3:fs'.length<=ae.length:=i4 w'.g.nd w'.g.sub;obtain⟨fs2,q5,q6,q7,f2,w2⟩:=Kt N hd n fs' ws' (ac (.d (.str y))) p6 p7 w' (by rw[dC]at h;simp at h;omega);refine⟨fs2,q5,q6,q7,?_,w2⟩;rw[gO,hc,show(!((ws1++[y]).map D.str).isEmpty)=true by simp,aQ,bc rfl,f1,aQ];exact f2
theorem Qy{ae:List Str}{ag:List Ar}(N:iw ae ag)(hd:∀p∈ag,p.2∈ae){x:Str}(hx:x∈ae):uz [.d (aP ae),.d (dg ag),.d (.str x)]=.ok (.d (aj (wj ae ag x))):=by
 have w0:sm ae ag x af [x] [x]:=⟨⟨by simp,λy hy=>by simp at hy;subst hy;exact hx,λy hy=>by simp at hy;subst hy;exact .refl,by simp⟩,by simp,λy hy=>hy,λy hy hn=>absurd hy hn⟩;obtain⟨fs,p5,p6,p7,f1,w⟩:=Kt N hd 20 [x] [x] af af af w0 (by have:=N.le;simp;omega);have hcl:xu ag fs:=λp hp h1=>by
  rcases w.ex p.1 h1 (by simp)with q|q
  ·cases q
  ·exact q p hp rfl
 unfold uz Iq;rw[JX];rw[aL (e':=[ac (.d (aP ae)),ac (.d (dg ag)),ac (.d (.str x)),ac (eQ [x]),af,af,af,af]) rfl];rw[aL (e':=[ac (.d (aP ae)),ac (.d (dg ag)),ac (.d (.str x)),ac (eQ [x]),ac (.d (aj [x])),af,af,af]) (bv (o0 rfl))];rw[aL (show qt 20 (lG (mV 4)) xa _=_ from f1)];have hc:dA (.n 1) (cB (lZ 0 (mV 1))) (mV 1) [ac (eQ fs),af] (ae.map D.str)=.ok ((ae.filter (rch ag x)).map D.str):=
  fi D.str D.str _ ae λy _=>⟨[ac (eQ fs),ac (.d (.str y))],rfl,bx ((Hj rfl rfl).trans (by rw[OM (w.g.iff hcl)])),λ_=>rfl⟩
 rw[eI (bY (eL (dM (x:=aP ae) rfl rfl) (by rw[aU];have:=N.le;omega) hc))];rfl
theorem TM{ae:List Str}{ag:List Ar}(N:iw ae ag)(hd:∀p∈ag,p.2∈ae){x:Str}(hx:x∈ae):qO [.d (ao ae ag),.d (.str x)]=.ok (.d (aj (wj ae ag x))):=by
 unfold qO Hu;rw[mz];have hr:iA [.d (aP ae),.d (aj [x])]=.ok (.d .non):=uX λy hy=>by simp at hy;subst hy;exact hx
 rw[aL (e':=[ac (.d (ao ae ag)),ac (.d (.str x))]) (by unfold i3;rw[call2 (bY (av rfl rfl (gm _ _))) (bY (o0 rfl)) hr];rfl)];rw[eI (bY (mD (bY (av rfl rfl (gm _ _))) (bY (av rfl rfl (j8 _ _))) rfl (Qy N hd hx)))];rfl
noncomputable def hb (ae:List Str) (ag:List Ar) (aC:List Str) (x:Str):Bool:=(wj ae ag x).any λy=>decide (y∈aC)
end Mr
namespace Mr
open PySem Mi
abbrev gK:=Str×Str×Str
def tri:List Str->List gK
 |a::b::c::r=>(a,b,c)::tri (b::c::r)
 |_=>[]
def dW(t:gK):D:=.tup [.str t.1,.str t.2.1,.str t.2.2]
theorem Ct(ag:List Ar)(p:Ar):((ag.map pairD).any λe=>bP e (pairD p))=decide (p∈ag):=by
 induction ag with
 |nil=>rfl
 |cons q r ih=>
  rw[cF,nk,ih];have:bP (pairD q) (pairD p)=decide (q=p):=by unfold pairD;rw[bP,d0,d0,d0,lE,lE];obtain⟨a,b⟩:=q;obtain⟨c,d⟩:=p;by_cases h1:a=c<;>by_cases h2:b=d<;>simp[h1,h2]
  rw[this];by_cases h:q=p
  ·simp[h]
  ·have h2:¬ p=q:=λz=>h z.symm;simp[h,h2]
theorem qz:∀ag:List Ar,eJ (ag.map pairD)<=1
 |[]=>by simp
 |p::r=>by
  have:=qz r;rw[cF,pK];have h:(pairD p).dep=1:=by simp[pairD]
  omega
theorem se(ag:List Ar)(p:Ar):b8 (pairD p) (dg ag)=.ok (.bl (decide (p∈ag))):=by show bu _ _=_;rw[aK (by have:=qz ag;omega),Ct]
theorem TW(ms:List Str)(x:Str):D.lst (ms.map D.str++[.str x])=aj (ms++[x]):=by unfold aj;rw[fo];rfl
def mt(ag:List Ar)(t:gK):Bool:=decide ((t.1,t.2.1)∈ag)&&decide ((t.2.2,t.2.1)∈ag)
theorem x8{bi:List Str}{z:Int}(h0:0<=z)(h1:z<bi.length):aw (aj bi) (.int z)=.ok (.str (nth bi z.toNat)):=Ah h0 h1
end Mr
namespace Mr
open PySem Mi
def bX(a:Ar)(ag:List Ar):List Ar:=ag.map λp=>if p=a then(p.2,p.1)else p
theorem pB{ag:List Ar}{a p:Ar}(ha:a∈ag):p∈bX a ag↔(p∈ag/\p≠a)\/p=(a.2,a.1):=by
 unfold bX;rw[cL];constructor
 ·rintro⟨q,hq,e⟩;by_cases z:q=a
  ·rw[bc z]at e;exact .inr (by rw[<- e,z])
  ·rw[ba z]at e;exact .inl ⟨e ▸ hq,e ▸ z⟩
 ·rintro(⟨h1,h2⟩|e)
  ·exact⟨p,h1,ba h2⟩
  ·exact⟨a,ha,by rw[bc rfl,e]⟩
def hds(ag:List Ar)(l:List Str):List Str:=(ag.filter λp=>decide (p.1∈l)).map (·.2)
theorem zZ{ag:List Ar}{l:List Str}{x:Str}:x∈hds ag l↔∃t,(t,x)∈ag/\t∈l:=by
 unfold hds;rw[cL];constructor
 ·rintro⟨⟨t,h⟩,hq,rfl⟩;obtain⟨h1,h2⟩:=cx.mp hq;exact⟨t,h1,by simpa using h2⟩
 ·rintro⟨t,h1,h2⟩;exact⟨(t,x),cx.mpr ⟨h1,by simpa using h2⟩,rfl⟩
def xl(ag:List Ar)(l:List Str):List Str:=l.filter λx=>decide (x∈hds ag l)
def dF(ae:List Str)(ag:List Ar):Nat->List Str
 |0=>ae
 |k+1=>xl ag (dF ae ag k)
def iY(ae:List Str)(ag:List Ar):Bool:=decide (0<(dF ae ag ae.length).length)
def Rk(ag:List Ar):Prop:=∃r:Str->Int,∀p∈ag,r p.1<r p.2
theorem Ul{ag:List Ar}(R:Rk ag){l:List Str}(h:l≠[]):(xl ag l).length<l.length:=by
 obtain⟨r,hr⟩:=R;obtain⟨x,hx,hm⟩:=Bw r l h;have hn:x∉hds ag l:=λz=>by
  obtain⟨t,h1,h2⟩:=zZ.mp z;have:=hr _ h1;have:=hm t h2;simp only at *;omega
 exact List.length_filter_lt_length_iff_exists.mpr ⟨x,hx,by simpa using hn⟩
theorem Kp{ae:List Str}{ag:List Ar}(R:Rk ag):∀k,(dF ae ag k).length<=ae.length-k
 |0=>bJ _
 |k+1=>by
  have ih:=Kp (ae:=ae) R k;by_cases h:dF ae ag k=[]
  ·rw[dF,h];simp[xl]
  ·have:=Ul R h;rw[dF];omega
theorem IF{ae:List Str}{ag:List Ar}(R:Rk ag):iY ae ag=false:=by have:=Kp (ae:=ae) R ae.length;unfold iY;rw[qp];omega
theorem VB{ae:List Str}{ag:List Ar}{k:Nat}{x:Str}(h:x∈dF ae ag (k+1)):x∈dF ae ag k:=(cx.mp h).1
theorem Ff{ae:List Str}{ag:List Ar}(hin:∀p∈ag,p.1∈ae/\p.2∈ae){t h:Str}(a:(t,h)∈ag):∀k,t∈dF ae ag k->h∈dF ae ag k/\h∈dF ae ag (k+1)
 |0,ht=>by
  have h0:h∈dF ae ag 0:=(hin _ a).2;exact⟨h0,cx.mpr ⟨h0,by simpa using zZ.mpr ⟨t,a,ht⟩⟩⟩
 |k+1,ht=>by
  have ih:=(Ff hin a k (VB ht)).2;exact⟨ih,cx.mpr ⟨ih,by simpa using zZ.mpr ⟨t,a,ht⟩⟩⟩
theorem uO{ae:List Str}{ag:List Ar}(hin:∀p∈ag,p.1∈ae/\p.2∈ae)(h:iY ae ag=false):Rk ag:=by
 have he:∀x,x∉dF ae ag ae.length:=λx hx=>by
  have:=tP hx;unfold iY at h;rw[qp]at h;exact h this
 refine⟨λx=>(((b0 ae.length).filter λk=>decide (x∈dF ae ag k)).length:Nat),λp hp=>?_⟩;obtain⟨t,b⟩:=p;have key:(0::((b0 ae.length).filter λk=>decide (t∈dF ae ag k)).map (· + 1)).length<=((b0 ae.length).filter λk=>decide (b∈dF ae ag k)).length:=by
  refine i4 ?_ ?_
  ·refine iO.mpr ⟨λz=>by obtain⟨y,_,e⟩:=cL.mp z;omega,?_⟩;have nd:=(yH (n:=ae.length)).filter (p:=λk=>decide (t∈dF ae ag k));refine iN.mpr (nd.imp λz e=>z (by omega))
  ·intro y hy;have hb:b∈ae:=(hin _ hp).2;have pos:=tP hb;rcases cn.mp hy with rfl|hy
   ·exact cx.mpr ⟨fb.mpr pos,ce (show b∈dF ae ag 0 from hb)⟩
   ·obtain⟨k,hk,rfl⟩:=cL.mp hy;obtain⟨k1,k2⟩:=cx.mp hk;have k2:t∈dF ae ag k:=by simpa using k2
    have k3:=(Ff hin hp k k2).2;have k1:=fb.mp k1;have:k+1≠ae.length:=λe=>he b (e ▸ k3);exact cx.mpr ⟨fb.mpr (by omega),by simpa using k3⟩
 simp only[dH,aU]at key ⊢;omega
def ek(ag:List Ar)(a m b:Str):Bool:=(decide ((a,m)∈ag)&&decide ((b,m)∈ag)) && !(decide ((a,b)∈ag)||decide ((b,a)∈ag))
theorem tL(ag:List Ar)(a m b:Str):ek ag a m b=ek ag b m a:=by unfold ek;rw[Bool.and_comm (decide ((a,m)∈ag)),Bool.or_comm (decide ((a,b)∈ag))]
theorem oX{ag:List Ar}{a m b:Str}:ek ag a m b=true↔(a,m)∈ag/\(b,m)∈ag/\¬ (a,b)∈ag/\¬ (b,a)∈ag:=by unfold ek;simp[and_assoc]
def cC(ae:List Str)(ag:List Ar):List gK:=(b0 ae.length).flatMap λk=>ae.flatMap λm=>((ae.drop (k+1)).filter λb=>ek ag (nth ae k) m b).map λb=>(nth ae k,m,b)
theorem mB{ae:List Str}{ag:List Ar}{a m b:Str}:(a,m,b)∈cC ae ag↔∃k,k<ae.length/\a=nth ae k/\m∈ae/\b∈ae.drop (k+1)/\ek ag a m b=true:=by
 unfold cC;simp only[lb,cL,cx,fb,rM];constructor
 ·rintro⟨k,hk,m',hm,b',⟨hb,hc⟩,rfl,rfl,rfl⟩;exact⟨k,hk,rfl,hm,hb,hc⟩
 ·rintro⟨k,hk,rfl,hm,hb,hc⟩;exact⟨k,hk,m,hm,b,⟨hb,hc⟩,rfl,rfl,rfl⟩
theorem mF{α β:Type}{f g:α->List β}:∀{l:List α},(∀x∈l,f x=g x)->l.flatMap f=l.flatMap g
 |[],_=>rfl
 |x::r,h=>by rw[nh,nh,h x c6,mF λy hy=>h y (er _ hy)]
theorem Bp{ae:List Str}{i j:Nat}(h:i<j)(hj:j<ae.length):nth ae j∈ae.drop (i+1):=by refine Lq.mpr ⟨j-(i+1),?_⟩;rw[Lx,show i+1+(j-(i+1))=j by omega];unfold nth;rw[fk,fF hj];rfl
theorem xg{ae:List Str}(nd:ae.Nodup){k:Nat}(hk:k<ae.length){b:Str}(hb:b∈ae.drop (k+1)):b∈ae/\nth ae k≠b:=by
 obtain⟨i,hi⟩:=Lq.mp hb;rw[Lx]at hi;have hl:k+1+i<ae.length:=by
  rcases Nat.lt_or_ge (k+1+i) ae.length with z|z
  ·exact z
  ·rw[List.getElem?_eq_none z]at hi;cases hi
 have e:b=nth ae (k+1+i):=by unfold nth;rw[fk,hi];rfl
 rw[e];exact⟨kA hl,λz=>by have:=kR nd hk hl z;omega⟩
theorem uF{ae:List Str}(nd:ae.Nodup){A B:List Ar}:cC ae A=cC ae B↔∀a∈ae,∀m∈ae,∀b∈ae,a≠b->ek A a m b=ek B a m b:=by
 constructor
 ·intro e;have key:∀i j m,i<j->j<ae.length->m∈ae->ek A (nth ae i) m (nth ae j)=ek B (nth ae i) m (nth ae j):=λi j m hij hj hm=>by
   have one:∀{A B:List Ar},cC ae A=cC ae B->ek A (nth ae i) m (nth ae j)=true->ek B (nth ae i) m (nth ae j)=true:=λe h=>by
    have:=mB.mpr ⟨i,by omega,rfl,hm,Bp hij hj,h⟩;rw[e]at this;obtain⟨_,_,_,_,_,h⟩:=mB.mp this;exact h
   cases ha:ek A (nth ae i) m (nth ae j)with
   |true=>exact(one e ha).symm
   | false=>cases hb:ek B (nth ae i) m (nth ae j)with
    |true=>exact absurd (one e.symm hb) (by rw[ha];exact dR)
    |false=>rfl
  intro a ha m hm b hb hne;obtain⟨i,hi,rfl⟩:=yr ha;obtain⟨j,hj,rfl⟩:=yr hb;rcases Nat.lt_trichotomy i j with z|z|z
  ·exact key i j m z hj hm
  ·exact absurd (by rw[z]) hne
  ·rw[tL,tL B];exact key j i m z hi hm
 ·intro h;unfold cC;refine mF λk hk=>mF λm hm=>?_;have hk:=fb.mp hk
  congr 1
  refine tV λb hb=>?_;obtain⟨h1,h2⟩:=xg nd hk hb;exact h _ (kA hk) m hm b h1 h2
theorem pA{ag:List Ar}{t h:Str}:fW (bQ ag h) (bQ ag t++[t])=true↔∀x,(x,h)∈ag↔(x,t)∈ag\/x=t:=by
 unfold fW;simp only[jA,rl,i7,eg,eD,lA];constructor
 ·rintro⟨h1,h2⟩ x;exact⟨h1 x,h2 x⟩
 ·intro z;exact⟨λx=>(z x).mp,λx=>(z x).mpr⟩
theorem BC{ae:List Str}{ag:List Ar}(nd:ae.Nodup)(hin:∀p∈ag,p.1∈ae/\p.2∈ae)(R:Rk ag){t h:Str}(ha:(t,h)∈ag) :
 fW (bQ ag h) (bQ ag t++[t])=(!iY ae (bX (t,h) ag)&&decide (cC ae (bX (t,h) ag)=cC ae ag)):=by
 obtain⟨r,hr⟩:=id R;have hth:t≠h:=λe=>by have:=hr _ ha;simp only[e]at this;omega
 have mf:∀p:Ar,p∈bX (t,h) ag↔(p∈ag/\p≠(t,h))\/p=(h,t):=λp=>pB ha;have zv:∀p∈bX (t,h) ag,p.1∈ae/\p.2∈ae:=λp hp=>by
  rcases(mf p).mp hp with z|z
  ·exact hin p z.1
  ·rw[z];exact⟨(hin _ ha).2,(hin _ ha).1⟩
 have MF:(h,t)∉ag:=λz=>by have:=hr _ z;have:=hr _ ha;simp only at *;omega
 have tn:=(hin _ ha).1;have hn:=(hin _ ha).2;have tie:∀a b,((a,b)∈bX (t,h) ag\/(b,a)∈bX (t,h) ag)↔((a,b)∈ag\/(b,a)∈ag):=λa b=>by
  rw[mf,mf];constructor
  ·rintro((⟨z,_⟩|z)|(⟨z,_⟩|z))
   ·exact .inl z
   ·cases z;exact .inr ha
   ·exact .inr z
   ·cases z;exact .inl ha
  ·rintro(z|z)
   ·by_cases e:(a,b)=(t,h)
    ·cases e;exact .inr (.inr rfl)
    ·exact .inl (.inl ⟨z,e⟩)
   ·by_cases e:(b,a)=(t,h)
    ·cases e;exact .inl (.inr rfl)
    ·exact .inr (.inl ⟨z,e⟩)
 have ut:∀A a m b,ek A a m b=true↔((a,m)∈A/\(b,m)∈A)/\¬ ((a,b)∈A\/(b,a)∈A):=λA a m b=>by
  rw[oX,not_or,and_assoc]
 apply iQ.mpr;rw[pA,jA,rF,i7,uF nd];constructor
 ·intro cov;constructor
  ·refine IF ⟨λx=>if x=h then 2*r t-1 else 2*r x,λp hp=>?_⟩;obtain⟨a,b⟩:=p;rcases(mf _).mp hp with ⟨z1,z2⟩|z
   ·have ab:=hr _ z1;simp only at ab ⊢;by_cases e1:a=h
    ·subst e1;have e2:b≠a:=λe=>by rw[e]at ab;omega
     rw[bc rfl,ba e2];have:=hr _ ha;simp only at this;omega
    ·rw[ba e1];by_cases e2:b=h
     ·subst e2;rw[bc rfl];rcases(cov a).mp z1 with y|y
      ·have:=hr _ y;simp only at this;omega
      ·subst y;exact absurd rfl z2
     ·rw[ba e2];omega
   ·cases z;show(if h=h then 2*r t-1 else 2*r h)<(if t=h then 2*r t-1 else 2*r t);rw[bc rfl,ba hth];omega
  ·intro a _ m _ b _ hab;apply iQ.mpr;rw[ut,ut,tie a b];constructor
   ·rintro⟨⟨z1,z2⟩,z3⟩;refine⟨?_,z3⟩;rcases(mf _).mp z1 with ⟨y1,_⟩|y
    ·rcases(mf _).mp z2 with ⟨y2,_⟩|y
     ·exact⟨y1,y2⟩
     ·cases y;exact absurd (.inl ((cov a).mpr (.inl y1))) z3
    ·cases y;rcases(mf _).mp z2 with ⟨y2,_⟩|y
     ·exact absurd (.inr ((cov b).mpr (.inl y2))) z3
     ·cases y;exact absurd rfl hab
   ·rintro⟨⟨z1,z2⟩,z3⟩;refine⟨⟨?_,?_⟩,z3⟩
    ·rw[mf];by_cases e:(a,m)=(t,h)
     ·cases e;rcases(cov b).mp z2 with y|y
      ·exact absurd (.inr y) z3
      ·exact absurd y.symm hab
     ·exact .inl ⟨z1,e⟩
    ·rw[mf];by_cases e:(b,m)=(t,h)
     ·cases e;rcases(cov a).mp z1 with y|y
      ·exact absurd (.inl y) z3
      ·exact absurd y hab
     ·exact .inl ⟨z2,e⟩
 ·rintro⟨acy,same⟩ x;obtain⟨r',hr'⟩:=uO zv acy;constructor
  ·intro z;by_cases e:x=t
   ·exact .inr e
   ·refine .inl ?_;by_cases q:(x,t)∈ag
    ·exact q
    ·exfalso;by_cases q2:(t,x)∈ag
     ·have z1:=hr' (x,h) ((mf _).mpr (.inl ⟨z,λy=>by cases y;exact e rfl⟩));have z2:=hr' (h,t) ((mf _).mpr (.inr rfl));have hx:x≠h:=λy=>by subst y;have:=hr _ z;simp only at this;omega
      have z3:=hr' (t,x) ((mf _).mpr (.inl ⟨q2,λy=>by cases y;exact hx rfl⟩));simp only at *;omega
     ·have c1:ek ag x h t=true:=(ut _ _ _ _).mpr ⟨⟨z,ha⟩,λy=>y.elim q q2⟩;rw[<- same x (hin _ z).1 h hn t tn e]at c1;have c2:=((ut _ _ _ _).mp c1).1.2;rcases(mf _).mp c2 with ⟨_,y⟩|y
      ·exact y rfl
      ·cases y;exact hth rfl
  ·rintro(z|rfl)
   ·by_cases q:(x,h)∈ag
    ·exact q
    ·exfalso;have hx:x≠h:=λy=>by subst y;exact MF z
     by_cases q2:(h,x)∈ag
     ·have:=hr _ z;have:=hr _ ha;have:=hr _ q2;simp only at *;omega
     ·have zt:(x,t)∈bX (t,h) ag:=(mf _).mpr (.inl ⟨z,λy=>by cases y;exact hth rfl⟩);have c1:ek (bX (t,h) ag) x t h=true:=(ut _ _ _ _).mpr ⟨⟨zt,(mf _).mpr (.inr rfl)⟩,λy=>((tie x h).mp y).elim q q2⟩;rw[same x (hin _ z).1 t tn h hn hx]at c1;exact MF ((ut _ _ _ _).mp c1).1.2
   ·exact ha
end Mr
namespace Mr
open PySem Mi
theorem AU{bi:List Str}{i:Nat}(h:i<bi.length):bi[i]? = ac (nth bi i):=by unfold nth;rw[fk,fF h];rfl
noncomputable def opn (ae:List Str) (ag:List Ar) (aC bi:List Str):Bool:=(tri bi).all λt=>if mt ag t=true then hb ae ag aC t.2.1 else !decide (t.2.1∈aC)
theorem JZ{bi:List Str}(h:1<=bi.length):aw (aj bi) (.int (-1))=.ok (.str (nth bi (bi.length-1))):=by unfold aj;show cQ (eo (bi.map D.str) (-1))=_;unfold eo f7;rw[ba (by decide),bc (by rw[aU];omega)];rw[aU,show(-1+(bi.length:Int)).toNat=bi.length-1 by omega];show cQ ((bi.map D.str)[bi.length-1]?)=_;rw[fm,AU (by omega)];rfl
end Mr
namespace Mr
open PySem Mi
theorem Ox(n:Nat):dv 1 ((n:Int)-1)=(b0 (n-2)).map λ(i:Nat)=>D.int (1+(i:Int)):=by unfold dv;rw[show((n:Int)-1-1).toNat=n-2 by omega]
theorem Sl{a b:E}{e:Mi.Env}{i j:Int}(ha:a e=.ok (.int i))(hb:b e=.ok (.int j))(h:okR i/\okR j):uI a b e=.ok (dv i j):=by unfold uI;rw[ha,aQ,hb,aQ,nP,aQ,nP,aQ,aK h]
end Mr
namespace Mr
open PySem Mi
def tie(ag:List Ar)(a b:Str):Bool:=decide ((a,b)∈ag)||decide ((b,a)∈ag)
theorem Q3{ae:List Str}{ag:List Ar}(a b:Str):qq [.d (ao ae ag),.d (.str a),.d (.str b)]=.ok (.d (.bl (tie ag a b))):=by
 unfold qq EK;rw[tH];have a1:m2 b8 (mN dTup [(mV 1),(mV 2)]) (m2 aw (mV 0) (mC (.int 1))) [ac (.d (ao ae ag)),ac (.d (.str a)),ac (.d (.str b))]=.ok (.bl (decide ((a,b)∈ag))):=(av (eS rfl rfl) (av rfl rfl (j8 _ _)) rfl).trans (se ag (a,b));have a2:m2 b8 (mN dTup [(mV 2),(mV 1)]) (m2 aw (mV 0) (mC (.int 1))) [ac (.d (ao ae ag)),ac (.d (.str a)),ac (.d (.str b))]=.ok (.bl (decide ((b,a)∈ag))):=(av (eS rfl rfl) (av rfl rfl (j8 _ _)) rfl).trans (se ag (b,a));have aa:oP (m2 b8 (mN dTup [(mV 1),(mV 2)]) (m2 aw (mV 0) (mC (.int 1)))) (m2 b8 (mN dTup [(mV 2),(mV 1)]) (m2 aw (mV 0) (mC (.int 1)))) [ac (.d (ao ae ag)),ac (.d (.str a)),ac (.d (.str b))]=.ok (.bl (tie ag a b)):=by
  unfold oP;rw[a1,aQ];show(oK (.bl _)).bind _=_;rw[mZ,aQ];unfold tie;by_cases h:(a,b)∈ag
  ·rw[ce h,bc rfl,Bool.true_or]
  ·rw[cS h,ba dR,a2,Bool.false_or]
 exact(congrArg (λr=>Rs.bind r nN) (eI (bY aa))).trans rfl
theorem Pg{ae:List Str}{ag:List Ar}{e:Mi.Env}(e0:mV 0 e=.ok (ao ae ag)):mN cI [(m2 aw (mV 0) (mC (.int 0)))] e=.ok (.int (ae.length:Int)):=(dX (av e0 rfl (gm _ _))).trans (by unfold aP;rw[FN,aU])
end Mr
namespace Mr
open PySem Mi
end Mr
namespace Mr
open PySem Mi
theorem xq{a:E}{e:Mi.Env}(h:a e=.ok (.bl true)):dE (cB a) e=.ok false:=by unfold dE;rw[bx h];rfl
end Mr
namespace Mr
open PySem Mi
theorem mq{a b:C}{e:Mi.Env}{p q:Bool}(ha:a e=.ok p)(hb:p=true->b e=.ok q):cH a b e=.ok (p&&q):=by
 unfold cH;rw[ha,aQ];cases p with
 |true=>rw[bc rfl,hb rfl];rfl
 |false=>rfl
theorem lN{a b:C}{e:Mi.Env}{p q:Bool}(ha:a e=.ok p)(hb:p=false->b e=.ok q):dU a b e=.ok (p||q):=by
 unfold dU;rw[ha,aQ];cases p with
 |true=>rfl
 |false=>rw[ba dR,hb rfl];rfl
theorem oH{a:C}{e:Mi.Env}{p:Bool}(ha:a e=.ok p):dE a e=.ok (!p):=by unfold dE;rw[ha];rfl
theorem An{a b:E}{e:Mi.Env}{p q:Bool}(ha:a e=.ok (.bl p))(hb:p=true->b e=.ok (.bl q)):sS a b e=.ok (.bl (p&&q)):=by
 unfold sS;rw[ha,aQ,mZ,aQ];cases p with
 |true=>rw[bc rfl,hb rfl];rfl
 |false=>rfl
theorem Pw{a b:E}{e:Mi.Env}{p q:Bool}(ha:a e=.ok (.bl p))(hb:p=false->b e=.ok (.bl q)):oP a b e=.ok (.bl (p||q)):=by
 unfold oP;rw[ha,aQ,mZ,aQ];cases p with
 |true=>rfl
 |false=>rw[ba dR,hb rfl];rfl
theorem HM{i:Nat}{c:C}{a:E}{e:Mi.Env}{ds:List D}{d:D}{p:Bool}(hc:c e=.ok p)(ha:p=true->a e=.ok d)(hg:getL e i=.ok ds)(hl:ds.length+(if p then[d]else[]).length<=16777216)(hs:e.set i (ac (.d (.lst ds)))=e) :
 bp c (dI i a) bz e=.ok (.nx (putL e i (ds++if p then[d]else[]))):=by
 cases p with
 |true=>rw[gF hc,mJ (ha rfl) hg (by simp at hl;omega)];rfl
 |false=>
  rw[dr hc];simp only[rE,iU,ko,putL];rw[hs];rfl
theorem U3{f:List D->Rs D}{a b c:E}{e:Mi.Env}{x y z:D}(h:a e=.ok x)(h':b e=.ok y)(h'':c e=.ok z):mN f [a,b,c] e=f [x,y,z]:=by unfold mN;rw[eX,h,aQ,eX,h',aQ,eX,h''];rfl
theorem Ak{f:D->Option Int->Option Int->Rs D}{a b:E}{e:Mi.Env}{x:D}{i:Int}(h:a e=.ok x)(h':b e=.ok (.int i)):dP f a (ac b) af e=f x (ac i) af:=by unfold dP;rw[h,aQ,show jK (ac b) e=.ok (ac i)from by rw[jK,h'];rfl];rfl
theorem AF{f:D->Option Int->Option Int->Rs D}{a b:E}{e:Mi.Env}{x:D}{i:Int}(h:a e=.ok x)(h':b e=.ok (.int i)):dP f a af (ac b) e=f x af (ac i):=by unfold dP;rw[h,aQ,show jK (ac b) e=.ok (ac i)from by rw[jK,h'];rfl];rfl
theorem m6{α:Type}{tg:Tg}{body:S}(f:α->D)(g:α->List D)(St:List D->Mi.Env->Prop):∀(xs:List α) (acc:List D) (e:Mi.Env),acc.length+(xs.flatMap g).length<=16777216->St acc e ->
 (∀x∈xs,∀acc e,acc.length+(g x).length<=16777216->St acc e->∃e1 e2,tg.put (f x) e=.ok e1/\body e1=.ok (.nx e2)/\St (acc++g x) e2) ->
 ∃e',fV tg body (xs.map f) e=.ok (.nx e')/\St (acc++xs.flatMap g) e'
 |[],acc,e,_,h,_=>⟨e,rfl,by simpa using h⟩
 |x::r,acc,e,hl,h,hs=>by
  rw[nh,dC]at hl;obtain⟨e1,e2,h1,h2,h3⟩:=hs x c6 acc e (by omega) h;obtain⟨e',h4,h5⟩:=m6 f g St r (acc++g x) e2 (by rw[dC];omega) h3 λy hy=>hs y (er _ hy);refine⟨e',?_,by rw[nh,<- ot];exact h5⟩;rw[cF,fV,h1,aQ,h2,aQ];exact h4
theorem yv{α β:Type}(p:α->Bool)(f:α->β):∀l:List α,(l.flatMap λx=>if p x then[f x]else[])=(l.filter p).map f
 |[]=>rfl
 |x::r=>by
  rw[nh,yv p f r];cases h:p x with
  |true=>rw[CD h];rfl
  |false=>rw[CG (by rw[h];exact dR)];rfl
theorem oV{α β γ : Type}(f:β->γ)(g:α->List β):∀l:List α,(l.flatMap g).map f=l.flatMap λx=>(g x).map f
 |[]=>rfl
 |x::r=>by rw[nh,fo,oV f g r,nh]
theorem oS{α β:Type}{g:α->List β}{m:Nat}:∀{l:List α},(∀x∈l,(g x).length<=m)->(l.flatMap g).length<=l.length*m
 |[],_=>by simp
 |x::r,h=>by
  have ih:=oS (l:=r) λy hy=>h y (er _ hy);have h1:=h x c6;rw[nh,dC,dH,Nat.add_mul];omega
theorem A2(p q:Ar):bP (pairD p) (pairD q)=decide (p=q):=by obtain⟨a,b⟩:=p;obtain⟨c,d⟩:=q;unfold pairD;rw[bP,d0,d0,d0,lE,lE];by_cases h:a=c<;>by_cases k:b=d<;>simp[h,k]
theorem QX(p q:Ar):bM (pairD p) (pairD q)=.ok (.bl (decide (p=q))):=by unfold bM;rw[aK (by simp[pairD]),A2]
def aE(ag:List Ar):D:=.lst (ag.map pairD)
theorem F9(ag:List Ar)(p:Ar):b8 (pairD p) (aE ag)=.ok (.bl (decide (p∈ag))):=by show bu _ _=_;rw[aK (c8 (qz ag) (by decide)),Ct]
theorem ux(ag:List Ar)(p:Ar):cz (pairD p) (aE ag)=.ok (.bl (!decide (p∈ag))):=by show bu _ _=_;rw[aK (c8 (qz ag) (by decide)),Ct]
theorem QH(x y:D)(k:Bool):aw (.lst [x,y]) (.int (if k then 1 else 0))=.ok (if k then y else x):=by
 cases k
 ·show cQ (eo [x,y] 0)=_;rw[at0];rfl
 ·show cQ (eo [x,y] 1)=_;rw[at1];rfl
theorem B3{ag:List Ar}{a:Ar}(hl:ag.length<=100):kT [.d (aE ag),.d (pairD a)]=.ok (.d (aE (bX a ag))):=by
 unfold kT K0;rw[mz];have hc:dA (.n 1) dz (m2 aw (mN b9 [(mV 1),(mN dTup [(m2 aw (mV 1) (mC (.int 1))),(m2 aw (mV 1) (mC (.int 0)))])]) (mN mS [(m2 bM (mV 1) (mV 0))])) [ac (.d (pairD a)),af] (ag.map pairD)=.ok ((ag.filter λ_=>true).map λp=>pairD (if p=a then(p.2,p.1)else p)):=
  fi pairD (λp=>pairD (if p=a then(p.2,p.1)else p)) (λ_=>true) ag λp _=>⟨[ac (.d (pairD a)),ac (.d (pairD p))],rfl,rfl,λ_=>by
   have i0:aw (pairD p) (.int 0)=.ok (.str p.1):=by unfold pairD aw;simp only[at0];rfl
   have i1:aw (pairD p) (.int 1)=.ok (.str p.2):=by unfold pairD aw;simp only[at1];rfl
   refine(av ((la rfl (eS (av rfl rfl i1) (av rfl rfl i0))).trans (aK (by simp))) ((dX (av rfl rfl (QX p a))).trans rfl) (QH _ _ (decide (p=a)))).trans ?_;by_cases h:p=a<;>simp[h,pairD]⟩
 have hm:=eL (ρ:=[ac 1,af]) (e:=[ac (.d (aE ag)),ac (.d (pairD a))]) (dM (a:=mV 0) (x:=aE ag) rfl rfl) (by rw[aU];omega) hc;rw[show([ac (W.d (aE ag)),ac (W.d (pairD a))]++bZ (2-2) af)=[ac (W.d (aE ag)),ac (W.d (pairD a))]from rfl];rw[eI (bY hm)];show Rs.ok (W.d (.lst _))=_;unfold aE bX;rw[ng.mpr (λ_ _=>rfl),fG];rfl
theorem zH{ae:List Str}{ag:List Ar}(hn:ae.length<=8)(hl:ag.length<=100):kP [.d (aP ae),.d (aE ag)]=.ok (.d (.bl (iY ae ag))):=by
 unfold kP Jy;rw[i5];have lle:∀k,(dF ae ag k).length<=8:=λk=>by
  induction k with
  |zero=>exact hn
  |succ k ih=>exact c8 (gX _ _) ih
 obtain⟨e',f1,o3,o4,he⟩:=fO (tg:=.n 3) (body:=(aD (aS 4 (bV [ac 2,af,af] (br (mV 1)) (.t [1,2]) (cB (m2 b8 (mV 1) (mV 0))) (mV 2)))
 (aS 2 (bV [ac 4,af] (br (mV 2)) (.n 1) (cB (m2 b8 (mV 1) (mV 0))) (mV 1)))))
  (λi e=>∃o3 o4:Option W,e=[ac (.d (aP ae)),ac (.d (aE ag)),ac (.d (aj (dF ae ag i))),o3,o4]) (dv 0 (ae.length:Int)) 0 (λi x e hx ⟨o3,o4,he⟩=>by
   subst he;rw[dS];have h1:dA (.t [1,2]) (cB (m2 b8 (mV 1) (mV 0))) (mV 2) [ac (.d (aj (dF ae ag i))),af,af] (ag.map pairD)=.ok ((ag.filter λp=>decide (p.1∈dF ae ag i)).map λp=>D.str p.2):=
    fi pairD (λp=>D.str p.2) (λp=>decide (p.1∈dF ae ag i)) ag λp _=>⟨[ac (.d (aj (dF ae ag i))),ac (.d (.str p.1)),ac (.d (.str p.2))],rfl,bx (av rfl rfl (pz _ _)),λ_=>rfl⟩
   have h2:dA (.n 1) (cB (m2 b8 (mV 1) (mV 0))) (mV 1) [ac (.d (aj (hds ag (dF ae ag i)))),af] ((dF ae ag i).map D.str)=.ok ((xl ag (dF ae ag i)).map D.str):=fi D.str D.str (λx=>decide (x∈hds ag (dF ae ag i))) (dF ae ag i) λy _=>⟨[ac (.d (aj (hds ag (dF ae ag i)))),ac (.d (.str y))],rfl,bx (av rfl rfl (pz _ _)),λ_=>rfl⟩
   refine⟨[ac (.d (aP ae)),ac (.d (aE ag)),ac (.d (aj (dF ae ag i))),ac (.d x),o4],[ac (.d (aP ae)),ac (.d (aE ag)),ac (.d (aj (dF ae ag (i+1)))),ac (.d x),ac (.d (aj (hds ag (dF ae ag i))))],rfl,?_,_,_,rfl⟩;have s1:aS 4 (bV [ac 2,af,af] (br (mV 1)) (.t [1,2]) (cB (m2 b8 (mV 1) (mV 0))) (mV 2)) [ac (.d (aP ae)),ac (.d (aE ag)),ac (.d (aj (dF ae ag i))),ac (.d x),o4]=.ok (.nx [ac (.d (aP ae)),ac (.d (aE ag)),ac (.d (aj (dF ae ag i))),ac (.d x),ac (.d (aj (hds ag (dF ae ag i))))]):=by rw[bv (eL (dM (x:=aE ag) rfl rfl) (by rw[aU];omega) h1)];unfold aj hds;rw[fG];rfl
   rw[aL s1];rw[bv (eL (dM (x:=aj (dF ae ag i)) rfl rfl) (by rw[aU];have:=lle i;omega) h2)];rfl) [ac (.d (aP ae)),ac (.d (aE ag)),ac (.d (aj ae)),af,af] ⟨af,af,rfl⟩
 subst he;rw[aL (e':=[ac (.d (aP ae)),ac (.d (aE ag)),ac (.d (aj ae)),af,af]) (bv ((dX (x:=aP ae) rfl).trans rfl))];have hit:fj (mN cI [(mV 0)]) [ac (.d (aP ae)),ac (.d (aE ag)),ac (.d (aj ae)),af,af]=.ok (dv 0 (ae.length:Int)):=
  gs ((dX (x:=aP ae) rfl).trans (by unfold aP;rw[FN,aU])) (mn (by omega) (by omega))
 rw[aL ((ej hit).trans f1)];rw[ja,dS];have hret:m2 iu (mN cI [(mV 2)]) (mC (.int 0)) [ac (.d (aP ae)),ac (.d (aE ag)),ac (.d (aj (dF ae ag ae.length))),o3,o4]=.ok (.bl (iY ae ag)):=by refine(av ((dX (x:=aj (dF ae ag ae.length)) rfl).trans rfl) rfl rfl).trans ?_;show Rs.ok (D.bl (decide ((0:Int)<(((dF ae ag ae.length).map D.str).length:Nat))))=_;unfold iY;rw[aU];exact congrArg (λb=>Rs.ok (D.bl b)) (oR.mpr (by omega))
 rw[eI (bY hret)];rfl
theorem JH(ae:List Str):mG 0 (ae.map D.str)=(b0 ae.length).map λk=>D.tup [.int (k:Nat),.str (nth ae k)]:=by
 have key:∀(ns:List Str) (j:Nat),mG j (ns.map D.str)=(b0 ns.length).map λk=>D.tup [.int ((j+k:Nat):Int),.str (nth ns k)]:=λns=>by
  induction ns with
  |nil=>exactλ_=>rfl
  |cons x r ih=>
   intro j;rw[cF,mG,ih,dH,CH,cF,fG]
   congr 1
   refine tR λk _=>?_;show D.tup [.int ((j+1+k:Nat):Int),_]=D.tup [.int ((j+(k+1):Nat):Int),_];rw[show j+1+k=j+(k+1)by omega];rfl
 rw[key ae 0];refine tR λk _=>?_;rw[dS]
theorem R7{ae:List Str}(hn:ae.length<=8)(ag:List Ar):(cC ae ag).length<=512:=by unfold cC;refine c8 (oS (m:=64) λk _=>?_) (by rw[tU];omega);refine c8 (oS (m:=8) λm _=>?_) (by omega);rw[aU];refine c8 (gX _ _) ?_;rw[jy];omega
end Mr
namespace Mr
open PySem Mi
structure Nt(ae:List Str)(ag:List Ar):Prop where
 nd:ae.Nodup
 le:ae.length<=8
 al:ag.length<=64
 inn:∀p∈ag,p.1∈ae/\p.2∈ae
 rk:Rk ag
def cov(ag:List Ar)(p:Ar):Bool:=fW (bQ ag p.2) (bQ ag p.1++[p.1])
theorem FM{ae:List Str}{ag:List Ar}(hl:ag.length<=64){p:Ar}(h1:p.1∈ae)(h2:p.2∈ae):pN [.d (ao ae ag),.d (.str p.1),.d (.str p.2)]=.ok (.d (.bl (cov ag p))):=by
 unfold pN HU;rw[tH];have l1:=ph (x:=p.1) hl;have l2:=ph (x:=p.2) hl;have e1:aR jq [(wD (mV 0)),(wD (mV 2))] [ac (.d (ao ae ag)),ac (.d (.str p.1)),ac (.d (.str p.2))]=.ok (.tup ((bQ ag p.2).map D.str)):=call2 rfl rfl (x9 h2 hl);have e2:aR jq [(wD (mV 0)),(wD (mV 1))] [ac (.d (ao ae ag)),ac (.d (.str p.1)),ac (.d (.str p.2))]=.ok (.tup ((bQ ag p.1).map D.str)):=call2 rfl rfl (x9 h1 hl);have t1:mN dTup [(mV 1)] [ac (.d (ao ae ag)),ac (.d (.str p.1)),ac (.d (.str p.2))]=.ok (.tup [.str p.1]):=(dX rfl).trans (aK (by simp));have e3:m2 zW (aR jq [(wD (mV 0)),(wD (mV 1))]) (mN dTup [(mV 1)]) [ac (.d (ao ae ag)),ac (.d (.str p.1)),ac (.d (.str p.2))]=.ok (.tup ((bQ ag p.1++[p.1]).map D.str)):=by refine(av e2 t1 (aK (by simp only[aU,dH,gL];omega))).trans ?_;rw[fo];rfl
 have e4:xt (.tup ((bQ ag p.2).map D.str)) (.tup ((bQ ag p.1++[p.1]).map D.str))=.ok (.bl (cov ag p)):=by show((cQ (fM ((bQ ag p.2).map D.str))).bind λxs=>(cQ (fM ((bQ ag p.1++[p.1]).map D.str))).bind λys=>bu (xs.length+1<4096/\ys.length+1<4096) (Rs.ok (D.bl (fW xs ys))))=_;rw[qv,qv,jO,aQ,jO,aQ];exact aK ⟨by omega,by rw[dC];simp;omega⟩
 rw[show([ac (W.d (ao ae ag)),ac (W.d (.str p.1)),ac (W.d (.str p.2))]++bZ (3-3) af)=[ac (W.d (ao ae ag)),ac (W.d (.str p.1)),ac (W.d (.str p.2))]from rfl];rw[eI (bY (av e1 e3 e4))];rfl
theorem QN{ae:List Str}{ag:List Ar}(N:Nt ae ag):sJ [.d (ao ae ag)]=.ok (.d (aE (ag.filter (cov ag)))):=by
 unfold sJ Fl;rw[qZ];have hc:dA (.t [1,2]) (cB (aR pN [(wD (mV 0)),(wD (mV 1)),(wD (mV 2))])) (mN dTup [(mV 1),(mV 2)]) [ac (.d (ao ae ag)),af,af] (ag.map pairD)=.ok ((ag.filter (cov ag)).map pairD):=
  fi pairD pairD (cov ag) ag λp hp=>⟨[ac (.d (ao ae ag)),ac (.d (.str p.1)),ac (.d (.str p.2))],rfl,bx (mD rfl rfl rfl (FM N.al (N.inn p hp).1 (N.inn p hp).2)),λ_=>eS rfl rfl⟩
 have hm:=eL (ρ:=[ac 0,af,af]) (e:=[ac (.d (ao ae ag))]) (dM (a:=m2 aw (mV 0) (mC (.int 1))) (x:=dg ag) (av rfl rfl (j8 ae ag)) rfl) (by rw[aU];have:=N.al;omega) hc;rw[show([ac (W.d (ao ae ag))]++bZ (1-1) af)=[ac (W.d (ao ae ag))]from rfl];rw[eI (bY hm)];rfl
theorem Jr(a:Ar)(ag:List Ar):(bX a ag).length=ag.length:=by unfold bX;rw[aU]
theorem OK(p q:gK):bP (dW p) (dW q)=decide (p=q):=by obtain⟨a,b,c⟩:=p;obtain⟨a',b',c'⟩:=q;unfold dW;rw[bP,d0,d0,d0,d0,lE,lE,lE];by_cases h:a=a'<;>by_cases k:b=b'<;>by_cases l:c=c'<;>simp[h,k,l]
theorem AB:∀xs ys:List gK,d0 (xs.map dW) (ys.map dW)=decide (xs=ys)
 |[],[]=>rfl
 |[],y::r=>by simp[d0]
 |x::r,[]=>by simp[d0]
 |x::r,y::t=>by
  rw[cF,cF,d0,OK,AB r t];by_cases h:x=y<;>by_cases k:r=t<;>simp[h,k]
theorem Br:∀xs:List gK,eJ (xs.map dW)<=1
 |[]=>by simp
 |x::r=>by
  have:=Br r;rw[cF,pK];have h1:(dW x).dep=1:=by simp[dW]
  rw[h1];omega
theorem O0(xs ys:List gK):bM (.lst (xs.map dW)) (.lst (ys.map dW))=.ok (.bl (decide (xs=ys))):=by unfold bM;rw[aK (by rw[wH];have:=Br xs;omega),bP,AB]
end Mr
namespace Mr
open PySem Mi
def cj(ae:List Str)(ag:List Ar):List Ar:=ae.flatMap λt=>(ae.filter λh=>decide ((t,h)∈ag)).map λh=>(t,h)
theorem pe{ae:List Str}{ag:List Ar}{p:Ar}:p∈cj ae ag↔p∈ag/\p.1∈ae/\p.2∈ae:=by
 obtain⟨a,b⟩:=p;unfold cj;simp only[lb,cL,cx,i7,rM];constructor
 ·rintro⟨t,ht,h,⟨h1,h2⟩,rfl,rfl⟩;exact⟨h2,ht,h1⟩
 ·rintro⟨h1,h2,h3⟩;exact⟨a,h2,b,⟨h3,h1⟩,rfl,rfl⟩
theorem Bv{ae:List Str}(hn:ae.length<=8)(ag:List Ar):(cj ae ag).length<=64:=by unfold cj;refine c8 (oS (m:=8) λt _=>?_) (by omega);rw[aU];exact c8 (gX _ _) hn
theorem HG{ae:List Str}{ag:List Ar}(hn:ae.length<=8):qW [.d (aP ae),.d (aE ag)]=.ok (.d (ao ae (cj ae ag))):=by
 unfold qW Ih;rw[i5];have ecr:(cj ae ag).map pairD=ae.flatMap λt=>ae.flatMap λh=>if decide ((t,h)∈ag)then[pairD (t,h)]else[]:=by unfold cj;rw[oV];refine mF λt _=>?_;rw[fG,yv (λh=>decide ((t,h)∈ag)) (λh=>pairD (t,h))];rfl
 have wm:((cj ae ag).map pairD).length<=64:=by rw[aU];exact Bv hn ag
 rw[ecr]at wm;obtain⟨e',f1,o3,o4,he⟩:=m6 (tg:=.n 3) (body:=(cJ (br (mV 0)) (.n 4)
 (bp (cB (m2 b8 (mN dTup [(mV 3),(mV 4)]) (mV 1)))
 (dI 2 (mN dTup [(mV 3),(mV 4)]))
 bz)))
  D.str (λt=>ae.flatMap λh=>if decide ((t,h)∈ag)then[pairD (t,h)]else[])
  (λacc e=>∃o3 o4:Option W,e=[ac (.d (aP ae)),ac (.d (aE ag)),ac (.d (.lst acc)),o3,o4]) ae [] [ac (.d (aP ae)),ac (.d (aE ag)),ac (.d (.lst [])),af,af] (by simp only[gL];omega) ⟨af,af,rfl⟩
  (λt ht acc e hl ⟨o3,o4,he⟩=>by
   subst he;obtain⟨e',g1,o4',he'⟩:=m6 (tg:=.n 4) (body:=(bp (cB (m2 b8 (mN dTup [(mV 3),(mV 4)]) (mV 1)))
 (dI 2 (mN dTup [(mV 3),(mV 4)]))
 bz))
    D.str (λh=>if decide ((t,h)∈ag)then[pairD (t,h)]else[])
    (λacc e=>∃o4:Option W,e=[ac (.d (aP ae)),ac (.d (aE ag)),ac (.d (.lst acc)),ac (.d (.str t)),o4]) ae acc [ac (.d (aP ae)),ac (.d (aE ag)),ac (.d (.lst acc)),ac (.d (.str t)),o4] hl ⟨_,rfl⟩
    (λh hh acc e hl ⟨o4,he⟩=>by
     subst he;exact⟨[ac (.d (aP ae)),ac (.d (aE ag)),ac (.d (.lst acc)),ac (.d (.str t)),ac (.d (.str h))],putL [ac (.d (aP ae)),ac (.d (aE ag)),ac (.d (.lst acc)),ac (.d (.str t)),ac (.d (.str h))] 2 (acc++if decide ((t,h)∈ag)then[pairD (t,h)]else[]),rfl,HM (bx (av (eS rfl rfl) rfl (F9 ag (t,h)))) (λ_=>eS rfl rfl) rfl hl rfl,_,rfl⟩)
   subst he';exact⟨[ac (.d (aP ae)),ac (.d (aE ag)),ac (.d (.lst acc)),ac (.d (.str t)),o4],_,rfl,(ej (dM (x:=aP ae) rfl rfl)).trans g1,_,_,rfl⟩)
 subst he;rw[aL (e':=[ac (.d (aP ae)),ac (.d (aE ag)),ac (.d (.lst [])),af,af]) (bv (j6 _))];rw[aL ((ej (dM (x:=aP ae) rfl rfl)).trans f1)];rw[eI (bY (eS ((dX (x:=aP ae) rfl).trans rfl) ((dX rfl).trans rfl)))];rw[jV,<- ecr];rfl
theorem Rk.sub{A B:List Ar}(R:Rk A)(h:∀p∈B,p∈A):Rk B:=let ⟨r,k⟩:=R;⟨r,λp hp=>k p (h p hp)⟩
def frees(ae:List Str)(ag:List Ar):List Ar:=ae.flatMap λa=>(ae.filter λb=>!decide (a=b)&&(!decide ((a,b)∈ag) && !decide ((b,a)∈ag))).map λb=>(a,b)
theorem Gg{xs:List Ar}{i:Int}(h0:0<=i)(h1:i<xs.length):∃p,p∈xs/\aw (aE xs) (.int i)=.ok (pairD p):=by
 have hk:i.toNat<xs.length:=by omega
 refine⟨xs[i.toNat],pR hk,?_⟩;show cQ (eo (xs.map pairD) i)=_;unfold eo f7;rw[bc h0,aU,bc h1];show cQ ((xs.map pairD)[i.toNat]?)=_;rw[fm,fF hk];rfl
theorem I9{xs:List Ar}{lo hi:Option Int}:∃ys:List Ar,gf (xs.map pairD) lo hi=ys.map pairD/\(∀p∈ys,p∈xs)/\ys.length<=xs.length:=by
 refine⟨gf xs lo hi,?_,λp hp=>?_,?_⟩
 ·unfold gf;simp only[aU,yK,vR]
 ·unfold gf at hp;exact tQ (CL hp)
 ·unfold gf;rw[gY,jy];omega
theorem Sg{ae:List Str}{ag:List Ar}(N:Nt ae ag)(c:Int):∃B:List Ar,r6 [.d (aP ae),.d (aE ag),.d (.int c)]=.ok (.d (aE B))/\Rk B/\(∀p∈B,p.1∈ae/\p.2∈ae):=by
 have hal:=N.al;have hle:=N.le;unfold r6 Ja;rw[tH];have hlen:mN cI [(mV 1)] [ac (.d (aP ae)),ac (.d (aE ag)),ac (.d (.int c)),af,af,af,af,af]=.ok (.int (ag.length:Int)):=(dX (x:=aE ag) rfl).trans (by unfold aE;rw[oU,aU]);have ct:dU (cB (m2 bM (m2 bL (mV 2) (mC (.int 3))) (mC (.int 0)))) (cB (m2 bM (mN cI [(mV 1)]) (mC (.int 0)))) [ac (.d (aP ae)),ac (.d (aE ag)),ac (.d (.int c)),af,af,af,af,af]=.ok (decide (c%3=0)||decide ((ag.length:Int)=0)):=lN (bx (av (av rfl rfl (aK (by decide))) rfl (k7 _ _))) λ_=>bx (av hlen rfl (k7 _ _))
 by_cases hc:(decide (c%3=0)||decide ((ag.length:Int)=0))=true
 ·rw[hc]at ct;have ecr:(frees ae ag).map pairD=ae.flatMap λa=>ae.flatMap λb=>if(!decide (a=b)&&(!decide ((a,b)∈ag) && !decide ((b,a)∈ag)))then[pairD (a,b)]else[]:=by
   unfold frees;rw[oV];refine mF λt _=>?_;rw[fG,yv (λb=>!decide (t=b)&&(!decide ((t,b)∈ag) && !decide ((b,t)∈ag))) (λb=>pairD (t,b))];rfl
  have MG:(frees ae ag).length<=64:=by unfold frees;refine c8 (oS (m:=8) λt _=>?_) (by omega);rw[aU];exact c8 (gX _ _) hle
  have wm:((frees ae ag).map pairD).length<=64:=by rw[aU];exact MG
  have fin:∀p∈frees ae ag,p.1∈ae/\p.2∈ae:=λp hp=>by
   unfold frees at hp;obtain⟨a,ha,hp⟩:=lb.mp hp;obtain⟨b,hb,rfl⟩:=cL.mp hp;exact⟨ha,(cx.mp hb).1⟩
  rw[ecr]at wm;obtain⟨e',f1,o4,o5,he⟩:=m6 (tg:=.n 4) (body:=(cJ (br (mV 0)) (.n 5)
 (bp (cH (cB (m2 d6 (mV 4) (mV 5))) (cH (cB (m2 cz (mN dTup [(mV 4),(mV 5)]) (mV 1))) (cB (m2 cz (mN dTup [(mV 5),(mV 4)]) (mV 1)))))
 (dI 3 (mN dTup [(mV 4),(mV 5)]))
 bz)))
   D.str (λa=>ae.flatMap λb=>if(!decide (a=b)&&(!decide ((a,b)∈ag) && !decide ((b,a)∈ag)))then[pairD (a,b)]else[])
   (λacc e=>∃o4 o5:Option W,e=[ac (.d (aP ae)),ac (.d (aE ag)),ac (.d (.int c)),ac (.d (.lst acc)),o4,o5,af,af]) ae [] [ac (.d (aP ae)),ac (.d (aE ag)),ac (.d (.int c)),ac (.d (.lst [])),af,af,af,af] (by simp only[gL];omega) ⟨af,af,rfl⟩
   (λa ha acc e hl ⟨o4,o5,he⟩=>by
    subst he;obtain⟨e',g1,o5',he'⟩:=m6 (tg:=.n 5) (body:=(bp (cH (cB (m2 d6 (mV 4) (mV 5))) (cH (cB (m2 cz (mN dTup [(mV 4),(mV 5)]) (mV 1))) (cB (m2 cz (mN dTup [(mV 5),(mV 4)]) (mV 1)))))
 (dI 3 (mN dTup [(mV 4),(mV 5)]))
 bz))
     D.str (λb=>if(!decide (a=b)&&(!decide ((a,b)∈ag) && !decide ((b,a)∈ag)))then[pairD (a,b)]else[])
     (λacc e=>∃o5:Option W,e=[ac (.d (aP ae)),ac (.d (aE ag)),ac (.d (.int c)),ac (.d (.lst acc)),ac (.d (.str a)),o5,af,af]) ae acc [ac (.d (aP ae)),ac (.d (aE ag)),ac (.d (.int c)),ac (.d (.lst acc)),ac (.d (.str a)),o5,af,af] hl ⟨_,rfl⟩
     (λb hb acc e hl ⟨o5,he⟩=>by
      subst he;exact⟨[ac (.d (aP ae)),ac (.d (aE ag)),ac (.d (.int c)),ac (.d (.lst acc)),ac (.d (.str a)),ac (.d (.str b)),af,af],putL [ac (.d (aP ae)),ac (.d (aE ag)),ac (.d (.int c)),ac (.d (.lst acc)),ac (.d (.str a)),ac (.d (.str b)),af,af] 3 (acc++if(!decide (a=b)&&(!decide ((a,b)∈ag) && !decide ((b,a)∈ag)))then[pairD (a,b)]else[]),rfl,
       HM (mq (bx (av rfl rfl (vN a b))) λ_=>mq (bx (av (eS rfl rfl) rfl (ux ag (a,b)))) λ_=>bx (av (eS rfl rfl) rfl (ux ag (b,a)))) (λ_=>eS rfl rfl) rfl hl rfl,_,rfl⟩)
    subst he';exact⟨[ac (.d (aP ae)),ac (.d (aE ag)),ac (.d (.int c)),ac (.d (.lst acc)),ac (.d (.str a)),o5,af,af],_,rfl,(ej (dM (x:=aP ae) rfl rfl)).trans g1,_,_,rfl⟩)
  subst he;rw[jV,<- ecr]at f1;obtain⟨good,hgood⟩ : ∃good,good=(frees ae ag).filter λp=>!iY ae (ag++[p]):=⟨_,rfl⟩;have WK:good.length<=64:=by rw[hgood];exact c8 (gX _ _) MG
  have Wr:dA (.n 2) (dE (cB (aR kP [(wD (mV 0)),(wD (m2 a9 (mV 1) (mN b9 [(mV 2)])))]))) (mV 2) [ac (.d (aP ae)),ac (.d (aE ag)),af] ((frees ae ag).map pairD)=.ok (good.map pairD):=by
   rw[hgood];exact fi pairD pairD (λp=>!iY ae (ag++[p])) (frees ae ag) λp _=>⟨[ac (.d (aP ae)),ac (.d (aE ag)),ac (.d (pairD p))],rfl,by
    have ha:m2 a9 (mV 1) (mN b9 [(mV 2)]) [ac (.d (aP ae)),ac (.d (aE ag)),ac (.d (pairD p))]=.ok (aE (ag++[p])):=by refine(av rfl (o0 rfl) (aK (by rw[aU];simp;omega))).trans ?_;unfold aE;rw[fo];rfl
    exact oH (bx (call2 rfl (bY ha) (zH hle (by rw[dC];simp;omega)))),λ_=>rfl⟩
  rw[oM (s:=bp _ _ _) (w:=.d (aE (if 0<good.length then ag++[good.getD (c/3%(good.length:Int)).toNat (dc,dc)]else ag.drop 1)))]
  ·refine⟨_,rfl,?_,?_⟩
   ·by_cases h:0<good.length
    ·rw[bc h];have z0:=gC (c/3) (b:=(good.length:Int)) (by omega);have z1:=gB (c/3) (b:=(good.length:Int)) (by omega);have hk:(c/3%(good.length:Int)).toNat<good.length:=by omega
     rw[fk,fF hk,Dr];have hm:good[(c/3%(good.length:Int)).toNat]∈(frees ae ag).filter λp=>!iY ae (ag++[p]):=by rw[<- hgood];exact pR hk
     obtain⟨h1,h2⟩:=cx.mp hm;exact uO (ae:=ae) (λp hp=>by
      rcases eg.mp hp with z|z
      ·exact N.inn p z
      ·rw[eD.mp z];exact fin _ h1) (by simpa using h2)
    ·rw[ba h];exact N.rk.sub λp hp=>tQ hp
   ·intro p hp;by_cases h:0<good.length
    ·rw[bc h]at hp;rcases eg.mp hp with z|z
     ·exact N.inn p z
     ·have z0:=gC (c/3) (b:=(good.length:Int)) (by omega);have z1:=gB (c/3) (b:=(good.length:Int)) (by omega);have hk:(c/3%(good.length:Int)).toNat<good.length:=by omega
      rw[fk,fF hk,Dr]at z;have hm:good[(c/3%(good.length:Int)).toNat]∈(frees ae ag).filter λp=>!iY ae (ag++[p]):=by rw[<- hgood];exact pR hk
      rw[eD.mp z];exact fin _ (cx.mp hm).1
    ·rw[ba h]at hp;exact N.inn p (tQ hp)
  ·rw[show([ac (W.d (aP ae)),ac (W.d (aE ag)),ac (W.d (.int c))]++bZ (8-3) af)=[ac (W.d (aP ae)),ac (W.d (aE ag)),ac (W.d (.int c)),af,af,af,af,af]from rfl];rw[gF ct];rw[aL (e':=[ac (.d (aP ae)),ac (.d (aE ag)),ac (.d (.int c)),ac (.d (.lst [])),af,af,af,af]) (bv (j6 _))];rw[aL ((ej (dM (x:=aP ae) rfl rfl)).trans f1)];rw[aL (e':=[ac (.d (aP ae)),ac (.d (aE ag)),ac (.d (.int c)),ac (.d (aE good)),o4,o5,af,af]) (bv (eL (dM (x:=.lst ((frees ae ag).map pairD)) rfl rfl) (by rw[aU];omega) Wr))];have hgl:mN cI [(mV 3)] [ac (.d (aP ae)),ac (.d (aE ag)),ac (.d (.int c)),ac (.d (aE good)),o4,o5,af,af]=.ok (.int (good.length:Int)):=(dX (x:=aE good) rfl).trans (by unfold aE;rw[oU,aU]);have cg:cB (m2 iu (mN cI [(mV 3)]) (mC (.int 0))) [ac (.d (aP ae)),ac (.d (aE ag)),ac (.d (.int c)),ac (.d (aE good)),o4,o5,af,af]=.ok (decide ((0:Int)<(good.length:Int))):=bx (av hgl rfl rfl);by_cases h:0<good.length
   ·rw[ce (by omega)]at cg;have z0:=gC (c/3) (b:=(good.length:Int)) (by omega);have z1:=gB (c/3) (b:=(good.length:Int)) (by omega);have hk:(c/3%(good.length:Int)).toNat<good.length:=by omega
    have hix:aw (aE good) (.int (c/3%(good.length:Int)))=.ok (pairD (good.getD (c/3%(good.length:Int)).toNat (dc,dc))):=by show cQ (eo (good.map pairD) _)=_;unfold eo f7;rw[bc z0,aU,bc z1];show cQ ((good.map pairD)[(c/3%(good.length:Int)).toNat]?)=_;rw[fm,fF hk,fk,fF hk];rfl
    rw[oM (w:=.d (aE (ag++[good.getD (c/3%(good.length:Int)).toNat (dc,dc)]))),bc h];refine(gF cg).trans (eI (bY ?_));refine(av (x:=aE ag) rfl (o0 (av (x:=aE good) rfl (av (av rfl rfl (aK (gt (by decide) (by decide)))) hgl (aK (by omega))) hix)) (aK (by rw[aU];simp;omega))).trans ?_;unfold aE;rw[fo];rfl
   ·rw[cS (by omega)]at cg;rw[aL ((dr cg).trans rfl),ba h];refine eI (bY ?_);rw[Ak (x:=aE ag) (i:=1) rfl rfl];show Rs.ok (D.lst (gf (ag.map pairD) (ac 1) af))=_;rw[show(1:Int)=((1:Nat):Int)from rfl,E8,<- yK];rfl
 ·rw[yX]at hc;rw[hc]at ct;rw[LN]at hc;have hc2:¬ (ag.length:Int)=0:=by simpa using hc.2
  have z0:=gC (c/3) (b:=(ag.length:Int)) (by omega);have z1:=gB (c/3) (b:=(ag.length:Int)) (by omega);obtain⟨at_,hat⟩ : ∃a:Int,a=c/3%(ag.length:Int):=⟨_,rfl⟩;rw[<- hat]at z0 z1;obtain⟨p,hp,hix⟩:=Gg (xs:=ag) z0 z1;have start:∀t:S,((aD t bz) []=(aD t bz) []):=λ_=>rfl;rw[show([ac (W.d (aP ae)),ac (W.d (aE ag)),ac (W.d (.int c))]++bZ (8-3) af)=[ac (W.d (aP ae)),ac (W.d (aE ag)),ac (W.d (.int c)),af,af,af,af,af]from rfl];rw[aL ((dr ct).trans rfl)];rw[aL (e':=[ac (W.d (aP ae)),ac (W.d (aE ag)),ac (W.d (.int c)),af,af,af,ac (.d (.int at_)),af]) (bv ((av (av rfl rfl (aK (gt (by decide) (by decide)))) hlen (aK (by omega))).trans (by rw[hat])))];rw[aL (e':=[ac (W.d (aP ae)),ac (W.d (aE ag)),ac (W.d (.int c)),af,af,af,ac (.d (.int at_)),ac (.d (aE (bX p ag)))]) (bv (call2 (x:=.d (aE ag)) rfl (bY (av (x:=aE ag) rfl rfl hix)) (B3 (by omega))))];have c2:dU (cB (m2 bM (m2 bL (mV 2) (mC (.int 3))) (mC (.int 1)))) (cB (aR kP [(wD (mV 0)),(wD (mV 7))])) [ac (W.d (aP ae)),ac (W.d (aE ag)),ac (W.d (.int c)),af,af,af,ac (.d (.int at_)),ac (.d (aE (bX p ag)))]=.ok (decide (c%3=1)||iY ae (bX p ag)):=lN (bx (av (av rfl rfl (aK (by decide))) rfl (k7 _ _))) λ_=>bx (call2 rfl rfl (zH hle (by rw[Jr];omega)))
  cases hb:(decide (c%3=1)||iY ae (bX p ag))with
  |true=>
   rw[hb]at c2;obtain⟨ys,y1,y2,y3⟩:=I9 (xs:=ag) (lo:=af) (hi:=ac at_);obtain⟨zs,w1,w2,w3⟩:=I9 (xs:=ag) (lo:=ac (at_+1)) (hi:=af);rw[oM (w:=.d (aE (ys++zs)))]
   ·refine⟨_,rfl,N.rk.sub λq hq=>?_,λq hq=>?_⟩
    ·rcases eg.mp hq with z|z
     ·exact y2 q z
     ·exact w2 q z
    ·rcases eg.mp hq with z|z
     ·exact N.inn q (y2 q z)
     ·exact N.inn q (w2 q z)
   ·refine(gF c2).trans (eI (bY ?_));refine(av ((AF (x:=aE ag) (i:=at_) rfl rfl).trans rfl) ((Ak (x:=aE ag) (i:=at_+1) rfl (av rfl rfl rfl)).trans rfl) rfl).trans ?_;show a9 (.lst (gf (ag.map pairD) af (ac at_))) (.lst (gf (ag.map pairD) (ac (at_+1)) af))=_;rw[y1,w1];show bu _ _=_;rw[aK (by rw[aU,aU];omega)];unfold aE;rw[fo]
  |false=>
   rw[hb]at c2;rw[aL ((dr c2).trans rfl)];rw[LN]at hb;have zv:∀q∈bX p ag,q.1∈ae/\q.2∈ae:=λq hq=>by
    rcases(pB hp).mp hq with z|z
    ·exact N.inn q z.1
    ·rw[z];exact⟨(N.inn _ hp).2,(N.inn _ hp).1⟩
   exact⟨bX p ag,rfl,uO zv hb.2,zv⟩
end Mr
namespace Mr
open PySem Mi
def sq(k:Bool)(ds:List D):D:=if k then .lst ds else .tup ds
theorem zP:∀xs ys:List Ar,d0 (xs.map pairD) (ys.map pairD)=decide (xs=ys)
 |[],[]=>rfl
 |[],y::r=>by simp[d0]
 |x::r,[]=>by simp[d0]
 |x::r,y::t=>by
  rw[cF,cF,d0,A2,zP r t];by_cases h:x=y<;>by_cases k:r=t<;>simp[h,k]
end Mr
namespace Mr
open PySem Mi
theorem yi:∀a b:List Int,gj a b=true->gj b a=true->False
 |[],[],h,_=>by cases h
 |[],_::_,_,h=>by cases h
 |_::_,[],h,_=>by cases h
 |a::r,b::t,h,k=>by
  rw[gj]at h k;by_cases e:a=b
  ·subst e;rw[bc (kK a)]at h k;exact yi r t h k
  ·rw[ba (by simpa using e)]at h;rw[ba (by simpa using fv e)]at k;simp at h k;omega
theorem uB{a b:Int}{r t:List Int}(h:a<b):gj (a::r) (b::t)=true:=by rw[gj,ba (by simp;omega)];simpa using h
theorem wv{a:Int}{r t:List Int}:gj (a::r) (a::t)=gj r t:=by rw[gj,bc (kK a)]
section
variable{α:Type}(key:α->List Int)
theorem Jw:∀{a b:List α},(∀x,x∈a↔x∈b)->a.Pairwise (λx y=>gj (key x) (key y)=true)->b.Pairwise (λx y=>gj (key x) (key y)=true)->a=b
 |[],[],_,_,_=>rfl
 |[],y::t,h,_,_=>absurd ((h y).mpr c6) (by simp)
 |x::r,[],h,_,_=>absurd ((h x).mp c6) (by simp)
 |x::r,y::t,h,ha,hb=>by
  have ha':=jx.mp ha;have hb':=jx.mp hb;have e:x=y:=by
   rcases cn.mp ((h x).mp c6)with z|z
   ·exact z
   ·rcases cn.mp ((h y).mpr c6)with z2|z2
    ·exact z2.symm
    ·exact(yi _ _ (hb'.1 x z) (ha'.1 y z2)).elim
  subst e;have nr:x∉r:=λz=>yi _ _ (ha'.1 x z) (ha'.1 x z);have nt:x∉t:=λz=>yi _ _ (hb'.1 x z) (hb'.1 x z);rw[Jw (a:=r) (b:=t) (λz=>⟨λhz=>?_,λhz=>?_⟩) ha'.2 hb'.2]
  ·rcases cn.mp ((h z).mp (er _ hz))with q|q
   ·exact absurd (q ▸ hz) nr
   ·exact q
  ·rcases cn.mp ((h z).mpr (er _ hz))with q|q
   ·exact absurd (q ▸ hz) nt
   ·exact q
theorem O4{kz:List (List Int)}(nd:kz.Nodup):(kH kz kz.length).Perm (b0 kz.length)/\(kH kz kz.length).Pairwise (λi j=>gj (kz.getD i []) (kz.getD j [])=true):=by
 have O:=So.AQ nd;have e:kH kz kz.length=sortI (So.nR kz) (b0 kz.length):=by
  unfold kH So.nR
  congr 1
  funext i j;exact(So.wN _ _).symm
 rw[e];refine⟨So.u9 _ _,(So.B8 O (λx hx=>by simpa using hx) yH).imp λ{i j} h=>?_⟩;rw[<- So.wN];exact h
theorem T1[Inhabited α](f:α->D){xs ys:List α}(nd:(xs.map key).Nodup)(hm:∀a,a∈xs↔a∈ys)(hs:ys.Pairwise λa b=>gj (key a) (key b)=true):sortBy (xs.map key) (xs.map f)=ys.map f:=by
 obtain⟨h1,h2⟩:=O4 nd;rw[aU]at h1 h2;have lt:∀i∈kH (xs.map key) xs.length,i<xs.length:=λi hi=>by simpa using h1.mem_iff.mp hi
 have gd:∀i,i<xs.length->∀(β:Type) (g:α->β) (d:β),(xs.map g).getD i d=g (xs.getD i default):=λi hi β g d=>by simp[hi]
 have e:sortBy (xs.map key) (xs.map f)=((kH (xs.map key) xs.length).map λi=>xs.getD i default).map f:=by unfold sortBy;rw[aU,fG];exact tR λi hi=>gd i (lt i hi) _ f _
 have e2 : ((kH (xs.map key) xs.length).map fun i => xs.getD i default) = ys:= by
  refine Jw key (λa=>?_) ?_ hs
  ·rw[<- hm a,cL];constructor
   ·rintro⟨i,hi,rfl⟩;have:=lt i hi;rw[fk,fF this];exact pR this
   ·intro ha;obtain⟨i,hi,rfl⟩:=yD ha;exact⟨i,h1.mem_iff.mpr (fb.mpr hi),by simp[hi]⟩
  ·rw[iN];refine h2.imp_of_mem λ{i j} hi hj h=>?_;rw[gd i (lt i hi) _ key,gd j (lt j hj) _ key]at h;exact h
 rw[e,e2]
end
theorem Hs:∀l:List Int,lB (l.map D.int)=ac l
 |[]=>rfl
 |i::r=>by rw[cF,lB,Hs r];rfl
theorem Fa{α:Type}{ρ:List Nat}{kf:E}{e:Mi.Env}(f:α->D)(key:α->List Int):∀{xs:List α},(∀x∈xs,kf (nL ρ e (f x))=.ok (.lst ((key x).map D.int)))->j2 ρ kf e (xs.map f)=.ok (xs.map key)
 |[],_=>rfl
 |x::r,h=>by
  rw[cF,j2,h x c6,aQ,uT,Hs,jO,aQ,Fa f key λy hy=>h y (er _ hy)];rfl
def ky(ae row:List Str):List Int:=row.map λx=>((ae.idxOf x:Nat):Int)
theorem Pr(ae:List Str):wC (aP ae)=ac ae:=qv ae
theorem EM{α:Type}[Inhabited α]{ae:List Str}{nx:D}(hq:wC nx=ac ae)(hn:ae.length<=1000)(row:α->List Str){xs ys:List α}(hr:∀x∈xs,(row x).length<=1000/\∀y∈row x,y∈ae)(h64:xs.length<64)(nd:(xs.map λx=>ky ae (row x)).Nodup)
 (hm:∀a,a∈xs↔a∈ys) (hs:ys.Pairwise λa b=>gj (ky ae (row a)) (ky ae (row b))=true) :
 mv [.d nx,.d (.lst (xs.map λx=>.tup ((row x).map D.str)))]=.ok (.d (.lst (ys.map λx=>.tup ((row x).map D.str)))):=by
 unfold mv Hm;rw[mz];rw[show([ac (W.d nx),ac (W.d (.lst (xs.map λx=>.tup ((row x).map D.str))))]++bZ (2-2) af)=[ac (W.d nx),ac (W.d (.lst (xs.map λx=>.tup ((row x).map D.str))))]from rfl];have hk:j2 [0] (bV [ac 1,af] (br (mV 0)) (.n 1) dz (m2 uZ (mV 0) (mV 1))) [ac (W.d nx),ac (W.d (.lst (xs.map λx=>.tup ((row x).map D.str))))] (xs.map λx=>.tup ((row x).map D.str))=.ok (xs.map λx=>ky ae (row x)):=
  Fa (λx=>.tup ((row x).map D.str)) (λx=>ky ae (row x)) λx hx=>by
   have hc:dA (.n 1) dz (m2 uZ (mV 0) (mV 1)) [ac (W.d nx),af] ((row x).map D.str)=.ok (((row x).filter λ_=>true).map λy=>D.int ((ae.idxOf y:Nat):Int)):=
    fi D.str (λy=>D.int ((ae.idxOf y:Nat):Int)) (λ_=>true) (row x) λy hy=>⟨[ac (W.d nx),ac (W.d (.str y))],rfl,rfl,λ_=>av (x:=nx) (y:=.str y) rfl rfl (by
     show((cQ (wC nx)).bind λys=>bu (y∈ys/\ys.length<=1000) (Rs.ok (D.int ((ys.idxOf y:Nat):Int))))=_;rw[hq,jO,aQ];exact aK ⟨(hr x hx).2 y hy,hn⟩)⟩
   have hm:=eL (ρ:=[ac 1,af]) (e:=nL [0] [ac (W.d nx),ac (W.d (.lst (xs.map λx=>.tup ((row x).map D.str))))] (.tup ((row x).map D.str))) (dM (a:=mV 0) (x:=.tup ((row x).map D.str)) rfl rfl) (by rw[aU];have:=(hr x hx).1;omega) hc;rw[hm,ng.mpr (λ_ _=>rfl)];show Rs.ok (D.lst _)=Rs.ok (D.lst ((ky ae (row x)).map D.int));unfold ky;rw[fG];rfl
 have hS:ww [0] (mV 1) (bV [ac 1,af] (br (mV 0)) (.n 1) dz (m2 uZ (mV 0) (mV 1))) [ac (W.d nx),ac (W.d (.lst (xs.map λx=>.tup ((row x).map D.str))))]=.ok (.lst (ys.map λx=>.tup ((row x).map D.str))):=by unfold ww;rw[show mV 1 [ac (W.d nx),ac (W.d (.lst (xs.map λx=>.tup ((row x).map D.str))))]=.ok (.lst (xs.map λx=>.tup ((row x).map D.str)))from rfl,aQ];rw[show FG (.lst (xs.map λx=>.tup ((row x).map D.str)))=.ok (xs.map λx=>.tup ((row x).map D.str))from rfl,aQ,aK (by rw[aU];exact h64),hk,aQ,aK nd,T1 (λx=>ky ae (row x)) _ nd hm hs]
 rw[eI (bY hS)];rfl
theorem Oe{α:Type}[Inhabited α]{ae:List Str}(hn:ae.length<=1000)(row:α->List Str){xs ys:List α}(hr:∀x∈xs,(row x).length<=1000/\∀y∈row x,y∈ae)(h64:xs.length<64)(nd:(xs.map λx=>ky ae (row x)).Nodup)
 (hm:∀a,a∈xs↔a∈ys) (hs:ys.Pairwise λa b=>gj (ky ae (row a)) (ky ae (row b))=true) :
 mv [.d (aP ae),.d (.lst (xs.map λx=>.tup ((row x).map D.str)))]=.ok (.d (.lst (ys.map λx=>.tup ((row x).map D.str)))):=EM (Pr ae) hn row hr h64 nd hm hs
end Mr
namespace Mr
open PySem Mi
def prs(ae:List Str):List Ar:=(b0 ae.length).flatMap λk=>(ae.drop (k+1)).map λb=>(nth ae k,b)
def kU(ae:List Str)(ag:List Ar)(p:Ar):List Str:=ae.filter λm=>decide ((p.1,m)∈ag)&&decide ((p.2,m)∈ag)
def kF(ae:List Str)(ag:List Ar):List gK:=(prs ae).flatMap λp=>if(!tie ag p.1 p.2)=true then(kU ae ag p).map λm=>(p.1,m,p.2)else[]
theorem k5{ae:List Str}{a b:Str}:(a,b)∈prs ae↔∃k,k<ae.length/\a=nth ae k/\b∈ae.drop (k+1):=by
 unfold prs;simp only[lb,cL,fb,rM];constructor
 ·rintro⟨k,hk,b',hb,rfl,rfl⟩;exact⟨k,hk,rfl,hb⟩
 ·rintro⟨k,hk,rfl,hb⟩;exact⟨k,hk,b,hb,rfl,rfl⟩
theorem Ip{ae:List Str}{ag:List Ar}(t:gK):t∈kF ae ag↔t∈cC ae ag:=by
 obtain⟨a,m,b⟩:=t;rw[mB];unfold kF kU tie ek;simp only[lb];constructor
 ·rintro⟨⟨a',b'⟩,hp,h⟩;split at h
  ·rename_i ht;obtain⟨m',hm,e⟩:=cL.mp h;cases e;obtain⟨hm1,hm2⟩:=cx.mp hm;obtain⟨k,hk,e,hb⟩:=k5.mp hp;exact⟨k,hk,e,hm1,hb,by rw[hm2,ht];rfl⟩
  ·cases h
 ·rintro⟨k,hk,e,hm,hb,hc⟩;have hc':=Bool.and_eq_true_iff.mp hc;refine⟨(a,b),k5.mpr ⟨k,hk,e,hb⟩,?_⟩;rw[bc hc'.2];exact cL.mpr ⟨m,cx.mpr ⟨hm,hc'.1⟩,rfl⟩
theorem ql{ae:List Str}(nd:ae.Nodup){i:Nat}(hi:i<ae.length):ae.idxOf (nth ae i)=i:=by
 have e:nth ae i=ae[i]:=by unfold nth;rw[fk,fF hi];rfl
 rw[e];exact nd.idxOf_getElem i hi
theorem fh{ae:List Str}{x y:Str}(hx:x∈ae)(hy:y∈ae)(h:ae.idxOf x=ae.idxOf y):x=y:=by
 have h1:=CN (yA.mpr hx);have h2:=CN (yA.mpr hy);rw[<- h1,<- h2]
 congr 1
theorem J0{ae:List Str}(nd:ae.Nodup):ae.Pairwise λx y=>ae.idxOf x<ae.idxOf y:=by rw[CA];intro i j hi hj h;rw[nd.idxOf_getElem i hi,nd.idxOf_getElem j hj];exact h
theorem BJ{ae:List Str}(nd:ae.Nodup){k:Nat}{b:Str}(hb:b∈ae.drop (k+1)):k<ae.idxOf b/\b∈ae:=by obtain⟨i,hi,rfl⟩:=yD hb;rw[List.getElem_drop];rw[jy]at hi;rw[nd.idxOf_getElem (k+1+i) (by omega)];exact⟨by omega,pR _⟩
def tr(t:gK):List Str:=[t.1,t.2.1,t.2.2]
theorem Ql{ae:List Str}(nd:ae.Nodup)(ag:List Ar):(cC ae ag).Pairwise λx y=>gj (ky ae (tr x)) (ky ae (tr y))=true:=by
 unfold cC;rw[rh];refine⟨λk hk=>?_,pO.imp_of_mem λ{k1 k2} h1 h2 h x hx y hy=>?_⟩
 ·rw[rh];refine⟨λm hm=>?_,(J0 nd).imp λ{m1 m2} h x hx y hy=>?_⟩
  ·rw[iN];refine((J0 nd).sublist (List.Sublist.trans Lr (Ly _ _))).imp λ{b1 b2} h=>?_;show gj [_,_,_] [_,_,_]=true;rw[wv,wv];exact uB (zb.mpr h)
  ·obtain⟨b1,_,rfl⟩:=cL.mp hx;obtain⟨b2,_,rfl⟩:=cL.mp hy;show gj [_,_,_] [_,_,_]=true;rw[wv];exact uB (zb.mpr h)
 ·obtain⟨m1,_,hx⟩:=lb.mp hx;obtain⟨m2,_,hy⟩:=lb.mp hy;obtain⟨b1,_,rfl⟩:=cL.mp hx;obtain⟨b2,_,rfl⟩:=cL.mp hy;have e1:=ql nd (fb.mp h1);have e2:=ql nd (fb.mp h2);exact uB (by show((ae.idxOf (nth ae k1):Nat):Int)<((ae.idxOf (nth ae k2):Nat):Int);rw[e1,e2];omega)
theorem G9{ae:List Str}(nd:ae.Nodup):(prs ae).Nodup:=by
 unfold prs;show vS _ _;rw[rh];refine⟨λk hk=>?_,pO.imp_of_mem λ{k1 k2} h1 h2 h x hx y hy=>?_⟩
 ·rw[iN];exact(nd.sublist (Ly _ _)).imp λ{b1 b2} h z=>h (by cases z;rfl)
 ·obtain⟨b1,_,rfl⟩:=cL.mp hx;obtain⟨b2,_,rfl⟩:=cL.mp hy;intro z;have:=kR nd (fb.mp h1) (fb.mp h2) (congrArg me z);omega
theorem Gp{ae:List Str}(nd:ae.Nodup)(ag:List Ar):(kF ae ag).Nodup:=by
 unfold kF;show vS _ _;rw[rh];have inn:∀{p:Ar} {x:gK},x∈(if(!tie ag p.1 p.2)=true then(kU ae ag p).map λm=>(p.1,m,p.2)else[])->x.1=p.1/\x.2.2=p.2:=λ{p x} h=>by
  split at h
  ·obtain⟨m,_,rfl⟩:=cL.mp h;exact⟨rfl,rfl⟩
  ·cases h
 refine⟨λp hp=>?_,(G9 nd).imp λ{p q} h x hx y hy z=>?_⟩
 ·split
  ·rw[iN];exact(nd.sublist Lr).imp λ{b1 b2} h z=>h (by cases z;rfl)
  ·exact .nil
 ·subst z;obtain⟨a1,a2⟩:=inn hx;obtain⟨b1,b2⟩:=inn hy;exact h (lq (a1.symm.trans b1) (a2.symm.trans b2))
theorem zT{α:Type}[DecidableEq α]:∀{l L:List α},l.Nodup->(∀x∈l,x∈L)->l.length<=L.length
 |[],_,_,_=>gZ _
 |x::r,L,nd,h=>by
  have nd':=iO.mp nd;have hx:=h x c6;have:=zT (l:=r) (L:=L.erase x) nd'.2 λy hy=>(CK (λz:y=x=>nd'.1 (z ▸ hy))).mpr (h y (er _ hy));rw[yz hx]at this;have:=tP hx;rw[dH];omega
def sD(ae:List Str)(t:gK):Nat:=
 if ae.idxOf t.2.1<ae.idxOf t.1 then ae.idxOf t.2.1*64+ae.idxOf t.1*8+ae.idxOf t.2.2
 else if ae.idxOf t.2.1<ae.idxOf t.2.2 then ae.idxOf t.1*64+ae.idxOf t.2.1*8+ae.idxOf t.2.2
 else ae.idxOf t.1*64+ae.idxOf t.2.2*8+ae.idxOf t.2.1
structure CF(ae:List Str)(ag:List Ar)(t:gK):Prop where
 m1:t.1∈ae
 m2:t.2.1∈ae
 m3:t.2.2∈ae
 l1:ae.idxOf t.1<8
 l2:ae.idxOf t.2.1<8
 l3:ae.idxOf t.2.2<8
 up:ae.idxOf t.1<ae.idxOf t.2.2
 n1:ae.idxOf t.2.1≠ae.idxOf t.1
 n2:ae.idxOf t.2.1≠ae.idxOf t.2.2
 a1:(t.1,t.2.1)∈ag
 a2:(t.2.2,t.2.1)∈ag
 z1:(t.1,t.2.2)∉ag
 z2:(t.2.2,t.1)∉ag
theorem sU{ae:List Str}{ag:List Ar}(N:Nt ae ag){t:gK}(h:t∈kF ae ag):CF ae ag t:=by
 obtain⟨a,m,b⟩:=t;obtain⟨k,hk,e,hm,hb,hc⟩:=mB.mp ((Ip _).mp h);obtain⟨c1,c2,c3,c4⟩:=oX.mp hc;obtain⟨d1,d2⟩:=BJ N.nd hb;have ha:a∈ae:=by rw[e];exact kA hk
 have ei:ae.idxOf a=k:=by rw[e];exact ql N.nd hk
 have hn:=N.le;obtain⟨r,hr⟩:=N.rk;have i1:=yA.mpr hm;have i2:=yA.mpr d2;refine⟨ha,hm,d2,?_,?_,?_,?_,λz=>?_,λz=>?_,c1,c2,c3,c4⟩
 ·show ae.idxOf a<8;omega
 ·show ae.idxOf m<8;omega
 ·show ae.idxOf b<8;omega
 ·show ae.idxOf a<ae.idxOf b;omega
 ·have:=fh hm ha z;have:=hr _ c1;simp only at *;subst m;omega
 ·have:=fh hm d2 z;have:=hr _ c2;simp only at *;subst m;omega
theorem Tu{ae:List Str}{ag:List Ar}{t u:gK}(T:CF ae ag t)(U:CF ae ag u)(h:sD ae t=sD ae u):t=u:=by
 obtain⟨a,m,b⟩:=t;obtain⟨a',m',b'⟩:=u;obtain⟨m1,m2,m3,l1,l2,l3,up,n1,n2,a1,a2,z1,z2⟩:=T;obtain⟨m1',m2',m3',l1',l2',l3',up',n1',n2',a1',a2',z1',z2'⟩:=U;unfold sD at h;simp only at *;split at h
 ·split at h
  ·obtain rfl:=fh m1 m1' (by omega);obtain rfl:=fh m2 m2' (by omega);obtain rfl:=fh m3 m3' (by omega);rfl
  ·split at h
   ·obtain rfl:=fh m2 m1' (by omega);obtain rfl:=fh m3 m3' (by omega);exact absurd a2 z2'
   ·obtain rfl:=fh m2 m1' (by omega);obtain rfl:=fh m1 m3' (by omega);exact absurd a1 z2'
 ·split at h
  ·split at h
   ·obtain rfl:=fh m1 m2' (by omega);obtain rfl:=fh m3 m3' (by omega);exact absurd a2' z2
   ·split at h
    ·obtain rfl:=fh m1 m1' (by omega);obtain rfl:=fh m2 m2' (by omega);obtain rfl:=fh m3 m3' (by omega);rfl
    ·obtain rfl:=fh m1 m1' (by omega);obtain rfl:=fh m2 m3' (by omega);exact absurd a1 z1'
  ·split at h
   ·obtain rfl:=fh m1 m2' (by omega);obtain rfl:=fh m3 m1' (by omega);exact absurd a1' z2
   ·split at h
    ·obtain rfl:=fh m1 m1' (by omega);obtain rfl:=fh m3 m2' (by omega);exact absurd a1' z1
    ·obtain rfl:=fh m1 m1' (by omega);obtain rfl:=fh m2 m2' (by omega);obtain rfl:=fh m3 m3' (by omega);rfl
def yo:List Nat:=(b0 512).filter λn=>decide (n/64<n/8%8)&&decide (n/8%8<n%8)
theorem NO:yo.length=56:=by decide +kernel
theorem Sk{ae:List Str}{ag:List Ar}{t:gK}(T:CF ae ag t):sD ae t∈yo:=by
 obtain⟨m1,m2,m3,l1,l2,l3,up,n1,n2,a1,a2,z1,z2⟩:=T;have key:∀x y z:Nat,x<y->y<z->z<8->x*64+y*8+z∈yo:=λx y z h1 h2 h3=>by
  refine cx.mpr ⟨fb.mpr (by omega),?_⟩;have e1:(x*64+y*8+z)/64=x:=by omega
  have e2:(x*64+y*8+z)/8%8=y:=by omega
  have e3:(x*64+y*8+z)%8=z:=by omega
  rw[e1,e2,e3];simp[h1,h2]
 unfold sD;split
 ·exact key _ _ _ (by omega) (by omega) (by omega)
 ·split
  ·exact key _ _ _ (by omega) (by omega) (by omega)
  ·exact key _ _ _ (by omega) (by omega) (by omega)
theorem IC{ae:List Str}{ag:List Ar}(N:Nt ae ag):(kF ae ag).length<=56:=by
 have h:((kF ae ag).map (sD ae)).Nodup:=by show vS _ _;rw[iN];exact ua (λ{x y} hx hy h z=>h (Tu (sU N hx) (sU N hy) z)) (Gp N.nd ag)
 have:=zT h (L:=yo) λx hx=>by
  obtain⟨t,ht,rfl⟩:=cL.mp hx;exact Sk (sU N ht)
 rw[aU,NO]at this;exact this
theorem O8{ae:List Str}{ag:List Ar}(N:Nt ae ag):((kF ae ag).map λt=>ky ae (tr t)).Nodup:=by show vS _ _;rw[iN];refine ua (λ{x y} hx hy h z=>h ?_) (Gp N.nd ag);have X:=sU N hx;have Y:=sU N hy;obtain⟨a,m,b⟩:=x;obtain⟨a',m',b'⟩:=y;simp only[ky,tr,cF,jz,rL,and_true]at z;obtain⟨z1,z2,z3⟩:=z;obtain rfl:=fh X.m1 Y.m1 (by show ae.idxOf a=ae.idxOf a';omega);obtain rfl:=fh X.m2 Y.m2 (by show ae.idxOf m=ae.idxOf m';omega);obtain rfl:=fh X.m3 Y.m3 (by show ae.idxOf b=ae.idxOf b';omega);rfl
theorem Qw{ae:List Str}{ag:List Ar}(N:Nt ae ag):mv [.d (aP ae),.d (.lst ((kF ae ag).map dW))]=.ok (.d (.lst ((cC ae ag).map dW))):=
 Oe (by have:=N.le;omega) tr (λt ht=>⟨by show 3<=1000;omega,λy hy=>by
  have T:=sU N ht;simp only[tr,cn,rm,or_false]at hy;rcases hy with rfl|rfl|rfl
  ·exact T.m1
  ·exact T.m2
  ·exact T.m3⟩) (by have:=IC N;omega) (O8 N) (λt=>Ip t) (Ql N.nd ag)
end Mr
namespace Mr
open PySem Mi
theorem wK{i:Nat}{a:E}{e:Mi.Env}{ds xs:List D}(ha:a e=.ok (.lst xs))(hg:getL e i=.ok ds)(hl:ds.length+xs.length<=16777216):lF i a e=.ok (.nx (putL e i (ds++xs))):=by unfold lF;rw[ha,aQ,hg,aQ];exact aK hl
theorem uw{a b:E}{e:Mi.Env}{x y:D}(h:a e=.ok x)(h':b e=.ok y):mN b9 [a,b] e=.ok (.lst [x,y]):=by unfold mN;rw[eX,h,aQ,eX,h',aQ];rfl
theorem oo{a:E}{e:Mi.Env}{x:D}(h:a e=.ok x):i3 a e=.ok (.nx e):=by unfold i3;rw[h];rfl
theorem Gs{ae:List Str}{ag:List Ar}{a b:Str}(ha:a∈ae)(hb:b∈ae):mY [.d (ao ae ag),.d (.str a),.d (.str b)]=.ok (.d (.bl (tie ag a b))):=by
 unfold mY KJ;rw[tH];rw[show([ac (W.d (ao ae ag)),ac (W.d (.str a)),ac (W.d (.str b))]++bZ (3-3) af)=[ac (W.d (ao ae ag)),ac (W.d (.str a)),ac (W.d (.str b))]from rfl];have hr:iA [.d (aP ae),.d (aj [a,b])]=.ok (.d .non):=uX λx hx=>by
  rcases cn.mp hx with rfl|hx
  ·exact ha
  ·rw[eD.mp hx];exact hb
 rw[aL (oo (call2 (bY (av rfl rfl (gm _ _))) (bY (uw rfl rfl)) hr))];have aa:oP (m2 b8 (mN dTup [(mV 1),(mV 2)]) (m2 aw (mV 0) (mC (.int 1)))) (m2 b8 (mN dTup [(mV 2),(mV 1)]) (m2 aw (mV 0) (mC (.int 1)))) [ac (.d (ao ae ag)),ac (.d (.str a)),ac (.d (.str b))]=.ok (.bl (tie ag a b)):=
  Pw (av (eS rfl rfl) (av rfl rfl (j8 ae ag)) (se ag (a,b))) λ_=>av (eS rfl rfl) (av rfl rfl (j8 ae ag)) (se ag (b,a))
 rw[eI (bY aa)];rfl
theorem Cr{ae:List Str}(hn:ae.length<=8):(prs ae).length<=64:=by unfold prs;refine c8 (oS (m:=8) λk _=>?_) (by rw[tU];omega);rw[aU,jy];omega
theorem IT{ae:List Str}{a b:E}{e:Mi.Env}{k:Nat}(hk:k<ae.length)(hn:ae.length<=8)(ha:a e=.ok (aP ae))(hb:b e=.ok (.int (k:Nat))):br (dP qT a (ac (m2 a9 b (mC (.int 1)))) af) e=.ok ((ae.drop (k+1)).map D.str):=by
 have sl:dP qT a (ac (m2 a9 b (mC (.int 1)))) af e=.ok (.tup ((ae.map D.str).drop (k+1))):=by rw[Ak ha (av (a:=b) (b:=mC (.int 1)) (x:=.int (k:Nat)) (y:=.int 1) hb rfl rfl)];show bu _ _=_;rw[aK (by rw[aU];omega),show((k:Nat):Int)+1=((k+1:Nat):Int)by omega,jf]
 rw[dM sl rfl,yK]
theorem EL{ae:List Str}(hn:ae.length<=8):nH [.d (aP ae)]=.ok (.d (aE (prs ae))):=by
 unfold nH IB;rw[qZ];have epr:(prs ae).map pairD=(b0 ae.length).flatMap λk=>(ae.drop (k+1)).map λb=>pairD (nth ae k,b):=by unfold prs;rw[oV];refine mF λk _=>?_;rw[fG];rfl
 have Ws:((prs ae).map pairD).length<=64:=by rw[aU];exact Cr hn
 rw[epr]at Ws;obtain⟨e',f1,o2,o3,he⟩:=m6 (tg:=.t [2,3]) (body:=(lF 1 (bV [ac 3,af] (br (dP qT (mV 0) (ac (m2 a9 (mV 2) (mC (.int 1)))) af)) (.n 1) dz (mN dTup [(mV 0),(mV 1)]))))
  (λk:Nat=>D.tup [.int (k:Nat),.str (nth ae k)]) (λk=>(ae.drop (k+1)).map λb=>pairD (nth ae k,b))
  (λacc e=>∃o2 o3:Option W,e=[ac (.d (aP ae)),ac (.d (.lst acc)),o2,o3]) (b0 ae.length) [] [ac (.d (aP ae)),ac (.d (.lst [])),af,af] (by simp only[gL];omega) ⟨af,af,rfl⟩
  (λk hk acc e hl ⟨o2,o3,he⟩=>by
   subst he;have hk:=fb.mp hk;refine⟨[ac (.d (aP ae)),ac (.d (.lst acc)),ac (.d (.int (k:Nat))),ac (.d (.str (nth ae k)))],putL [ac (.d (aP ae)),ac (.d (.lst acc)),ac (.d (.int (k:Nat))),ac (.d (.str (nth ae k)))] 1 (acc++(ae.drop (k+1)).map λb=>pairD (nth ae k,b)),rfl,?_,_,_,rfl⟩;have hc:dA (.n 1) dz (mN dTup [(mV 0),(mV 1)]) [ac (.d (.str (nth ae k))),af] ((ae.drop (k+1)).map D.str)=.ok (((ae.drop (k+1)).filter λ_=>true).map λb=>pairD (nth ae k,b)):=
    fi D.str (λb=>pairD (nth ae k,b)) (λ_=>true) _ λb _=>⟨[ac (.d (.str (nth ae k))),ac (.d (.str b))],rfl,rfl,λ_=>eS rfl rfl⟩
   rw[ng.mpr (λ_ _=>rfl)]at hc;exact wK (eL (ρ:=[ac 3,af]) (IT hk hn rfl rfl) (by rw[aU,jy];omega) hc) rfl hl)
 subst he;rw[show([ac (W.d (aP ae))]++bZ (4-1) af)=[ac (W.d (aP ae)),af,af,af]from rfl];rw[aL (e':=[ac (.d (aP ae)),ac (.d (.lst [])),af,af]) (bv (j6 _))];have hit:sF (mV 0) [ac (.d (aP ae)),ac (.d (.lst [])),af,af]=.ok ((b0 ae.length).map λk=>D.tup [.int (k:Nat),.str (nth ae k)]):=by rw[<- JH];rfl
 rw[aL ((ej hit).trans f1)];unfold aE;rw[epr];rfl
theorem om{ae:List Str}{p:Ar}(h:p∈prs ae):p.1∈ae/\p.2∈ae:=by obtain⟨k,hk,e,hb⟩:=k5.mp (show(p.1,p.2)∈prs ae from h);exact⟨by rw[e];exact kA hk,tQ hb⟩
def cP(ae:List Str)(ag:List Ar):List Ar:=(prs ae).filter λp=>tie ag p.1 p.2
theorem yp{ae:List Str}{ag:List Ar}(hn:ae.length<=8):lO [.d (ao ae ag)]=.ok (.d (aE (cP ae ag))):=by
 unfold lO F8;rw[qZ];rw[show([ac (W.d (ao ae ag))]++bZ (1-1) af)=[ac (W.d (ao ae ag))]from rfl];have hc:dA (.t [1,2]) (cB (aR mY [(wD (mV 0)),(wD (mV 1)),(wD (mV 2))])) (mN dTup [(mV 1),(mV 2)]) [ac (.d (ao ae ag)),af,af] ((prs ae).map pairD)=.ok ((cP ae ag).map pairD):=
  fi pairD pairD (λp=>tie ag p.1 p.2) (prs ae) λp hp=>⟨[ac (.d (ao ae ag)),ac (.d (.str p.1)),ac (.d (.str p.2))],rfl,bx (mD rfl rfl rfl (Gs (om hp).1 (om hp).2)),λ_=>eS rfl rfl⟩
 have hm:=eL (ρ:=[ac 0,af,af]) (e:=[ac (.d (ao ae ag))]) (dM (a:=aR nH [(wD (m2 aw (mV 0) (mC (.int 0))))]) (x:=aE (prs ae)) (gG (bY (av rfl rfl (gm ae ag))) (EL hn)) rfl) (by rw[aU];have:=Cr hn;omega) hc;rw[eI (bY hm)];rfl
theorem PL{ae:List Str}{ag:List Ar}:(kF ae ag).map dW=(prs ae).flatMap λp=>if(!tie ag p.1 p.2)=true then(kU ae ag p).map λm=>dW (p.1,m,p.2)else[]:=by
 unfold kF;rw[oV];refine mF λp _=>?_;split
 ·rw[fG];rfl
 ·rfl
theorem wT{ae:List Str}{ag:List Ar}(N:Nt ae ag):lP [.d (ao ae ag)]=.ok (.d (.lst ((cC ae ag).map dW))):=by
 have hn:=N.le;have wm:((kF ae ag).map dW).length<=56:=by rw[aU];exact IC N
 have cj:=Qw N;rw[PL]at wm cj;unfold lP Kv;rw[qZ];obtain⟨e',f1,o4,o5,o6,he⟩:=m6 (tg:=.t [4,5]) (body:=(bp (dE (cB (aR mY [(wD (mV 0)),(wD (mV 4)),(wD (mV 5))])))
 (aD (aS 6 (bV [ac 2,ac 4,ac 5,af] (br (mV 1)) (.n 3) (cH (cB (m2 b8 (mN dTup [(mV 1),(mV 3)]) (mV 0))) (cB (m2 b8 (mN dTup [(mV 2),(mV 3)]) (mV 0)))) (mV 3)))
 (lF 3 (bV [ac 4,ac 5,af] (br (mV 6)) (.n 2) dz (mN dTup [(mV 0),(mV 2),(mV 1)]))))
 bz))
  pairD (λp=>if(!tie ag p.1 p.2)=true then(kU ae ag p).map λm=>dW (p.1,m,p.2)else[])
  (λacc e=>∃o4 o5 o6:Option W,e=[ac (.d (ao ae ag)),ac (.d (aP ae)),ac (.d (dg ag)),ac (.d (.lst acc)),o4,o5,o6]) (prs ae) [] [ac (.d (ao ae ag)),ac (.d (aP ae)),ac (.d (dg ag)),ac (.d (.lst [])),af,af,af] (by simp only[gL];omega) ⟨af,af,af,rfl⟩
  (λp hp acc e hl ⟨o4,o5,o6,he⟩=>by
   subst he;have hc:=oH (bx (mD (f:=mY) (a:=wD (mV 0)) (b:=wD (mV 4)) (c:=wD (mV 5)) (e:=[ac (.d (ao ae ag)),ac (.d (aP ae)),ac (.d (dg ag)),ac (.d (.lst acc)),ac (.d (.str p.1)),ac (.d (.str p.2)),o6]) rfl rfl rfl (Gs (ag:=ag) (om hp).1 (om hp).2)));cases ht:(!tie ag p.1 p.2)with
   |false=>
    rw[ht]at hc;rw[ba dR,ko];exact⟨[ac (.d (ao ae ag)),ac (.d (aP ae)),ac (.d (dg ag)),ac (.d (.lst acc)),ac (.d (.str p.1)),ac (.d (.str p.2)),o6],_,rfl,(dr hc).trans rfl,_,_,_,rfl⟩
   |true=>
    rw[ht]at hc;rw[ht,bc rfl]at hl;rw[bc rfl];have hmc:dA (.n 3) (cH (cB (m2 b8 (mN dTup [(mV 1),(mV 3)]) (mV 0))) (cB (m2 b8 (mN dTup [(mV 2),(mV 3)]) (mV 0)))) (mV 3) [ac (.d (dg ag)),ac (.d (.str p.1)),ac (.d (.str p.2)),af] (ae.map D.str)=.ok ((kU ae ag p).map D.str):=
     fi D.str D.str (λm=>decide ((p.1,m)∈ag)&&decide ((p.2,m)∈ag)) ae λm _=>⟨[ac (.d (dg ag)),ac (.d (.str p.1)),ac (.d (.str p.2)),ac (.d (.str m))],rfl,mq (bx (av (eS rfl rfl) rfl (se ag (p.1,m)))) λ_=>bx (av (eS rfl rfl) rfl (se ag (p.2,m))),λ_=>rfl⟩
    have s1:=bv (i:=6) (eL (ρ:=[ac 2,ac 4,ac 5,af]) (e:=[ac (.d (ao ae ag)),ac (.d (aP ae)),ac (.d (dg ag)),ac (.d (.lst acc)),ac (.d (.str p.1)),ac (.d (.str p.2)),o6]) (dM (a:=mV 1) (x:=aP ae) rfl rfl) (by rw[aU];omega) hmc);have MH:dA (.n 2) dz (mN dTup [(mV 0),(mV 2),(mV 1)]) [ac (.d (.str p.1)),ac (.d (.str p.2)),af] ((kU ae ag p).map D.str)=.ok (((kU ae ag p).filter λ_=>true).map λm=>dW (p.1,m,p.2)):=
     fi D.str (λm=>dW (p.1,m,p.2)) (λ_=>true) _ λm _=>⟨[ac (.d (.str p.1)),ac (.d (.str p.2)),ac (.d (.str m))],rfl,rfl,λ_=>(U3 rfl rfl rfl).trans (aK (by simp))⟩
    rw[ng.mpr (λ_ _=>rfl)]at MH;have hml:(kU ae ag p).length<=8:=c8 (gX _ _) hn;refine⟨[ac (.d (ao ae ag)),ac (.d (aP ae)),ac (.d (dg ag)),ac (.d (.lst acc)),ac (.d (.str p.1)),ac (.d (.str p.2)),o6],putL [ac (.d (ao ae ag)),ac (.d (aP ae)),ac (.d (dg ag)),ac (.d (.lst acc)),ac (.d (.str p.1)),ac (.d (.str p.2)),ac (.d (.lst ((kU ae ag p).map D.str)))] 3 (acc++(kU ae ag p).map λm=>dW (p.1,m,p.2)),rfl,?_,_,_,_,rfl⟩;exact(gF hc).trans ((aL s1).trans (wK (eL (ρ:=[ac 4,ac 5,af]) (dM (a:=mV 6) (x:=.lst ((kU ae ag p).map D.str)) rfl rfl) (by rw[aU];omega) MH) rfl hl)))
 subst he;rw[show([ac (W.d (ao ae ag))]++bZ (7-1) af)=[ac (W.d (ao ae ag)),af,af,af,af,af,af]from rfl];rw[aL (e':=[ac (.d (ao ae ag)),ac (.d (aP ae)),ac (.d (dg ag)),af,af,af,af]) rfl];rw[aL (e':=[ac (.d (ao ae ag)),ac (.d (aP ae)),ac (.d (dg ag)),ac (.d (.lst [])),af,af,af]) (bv (j6 _))];rw[aL ((ej (dM (a:=aR nH [(wD (mV 1))]) (x:=aE (prs ae)) (gG rfl (EL hn)) rfl)).trans f1)];rw[eI (bY (call2 rfl rfl cj))];rfl
end Mr
namespace Mr
open PySem Mi
open My (words fX hU)
theorem Oy:("abcdefghijklmnopqrstuvwxyz" : Str).cps.toList=(b0 26).map (· + 97):=by decide +kernel
theorem Ir{a b c:E}{e:Mi.Env}{i j k:Int}(ha:a e=.ok (.int i))(hb:b e=.ok (.int j))(hc:c e=.ok (.int k))(h1:i<=j)(h2:j<=k):tp oi oi a b c e=.ok (.bl true):=by unfold tp;rw[ha,aQ,hb,aQ];show(Rs.ok (D.bl (decide (i<=j)))).bind _=_;rw[ce h1,aQ,mZ,aQ,bc rfl,hc,aQ];show Rs.ok (D.bl (decide (j<=k)))=_;rw[ce h2]
theorem Sn{l:List Nat}(hw:fX l):j9 [.d (.str (S' l))]=.ok (.d (.bl true)):=by
 unfold j9 FO;rw[rS];rw[show([ac (W.d (.str (S' l)))]++bZ (1-1) af)=[ac (W.d (.str (S' l)))]from rfl];obtain⟨h1,h8,hl⟩:=hw;have hc:dA (.n 0) dz (m2 b8 (mV 0) (mC (.str "abcdefghijklmnopqrstuvwxyz"))) [af] (l.map λc=>D.str (S' [c]))=.ok ((l.filter λ_=>true).map λc=>D.bl ((λ_=>true) c)):=
  fi (λc=>D.str (S' [c])) (λc=>D.bl ((λ_=>true) c)) (λ_=>true) l λc hcl=>⟨[ac (.d (.str (S' [c])))],rfl,rfl,λ_=>av (x:=.str (S' [c])) rfl rfl (by
   show bu ((S' [c]).length=1) (Rs.ok (D.bl (decide ((S' [c]).cps.getD 0 0∈("abcdefghijklmnopqrstuvwxyz" : Str).cps.toList))))=_;have hm:(S' [c]).cps.getD 0 0∈("abcdefghijklmnopqrstuvwxyz" : Str).cps.toList:=by rw[Oy];have:=hl c hcl;exact cL.mpr ⟨c-97,fb.mpr (by omega),by show c-97+97=c;omega⟩
   rw[aK (by rw[kB];rfl),ce hm])⟩
 rw[ng.mpr (λ_ _=>rfl)]at hc;have h2:mN tG [(bV [af] (br (mV 0)) (.n 0) dz (m2 b8 (mV 0) (mC (.str "abcdefghijklmnopqrstuvwxyz"))))] [ac (W.d (.str (S' l)))]=.ok (.bl true):=by refine(dX (eL (ρ:=[af]) (dM (a:=mV 0) (x:=.str (S' l)) rfl rfl) (by rw[aU,wt];omega) hc)).trans ?_;rw[JE,Fy,jO,aQ,yL];show Rs.ok (D.bl (l.all λ_=>true))=_;rw[rl.mpr (λ_ _=>rfl)]
 have h3:tp oi oi (mC (.int 1)) (mN cI [(mV 0)]) (mC (.int 8)) [ac (W.d (.str (S' l)))]=.ok (.bl true):=Ir (j:=((l.length:Nat):Int)) rfl ((dX (x:=.str (S' l)) rfl).trans (by rw[RW,aK (by rw[kB];omega),kB])) rfl (by omega) (by omega);rw[eI (bY (An h3 λ_=>h2))];rfl
theorem wA{α:Type}{l:List α}(nd:l.Nodup){i:Nat}{x:α}(hx:l[i]? = ac x):x∉l.take i:=λz=>by
 obtain⟨il,hxe⟩:=eW.mp hx;obtain⟨j,hj⟩:=rj z;have hj2:=(eW.mp hj).1;rw[gY]at hj2;rw[CB (by omega)]at hj;obtain⟨jl,hje⟩:=eW.mp hj;have:=(tW nd).mp (hje.trans hxe.symm);omega
def lR(p:Ar):List Ky:=[.inr p.1,.inr p.2]
theorem HN{p q:Ar}(h:lR p=lR q):p=q:=by obtain⟨a,b⟩:=p;obtain⟨c,d⟩:=q;simp only[lR,rL,Sum.inr.injEq,and_true]at h;rw[h.1,h.2]
def lM(ps:List Ar):W:=.dt (ps.map λp=>(lR p,D.bl true))
theorem VN(ps:List Ar)(p:Ar):(iX (ps.map λp=>(lR p,D.bl true)) (lR p)).isSome=decide (p∈ps):=by
 unfold iX
 induction ps with
 |nil=>rfl
 |cons a r ih=>
  rw[cF,l5];by_cases h:a=p
  ·subst h;simp
  ·rw[cS (λz:lR a=lR p=>h (HN z))];simp only[ih];simp[fv h]
theorem Ps{i:Nat}{k:E}{e:Mi.Env}{ps:List Ar}{p:Ar}(hk:k e=.ok (pairD p))(hw:wV i e=.ok (lM ps)):lZ i k e=.ok (.bl (decide (p∈ps))):=by unfold lZ;rw[hk,aQ,hw,aQ,<- VN];rfl
theorem J9{i:Nat}{k:E}{e:Mi.Env}{ps:List Ar}{p:Ar}(hk:k e=.ok (pairD p))(hw:wV i e=.ok (lM ps))(hn:p∉ps)(hl:ps.length<=1000):f9 i k (mC (.bl true)) e=.ok (.nx (e.set i (ac (lM (ps++[p]))))):=by
 unfold f9;have h1:w9 (lM ps) (pairD p) (.bl true)=.ok (lM (ps++[p])):=by
  show bu ((ps.map λp=>(lR p,D.bl true)).length<16777216) (Rs.ok (W.dt (Mi.putK (lR p) (.bl true) (ps.map λp=>(lR p,D.bl true)))))=_;rw[aK (by rw[aU];omega)];unfold Mi.putK;rw[ba (by
   rw[CS,yX,yG];intro z hz;simp only[DA,i7];exactλq=>hn (HN q ▸ hz))]
  unfold lM;rw[fo];rfl
 rw[show mC (.bl true) e=.ok (.bl true)from rfl,aQ,hk,aQ,hw,aQ,h1];rfl
def both(xs:List Ar):List Ar:=xs.flatMap λp=>[p,(p.2,p.1)]
theorem FU{xs:List Ar}{q:Ar}:q∈both xs↔∃p∈xs,q=p\/q=(p.2,p.1):=by unfold both;simp[lb]
theorem NF(xs:List Ar):(both xs).length=2*xs.length:=by
 induction xs with
 |nil=>rfl
 |cons a r ih=>unfold both at *;rw[nh,dC,ih];simp;omega
structure Apart(ae:List Str)(xs:List Ar):Prop where
 inn:∀p∈xs,p.1∈ae/\p.2∈ae
 pk:∀p∈xs,p.1≠p.2
 pw:xs.Pairwise λp q=>p≠q/\p≠(q.2,q.1)
theorem Qa{ae:List Str}{ag:List Ar}(N:iw ae ag):uH [.d (ao ae ag)]=.ok (.d .non):=by
 unfold uH Fh;rw[rS];rw[show([ac (W.d (ao ae ag))]++bZ (3-1) af)=[ac (W.d (ao ae ag)),af,af]from rfl];rw[aL (e':=[ac (.d (ao ae ag)),ac (.d (aj (ord ae ag ae.length))),af]) (bv (gG rfl (VR N)))];have hc:dA (.n 1) (cB (m2 cz (mV 1) (mV 0))) (mV 1) [ac (.d (aj (ord ae ag ae.length))),af] (ae.map D.str)=.ok ((ae.filter λx=>!decide (x∈ord ae ag ae.length)).map D.str):=
  fi D.str D.str (λx=>!decide (x∈ord ae ag ae.length)) ae λx _=>⟨[ac (.d (aj (ord ae ag ae.length))),ac (.d (.str x))],rfl,bx (av rfl rfl (qe _ x)),λ_=>rfl⟩
 rw[CI.mpr (λx hx=>by rw[ce (N.J3 x hx)];simp)]at hc;rw[aL (bv (eL (ρ:=[ac 1,af]) (dM (av (a:=mV 0) (b:=mC (.int 0)) rfl rfl (gm ae ag)) rfl) (by rw[aU];have:=N.le;omega) hc))];rw[dr (c:=lG (mV 2)) rfl];rfl
end Mr
namespace Mr
open PySem Mi
open My (words fX hU)
def kL(p:Ar):List Str:=[p.1,p.2]
theorem iV.sorted{ae:List Str}{A:List Ix}{r:Nat->Int}(N:iV ae A r):(A.map (arrOf ae)).Pairwise λp q=>gj (ky ae (kL p)) (ky ae (kL q))=true:=by
 rw[iN];refine ua (λ{p q} hp hq h=>?_) N.cj;have k:∀x:Ix,x∈A->ky ae (kL (arrOf ae x))=[((x.1:Nat):Int),((x.2:Nat):Int)]:=λx hx=>by
  obtain⟨h1,h2,_⟩:=N.all x hx;show[((ae.idxOf (nth ae x.1):Nat):Int),((ae.idxOf (nth ae x.2):Nat):Int)]=_;rw[ql N.nd h1,ql N.nd h2]
 rw[k p hp,k q hq];rcases h with h|⟨h1,h2⟩
 ·exact uB (zb.mpr h)
 ·rw[h1,wv];exact uB (zb.mpr h2)
theorem iV.apart{ae:List Str}{A:List Ix}{r:Nat->Int}(N:iV ae A r):Apart ae (A.map (arrOf ae)):=by
 refine⟨λp hp=>?_,λp hp=>?_,?_⟩
 ·obtain⟨q,hq,rfl⟩:=cL.mp hp;exact⟨kA (N.all q hq).1,kA (N.all q hq).2.1⟩
 ·obtain⟨q,hq,rfl⟩:=cL.mp hp;obtain⟨h1,h2,h3⟩:=N.all q hq;intro z;have:=kR N.nd h1 h2 z;rw[this]at h3;omega
 ·rw[iN];refine ua (λ{p q} hp hq h=>?_) N.cj;obtain⟨h1,h2,h3⟩:=N.all p hp;obtain⟨k1,k2,k3⟩:=N.all q hq;refine⟨λz=>?_,λz=>?_⟩
  ·have e1:=kR N.nd h1 k1 (congrArg me z);have e2:=kR N.nd h2 k2 (congrArg mi z);rcases h with h|⟨_,h⟩<;>omega
  ·have e1:=kR N.nd h1 k2 (congrArg me z);have e2:=kR N.nd h2 k1 (congrArg mi z);rw[e1,e2]at h3;omega
theorem Apart.perm{ae:List Str}{xs ys:List Ar}(P:Apart ae ys)(h:xs.Perm ys):Apart ae xs:=⟨λp hp=>P.inn p (h.mem_iff.mp hp),λp hp=>P.pk p (h.mem_iff.mp hp),(h.pairwise_iff (λ{p q} z=>⟨z.1.symm,λe=>z.2 (by rw[e])⟩)).mpr P.pw⟩
def Ik:List Ix:=((b0 64).map λn=>(n/8,n%8)).filter λp=>decide (p.1≠p.2)
theorem Po:Ik.length=56:=by decide +kernel
theorem iV.few{ae:List Str}{A:List Ix}{r:Nat->Int}(N:iV ae A r):A.length<=56:=by
 have nd:A.Nodup:=N.cj.imp λ{p q} h z=>by subst z;rcases h with h|⟨_,h⟩<;>omega
 have:=zT nd (L:=Ik) λp hp=>by
  obtain⟨h1,h2,h3⟩:=N.all p hp;have hn:=N.le;refine cx.mpr ⟨cL.mpr ⟨p.1*8+p.2,fb.mpr (by omega),lq (by show(p.1*8+p.2)/8=p.1;omega) (by show(p.1*8+p.2)%8=p.2;omega)⟩,?_⟩;exact ce λz=>by rw[z]at h3;omega
 rw[Po]at this;exact this
end Mr
namespace Mr
open PySem Mi
abbrev nn:D:=.lst [.str "NoName"]
end Mr
namespace Mr
open PySem Mi
open My (words fX hU)
theorem zE{f:Fn}{a b c g:EW}{e:Mi.Env}{x y z u:W}{d:D}(h:a e=.ok x)(h':b e=.ok y)(h'':c e=.ok z)(h3:g e=.ok u)(hf:f [x,y,z,u]=.ok (.d d)):aR f [a,b,c,g] e=.ok d:=by unfold aR jr;rw[d8,h,aQ,d8,h',aQ,d8,h'',aQ,d8,h3];simp only[aQ,d8,hf,pF]
theorem Cq{tg:Tg}{b:S}{d:D}{r:List D}{e e0 e1:Mi.Env}{o:Rs Out}(hp:tg.put d e=.ok e0)(hb:b e0=.ok (.nx e1))(t:fV tg b r e1=o):fV tg b (d::r) e=o:=by rw[fV,hp,aQ,hb,aQ];exact t
theorem EF{α:Type}(f:α->Nat):∀(l m:List α),l.Pairwise (λa b=>f a<f b)->m.Pairwise (λa b=>f a<f b)->(∀x,x∈l↔x∈m)->l=m
 |[],[],_,_,_=>rfl
 |[],b::t,_,_,h=>nomatch (h b).mpr (c6 ..)
 |a::r,[],_,_,h=>nomatch (h a).mp (c6 ..)
 |a::r,b::t,hl,hm,h=>by
  have l1:=jx.mp hl;have m1:=jx.mp hm;have e:a=b:=by
   rcases cn.mp ((h a).mp (c6 ..))with z|z
   ·exact z
   ·rcases cn.mp ((h b).mpr (c6 ..))with y|y
    ·exact y.symm
    ·have k1:=m1.1 a z;have k2:=l1.1 b y;omega
  subst e;rw[EF f r t l1.2 m1.2 λx=>⟨λhx=>by
   rcases cn.mp ((h x).mp (er _ hx))with z|z
   ·have:=l1.1 x hx;rw[z]at this;omega
   ·exact z,λhx=>by
   rcases cn.mp ((h x).mpr (er _ hx))with z|z
   ·have:=m1.1 x hx;rw[z]at this;omega
   ·exact z⟩]
end Mr
namespace Mr
open PySem Mi
open My (words fX hU)
theorem TQ{ae:List Str}(h1:1<=ae.length)(h8:ae.length<=8)(nd:ae.Nodup)(hw:∀x∈ae,j9 [.d (.str x)]=.ok (.d (.bl true))):vD [.d (aP ae)]=.ok (.d .non):=by
 unfold vD JU;rw[rS];obtain⟨e',f1,o2,he⟩:=fO (tg:=.n 2) (body:=(aD (bp (dE (cB (aR j9 [(wD (mV 2))])))
 iK
 bz)
 (aD (bp (cB (lZ 1 (mV 2)))
 iK
 bz)
 (f9 1 (mV 2) (mC (.bl true))))))
  (λi e=>∃o2:Option W,e=[ac (.d (aP ae)),ac (eQ (ae.take i)),o2]) (ae.map D.str) 0 (λi d e hi ⟨o2,he⟩=>by
   subst he;rw[dS];rw[fm]at hi;obtain⟨x,hx,rfl⟩:=lh.mp hi;have hn:=wA nd hx;refine⟨[ac (.d (aP ae)),ac (eQ (ae.take i)),ac (.d (.str x))],[ac (.d (aP ae)),ac (eQ (ae.take (i+1))),ac (.d (.str x))],rfl,?_,_,rfl⟩;rw[aL (e':=[ac (.d (aP ae)),ac (eQ (ae.take i)),ac (.d (.str x))]) ((dr (xq (gG rfl (hw x (pP hx))))).trans rfl)];rw[aL (e':=[ac (.d (aP ae)),ac (eQ (ae.take i)),ac (.d (.str x))]) ((dr (bx ((Hj (y:=x) (fs:=ae.take i) rfl rfl).trans (by rw[cS hn])))).trans rfl)];rw[Fi (y:=x) (fs:=ae.take i) rfl rfl hn (by rw[gY];omega)];rw[CQ,hx];rfl) [ac (.d (aP ae)),ac (eQ []),af] ⟨af,rfl⟩
 subst he;rw[show([ac (W.d (aP ae))]++bZ (3-1) af)=[ac (W.d (aP ae)),af,af]from rfl];have hl:mN cI [(mV 0)] [ac (W.d (aP ae)),af,af]=.ok (.int ((ae.length:Nat):Int)):=(dX (x:=aP ae) rfl).trans (by show Rs.ok (D.int (((ae.map D.str).length:Nat):Int))=_;rw[aU]);rw[aL ((dr (xq (Ir (i:=1) (k:=8) rfl hl rfl (by omega) (by omega)))).trans rfl)];rw[aL (e':=[ac (.d (aP ae)),ac (eQ []),af]) rfl];rw[ej (dM (x:=aP ae) rfl rfl),f1];rfl
theorem PH{ae:List Str}{xs:List Ar}(P:Apart ae xs)(hl:xs.length<=64):vt [.d (aP ae),.d (aE xs)]=.ok (.d .non):=by
 unfold vt IA;rw[i5];obtain⟨e',f1,o3,o4,he⟩:=fO (tg:=.t [3,4]) (body:=(aD (i3 (aR iA [(wD (mV 0)),(wD (mN b9 [(mV 3),(mV 4)]))]))
 (aD (bp (cB (m2 bM (mV 3) (mV 4)))
 iK
 bz)
 (aD (bp (cB (lZ 2 (mN dTup [(mV 3),(mV 4)])))
 iK
 bz)
 (aD (f9 2 (mN dTup [(mV 3),(mV 4)]) (mC (.bl true)))
 (f9 2 (mN dTup [(mV 4),(mV 3)]) (mC (.bl true))))))))
  (λi e=>∃o3 o4:Option W,e=[ac (.d (aP ae)),ac (.d (aE xs)),ac (lM (both (xs.take i))),o3,o4]) (xs.map pairD) 0 (λi d e hi ⟨o3,o4,he⟩=>by
   subst he;rw[dS];rw[fm]at hi;obtain⟨p,hp,rfl⟩:=lh.mp hi;have hpm:=pP hp;have il:=(eW.mp hp).1;have before:∀q∈xs.take i,q≠p/\q≠(p.2,p.1):=λq hq=>by
    obtain⟨j,hj⟩:=rj hq;have hj2:=(eW.mp hj).1;rw[gY]at hj2;rw[CB (by omega)]at hj;obtain⟨jl,hje⟩:=eW.mp hj;obtain⟨_,hpe⟩:=eW.mp hp;have:=CA.mp P.pw j i jl il (by omega);rw[hje,hpe]at this;exact this
   have n1:p∉both (xs.take i):=λz=>by
    obtain⟨q,hq,e|e⟩:=FU.mp z
    ·exact(before q hq).1 e.symm
    ·exact(before q hq).2 (by rw[e])
   have n2:(p.2,p.1)∉both (xs.take i)++[p]:=λz=>by
    rcases eg.mp z with z|z
    ·obtain⟨q,hq,e|e⟩:=FU.mp z
     ·exact(before q hq).2 e.symm
     ·exact(before q hq).1 (by rw[Prod.ext_iff]at e;simp at e;exact lq e.2.symm e.1.symm)
    ·have:=eD.mp z;exact P.pk p hpm (congrArg mi this)
   have hb:(both (xs.take i)).length<=200:=by rw[NF,gY];omega
   have hst:iA [.d (aP ae),.d (aj [p.1,p.2])]=.ok (.d .non):=uX λx hx=>by
    rcases cn.mp hx with rfl|hx
    ·exact(P.inn p hpm).1
    ·rw[eD.mp hx];exact(P.inn p hpm).2
   refine⟨[ac (.d (aP ae)),ac (.d (aE xs)),ac (lM (both (xs.take i))),ac (.d (.str p.1)),ac (.d (.str p.2))],[ac (.d (aP ae)),ac (.d (aE xs)),ac (lM (both (xs.take (i+1)))),ac (.d (.str p.1)),ac (.d (.str p.2))],rfl,?_,_,_,rfl⟩;rw[aL (oo (call2 rfl (bY (uw rfl rfl)) hst))];rw[aL ((dr (bx (av rfl rfl ((vA p.1 p.2).trans (by rw[cS (P.pk p hpm)]))))).trans rfl)];rw[aL ((dr (bx ((Ps (p:=p) (ps:=both (xs.take i)) (eS rfl rfl) rfl).trans (by rw[cS n1])))).trans rfl)];rw[aL (J9 (p:=p) (ps:=both (xs.take i)) (eS rfl rfl) rfl n1 (by omega))];rw[J9 (p:=(p.2,p.1)) (ps:=both (xs.take i)++[p]) (eS rfl rfl) rfl n2 (by rw[dC];simp;omega)];rw[CQ,hp];unfold both;rw[List.flatMap_append,ot];rfl) [ac (.d (aP ae)),ac (.d (aE xs)),ac (lM (both [])),af,af] ⟨af,af,rfl⟩
 subst he;rw[show([ac (W.d (aP ae)),ac (W.d (aE xs))]++bZ (5-2) af)=[ac (W.d (aP ae)),ac (W.d (aE xs)),af,af,af]from rfl];rw[aL (e':=[ac (.d (aP ae)),ac (.d (aE xs)),ac (lM (both [])),af,af]) rfl];rw[ej (dM (x:=aE xs) rfl rfl),f1];rfl
theorem Ri{ae:List Str}{A:List Ix}{r:Nat->Int}(N:iV ae A r)(hw:∀x∈ae,j9 [.d (.str x)]=.ok (.d (.bl true))){xs:List Ar}(hp:xs.Perm (A.map (arrOf ae))) :
 sY [.d (aP ae),.d (aE xs)]=.ok (.d (ao ae (A.map (arrOf ae)))):=by
 have P:=N.apart.perm hp;have hl:xs.length<=56:=by rw[hp.length_eq,aU];exact N.few
 unfold sY He;rw[i5];rw[show([ac (W.d (aP ae)),ac (W.d (aE xs))]++bZ (4-2) af)=[ac (W.d (aP ae)),ac (W.d (aE xs)),af,af]from rfl];rw[aL (oo (gG rfl (TQ N.pos N.le N.nd hw)))];rw[aL (oo (call2 rfl rfl (PH P (by omega))))];have hc:dA (.t [0,1]) dz (mN dTup [(mV 0),(mV 1)]) [af,af] (xs.map pairD)=.ok ((xs.filter λ_=>true).map pairD):=
  fi pairD pairD (λ_=>true) xs λp _=>⟨[ac (.d (.str p.1)),ac (.d (.str p.2))],rfl,rfl,λ_=>eS rfl rfl⟩
 rw[ng.mpr (λ_ _=>rfl)]at hc;rw[aL (e':=[ac (W.d (aP ae)),ac (W.d (aE xs)),ac (W.d (aE xs)),af]) (bv (eL (ρ:=[af,af]) (dM (x:=aE xs) rfl rfl) (by rw[aU];omega) hc))];have hs:mv [.d (aP ae),.d (aE xs)]=.ok (.d (aE (A.map (arrOf ae)))):=
  EM (nx:=aP ae) (qv ae) (by have:=N.le;omega) kL (λp hpx=>⟨by show 2<=1000;omega,λy hy=>by
   simp only[kL,cn,rm,or_false]at hy;rcases hy with rfl|rfl
   ·exact(P.inn p hpx).1
   ·exact(P.inn p hpx).2⟩) (by omega) (by
    show vS _ _;rw[iN];refine ua (λ{p q} hpx hqx h z=>h.1 ?_) P.pw;simp only[ky,kL,cF,jz,rL,and_true]at z;exact lq (fh (P.inn p hpx).1 (P.inn q hqx).1 (by omega)) (fh (P.inn p hpx).2 (P.inn q hqx).2 (by omega))) (λp=>hp.mem_iff) N.sorted
 rw[aL (e':=[ac (W.d (aP ae)),ac (W.d (aE xs)),ac (W.d (aE xs)),ac (W.d (ao ae (A.map (arrOf ae))))])
  (bv (eS (x:=aP ae) (y:=dg (A.map (arrOf ae))) ((dX (x:=aP ae) rfl).trans rfl) ((dX (call2 rfl rfl hs)).trans rfl)))]
 rw[aL (oo (gG rfl (Qa N.bC)))];rw[eI (bY rfl)];rfl
end Mr
namespace Mr
open PySem Mi
open My (words fX hU)
def ixs(ae:List Str)(B:List Ar):List Ix:=(b0 ae.length).flatMap λi=>((b0 ae.length).filter λj=>decide ((nth ae i,nth ae j)∈B)).map λj=>(i,j)
theorem F6(ae:List Str):(b0 ae.length).map (nth ae)=ae:=by refine CO (by rw[aU,tU]) λi h1 h2=>?_;rw[List.getElem_map,Lw];unfold nth;rw[fk,fF h2];rfl
theorem xi(ae:List Str)(B:List Ar):(ixs ae B).map (arrOf ae)=cj ae B:=by
 unfold ixs cj;rw[oV];have e:ae.flatMap (λt=>(ae.filter λh=>decide ((t,h)∈B)).map λh=>(t,h))=((b0 ae.length).map (nth ae)).flatMap (λt=>(ae.filter λh=>decide ((t,h)∈B)).map λh=>(t,h)):=by rw[F6]
 rw[e,List.flatMap_map];refine mF λi _=>?_;have e2:ae.filter (λh=>decide ((nth ae i,h)∈B))=((b0 ae.length).map (nth ae)).filter (λh=>decide ((nth ae i,h)∈B)):=by rw[F6]
 rw[e2,List.filter_map,fG,fG];rfl
theorem wE{ae:List Str}{B:List Ar}{p:Ix}:p∈ixs ae B↔p.1<ae.length/\p.2<ae.length/\(nth ae p.1,nth ae p.2)∈B:=by
 unfold ixs;rw[lb];constructor
 ·rintro⟨i,hi,h⟩;obtain⟨j,hj,rfl⟩:=cL.mp h;obtain⟨h1,h2⟩:=cx.mp hj;exact⟨fb.mp hi,fb.mp h1,uJ h2⟩
 ·rintro⟨h1,h2,h3⟩;exact⟨p.1,fb.mpr h1,cL.mpr ⟨p.2,cx.mpr ⟨fb.mpr h2,ce h3⟩,rfl⟩⟩
theorem iV.PM{ae:List Str}{B:List Ar}(nd:ae.Nodup)(h1:1<=ae.length)(h8:ae.length<=8)(R:Rk B):∃r,iV ae (ixs ae B) r:=by
 obtain⟨k,hk⟩:=R;refine⟨λi=>k (nth ae i),nd,h1,h8,?_,λp hp=>?_,?_⟩
 ·unfold ixs;rw[rh];refine⟨λi _=>?_,?_⟩
  ·rw[iN];refine(Dt _ pO).imp λ{a b} h=>?_;exact .inr ⟨rfl,h⟩
  ·refine pO.imp λ{a b} h=>?_;intro x hx y hy;obtain⟨j,_,rfl⟩:=cL.mp hx;obtain⟨j',_,rfl⟩:=cL.mp hy;exact .inl h
 ·obtain⟨a,b,c⟩:=wE.mp hp;exact⟨a,b,hk _ c⟩
 ·have:=Bv h8 B;rw[<- xi,aU]at this;exact this
theorem qf{α:Type}[DecidableEq α]:∀{l m:List α},l.Nodup->m.Nodup->(∀x,x∈l↔x∈m)->l.Perm m
 |[],m,_,_,h=>by
  cases m with
  |nil=>exact .nil
  |cons a r=>exact nomatch (h a).mpr (c6 ..)
 |a::r,m,hl,hm,h=>by
  have l1:=iO.mp hl;have ha:=(h a).mp (c6 ..);have p:=List.perm_cons_erase ha;refine(List.Perm.cons a (qf l1.2 (hm.erase a) λx=>?_)).trans p.symm;rw[hm.mem_erase_iff];constructor
  ·exactλhx=>⟨λz=>l1.1 (z ▸ hx),(h x).mp (er _ hx)⟩
  ·rintro⟨h1,h2⟩;rcases cn.mp ((h x).mpr h2)with z|z
   ·exact absurd z h1
   ·exact z
theorem xx{ae:List Str}(nd:ae.Nodup)(h8:ae.length<=8)(B:List Ar):(cj ae B).Nodup:=by
 rw[<- xi];refine iN.mpr (ua (R:=eB) (λ{p q} hp hq h z=>?_) ?_)
 ·obtain⟨a,b,_⟩:=wE.mp hp;obtain⟨c,d,_⟩:=wE.mp hq;have e1:=kR nd a c (congrArg me z);have e2:=kR nd b d (congrArg mi z);rcases h with h|⟨_,h⟩<;>omega
 ·unfold ixs;rw[rh];refine⟨λi _=>?_,?_⟩
  ·rw[iN];exact(Dt _ pO).imp λ{a b} h=>.inr ⟨rfl,h⟩
  ·refine pO.imp λ{a b} h=>?_;intro x hx y hy;obtain⟨j,_,rfl⟩:=cL.mp hx;obtain⟨j',_,rfl⟩:=cL.mp hy;exact .inl h
structure Gd(ae:List Str)(ag:List Ar):Prop where
 nd:ae.Nodup
 pos:1<=ae.length
 le:ae.length<=8
 rk:Rk ag
 cj:cj ae ag=ag
 wd:∀x∈ae,j9 [.d (.str x)]=.ok (.d (.bl true))
theorem Gd.inn{ae:List Str}{ag:List Ar}(G:Gd ae ag):∀p∈ag,p.1∈ae/\p.2∈ae:=λp hp=>by
 rw[<- G.cj]at hp;exact(pe.mp hp).2
theorem Gd.al{ae:List Str}{ag:List Ar}(G:Gd ae ag):ag.length<=64:=by rw[<- G.cj];exact Bv G.le _
theorem Gd.nt{ae:List Str}{ag:List Ar}(G:Gd ae ag):Nt ae ag:=⟨G.nd,G.le,G.al,G.inn,G.rk⟩
theorem Gd.nodup{ae:List Str}{ag:List Ar}(G:Gd ae ag):ag.Nodup:=by rw[<- G.cj];exact xx G.nd G.le _
theorem OC{ae:List Str}{B:List Ar}:cj ae (cj ae B)=cj ae B:=by
 unfold cj;refine mF λt ht=>?_
 congr 1
 refine tV λh hh=>?_;rw[oR];exact⟨λz=>(pe.mp z).1,λz=>pe.mpr ⟨z,ht,hh⟩⟩
theorem Gd.of{ae:List Str}{B:List Ar}(nd:ae.Nodup)(h1:1<=ae.length)(h8:ae.length<=8)(wd:∀x∈ae,j9 [.d (.str x)]=.ok (.d (.bl true)))(R:Rk B):Gd ae (Mr.cj ae B):=⟨nd,h1,h8,R.sub λp hp=>(pe.mp hp).1,OC,wd⟩
theorem GW{ae:List Str}{A B:List Ar}(h:∀p,p.1∈ae->p.2∈ae->(p∈A↔p∈B)):cj ae A=cj ae B:=by
 unfold cj;refine mF λt ht=>?_
 congr 1
 refine tV λx hx=>?_;rw[oR];exact h (t,x) ht hx
theorem Gd.made{ae:List Str}{ag:List Ar}(G:Gd ae ag){xs:List Ar}(hp:xs.Perm ag):sY [.d (aP ae),.d (aE xs)]=.ok (.d (ao ae ag)):=by
 obtain⟨r,N⟩:=iV.PM G.nd G.pos G.le G.rk;have e:(ixs ae ag).map (arrOf ae)=ag:=by rw[xi,G.cj]
 have:=Ri N G.wd (xs:=xs) (by rw[e];exact hp);rw[e]at this;exact this
theorem Gd.BF{ae:List Str}{ag:List Ar}(G:Gd ae ag){t h:Str}(ha:(t,h)∈ag):(h,t)∉ag:=λz=>by
 obtain⟨k,hk⟩:=G.rk;have h1:=hk _ ha;have h2:=hk _ z;simp only at h1 h2;omega
theorem Gd.bX{ae:List Str}{ag:List Ar}(G:Gd ae ag){t h:Str}(ha:(t,h)∈ag)(hc:cov ag (t,h)=true):Gd ae (Mr.cj ae (Mr.bX (t,h) ag)):=by
 refine Gd.of G.nd G.pos G.le G.wd (uO (ae:=ae) (λp hp=>?_) ?_)
 ·rcases(pB ha).mp hp with ⟨h1,_⟩|rfl
  ·exact G.inn p h1
  ·exact⟨(G.inn _ ha).2,(G.inn _ ha).1⟩
 ·have:=BC G.nd G.inn G.rk ha;rw[show fW (bQ ag h) (bQ ag t++[t])=true from hc]at this;have:=this.symm;rw[jA,rF]at this;exact this.1
theorem Gd.others{ae:List Str}{ag:List Ar}(G:Gd ae ag){t h:Str}(ha:(t,h)∈ag):((ag.filter λp=>!decide (p=(t,h)))++[(h,t)]).Perm (Mr.cj ae (Mr.bX (t,h) ag)):=by
 refine qf ?_ (xx G.nd G.le _) λp=>?_
 ·rw[kn];refine⟨G.nodup.filter _,(by simp),λp hp q hq z=>?_⟩;rw[eD.mp hq]at z;rw[z]at hp;exact G.BF ha (cx.mp hp).1
 ·rw[pe,pB ha,eg,cx,eD];constructor
  ·rintro(⟨h1,h2⟩|rfl)
   ·exact⟨.inl ⟨h1,λz=>by rw[ce z]at h2;cases h2⟩,G.inn p h1⟩
   ·exact⟨.inr rfl,(G.inn _ ha).2,(G.inn _ ha).1⟩
  ·rintro⟨⟨h1,h2⟩|rfl,_⟩
   ·exact .inl ⟨h1,by rw[cS h2];rfl⟩
   ·exact .inr rfl
theorem Vh(p q:Ar):d6 (pairD p) (pairD q)=.ok (.bl (!decide (p=q))):=by unfold d6;rw[aK (by have:=qz [p];simp only[cF,jz,pK]at this;omega),A2]
theorem GF(ag:List Ar)(p:Ar):cz (pairD p) (dg ag)=.ok (.bl (!decide (p∈ag))):=by have h:=ux ag p;exact h
theorem T9{ae:List Str}{ag:List Ar}(G:Gd ae ag){t h:Str}(ha:(t,h)∈ag)(hc:cov ag (t,h)=true):sw [.d (ao ae ag),.d (.str t),.d (.str h)]=.ok (.d (ao ae (cj ae (bX (t,h) ag)))):=by
 have hal:=G.al;obtain⟨ht,hh⟩:=G.inn _ ha;unfold sw E6;rw[tH];rw[show([ac (W.d (ao ae ag)),ac (W.d (.str t)),ac (W.d (.str h))]++bZ (6-3) af)=[ac (W.d (ao ae ag)),ac (W.d (.str t)),ac (W.d (.str h)),af,af,af]from rfl];rw[aL (e':=[ac (W.d (ao ae ag)),ac (W.d (.str t)),ac (W.d (.str h)),ac (W.d (aP ae)),ac (W.d (dg ag)),af]) rfl];have hr:iA [.d (aP ae),.d (aj [t,h])]=.ok (.d .non):=uX λx hx=>by
  rcases cn.mp hx with rfl|hx
  ·exact ht
  ·rw[eD.mp hx];exact hh
 rw[aL (oo (call2 rfl (bY (uw rfl rfl)) hr))];rw[aL ((dr (bx ((av (eS rfl rfl) rfl (GF ag (t,h))).trans (by rw[ce ha];rfl)))).trans rfl)];rw[aL ((dr (xq ((mD rfl rfl rfl (FM hal ht hh)).trans (by rw[hc])))).trans rfl)];have cm:dA (.n 2) (cB (m2 d6 (mV 2) (mN dTup [(mV 0),(mV 1)]))) (mV 2) [ac (.d (.str t)),ac (.d (.str h)),af] (ag.map pairD)=.ok ((ag.filter λp=>!decide (p=(t,h))).map pairD):=
  fi pairD pairD (λp=>!decide (p=(t,h))) ag λp _=>⟨[ac (.d (.str t)),ac (.d (.str h)),ac (.d (pairD p))],rfl,bx (av rfl (eS rfl rfl) (Vh p (t,h))),λ_=>rfl⟩
 rw[aL (e':=[ac (W.d (ao ae ag)),ac (W.d (.str t)),ac (W.d (.str h)),ac (W.d (aP ae)),ac (W.d (dg ag)),ac (W.d (aE (ag.filter λp=>!decide (p=(t,h)))))])
  (bv (eL (ρ:=[ac 1,ac 2,af]) (dM (a:=mV 4) (x:=dg ag) rfl rfl) (by rw[aU];omega) cm))]
 have hl:(ag.filter λp=>!decide (p=(t,h))).length<=64:=c8 (gX _ _) hal;rw[eI (bY (call2 (x:=.d (aP ae)) (y:=.d (aE ((ag.filter λp=>!decide (p=(t,h)))++[(h,t)]))) rfl (bY (av (x:=aE (ag.filter λp=>!decide (p=(t,h)))) rfl (o0 (eS rfl rfl)) ((og _ _).trans ((aK (by rw[aU];exact c8 (Nat.add_le_add_right (c8 (gX _ _) hal) _) (by show 64+1<=16777216;decide))).trans (by unfold aE;rw[fo];rfl))))) ((G.bX ha hc).made (G.others ha))))];rfl
end Mr
namespace Mr
open PySem Mi
open My (words fX hU)
theorem GD{ag:List Ar}(hl:ag.length<=64)(x:Str):mU [.d (aE ag),.d (.str x)]=.ok (.d (aj (bQ ag x))):=by
 unfold mU Jp;rw[mz];rw[show([ac (W.d (aE ag)),ac (W.d (.str x))]++bZ (2-2) af)=[ac (W.d (aE ag)),ac (W.d (.str x))]from rfl];have hc:dA (.t [1,2]) (cB (m2 bM (mV 2) (mV 0))) (mV 1) [ac (.d (.str x)),af,af] (ag.map pairD)=.ok ((ag.filter λp=>decide (p.2=x)).map λp=>D.str p.1):=
  fi pairD (λp=>D.str p.1) (λp=>decide (p.2=x)) ag λp _=>⟨[ac (.d (.str x)),ac (.d (.str p.1)),ac (.d (.str p.2))],rfl,bx (av rfl rfl (vA p.2 x)),λ_=>rfl⟩
 rw[eI (bY (eL (ρ:=[ac 1,af,af]) (dM (a:=mV 0) (x:=aE ag) rfl rfl) (by rw[aU];omega) hc))];show Rs.ok (W.d (.lst _))=_;unfold bQ aj;rw[fG];rfl
structure Lk(ae:List Str)(ag:List Ar):Prop where
 nd:ae.Nodup
 le:ae.length<=8
 al:ag.length<=64
 inn:∀p∈ag,p.1∈ae/\p.2∈ae
 rk:Rk ag
 nda:ag.Nodup
theorem Gd.lk{ae:List Str}{ag:List Ar}(G:Gd ae ag):Lk ae ag:=⟨G.nd,G.le,G.al,G.inn,G.rk,G.nodup⟩
theorem Lk.nt{ae:List Str}{ag:List Ar}(G:Lk ae ag):Nt ae ag:=⟨G.nd,G.le,G.al,G.inn,G.rk⟩
theorem Lk.vH{ae:List Str}{ag:List Ar}(G:Lk ae ag)(x:Str):(bQ ag x).Nodup:=by unfold bQ;refine iN.mpr ((G.nda.filter _).imp_of_mem λ{p q} hp hq h z=>h ?_);have h1:=uJ (cx.mp hp).2;have h2:=uJ (cx.mp hq).2;exact lq z (h1.trans h2.symm)
theorem Lk.ph{ae:List Str}{ag:List Ar}(G:Lk ae ag)(x:Str):(bQ ag x).length<=8:=c8 (i4 (G.vH x) λy hy=>(G.inn _ (lA.mp hy)).1) G.le
theorem Lk.pk{ae:List Str}{ag:List Ar}(G:Lk ae ag)(x:Str):(x,x)∉ag:=λh=>by
 obtain⟨k,hk⟩:=G.rk;have:=hk _ h;simp only at this;omega
def nO(ag:List Ar)(p:Ar):Bool:=decide (jN (bQ ag p.2)=jN (bQ ag p.1++[p.1]))
theorem Lk.nO{ae:List Str}{ag:List Ar}(G:Lk ae ag)(t h:Str):Mr.nO ag (t,h)=cov ag (t,h):=by
 have n2:(bQ ag t++[t]).Nodup:=by rw[kn];refine⟨G.vH t,(by simp),λa ha b hb z=>?_⟩;rw[eD.mp hb]at z;rw[z]at ha;exact G.pk t (lA.mp ha)
 have mem:∀x,x∈bQ ag t++[t]↔(x,t)∈ag\/x=t:=λx=>by rw[eg,lA,eD]
 show decide _=fW (bQ ag h) (bQ ag t++[t]);cases hs:fW (bQ ag h) (bQ ag t++[t])with
 |true=>
  have k:=pA.mp hs;exact ce (IZ.mpr (qf (G.vH h) n2 λx=>by rw[lA,mem];exact k x))
 |false=>
  refine cS λz=>?_;have pm:=IZ.mp z;have:fW (bQ ag h) (bQ ag t++[t])=true:=pA.mpr λx=>by rw[<- mem,<- lA];exact pm.mem_iff
  rw[hs]at this;cases this
theorem Vy(xs ys:List Str):bM (aj xs) (aj ys)=.ok (.bl (decide (xs=ys))):=by unfold bM aj;rw[aK (by simp),bP,wL]
theorem E9{xs:List Str}(h:xs.length<64):mQ [aj xs]=.ok (aj (jN xs)):=by show(cQ (fM (xs.map D.str))).bind _=_;rw[qv,jO,aQ];exact aK h
theorem Sx{ae:List Str}{ag:List Ar}(G:Lk ae ag):qY [.d (aE ag)]=.ok (.d (aE (ag.filter (cov ag)))):=by
 have hal:=G.al;unfold qY EE;rw[qZ];rw[show([ac (W.d (aE ag))]++bZ (4-1) af)=[ac (W.d (aE ag)),af,af,af]from rfl];have efl:(ag.flatMap λp=>if Mr.nO ag p=true then[pairD p]else[])=(ag.filter (cov ag)).map pairD:=by
  rw[yv (Mr.nO ag) pairD]
  congr 1
  exact tV λp _=>G.nO p.1 p.2
 have hfl:(ag.flatMap λp=>if Mr.nO ag p=true then[pairD p]else[]).length<=64:=by rw[efl,aU];exact c8 (gX _ _) hal
 obtain⟨e',f1,o2,o3,he⟩:=m6 (tg:=.t [2,3]) (body:=(bp (cB (m2 bM (mN mQ [(aR mU [(wD (mV 0)),(wD (mV 3))])]) (mN mQ [(m2 a9 (aR mU [(wD (mV 0)),(wD (mV 2))]) (mN b9 [(mV 2)]))])))
 (dI 1 (mN dTup [(mV 2),(mV 3)]))
 bz))
  pairD (λp=>if Mr.nO ag p=true then[pairD p]else[])
  (λacc e=>∃o2 o3:Option W,e=[ac (.d (aE ag)),ac (.d (.lst acc)),o2,o3]) ag [] [ac (.d (aE ag)),ac (.d (.lst [])),af,af] (by simp only[gL];omega) ⟨af,af,rfl⟩
  (λp hp acc e hl ⟨o2,o3,he⟩=>by
   subst he;have l2:=G.ph p.2;have l1:=G.ph p.1;have hc:cB (m2 bM (mN mQ [(aR mU [(wD (mV 0)),(wD (mV 3))])]) (mN mQ [(m2 a9 (aR mU [(wD (mV 0)),(wD (mV 2))]) (mN b9 [(mV 2)]))])) [ac (.d (aE ag)),ac (.d (.lst acc)),ac (.d (.str p.1)),ac (.d (.str p.2))]=.ok (Mr.nO ag p):=
    bx (av ((dX (call2 rfl rfl (GD hal p.2))).trans (E9 (by omega)))
     ((dX (x:=aj (bQ ag p.1++[p.1])) (av (call2 rfl rfl (GD hal p.1)) (o0 rfl) ((og _ _).trans ((aK (by rw[aU];simp only[dH,gL];omega)).trans (by unfold aj;rw[fo];rfl))))).trans (E9 (by rw[dC];simp only[dH,gL];omega)))
     (Vy _ _))
   cases hk:Mr.nO ag p with
   |false=>
    rw[hk]at hc;rw[ba dR,ko];exact⟨[ac (.d (aE ag)),ac (.d (.lst acc)),ac (.d (.str p.1)),ac (.d (.str p.2))],_,rfl,(dr hc).trans rfl,_,_,rfl⟩
   |true=>
    rw[hk]at hc;rw[hk,bc rfl]at hl;rw[bc rfl];refine⟨[ac (.d (aE ag)),ac (.d (.lst acc)),ac (.d (.str p.1)),ac (.d (.str p.2))],[ac (.d (aE ag)),ac (.d (.lst (acc++[pairD p]))),ac (.d (.str p.1)),ac (.d (.str p.2))],rfl,?_,_,_,rfl⟩;exact(gF hc).trans (mJ (eS rfl rfl) rfl (by simp only[dH,gL]at hl;omega)))
 subst he;rw[aL (e':=[ac (.d (aE ag)),ac (.d (.lst [])),af,af]) (bv (j6 _))];rw[aL ((ej (dM (a:=mV 0) (x:=aE ag) rfl rfl)).trans f1)];unfold aE;rw[<- efl];rfl
end Mr
namespace Mr
open PySem Mi
open My (words fX hU)
theorem AV{α:Type}(f:α->Int):∀(l:List α),l≠[]->∃x∈l,∀y∈l,f x<=f y
 |[],h=>absurd rfl h
 |[a],_=>⟨a,c6 ..,λy hy=>by rw[eD.mp hy];exact v6 _⟩
 |a::b::r,_=>by
  obtain⟨x,hx,k⟩:=AV f (b::r) (by simp);rcases Int.le_total (f a) (f x)with h|h
  ·exact⟨a,c6 ..,λy hy=>by
    rcases cn.mp hy with rfl|hy
    ·exact v6 _
    ·exact Int.le_trans h (k y hy)⟩
  ·exact⟨x,er _ hx,λy hy=>by
    rcases cn.mp hy with rfl|hy
    ·exact h
    ·exact k y hy⟩
theorem Ud{α:Type}{A B:α->α->Prop}{ra rb:α->Int}(ha:∀x y,A x y->ra x<ra y)(hb:∀x y,B x y->rb x<rb y)
 (sk:∀x y,(A x y\/A y x)↔(B x y\/B y x)) (cr:∀a m b,a≠b->((A a m/\A b m/\¬ A a b/\¬ A b a)↔(B a m/\B b m/\¬ B a b/\¬ B b a)))
 {x y:α} (hA:A x y) (hB:B y x) (MI:∀u v,A u v->B v u->ra y<=ra v) (Wt:∀u,A u y->B y u->ra u<=ra x):∀z,A z y↔(A z x\/z=x):=by
 intro z;constructor
 ·intro zy;by_cases e:z=x
  ·exact .inr e
  ·refine .inl (gN λnzx=>?_);by_cases xz:A x z
   ·-- x->z->y
    have h1:=ha _ _ xz;have h2:=ha _ _ zy;rcases(sk z y).mp (.inl zy)with bzy|byz
    ·rcases(sk x z).mp (.inl xz)with bxz|bzx
     ·have:=hb _ _ bzy;have:=hb _ _ hB;have:=hb _ _ bxz;omega
     ·have:=MI x z xz bzx;omega
    ·have:=Wt z zy byz;omega
   ·have:=(cr x y z (fv e)).mp ⟨hA,zy,xz,nzx⟩;have h1:=hb _ _ this.1;have h2:=hb _ _ hB;omega
 ·rintro(zx|rfl)
  ·refine gN λnzy=>?_;have h1:=ha _ _ zx;have h2:=ha _ _ hA;have nyz:¬ A y z:=λh=>by have:=ha _ _ h;omega
   have nb:¬ (B z y\/B y z):=λh=>by
    rcases(sk z y).mpr h with h|h
    ·exact nzy h
    ·exact nyz h
   rcases(sk z x).mp (.inl zx)with bzx|bxz
   ·have ne:z≠y:=λe=>by rw[e]at h1;omega
    have:=(cr z x y ne).mpr ⟨bzx,hB,λh=>nb (.inl h),λh=>nb (.inr h)⟩;have h3:=ha _ _ this.2.1;omega
   ·have:=MI z x zx bxz;omega
  ·exact hA
structure Sm(ae:List Str)(A B:List Ar):Prop where
 ti:cP ae A=cP ae B
 cr:cC ae A=cC ae B
theorem pE(ag:List Ar)(a b:Str):tie ag a b=tie ag b a:=by unfold tie;rw[Bool.or_comm]
theorem eM{ag:List Ar}{a b:Str}:tie ag a b=true↔(a,b)∈ag\/(b,a)∈ag:=by unfold tie;rw[yY,kJ,kJ]
theorem qQ{ae:List Str}{a b:Str}(ha:a∈ae)(hb:b∈ae)(ne:a≠b):(a,b)∈prs ae\/(b,a)∈prs ae:=by
 obtain⟨i,hi,rfl⟩:=yr ha;obtain⟨j,hj,rfl⟩:=yr hb;rcases Nat.lt_trichotomy i j with h|h|h
 ·exact .inl (k5.mpr ⟨i,hi,rfl,Bp h hj⟩)
 ·exact absurd (by rw[h]) ne
 ·exact .inr (k5.mpr ⟨j,hj,rfl,Bp h hi⟩)
theorem Sm.tie{ae:List Str}{A B:List Ar}(S:Sm ae A B){a b:Str}(ha:a∈ae)(hb:b∈ae)(ne:a≠b):Mr.tie A a b=Mr.tie B a b:=by
 have key:∀p:Ar,p∈prs ae->Mr.tie A p.1 p.2=Mr.tie B p.1 p.2:=λp hp=>by
  have h:p∈cP ae A↔p∈cP ae B:=by rw[S.ti]
  unfold cP at h;rw[cx,cx]at h;rw[iQ];exact⟨λz=>(h.mp ⟨hp,z⟩).2,λz=>(h.mpr ⟨hp,z⟩).2⟩
 rcases qQ ha hb ne with h|h
 ·exact key _ h
 ·rw[pE A,pE B];exact key _ h
theorem Sm.of{ae:List Str}{A B:List Ar}(nd:ae.Nodup)(h1:∀a∈ae,∀b∈ae,Mr.tie A a b=Mr.tie B a b)(h2:cC ae A=cC ae B):Sm ae A B:=⟨tV λp hp=>h1 p.1 (om hp).1 p.2 (om hp).2,h2⟩
theorem Ua{ae:List Str}(nd:ae.Nodup){A B:List Ar}(h:∀p:Ar,p.1∈ae->p.2∈ae->(p∈A↔p∈B)):cC ae A=cC ae B:=
 (uF nd).mpr λa ha m hm b hb _=>by
  unfold ek;rw[show decide ((a,m)∈A)=decide ((a,m)∈B)from oR.mpr (h _ ha hm),show decide ((b,m)∈A)=decide ((b,m)∈B)from oR.mpr (h _ hb hm),
   show decide ((a,b)∈A)=decide ((a,b)∈B)from oR.mpr (h _ ha hb),show decide ((b,a)∈A)=decide ((b,a)∈B)from oR.mpr (h _ hb ha)]
theorem Gd.uV{ae:List Str}{A:List Ar}(G:Gd ae A){p:Ar}(hp:p∈A)(q:Ar):q∈Mr.cj ae (Mr.bX p A)↔(q∈A/\q≠p)\/q=(p.2,p.1):=by
 rw[pe,pB hp];constructor
 ·exactλz=>z.1
 ·rintro(z|rfl)
  ·exact⟨.inl z,G.inn q z.1⟩
  ·exact⟨.inr rfl,(G.inn _ hp).2,(G.inn _ hp).1⟩
theorem Sm.turn{ae:List Str}{A B:List Ar}(GA:Gd ae A)(S:Sm ae A B){p:Ar}(hp:p∈A)(hc:cov A p=true):Sm ae (cj ae (bX p A)) B:=by
 refine⟨Eq.trans (tV λq hq=>?_) S.ti,Eq.trans ?_ S.cr⟩
 ·rw[iQ,eM,eM,GA.uV hp,GA.uV hp];constructor
  ·rintro((z|z)|(z|z))
   ·exact .inl z.1
   ·rw[show q.1=p.2 from congrArg me z,show q.2=p.1 from congrArg mi z];exact .inr hp
   ·exact .inr z.1
   ·rw[show q.2=p.2 from congrArg me z,show q.1=p.1 from congrArg mi z];exact .inl hp
  ·rintro(z|z)
   ·by_cases e:(q.1,q.2)=p
    ·exact .inr (.inr (by rw[<- e]))
    ·exact .inl (.inl ⟨z,e⟩)
   ·by_cases e:(q.2,q.1)=p
    ·exact .inl (.inr (by rw[<- e]))
    ·exact .inr (.inl ⟨z,e⟩)
 ·have h1:=BC GA.nd GA.inn GA.rk (t:=p.1) (h:=p.2) hp;rw[show fW (bQ A p.2) (bQ A p.1++[p.1])=true from hc]at h1;have h1:=h1.symm;rw[jA,kJ]at h1;refine Eq.trans (Ua GA.nd λq h2 h3=>?_) h1.2;rw[pe];exact⟨λz=>z.1,λz=>⟨z,h2,h3⟩⟩
theorem Sm.inB{ae:List Str}{A B:List Ar}(GA:Gd ae A)(GB:Gd ae B)(S:Sm ae A B){p:Ar}(hp:p∈A)(hn:p∉B):(p.2,p.1)∈B:=by
 obtain⟨h1,h2⟩:=GA.inn p hp;have ne:p.1≠p.2:=λe=>GA.lk.pk p.1 (by rw[show(p.1,p.1)=p from lq rfl e];exact hp);have t:=S.tie h1 h2 ne;rw[eM.mpr (.inl hp)]at t;rcases eM.mp t.symm with z|z
 ·exact absurd z hn
 ·exact z
theorem Sm.symm{ae:List Str}{A B:List Ar}(S:Sm ae A B):Sm ae B A:=⟨S.ti.symm,S.cr.symm⟩
theorem Sm.step{ae:List Str}{A B:List Ar}(GA:Gd ae A)(GB:Gd ae B)(S:Sm ae A B)(ne:A≠B):∃p,p∈A/\cov A p=true/\p∉B:=by
 have hq:∃q,q∈A/\q∉B:=gN λhno=>ne (by
  have ab:∀q,q∈A->q∈B:=λq hq=>gN λz=>hno ⟨q,hq,z⟩;rw[<- GA.cj,<- GB.cj];refine GW λq h1 h2=>⟨ab q,λhb=>gN λz=>?_⟩;have:=ab _ (S.symm.inB GB GA hb z);exact GB.BF (t:=q.1) (h:=q.2) hb this)
 obtain⟨ra,ha⟩:=GA.rk;obtain⟨rb,hb⟩:=GB.rk;obtain⟨q,hq1,hq2⟩:=hq;have inD:∀u v,(u,v)∈A->(v,u)∈B->(u,v)∈A.filter λp=>!decide (p∈B):=λu v h1 h2=>cx.mpr ⟨h1,by rw[cS (λz=>GB.BF z h2)];rfl⟩;obtain⟨p0,m0,k0⟩:=AV (λp:Ar=>ra p.2) (A.filter λp=>!decide (p∈B)) (λz=>by
  have:q∈A.filter λp=>!decide (p∈B):=cx.mpr ⟨hq1,by rw[cS hq2];rfl⟩;rw[z]at this;exact nomatch this)
 obtain⟨p1,m1,k1⟩:=AV (λp:Ar=>- ra p.1) ((A.filter λp=>!decide (p∈B)).filter λp=>decide (p.2=p0.2)) (λz=>by
  have:p0∈(A.filter λp=>!decide (p∈B)).filter λp=>decide (p.2=p0.2):=cx.mpr ⟨m0,ce rfl⟩;rw[z]at this;exact nomatch this)
 obtain⟨m1,e1⟩:=cx.mp m1;have e1:p1.2=p0.2:=uJ e1;obtain⟨mA,nB⟩:=cx.mp m1;have nB:p1∉B:=λz=>by rw[ce z]at nB;cases nB
 have bB:=S.inB GA GB mA nB;refine⟨p1,mA,?_,nB⟩;refine pA.mpr (Ud (A:=λx y=>(x,y)∈A) (B:=λx y=>(x,y)∈B) (ra:=ra) (rb:=rb) (λx y h=>ha _ h) (λx y h=>hb _ h) (λx y=>?_) (λa m b nab=>?_) mA bB (λu v h1 h2=>?_) λu h1 h2=>?_)
 ·have both:∀{X Y:List Ar},Gd ae X->Sm ae X Y->(x,y)∈X\/(y,x)∈X->(x,y)∈Y\/(y,x)∈Y:=λ{X Y} GX SX h=>by
   have hx:x∈ae/\y∈ae/\x≠y:=by
    rcases h with h|h
    ·exact⟨(GX.inn _ h).1,(GX.inn _ h).2,λe=>GX.lk.pk x (by rw[<- e]at h;exact h)⟩
    ·exact⟨(GX.inn _ h).2,(GX.inn _ h).1,λe=>GX.lk.pk x (by rw[<- e]at h;exact h)⟩
   have t:=SX.tie hx.1 hx.2.1 hx.2.2;rw[eM.mpr h]at t;exact eM.mp t.symm
  exact⟨both GA S,both GB S.symm⟩
 ·have c:=(uF GA.nd).mp S.cr;have one:∀{X Y:List Ar},Gd ae X->(∀a∈ae,∀m∈ae,∀b∈ae,a≠b->ek X a m b=ek Y a m b)->(a,m)∈X/\(b,m)∈X/\¬ (a,b)∈X/\¬ (b,a)∈X->(a,m)∈Y/\(b,m)∈Y/\¬ (a,b)∈Y/\¬ (b,a)∈Y:=λ{X Y} GX hc h=>by
   have:=hc a (GX.inn _ h.1).1 m (GX.inn _ h.1).2 b (GX.inn _ h.2.1).1 nab;rw[oX.mpr h]at this;exact oX.mp this.symm
  exact⟨one GA c,one GB λa ha m hm b hb nab=>(c a ha m hm b hb nab).symm⟩
 ·have:=k0 _ (inD u v h1 h2);simp only at this;rw[e1];exact this
 ·have h1':(u,p0.2)∈A:=by rw[<- e1];exact h1
  have h2':(p0.2,u)∈B:=by rw[<- e1];exact h2
  have:=k1 (u,p0.2) (cx.mpr ⟨inD u p0.2 h1' h2',ce rfl⟩);simp only at this;omega
def iq(A B:List Ar):Nat:=(A.filter λp=>!decide (p∈B)).length
theorem zX(A:List Ar):iq A A=0:=by unfold iq;rw[CI.mpr λp hp=>by rw[ce hp];simp];rfl
theorem Sm.wS{ae:List Str}{A B:List Ar}(GA:Gd ae A)(GB:Gd ae B)(S:Sm ae A B){p:Ar}(hp:p∈A)(hn:p∉B):iq A B=iq (cj ae (bX p A)) B+1:=by
 unfold iq;have hb:=S.inB GA GB hp hn;have mp:p∈A.filter λq=>!decide (q∈B):=cx.mpr ⟨hp,by rw[cS hn];rfl⟩;have sI:(A.filter λq=>!decide (q∈B)).Nodup:=GA.nodup.filter _;have pm:((cj ae (bX p A)).filter λq=>!decide (q∈B)).Perm ((A.filter λq=>!decide (q∈B)).erase p):=by
  refine qf ((xx GA.nd GA.le _).filter _) (sI.erase p) λq=>?_;rw[sI.mem_erase_iff,cx,cx,GA.uV hp];constructor
  ·rintro⟨(⟨h1,h2⟩|rfl),h3⟩
   ·exact⟨h2,h1,h3⟩
   ·rw[ce hb]at h3;cases h3
  ·rintro⟨h1,h2,h3⟩;exact⟨.inl ⟨h2,h1⟩,h3⟩
 rw[pm.length_eq,yz mp];have:0<(A.filter λq=>!decide (q∈B)).length:=tP mp;omega
theorem Sm.Ao{ae:List Str}{A B:List Ar}(GA:Gd ae A)(GB:Gd ae B)(S:Sm ae A B)(h:iq A B=0):A=B:=gN λne=>by
 obtain⟨p,h1,_,h3⟩:=S.step GA GB ne;rw[S.wS GA GB h1 h3]at h;omega
def jL(ae:List Str)(B:List Ar):Nat->List Ar->List Ar
 |0,_=>[]
 | n+1,A=>match(A.filter (cov A)).filter (λp=>!decide (p∈B))with
  |[]=>[]
  |p::_=>p::jL ae B n (cj ae (bX p A))
theorem Sm.pick{ae:List Str}{A B:List Ar}(GA:Gd ae A)(GB:Gd ae B)(S:Sm ae A B){n:Nat}(h:iq A B=n+1):∃p r,(A.filter (cov A)).filter (λp=>!decide (p∈B))=p::r/\p∈A/\cov A p=true/\p∉B:=by
 have ne:A≠B:=λe=>by rw[e,zX]at h;omega
 obtain⟨p,h1,h2,h3⟩:=S.step GA GB ne;have mp:p∈(A.filter (cov A)).filter λp=>!decide (p∈B):=cx.mpr ⟨cx.mpr ⟨h1,h2⟩,by rw[cS h3];rfl⟩;cases hl:(A.filter (cov A)).filter λp=>!decide (p∈B)with
 |nil=>rw[hl]at mp;exact nomatch mp
 |cons p' r=>
  have m':p'∈(A.filter (cov A)).filter λp=>!decide (p∈B):=by rw[hl];exact c6 ..
  obtain⟨a,b⟩:=cx.mp m';obtain⟨c,d⟩:=cx.mp a;exact⟨p',r,rfl,c,d,λz=>by rw[ce z]at b;cases b⟩
end Mr
namespace Mr
open PySem Mi
open My (words fX hU)
theorem Gu(ae:List Str)(ag:List Ar):(ao ae ag).dep<=16:=by unfold ao aP dg;rw[At,pK,pK,At,At,zD,uC];have:=qz ag;omega
theorem K6(ae:List Str)(A B:List Ar):bP (ao ae A) (ao ae B)=decide (A=B):=by unfold ao aP dg;rw[bP,d0,d0,d0,bP,bP,wL,zP,ce rfl];simp
theorem Hw(ae:List Str)(A B:List Ar):d6 (ao ae A) (ao ae B)=.ok (.bl (!decide (A=B))):=by unfold d6;rw[aK (Gu ae A),K6]
theorem PP(ae:List Str)(A B:List Ar):bM (ao ae A) (ao ae B)=.ok (.bl (decide (A=B))):=by unfold bM;rw[aK (Gu ae A),K6]
theorem Af(xs ys:List Str):d6 (aP xs) (aP ys)=.ok (.bl (!decide (xs=ys))):=by unfold d6 aP;rw[aK (by simp),bP,wL]
theorem Td(xs ys:List Ar):bM (aE xs) (aE ys)=.ok (.bl (decide (xs=ys))):=by unfold bM aE;rw[aK (by rw[wH];have:=qz xs;omega),bP,zP]
def rV(ae:List Str)(A B:List Ar):Bool:=decide (cP ae A=cP ae B)&&decide (cC ae A=cC ae B)
theorem xV{ae:List Str}{A B:List Ar}:rV ae A B=true↔Sm ae A B:=by unfold rV;rw[jA,kJ,kJ];exact⟨λh=>⟨h.1,h.2⟩,λh=>⟨h.ti,h.cr⟩⟩
theorem UP{ae:List Str}{A B:List Ar}(GA:Gd ae A)(GB:Gd ae B):vj [.d (ao ae A),.d (ao ae B)]=.ok (.d (.bl (rV ae A B))):=by
 unfold vj FR;rw[i5];rw[show([ac (W.d (ao ae A)),ac (W.d (ao ae B))]++bZ (2-2) af)=[ac (W.d (ao ae A)),ac (W.d (ao ae B))]from rfl];have hr:lC [.d (ao ae A),.d (ao ae B)]=.ok (.d .non):=by unfold lC xB;rw[i5];rw[(dr (bx ((av (av rfl rfl (gm ae A)) (av rfl rfl (gm ae B)) (Af ae ae)).trans (by rw[ce rfl];rfl))))];rfl
 rw[aL (oo (call2 rfl rfl hr))];rw[eI (bY (An (av (gG rfl (yp GA.le)) (gG rfl (yp GB.le)) (Td _ _)) λ_=>av (gG rfl (wT GA.nt)) (gG rfl (wT GB.nt)) (O0 _ _)))];rfl
theorem HC{ae:List Str}{B:List Ar}(GB:Gd ae B)(F:D):∀(n:Nat) (A acc:List Ar) (o4:Option W) (fuel:Nat),Gd ae A->Sm ae A B->iq A B=n->n<fuel->acc.length+n<=1000 ->
 ∃o4',gO (cB (m2 d6 (mV 3) (mV 1))) (aD (aS 4 (m2 aw (bV [ac 1,af] (br (aR sJ [(wD (mV 3))])) (.n 1) (cB (m2 cz (mV 1) (m2 aw (mV 0) (mC (.int 1))))) (mV 1)) (mC (.int 0))))
 (aD (dI 2 (mV 4))
 (aS 3 (aR sw [(wD (mV 3)),(wD (m2 aw (mV 4) (mC (.int 0)))),(wD (m2 aw (mV 4) (mC (.int 1))))])))) fuel [ac (W.d F),ac (W.d (ao ae B)),ac (W.d (aE acc)),ac (W.d (ao ae A)),o4] =
  .ok (.nx [ac (W.d F),ac (W.d (ao ae B)),ac (W.d (aE (acc++jL ae B n A))),ac (W.d (ao ae B)),o4'])
 |n,A,acc,o4,0,_,_,_,h,_=>absurd h (vZ _)
 |0,A,acc,o4,fuel+1,GA,S,hd,_,_=>by
  obtain rfl:=S.Ao GA GB hd;have ct:cB (m2 d6 (mV 3) (mV 1)) [ac (W.d F),ac (W.d (ao ae A)),ac (W.d (aE acc)),ac (W.d (ao ae A)),o4]=.ok false:=bx ((av rfl rfl (Hw ae A A)).trans (by rw[ce rfl];rfl));refine⟨o4,?_⟩;rw[gO,ct,aQ,ba dR,show jL ae A 0 A=[]from rfl,ko]
 |n+1,A,acc,o4,fuel+1,GA,S,hd,hf,hl=>by
  have ne:A≠B:=λe=>by rw[e,zX]at hd;omega
  obtain⟨p,r,hp,m1,m2',m3⟩:=S.pick GA GB hd;have ct:cB (m2 d6 (mV 3) (mV 1)) [ac (W.d F),ac (W.d (ao ae B)),ac (W.d (aE acc)),ac (W.d (ao ae A)),o4]=.ok true:=bx ((av rfl rfl (Hw ae A B)).trans (by rw[cS ne];rfl));have S':=S.turn GA m1 m2';have G':=GA.bX (t:=p.1) (h:=p.2) m1 m2';have hd':iq (cj ae (bX p A)) B=n:=by have:=S.wS GA GB m1 m3;omega
  obtain⟨o',ih⟩:=HC GB F n (cj ae (bX p A)) (acc++[p]) (ac (W.d (pairD p))) fuel G' S' hd' (by omega) (by rw[dC];simp only[dH,gL];omega);refine⟨o',?_⟩;rw[gO,ct,aQ,bc rfl];have cm:dA (.n 1) (cB (m2 cz (mV 1) (m2 aw (mV 0) (mC (.int 1))))) (mV 1) [ac (.d (ao ae B)),af] ((A.filter (cov A)).map pairD)=.ok (((A.filter (cov A)).filter λp=>!decide (p∈B)).map pairD):=
   fi pairD pairD (λp=>!decide (p∈B)) _ λq _=>⟨[ac (.d (ao ae B)),ac (.d (pairD q))],rfl,bx (av rfl (av rfl rfl (j8 ae B)) (GF B q)),λ_=>rfl⟩
  rw[hp]at cm;have fl:((A.filter (cov A)).map pairD).length<=16777216:=by rw[aU];have:=gX (cov A) A;have:=GA.al;omega
  rw[aL (e':=[ac (W.d F),ac (W.d (ao ae B)),ac (W.d (aE acc)),ac (W.d (ao ae A)),ac (W.d (pairD p))])
   (bv (av (x:=.lst ((p::r).map pairD)) (eL (ρ:=[ac 1,af]) (dM (gG rfl (QN GA.nt)) rfl) fl cm) rfl (by show cQ (eo (pairD p::r.map pairD) 0)=_;rw[at0];rfl)))]
  rw[aL (e':=[ac (W.d F),ac (W.d (ao ae B)),ac (W.d (aE (acc++[p]))),ac (W.d (ao ae A)),ac (W.d (pairD p))])
   ((mJ (ds:=acc.map pairD) rfl rfl (by rw[aU];omega)).trans (by unfold aE;rw[fo];rfl))]
  rw[bv (mD (x:=.d (ao ae A)) (y:=.d (.str p.1)) (z:=.d (.str p.2)) rfl (bY (av (x:=pairD p) rfl rfl rfl)) (bY (av (x:=pairD p) rfl rfl rfl)) (T9 GA (t:=p.1) (h:=p.2) m1 m2'))];rw[aQ];show gO _ _ fuel [ac (W.d F),ac (W.d (ao ae B)),ac (W.d (aE (acc++[p]))),ac (W.d (ao ae (cj ae (bX p A)))),ac (W.d (pairD p))]=_;rw[ih,show jL ae B (n+1) A=p::jL ae B n (cj ae (bX p A))by rw[jL,hp],ot];rfl
theorem NB{ae:List Str}{A B:List Ar}(GA:Gd ae A):iq A B<=64:=c8 (gX _ _) GA.al
theorem P4{ae:List Str}{A B:List Ar}(GA:Gd ae A)(GB:Gd ae B)(S:Sm ae A B):qX [.d (ao ae A),.d (ao ae B)]=.ok (.d (aE (jL ae B (iq A B) A))):=by have hd:=NB (B:=B) GA;obtain⟨o4,lp⟩:=HC GB (ao ae A) (iq A B) A [] af 100 GA S rfl (by omega) (by simp only[gL];omega);unfold qX Gv;rw[mz];rw[show([ac (W.d (ao ae A)),ac (W.d (ao ae B))]++bZ (5-2) af)=[ac (W.d (ao ae A)),ac (W.d (ao ae B)),af,af,af]from rfl];rw[aL ((dr (xq ((call2 rfl rfl (UP GA GB)).trans (by rw[xV.mpr S])))).trans rfl)];rw[aL (e':=[ac (W.d (ao ae A)),ac (W.d (ao ae B)),ac (W.d (aE [])),af,af]) (bv (j6 _))];rw[aL (e':=[ac (W.d (ao ae A)),ac (W.d (ao ae B)),ac (W.d (aE [])),ac (W.d (ao ae A)),af]) (bv rfl)];unfold qt;rw[aL lp];rfl
def Wk(ae:List Str)(B:List Ar):List Ar->List Ar->Prop
 |[],L=>cj ae L=B
 |p::r,L=>p∈L/\cov L p=true/\Wk ae B r (bX p L)
theorem Og{A L:List Ar}(h:∀q,q∈L↔q∈A)(p:Ar):cov L p=cov A p:=by rw[iQ];show fW (bQ L p.2) (bQ L p.1++[p.1])=true↔fW (bQ A p.2) (bQ A p.1++[p.1])=true;rw[pA,pA];exact⟨λk x=>by rw[<- h,<- h];exact k x,λk x=>by rw[h,h];exact k x⟩
theorem HY{ae:List Str}{B:List Ar}(GB:Gd ae B):∀(n:Nat) (A L:List Ar),Gd ae A->Sm ae A B->iq A B=n->(∀q,q∈L↔q∈A)->Wk ae B (jL ae B n A) L/\(jL ae B n A).length=n
 |0,A,L,GA,S,hd,hm=>by
  obtain rfl:=S.Ao GA GB hd;refine⟨?_,rfl⟩;show cj ae L=A;exact(GW λq _ _=>hm q).trans GA.cj
 |n+1,A,L,GA,S,hd,hm=>by
  obtain⟨p,r,hp,m1,m2',m3⟩:=S.pick GA GB hd;have hd':iq (cj ae (bX p A)) B=n:=by have:=S.wS GA GB m1 m3;omega
  have mL:=(hm p).mpr m1;obtain⟨w,l⟩:=HY GB n (cj ae (bX p A)) (bX p L) (GA.bX (t:=p.1) (h:=p.2) m1 m2') (S.turn GA m1 m2') hd' λq=>by
   rw[GA.uV m1,pB mL,hm]
  rw[show jL ae B (n+1) A=p::jL ae B n (cj ae (bX p A))by rw[jL,hp]];exact⟨⟨mL,(Og hm p).trans m2',w⟩,by rw[dH,l]⟩
theorem Lk.bX{ae:List Str}{L:List Ar}(G:Lk ae L){p:Ar}(hp:p∈L)(hc:cov L p=true):Lk ae (Mr.bX p L):=by
 have inn:∀q∈Mr.bX p L,q.1∈ae/\q.2∈ae:=λq hq=>by
  rcases(pB hp).mp hq with ⟨h1,_⟩|rfl
  ·exact G.inn q h1
  ·exact⟨(G.inn _ hp).2,(G.inn _ hp).1⟩
 refine⟨G.nd,G.le,by rw[Jr];exact G.al,inn,uO (ae:=ae) inn ?_,?_⟩
 ·have:=BC G.nd G.inn G.rk (t:=p.1) (h:=p.2) hp;rw[show fW (bQ L p.2) (bQ L p.1++[p.1])=true from hc]at this;have:=this.symm;rw[jA,rF]at this;exact this.1
 ·unfold Mr.bX;refine iN.mpr (G.nda.imp_of_mem λ{a b} ha hb ne z=>?_);have th:∀q∈L,q≠(p.2,p.1):=λq hq e=>by
   obtain⟨k,hk⟩:=G.rk;have h1:=hk _ hp;have h2:=hk _ hq;rw[e]at h2;simp only at h2;omega
  by_cases e1:a=p<;>by_cases e2:b=p
  ·exact ne (e1.trans e2.symm)
  ·rw[bc e1,ba e2,e1]at z;exact th b hb z.symm
  ·rw[ba e1,bc e2,e2]at z;exact th a ha z
  ·rw[ba e1,ba e2]at z;exact ne z
end Mr
namespace Mr
open PySem Mi
open My (words fX hU)
theorem iV.gd{ae:List Str}{A:List Ix}{r:Nat->Int}(N:iV ae A r)(hw:∀x∈ae,j9 [.d (.str x)]=.ok (.d (.bl true))):Gd ae (A.map (arrOf ae)):=by
 refine⟨N.nd,N.pos,N.le,N.bC.rk,?_,hw⟩;rw[<- xi]
 congr 1
 refine(EF (λp:Ix=>p.1*8+p.2) _ _ ?_ ?_ λp=>?_)
 ·unfold ixs;have h8:=N.le;rw[rh];refine⟨λi _=>?_,?_⟩
  ·rw[iN];refine(Dt _ pO).imp λ{a b} h=>?_;show i*8+a<i*8+b;omega
  ·refine pO.imp λ{a b} h=>?_;intro x hx y hy;obtain⟨j,hj,rfl⟩:=cL.mp hx;obtain⟨j',_,rfl⟩:=cL.mp hy;have:=fb.mp (cx.mp hj).1;show a*8+j<b*8+j';omega
 ·refine N.cj.imp_of_mem λ{p q} hp hq h=>?_;have h1:=(N.all p hp).2.1;have h8:=N.le;rcases h with h|⟨e,h⟩
  ·show p.1*8+p.2<q.1*8+q.2;omega
  ·show p.1*8+p.2<q.1*8+q.2;omega
 ·rw[wE];constructor
  ·rintro⟨h1,h2,h3⟩;obtain⟨q,hq,e⟩:=cL.mp h3;have e1:=kR N.nd (N.all q hq).1 h1 (congrArg me e);have e2:=kR N.nd (N.all q hq).2.1 h2 (congrArg mi e);have:q=p:=lq e1 e2;rw[<- this];exact hq
  ·exactλh=>⟨(N.all p h).1,(N.all p h).2.1,cL.mpr ⟨p,h,rfl⟩⟩
end Mr
namespace Mr
open PySem Mi
open My (words fX hU)
end Mr
namespace Mr
open PySem Mi
def rk(r:List Str):List Ky:=r.map fu
abbrev Ai:=List (Ar×D)
def wP(told:Ai):List Ar:=told.map (·.1)
theorem Q0(n:Nat)(b:S)(a0 a1 a2 a3 a4:W):ee 5 n b [a0,a1,a2,a3,a4]=(b ([ac a0,ac a1,ac a2,ac a3,ac a4]++bZ (n-5) af)).bind nN:=aK rfl
end Mr
namespace Mr
open PySem Mi
structure Dc(ae:List Str)(A:List Ar)(KT KC:List (List Str)):Prop where
 kt:∀a∈ae,∀b∈ae,a≠b->([a,b]∈KT↔tie A a b=true)
 ktm:∀k∈KT,∃a b,k=[a,b]/\a∈ae/\b∈ae/\a≠b/\tie A a b=true
 kc:∀a∈ae,∀m∈ae,∀b∈ae,[a,m,b]∈KC↔a≠b/\ek A a m b=true
def OW(t h s:Str)(x:List Str):D:=.tup [.str t,.str h,.str s,.tup (x.map D.str)]
inductive Rl(ae:List Str)(A P:List Ar)(t h:Str):Str->List Str->Prop
 |Wu {z:Str} (zn:z∈ae) (ne:t≠z) (c:ek A t h z=true):Rl ae A P t h "corner" [z]
 |on {z:Str} (zn:z∈ae) (ne:z≠h) (nt:tie A z h=false) (nc:ek A z t h=false) (p:(z,t)∈P):Rl ae A P t h "on" [z]
 |over {z:Str} (zn:z∈ae) (p:(t,z)∈P) (q:(z,h)∈P):Rl ae A P t h "over" [z]
 |both {z w:Str} (zn:z∈ae) (wn:w∈ae) (ne:z≠w) (nt:tie A z w=false) (nc:ek A z t w=false) (t1:tie A z t=true) (t2:tie A w t=true) (p:(z,h)∈P) (q:(w,h)∈P):Rl ae A P t h "both" [z,w]
section
variable{ae:List Str}{A:List Ar}{KT KC:List (List Str)}(N:Nt ae A)(D':Dc ae A KT KC){told:Ai}(ht:∀p∈wP told,p∈A){t h:Str}(tn:t∈ae)(hn:h∈ae)(th:tie A t h=true)
theorem Iz{A:List Ar}(R:Rk A){a b:Str}(h:(a,b)∈A):(b,a)∉A:=λz=>by
 obtain⟨r,hr⟩:=R;have h1:=hr _ h;have h2:=hr _ z;simp only at h1 h2;omega
include N D' tn hn th in
include N D' ht tn hn th in
include N ht th in
include N D' ht tn hn th in
end
end Mr
namespace Mr
open PySem Mi
theorem Py{f:Fn}{a b c d g:EW}{e:Mi.Env}{x y z u v:W}{o:D}(h1:a e=.ok x)(h2:b e=.ok y)(h3:c e=.ok z)(h4:d e=.ok u)(h5:g e=.ok v)(hf:f [x,y,z,u,v]=.ok (.d o)):aR f [a,b,c,d,g] e=.ok o:=by unfold aR jr;rw[d8,h1,aQ,d8,h2,aQ,d8,h3,aQ,d8,h4,aQ,d8,h5];simp only[aQ,d8,hf,pF]
end Mr
namespace Mr
open PySem Mi
structure Gt(ae:List Str)(A:List Ar)(told:Ai):Prop where
 nd:(wP told).Nodup
 sub:∀p∈wP told,p∈A
 ord:∀i q,told[i]? = ac q->∃s x,q.2=OW q.1.1 q.1.2 s x/\Rl ae A (wP (told.take i)) q.1.1 q.1.2 s x
end Mr
namespace Mr
open PySem Mi
theorem vG{ae:List Str}(nd:ae.Nodup){a b:Str}(h:(a,b)∈prs ae):a∈ae/\b∈ae/\a≠b:=by obtain⟨k,hk,rfl,hb⟩:=k5.mp h;exact⟨kA hk,(xg nd hk hb).1,(xg nd hk hb).2⟩
theorem jp{ae:List Str}{A:List Ar}{p:Ar}:p∈cP ae A↔p∈prs ae/\tie A p.1 p.2=true:=cx
def Av(T P:List Ar):List Ar:=T.filter λp=>!decide (p∈P) && !decide ((p.2,p.1)∈P)
end Mr
namespace Mr
open PySem Mi
end Mr
namespace Mr
open PySem Mi
end Mr
namespace Mr
open PySem Mi
def oQ(ae:List Str)(p:Ar):Ar:=if p∈prs ae then p else(p.2,p.1)
theorem Tv{ae:List Str}(nd:ae.Nodup){a b:Str}(h:(a,b)∈prs ae):(b,a)∉prs ae:=λz=>by
 obtain⟨k,hk,rfl,hb⟩:=k5.mp h;obtain⟨j,hj,rfl,ha⟩:=k5.mp z;have h1:=(BJ nd hb).1;have h2:=(BJ nd ha).1;rw[ql nd hj]at h1;rw[ql nd hk]at h2;omega
theorem N1{ae:List Str}{A:List Ar}(R:Rk A){p q:Ar}(hp:p∈A)(hq:q∈A)(h:oQ ae p=oQ ae q):p=q:=by
 unfold oQ at h;split at h<;>split at h
 ·exact h
 ·subst h;exact absurd hp (Iz R (a:=q.1) (b:=q.2) hq)
 ·subst h;exact absurd hq (Iz R (a:=p.1) (b:=p.2) hp)
 ·rw[Prod.ext_iff]at h;exact lq h.2 h.1
theorem FE{ae:List Str}{A:List Ar}(N:Nt ae A){P:List Ar}(sub:∀p∈P,p∈A)(q:Ar):q∈P.map (oQ ae)↔q∈cP ae A/\(q∈P\/(q.2,q.1)∈P):=by
 constructor
 ·intro h;obtain⟨p,hp,rfl⟩:=cL.mp h;obtain⟨n1,n2⟩:=N.inn p (sub p hp);have ne:p.1≠p.2:=λz=>by
   obtain⟨r,hr⟩:=N.rk;have:=hr p (sub p hp);rw[z]at this;omega
  unfold oQ;split
  ·rename_i hm;exact⟨jp.mpr ⟨hm,eM.mpr (.inl (sub p hp))⟩,.inl hp⟩
  ·rename_i hm;have:(p.2,p.1)∈prs ae:=(qQ n1 n2 ne).resolve_left hm;exact⟨jp.mpr ⟨this,eM.mpr (.inr (sub p hp))⟩,.inr hp⟩
 ·rintro⟨h1,h2|h2⟩
  ·exact cL.mpr ⟨q,h2,by unfold oQ;rw[bc (jp.mp h1).1]⟩
  ·exact cL.mpr ⟨(q.2,q.1),h2,by unfold oQ;rw[ba (Tv N.nd (a:=q.1) (b:=q.2) (jp.mp h1).1)]⟩
theorem FL{ae:List Str}(nd:ae.Nodup)(A:List Ar):(cP ae A).Nodup:=(G9 nd).filter _
theorem GU{ae:List Str}{A P:List Ar}(R:Rk A)(nd:P.Nodup)(sub:∀p∈P,p∈A):(P.map (oQ ae)).Nodup:=iN.mpr (nd.imp_of_mem λ{p q} hp hq ne e=>ne (N1 R (sub p hp) (sub q hq) e))
theorem Od{ae:List Str}{A P:List Ar}(G:Gd ae A)(nd:P.Nodup)(sub:∀p∈P,p∈A):(cj ae P).length=P.length:=(qf (xx G.nd G.le P) nd λp=>by
 rw[pe];exact⟨λh=>h.1,λh=>⟨h,G.inn p (sub p h)⟩⟩).length_eq
theorem F4{ae:List Str}{A P:List Ar}(G:Gd ae A)(nd:P.Nodup)(sub:∀p∈P,p∈A):(cj ae P).length+(Av (cP ae A) P).length=A.length:=by
 have a1:A.length=(cP ae A).length:=by
  have:=(qf (GU (ae:=ae) G.rk G.nodup λp h=>h) (FL G.nd A) λq=>by
   rw[FE G.nt (λp h=>h) q];exact⟨λh=>h.1,λh=>⟨h,eM.mp (jp.mp h).2⟩⟩).length_eq
  rw[aU]at this;exact this
 have a2:P.length=((cP ae A).filter λp=>decide (p∈P)||decide ((p.2,p.1)∈P)).length:=by
  have:=(qf (m:=(cP ae A).filter λp=>decide (p∈P)||decide ((p.2,p.1)∈P)) (GU (ae:=ae) G.rk nd sub) ((FL G.nd A).filter _) λq=>by
   rw[FE G.nt sub q,cx,yY,i7,i7]).length_eq
  rw[aU]at this;exact this
 have a3:=Od G nd sub;have a4:∀T:List Ar,(T.filter λp=>decide (p∈P)||decide ((p.2,p.1)∈P)).length+(Av T P).length=T.length:=λT=>by
  unfold Av
  induction T with
  |nil=>rfl
  |cons x r ih=>
   rw[List.filter_cons,List.filter_cons];by_cases h1:x∈P<;>by_cases h2:(x.2,x.1)∈P<;>simp[h1,h2]<;>omega
 have:=a4 (cP ae A);omega
end Mr
namespace Mr
open PySem Mi
theorem JC(ag:List Ar)(p:Ar):b8 (pairD p) (dg ag)=.ok (.bl (decide (p∈ag))):=F9 ag p
end Mr
namespace Mr
open PySem Mi
section
variable{ae:List Str}{A L:List Ar}{c n:Int}
abbrev inB:S:=(aD (aS 8 (mN mQ [(m2 a9 (bV [ac 6,af,af] (br (mV 3)) (.t [1,2]) (cB (m2 bM (mV 2) (mV 0))) (mV 1)) (mN b9 [(mV 6)]))]))
 (bp (cB (m2 bM (mV 8) (mN mQ [(bV [ac 7,af,af] (br (mV 3)) (.t [1,2]) (cB (m2 bM (mV 2) (mV 0))) (mV 1))])))
 (dI 5 (mN dTup [(mV 6),(mV 7)]))
 bz))
end
end Mr
namespace Mr
open PySem Mi
open My (words fX hU)
end Mr
namespace Mr
open PySem Mi
open My (words fX hU)
theorem SI{x:D}(h:x.dep<=16):d6 x x=.ok (.bl false):=by unfold d6;rw[aK h,L2.yl];rfl
end Mr
namespace Mr
open PySem Mi
end Mr
namespace Mr
open PySem Mi
open My (words fX hU)
end Mr
namespace Mr
open PySem Mi
open PySem.Builtin PySem.Builtin.Str
def cl(x:Str):List Nat:=x.cps.toList
end Mr
namespace Mr
open PySem Mi
open My (words fX hU)
def Wd(x:Str):Prop:=∃l,x=S' l/\fX l
theorem Wd.ok{x:Str}(h:Wd x):j9 [.d (.str x)]=.ok (.d (.bl true)):=by obtain⟨l,rfl,w⟩:=h;exact Sn w
def Rr(c:Str)(p:Ar):Str:=Tj [p.1,c,p.2]
def UB(ae:List Str)(xs:List Ar):List Str:=ae++[(":" : Str)]++xs.map (Rr ">")
def tx(ae:List Str)(xs:List Ar):Str:=l9 " " (UB ae xs)
def nt(ae:List Str):List Nat:=ae.flatMap λn=>cl n++[32]
theorem Gz{α:Type}{l:List α}{i:Nat}{x:α}(h:l[i]? = ac x):l.take (i+1)=l.take i++[x]:=by rw[CQ,h];rfl
end Mr
namespace Mr
open PySem Mi
open My (words fX hU)
end Mr
namespace Vp
section
variable{α:Type}
inductive Up(A:α->α->Prop):α->α->Prop
 |refl (x:α):Up A x x
 |step {x y z:α}:A x y->Up A y z->Up A x z
def Hi(A:α->α->Prop)(T:α->Prop)(x:α):Prop:=∃y,T y/\Up A x y
theorem Hi.of{A:α->α->Prop}{T:α->Prop}{x:α}(h:T x):Hi A T x:=⟨x,h,.refl x⟩
theorem Hi.up{A:α->α->Prop}{T:α->Prop}{x y:α}(a:A x y)(h:Hi A T y):Hi A T x:=let ⟨z,t,u⟩:=h;⟨z,t,.step a u⟩
theorem Hi.ind{A:α->α->Prop}{T P:α->Prop}(h0:∀x,T x->P x)(h1:∀x y,A x y->Hi A T y->P y->P x){x:α}(h:Hi A T x):P x:=by
 obtain⟨z,t,u⟩:=h
 induction u with
 |refl x=>exact h0 x t
 |step a u ih=>exact h1 _ _ a ⟨_,t,u⟩ (ih t)
theorem Up.rank{A:α->α->Prop}{r:α->Int}(hr:∀x y,A x y->r x<r y){x y:α}(h:Up A x y):r x<=r y:=by
 induction h with
 |refl=>exact v6 _
 |step a _ ih=>have:=hr _ _ a;omega
def fam(A:α->α->Prop)(n u:α):Prop:=u=n\/A u n
def kh(A:α->α->Prop)(U:α->Prop)(u v:α):Prop:=∃n,U n/\fam A n u/\fam A n v
inductive Met(adj:α->α->Prop)(S:α->Prop)(i:α):α->Prop
 |base:Met adj S i i
 |step {u v:α}:Met adj S i u->adj u v->¬ S v->Met adj S i v
theorem Met.mono{adj MJ:α->α->Prop}{S:α->Prop}{i j:α}(h:∀u v,adj u v->MJ u v)(m:Met adj S i j):Met MJ S i j:=by
 induction m with
 |base=>exact .base
 |step _ a s ih=>exact .step ih (h _ _ a) s
def Tg(i j:α)(S:α->Prop)(x:α):Prop:=x=i\/x=j\/S x
def fR(A:α->α->Prop)(i j:α)(S:α->Prop):Prop:=Met (kh A (Hi A (Tg i j S))) S i j
structure kG(A B:α->α->Prop)(x y:α):Prop where
 ne:x≠y
 a:A x y
 cov:∀z,A z y↔z=x\/A z x
 nx:¬ A x x
 b:∀u v,B u v↔(A u v/\¬ (u=x/\v=y))\/(u=y/\v=x)
section
variable{A B:α->α->Prop}{x y:α}(F:kG A B x y){T:α->Prop}
include F
theorem kG.hi{n:α}(h:Hi A T n):Hi B T n\/(n=x/\Hi B T y):=by
 refine h.ind (P:=λn=>Hi B T n\/(n=x/\Hi B T y)) (λz t=>.inl (.of t)) λn m a hm ih=>?_;by_cases e:n=x/\m=y
 ·obtain⟨rfl,rfl⟩:=e;rcases ih with z|⟨z,_⟩
  ·exact .inr ⟨rfl,z⟩
  ·exact absurd z.symm F.ne
 ·have b:B n m:=(F.b n m).mpr (.inl ⟨a,e⟩);rcases ih with z|⟨z,w⟩
  ·exact .inl (.up b z)
  ·subst z;have ay:A n y:=(F.cov n).mpr (.inr a);refine .inl (.up ((F.b n y).mpr (.inl ⟨ay,λq=>?_⟩)) w);exact F.nx (by rw[q.1]at a;exact a)
theorem kG.wx{n u:α}(h1:n≠x)(h2:n≠y)(h:fam A n u):fam B n u:=by
 rcases h with z|z
 ·exact .inl z
 ·exact .inr ((F.b u n).mpr (.inl ⟨z,λq=>h2 q.2⟩))
theorem kG.yf{u:α}:fam A y u↔u=y\/u=x\/A u x:=by unfold fam;rw[F.cov u]
theorem kG.wq{u:α}(h:fam A y u):fam B x u:=by
 rcases F.yf.mp h with z|z|z
 ·exact .inr ((F.b u x).mpr (.inr ⟨z,rfl⟩))
 ·exact .inl z
 ·exact .inr ((F.b u x).mpr (.inl ⟨z,λq=>F.nx (by rw[q.1]at z;exact z)⟩))
theorem kG.x4{u:α}(h:fam A x u):fam A y u:=by
 rcases h with z|z
 ·exact F.yf.mpr (.inr (.inl z))
 ·exact F.yf.mpr (.inr (.inr z))
theorem kG.Il{u:α}(hu:u≠x)(h:fam A y u):fam B y u:=by
 rcases F.yf.mp h with z|z|z
 ·exact .inl z
 ·exact absurd z hu
 ·exact .inr ((F.b u y).mpr (.inl ⟨(F.cov u).mpr (.inr z),λq=>hu q.1⟩))
theorem kG.con{i j:α}{S:α->Prop}(h:fR A i j S):fR B i j S:=by
 unfold fR at h ⊢;obtain⟨T,hT⟩ : ∃T,T=Tg i j S:=⟨_,rfl⟩;rw[<- hT]at h ⊢;have hi:Hi B T i:=.of (by rw[hT];exact .inl rfl);have hj:Hi B T j:=.of (by rw[hT];exact .inr (.inl rfl));have up:∀{n},n≠x->Hi A T n->Hi B T n:=λhn h=>(F.hi h).resolve_right λq=>hn q.1;by_cases hx:Hi B T x
 ·refine h.mono λu v ⟨n,hn,f1,f2⟩=>?_;by_cases e1:n=y
  ·subst e1;exact⟨x,hx,F.wq f1,F.wq f2⟩
  ·by_cases e2:n=x
   ·subst e2;exact⟨_,hx,F.wq (F.x4 f1),F.wq (F.x4 f2)⟩
   ·exact⟨n,up e2 hn,F.wx e2 e1 f1,F.wx e2 e1 f2⟩
 ·have key:∀v,Met (kh A (Hi A T)) S i v->(v≠x->Met (kh B (Hi B T)) S i v)/\(v=x->∃u,fam B y u/\Met (kh B (Hi B T)) S i u):=λv m=>by
   induction m with
   |base=>exact⟨λ_=>.base,λq=>absurd (by rw[<- q];exact hi) hx⟩
   | @step u v mu a sv ih=>
    obtain⟨n,hn,f1,f2⟩:=a;by_cases e:n=x\/n=y
    ·have hy:Hi B T y:=by
      rcases e with rfl|rfl
      ·rcases F.hi hn with z|z
       ·exact absurd z hx
       ·exact z.2
      ·exact up F.ne.symm hn
     have g1:fam A y u:=e.elim (λz=>F.x4 (z ▸ f1)) λz=>z ▸ f1;have g2:fam A y v:=e.elim (λz=>F.x4 (z ▸ f2)) λz=>z ▸ f2;obtain⟨w,fw,mw⟩ : ∃w,fam B y w/\Met (kh B (Hi B T)) S i w:=by
      by_cases eu:u=x
      ·exact ih.2 eu
      ·exact⟨u,F.Il eu g1,ih.1 eu⟩
     refine⟨λev=>.step mw ⟨y,hy,fw,F.Il ev g2⟩ sv,λ_=>⟨w,fw,mw⟩⟩
    ·have e1:n≠x:=λz=>e (.inl z);have e2:n≠y:=λz=>e (.inr z);have hb:=up e1 hn;have lz:∀w,fam A n w->w≠x:=λw fw q=>by
      subst q;rcases fw with z|z
      ·exact e1 z.symm
      ·exact hx (.up ((F.b _ n).mpr (.inl ⟨z,λq=>e2 q.2⟩)) hb)
     exact⟨λ_=>.step (ih.1 (lz u f1)) ⟨n,hb,F.wx e1 e2 f1,F.wx e1 e2 f2⟩ sv,λq=>absurd q (lz v f2)⟩
  exact(key j h).1 λq=>hx (by rw[<- q];exact hj)
theorem kG.back(ny:¬ A y y)(na:¬ A y x):kG B A y x:=by
 refine⟨F.ne.symm,(F.b y x).mpr (.inr ⟨rfl,rfl⟩),λz=>?_,λq=>?_,λu v=>?_⟩
 ·rw[F.b,F.b,F.cov];constructor
  ·rintro(⟨h,_⟩|⟨h,_⟩)
   ·exact .inr (.inl ⟨.inr h,λq=>F.nx (by rw[q.1]at h;exact h)⟩)
   ·exact .inl h
  ·rintro(h|⟨h,k⟩|⟨_,h⟩)
   ·exact .inr ⟨h,rfl⟩
   ·rcases h with h|h
    ·exact absurd ⟨h,rfl⟩ k
    ·exact .inl ⟨h,λq=>F.ne q.2⟩
   ·exact absurd h.symm F.ne
 ·rcases(F.b y y).mp q with h|h
  ·exact ny h.1
  ·exact F.ne h.2.symm
 ·rw[F.b];constructor
  ·intro h;by_cases e:u=x/\v=y
   ·exact .inr e
   ·exact .inl ⟨.inl ⟨h,e⟩,λq=>na (by rw[q.1,q.2]at h;exact h)⟩
  ·rintro(⟨h|h,k⟩|⟨h,k⟩)
   ·exact h.1
   ·exact absurd h k
   ·rw[h,k];exact F.a
end
section
variable{A:α->α->Prop}{r:α->Int}(hr:∀x y,A x y->r x<r y){i j:α}
theorem Ui{S:α->Prop}(hj:¬ S j)(h:A i j\/A j i):fR A i j S:=by
 refine .step .base ?_ hj;rcases h with h|h
 ·exact⟨j,.of (.inr (.inl rfl)),.inr h,.inl rfl⟩
 ·exact⟨i,.of (.inl rfl),.inl rfl,.inr h⟩
def Ab(A:α->α->Prop)(i j z:α):Prop:=z≠i/\z≠j/\Hi A (λw=>w=i\/w=j) z
theorem Bm{z:α}(h:Hi A (Tg i j (Ab A i j)) z):Hi A (λw=>w=i\/w=j) z:=by
 refine h.ind (λx t=>?_) λx y a _ k=>.up a k;rcases t with t|t|t
 ·exact .of (.inl t)
 ·exact .of (.inr t)
 ·exact t.2.2
include hr in
theorem Jf(ij:i≠j)(n1:¬ A i j)(n2:¬ A j i):¬ fR A i j (Ab A i j):=λh=>by
 have key:∀v,Met (kh A (Hi A (Tg i j (Ab A i j)))) (Ab A i j) i v->v=i:=λv m=>by
  induction m with
  |base=>rfl
  | @step u v mu a sv ih=>
   subst ih;obtain⟨n,hn,f1,f2⟩:=a;have hv:Hi A (λw=>w=u\/w=j) v:=by
    rcases f2 with z|z
    ·rw[z];exact Bm hn
    ·exact .up z (Bm hn)
   by_cases e1:v=u
   ·exact e1
   ·by_cases e2:v=j
    ·subst e2;rcases f1 with z|z
     ·rcases f2 with w|w
      ·exact absurd (z.trans w.symm) ij
      ·exact absurd (by rw[z];exact w) n2
     ·rcases f2 with w|w
      ·exact absurd (by rw[w];exact z) n1
      ·obtain⟨q,hq,up⟩:=Bm hn;have r1:=hr _ _ z;have r2:=hr _ _ w;have r3:=up.rank hr;rcases hq with rfl|rfl<;>omega
    ·exact absurd ⟨e1,e2,hv⟩ sv
 exact ij (key j h).symm
include hr in
theorem Vl{m:α}(h1:A i m)(h2:A j m):¬ Ab A i j m:=λ⟨_,_,q,hq,up⟩=>by
 have r1:=hr _ _ h1;have r2:=hr _ _ h2;have r3:=up.rank hr;rcases hq with rfl|rfl<;>omega
theorem Sf{S:α->Prop}{m:α}(hm:¬ S m)(hj:¬ S j)(t1:A i m\/A m i)(t2:A j m\/A m j)(h:A m i\/A m j):fR A i j S:=by
 have um:Hi A (Tg i j S) m:=by
  rcases h with h|h
  ·exact .up h (.of (.inl rfl))
  ·exact .up h (.of (.inr (.inl rfl)))
 have a1:kh A (Hi A (Tg i j S)) i m:=by
  rcases t1 with t|t
  ·exact⟨m,um,.inr t,.inl rfl⟩
  ·exact⟨i,.of (.inl rfl),.inl rfl,.inr t⟩
 have a2:kh A (Hi A (Tg i j S)) m j:=by
  rcases t2 with t|t
  ·exact⟨m,um,.inl rfl,.inr t⟩
  ·exact⟨j,.of (.inr (.inl rfl)),.inr t,.inl rfl⟩
 exact .step (.step .base a1 hm) a2 hj
end
end
end Vp
namespace Mr
open PySem Mi
open Vp
def ar(A:List Ar)(u v:Str):Prop:=(u,v)∈A
theorem ki{A:List Ar}(R:Rk A):∃r:Str->Int,∀x y,ar A x y->r x<r y:=let ⟨r,h⟩:=R;⟨r,λx y a=>h (x,y) a⟩
theorem Q5{ae:List Str}{A:List Ar}(G:Gd ae A){p:Ar}(hp:p∈A)(hc:cov A p=true):kG (ar A) (ar (cj ae (bX p A))) p.1 p.2:=by
 obtain⟨r,hr⟩:=ki G.rk;have rp:=hr p.1 p.2 hp;refine⟨λe=>by rw[e]at rp;omega,hp,λz=>?_,λz=>by have:=hr _ _ z;omega,λu v=>?_⟩
 ·have:=(pA.mp (show fW (bQ A p.2) (bQ A p.1++[p.1])=true from hc)) z;unfold ar;rw[this];exact or_comm
 ·unfold ar;rw[G.uV hp (u,v)];constructor
  ·rintro(⟨h,k⟩|h)
   ·exact .inl ⟨h,λq=>k (lq q.1 q.2)⟩
   ·exact .inr ⟨congrArg me h,congrArg mi h⟩
  ·rintro(⟨h,k⟩|⟨h,k⟩)
   ·exact .inl ⟨h,λq=>k ⟨congrArg me q,congrArg mi q⟩⟩
   ·exact .inr (lq h k)
theorem UD{ae:List Str}{A:List Ar}(G:Gd ae A){p:Ar}(hp:p∈A)(hc:cov A p=true){i j:Str}{S:Str->Prop}:fR (ar A) i j S↔fR (ar (cj ae (bX p A))) i j S:=by have F:=Q5 G hp hc;obtain⟨r,hr⟩:=ki G.rk;have rp:=hr p.1 p.2 hp;exact⟨F.con,(F.back (λz=>by have:=hr _ _ z;omega) (λz=>by have:=hr _ _ z;omega)).con⟩
theorem Fj{ae:List Str}{B:List Ar}(GB:Gd ae B){i j:Str}{S:Str->Prop}:∀(n:Nat) {A:List Ar},Gd ae A->Sm ae A B->iq A B=n->(fR (ar A) i j S↔fR (ar B) i j S)
 |0,A,GA,Sa,h=>by rw[Sa.Ao GA GB h]
 |n+1,A,GA,Sa,h=>by
  obtain⟨p,hp,hc,hn⟩:=Sa.step GA GB (λe=>by rw[e,zX]at h;cases h);have hd:=Sa.wS GA GB hp hn;rw[UD GA hp hc];exact Fj GB n (GA.bX (t:=p.1) (h:=p.2) hp hc) (Sa.turn GA hp hc) (by omega)
def iC:List Str->List (List Str)
 |[]=>[[]]
 |x::r=>iC r++(iC r).map (· ++ [x])
theorem sg:∀{r l:List Str},l∈iC r->∀z∈l,z∈r
 |[],l,h,z,hz=>by rw[eD.mp h]at hz;cases hz
 |x::r,l,h,z,hz=>by
  rcases eg.mp h with h|h
  ·exact er _ (sg h z hz)
  ·obtain⟨l',hl,rfl⟩:=cL.mp h;rcases eg.mp hz with hz|hz
   ·exact er _ (sg hl z hz)
   ·rw[eD.mp hz];exact c6
theorem AN:∀{r l:List Str},r.Nodup->l∈iC r->l.Nodup
 |[],l,_,h=>by rw[eD.mp h];exact .nil
 |x::r,l,nd,h=>by
  have nd:=iO.mp nd;rcases eg.mp h with h|h
  ·exact AN nd.2 h
  ·obtain⟨l',hl,rfl⟩:=cL.mp h;refine kn.mpr ⟨AN nd.2 hl,by simp,λa ha b hb e=>?_⟩;rw[eD.mp hb]at e;exact nd.1 (e ▸ sg hl a ha)
theorem Js(p:Str->Bool):∀r:List Str,r.reverse.filter p∈iC r
 |[]=>eD.mpr rfl
 |x::r=>by
  rw[List.reverse_cons,List.filter_append];have ih:=Js p r;cases h:p x with
  |false=>
   rw[CG (by rw[h];exact dR),List.filter_nil,ko];exact jU _ ih
  |true=>
   rw[CD h,List.filter_nil];exact gW _ (List.mem_map_of_mem ih)
theorem xA:∀r:List Str,(iC r).length=2 ^ r.length
 |[]=>rfl
 |x::r=>by rw[iC,dC,aU,xA r,dH,Nat.pow_succ];omega
theorem Bz:∀{r l:List Str},l∈iC r->l.length<=r.length
 |[],l,h=>by rw[eD.mp h];exact bJ _
 |x::r,l,h=>by
  rw[dH];rcases eg.mp h with h|h
  ·have:=Bz h;omega
  ·obtain⟨l',hl,rfl⟩:=cL.mp h;have:=Bz hl;rw[dC,oq];omega
def rst(ae:List Str)(i j:Str):List Str:=ae.filter λn=>!decide (n=i) && !decide (n=j)
def nQ(ae:List Str)(i j:Str)(aC:List Str):Prop:=(i,j)∈prs ae/\aC∈iC (rst ae i j).reverse
theorem Qh{ae:List Str}{A B:List Ar}(GA:Gd ae A)(GB:Gd ae B)(h:∀i j aC,nQ ae i j aC->(fR (ar A) i j (·∈aC)↔fR (ar B) i j (·∈aC))):Sm ae A B:=by
 obtain⟨ra,hra⟩:=ki GA.rk;obtain⟨rb,hrb⟩:=ki GB.rk;have abl:∀(A:List Ar),Gd ae A->∀i j,(i,j)∈prs ae->∃aC,nQ ae i j aC/\(λz=>z∈aC)=Ab (ar A) i j:=λA G i j hp=>by
  have:=v5;have ms:=Js (λz=>@decide (Ab (ar A) i j z) (this _)) (rst ae i j).reverse;rw[List.reverse_reverse]at ms;refine⟨_,⟨hp,ms⟩,?_⟩;funext z;unfold rst;rw[cx,cx,kJ];refine propext ⟨λq=>q.2,λq=>⟨⟨?_,?_⟩,q⟩⟩
  ·obtain⟨w,hw,up⟩:=q.2.2;obtain⟨m1,m2⟩:=om hp;cases up with
   |refl=>rcases hw with rfl|rfl;exact m1;exact m2
   |step a _=>exact(G.inn _ a).1
  ·simp[q.1,q.2.1]
 have nin:∀{i j aC},nQ ae i j aC->i∉aC/\j∉aC:=λ⟨_,m⟩=>
  ⟨λz=>by have:=sg m _ z;simp[rst]at this,λz=>by have:=sg m _ z;simp[rst]at this⟩
 have ti1:∀A B:List Ar,Gd ae A->Gd ae B->(∀i j aC,nQ ae i j aC->(fR (ar A) i j (·∈aC)↔fR (ar B) i j (·∈aC)))->∀i j,(i,j)∈prs ae->tie A i j=true->tie B i j=true:=λA B GA GB h i j hp t=>by
  obtain⟨rb,hrb⟩:=ki GB.rk;obtain⟨aC,ask,e⟩:=abl B GB i j hp;refine gN λnt=>?_;rw[eM]at nt t;have c:=(h i j aC ask).mp (Ui (nin ask).2 t);rw[e]at c;exact Jf hrb (vG GA.nd hp).2.2 (λz=>nt (.inl z)) (λz=>nt (.inr z)) c
 have hs:∀i j aC,nQ ae i j aC->(fR (ar B) i j (·∈aC)↔fR (ar A) i j (·∈aC)):=λi j aC a=>(h i j aC a).symm;have ti:∀a∈ae,∀b∈ae,tie A a b=tie B a b:=λa ha b hb=>by
  by_cases e:a=b
  ·subst e;have n1:∀C:List Ar,Gd ae C->tie C a a=false:=λC G=>by
    obtain⟨r,hr⟩:=ki G.rk;rw[Df,ne_eq,eM];rintro(z|z)<;>(have:=hr _ _ z;omega)
   rw[n1 A GA,n1 B GB]
  ·rcases qQ ha hb e with hp|hp
   ·exact iQ.mpr ⟨ti1 A B GA GB h a b hp,ti1 B A GB GA hs a b hp⟩
   ·rw[pE A,pE B];exact iQ.mpr ⟨ti1 A B GA GB h b a hp,ti1 B A GB GA hs b a hp⟩
 have cr1:∀A B:List Ar,Gd ae A->Gd ae B->(∀i j aC,nQ ae i j aC->(fR (ar A) i j (·∈aC)↔fR (ar B) i j (·∈aC)))->(∀a∈ae,∀b∈ae,tie A a b=tie B a b)->∀i m j,(i,j)∈prs ae->m∈ae->ek A i m j=true->ek B i m j=true:=λA B GA GB h ti i m j hp hm c=>by
  obtain⟨ra,hra⟩:=ki GA.rk;obtain⟨m1,m2⟩:=om hp;obtain⟨c1,c2,c3,c4⟩:=oX.mp c;have nt:¬ tie B i j=true:=by
   rw[<- ti i m1 j m2,eM];rintro(z|z)
   ·exact c3 z
   ·exact c4 z
  have t1:tie B i m=true:=by rw[<- ti i m1 m hm,eM];exact .inl c1
  have t2:tie B j m=true:=by rw[<- ti j m2 m hm,eM];exact .inl c2
  obtain⟨aC,ask,e⟩:=abl A GA i j hp;refine gN λnc=>?_;have or_:ar B m i\/ar B m j:=by
   rcases eM.mp t1 with z|z
   ·rcases eM.mp t2 with w|w
    ·refine absurd (oX.mpr ⟨z,w,λq=>nt (eM.mpr (.inl q)),λq=>nt (eM.mpr (.inr q))⟩) nc
    ·exact .inr w
   ·exact .inl z
  have nm:m∉aC:=λq=>by
   have q:(λz=>z∈aC) m:=q;rw[e]at q;exact Vl hra c1 c2 q
  have cb:fR (ar B) i j (·∈aC):=Sf nm (nin ask).2 (eM.mp t1) (eM.mp t2) or_;have ca:=(h i j aC ask).mpr cb;rw[e]at ca;exact Jf hra (vG GA.nd hp).2.2 c3 c4 ca
 refine Sm.of GA.nd ti ((uF GA.nd).mpr λa ha m hm b hb ne=>?_);have ti':∀a∈ae,∀b∈ae,tie B a b=tie A a b:=λa ha b hb=>(ti a ha b hb).symm;rcases qQ ha hb ne with hp|hp
 ·exact iQ.mpr ⟨cr1 A B GA GB h ti a m b hp hm,cr1 B A GB GA hs ti' a m b hp hm⟩
 ·rw[tL A,tL B];exact iQ.mpr ⟨cr1 A B GA GB h ti b m a hp hm,cr1 B A GB GA hs ti' b m a hp hm⟩
theorem QF{ae:List Str}{A B:List Ar}(GA:Gd ae A)(GB:Gd ae B):Sm ae A B↔∀i j aC,nQ ae i j aC->(fR (ar A) i j (·∈aC)↔fR (ar B) i j (·∈aC)):=⟨λS i j aC _=>Fj GB _ GA S rfl,Qh GA GB⟩
end Mr
namespace Mr
open PySem Mi
end Mr
namespace Mr
open PySem Mi
theorem RO{ae:List Str}{ag:List Ar}{x y:Str}(hy:y∈ae):y∈wj ae ag x↔rch ag x y=true:=by unfold wj;rw[cx];exact⟨λh=>h.2,λh=>⟨hy,h⟩⟩
end Mr
namespace Mr
open PySem Mi
open My (hU)
def qB(fs:List Str)(g:Str->D):W:=.dk (fs.map λy=>((fu y:Ky),g y))
theorem KZ(g:Str->D)(y:Str):∀{fs:List Str},y∈fs->iX (fs.map λy=>((fu y:Ky),g y)) (fu y)=ac (g y)
 |[],h=>nomatch h
 |a::r,h=>by
  unfold iX;rw[cF,l5];by_cases q:a=y
  ·subst q;rw[ce rfl];rfl
  ·rw[cS (λz:(fu a:Ky)=fu y=>q (wb z))];have ih:=KZ g y (fs:=r) ((cn.mp h).resolve_left (fv q));unfold iX at ih;exact ih
theorem QZ{i:Nat}{k:E}{e:Mi.Env}{fs:List Str}{g:Str->D}{y:Str}(hk:k e=.ok (.str y))(hw:wV i e=.ok (qB fs g))(hy:y∈fs):mj i k e=.ok (g y):=by unfold mj;rw[hk,aQ,hw,aQ];show(Rs.ok (iX (fs.map λy=>((fu y:Ky),g y)) (fu y))).bind cQ=_;rw[KZ g y hy];rfl
theorem E5{m:S}{e:Mi.Env}{w:W}(h:m e=.ok (.rt w)):Ji m e=.ok (.rt w):=by unfold Ji;rw[h]
end Mr
namespace Mr
open PySem Mi
open Vp
structure GoodR(ae:List Str)(R:Str->Prop)(met:List Str):Prop where
 nd:met.Nodup
 sub:∀y∈met,y∈ae
 r:∀y∈met,R y
theorem GoodR.add{ae:List Str}{R:Str->Prop}{met more:List Str}(g:GoodR ae R met)(nd:more.Nodup)(h:∀y∈more,y∉met/\y∈ae/\R y):GoodR ae R (met++more):=by
 refine⟨kn.mpr ⟨g.nd,nd,λa ha b hb e=>(h b hb).1 (e ▸ ha)⟩,λy hy=>?_,λy hy=>?_⟩
 ·rcases eg.mp hy with z|z
  ·exact g.sub y z
  ·exact(h y z).2.1
 ·rcases eg.mp hy with z|z
  ·exact g.r y z
  ·exact(h y z).2.2
theorem GoodR.len{ae:List Str}{R:Str->Prop}{met:List Str}(g:GoodR ae R met):met.length<=ae.length:=i4 g.nd g.sub
def rc(A:List Ar)(met:List Str):Prop:=∀p∈A,p.2∈met->p.1∈met
theorem Fb{ae:List Str}{A:List Ar}(N:Nt ae A){some_:List Str}(nd:some_.Nodup)(sub:∀x∈some_,x∈ae) :
 ∃met,qM [.d (ao ae A),.d (aj some_)]=.ok (.d (aj met))/\GoodR ae (Hi (ar A) (·∈some_)) met/\∀y,y∈met↔Hi (ar A) (·∈some_) y:=by
 obtain⟨R,hR⟩ : ∃R,R=Hi (ar A) (·∈some_):=⟨_,rfl⟩;have n8:=N.le;have all:∀met,rc A met->(∀y∈some_,y∈met)->∀y,R y->y∈met:=λmet hc hs y h=>by
  rw[hR]at h;exact h.ind (λx t=>hs x t) λx y a _ ih=>hc (x,y) a ih
 have inner:∀(met:List Str) (o3 o4 o5:Option W),GoodR ae R met->(∀y∈some_,y∈met)->∃(dZ:List Str) (p4 p5:Option W),fV (.t [4,5]) (bp (cH (cB (m2 b8 (mV 5) (mV 2))) (cB (m2 cz (mV 4) (mV 2)))) (dI 2 (mV 4)) bz) (A.map pairD)
  [ac (.d (ao ae A)),ac (.d (aj some_)),ac (.d (aj met)),o3,o4,o5]=.ok (.nx [ac (.d (ao ae A)),ac (.d (aj some_)),ac (.d (aj dZ)),o3,p4,p5])/\GoodR ae R dZ/\(∀y∈some_,y∈dZ)/\(met.length<dZ.length\/(dZ=met/\rc A met)):=by
  intro met o3 o4 o5 g hs;obtain⟨e',f1,dZ,p4,p5,he,g',hs',hc⟩:=fO (tg:=.t [4,5]) (body:=(bp (cH (cB (m2 b8 (mV 5) (mV 2))) (cB (m2 cz (mV 4) (mV 2)))) (dI 2 (mV 4)) bz))
   (λi e=>∃(dZ:List Str) (o4 o5:Option W),e=[ac (.d (ao ae A)),ac (.d (aj some_)),ac (.d (aj dZ)),o3,o4,o5]/\GoodR ae R dZ/\(∀y∈some_,y∈dZ)/\(met.length<dZ.length\/(dZ=met/\∀j p,j<i->A[j]? = ac p->p.2∈met->p.1∈met))) (A.map pairD) 0 (λi d e hi ⟨m1,o4,o5,he,g1,hs1,hc⟩=>by
    subst he;rw[dS]at hc ⊢;rw[fm]at hi;obtain⟨p,hp,rfl⟩:=lh.mp hi;have hpm:=pP hp;have hl8:=g1.len;have c1:cH (cB (m2 b8 (mV 5) (mV 2))) (cB (m2 cz (mV 4) (mV 2))) [ac (.d (ao ae A)),ac (.d (aj some_)),ac (.d (aj m1)),o3,ac (.d (.str p.1)),ac (.d (.str p.2))]=.ok (decide (p.2∈m1) && !decide (p.1∈m1)):=mq (bx (av rfl rfl (pz _ _))) λ_=>bx (av rfl rfl (qe _ _));by_cases hb:p.2∈m1/\p.1∉m1
    ·rw[ce hb.1,cS hb.2]at c1;refine⟨[ac (.d (ao ae A)),ac (.d (aj some_)),ac (.d (aj m1)),o3,ac (.d (.str p.1)),ac (.d (.str p.2))],[ac (.d (ao ae A)),ac (.d (aj some_)),ac (.d (aj (m1++[p.1]))),o3,ac (.d (.str p.1)),ac (.d (.str p.2))],rfl,?_,m1++[p.1],_,_,rfl,g1.add (by simp) (λy hy=>?_),λy hy=>jU _ (hs1 y hy),.inl ?_⟩
     ·rw[gF c1,mJ (d:=.str p.1) (ds:=m1.map D.str) rfl rfl (by rw[aU];omega)];show Rs.ok (Out.nx [_,_,ac (W.d (D.lst (m1.map D.str++[.str p.1]))),_,_,_])=_;rw[TW]
     ·rw[eD.mp hy];refine⟨hb.2,(N.inn p hpm).1,?_⟩;have:=g1.r _ hb.1;rw[hR]at this ⊢;exact .up (show ar A p.1 p.2 from hpm) this
     ·rw[dC];rcases hc with h|⟨rfl,_⟩
      ·simp;omega
      ·simp
    ·have cf:(decide (p.2∈m1) && !decide (p.1∈m1))=false:=by
      by_cases h1:p.2∈m1
      ·rw[ce (gN λz=>hb ⟨h1,z⟩ : p.1∈m1)];simp
      ·rw[cS h1];rfl
     rw[cf]at c1;refine⟨[ac (.d (ao ae A)),ac (.d (aj some_)),ac (.d (aj m1)),o3,ac (.d (.str p.1)),ac (.d (.str p.2))],[ac (.d (ao ae A)),ac (.d (aj some_)),ac (.d (aj m1)),o3,ac (.d (.str p.1)),ac (.d (.str p.2))],rfl,(dr c1).trans rfl,m1,_,_,rfl,g1,hs1,?_⟩;rcases hc with h|⟨rfl,h⟩
     ·exact .inl h
     ·refine .inr ⟨rfl,λj q hj hq h1=>?_⟩;by_cases hji:j=i
      ·subst hji;rw[hp]at hq;cases hq;exact gN λz=>hb ⟨h1,z⟩
      ·exact h j q (by omega) hq h1) _ ⟨met,o4,o5,rfl,g,hs,.inr ⟨rfl,λj p h=>absurd h (vZ _)⟩⟩
  subst he;refine⟨dZ,p4,p5,f1,g',hs',?_⟩;rcases hc with h|⟨h1,h2⟩
  ·exact .inl h
  ·refine .inr ⟨h1,λp hp h=>?_⟩;obtain⟨j,hj⟩:=rj hp;exact h2 j p (by rw[dS,aU];have:=(eW.mp hj).1;omega) hj h
 obtain⟨e',f1,met,o3,o4,o5,he,g,hs,hc⟩:=fO (tg:=.n 3) (body:=(cJ (br (m2 aw (mV 0) (mC (.int 1)))) (.t [4,5]) (bp (cH (cB (m2 b8 (mV 5) (mV 2))) (cB (m2 cz (mV 4) (mV 2)))) (dI 2 (mV 4)) bz)))
  (λi e=>∃(met:List Str) (o3 o4 o5:Option W),e=[ac (.d (ao ae A)),ac (.d (aj some_)),ac (.d (aj met)),o3,o4,o5]/\GoodR ae R met/\(∀y∈some_,y∈met)/\(i<=met.length\/rc A met)) (dv 0 ((ae.length:Nat):Int)) 0 (λi d e hi ⟨met,o3,o4,o5,he,g,hs,hc⟩=>by
   subst he;rw[dS]at hc ⊢;obtain⟨dZ,p4,p5,f1,g',hs',hc'⟩:=inner met (ac (.d d)) o4 o5 g hs;refine⟨_,_,rfl,(ej (dM (av rfl rfl (j8 ae A)) rfl)).trans f1,dZ,ac (.d d),p4,p5,rfl,g',hs',?_⟩;rcases hc' with h|⟨rfl,h⟩
   ·rcases hc with h1|h1
    ·exact .inl (by omega)
    ·exfalso;have hxm:∀y,y∈dZ->y∈met:=λy hy=>all met h1 hs y (g'.r y hy);have:=i4 g'.nd hxm;omega
   ·exact .inr h) [ac (.d (ao ae A)),ac (.d (aj some_)),ac (.d (aj some_)),af,af,af] ⟨some_,af,af,af,rfl,⟨nd,sub,λy hy=>by rw[hR];exact .of hy⟩,λy hy=>hy,.inl (gZ _)⟩
 subst he;rw[ja,dS]at hc;have hcl:rc A met:=by
  rcases hc with h|h
  ·exactλp hp _=>N5 g.nd g.sub h _ (N.inn p hp).1
  ·exact h
 refine⟨met,?_,hR ▸ g,λy=>⟨λh=>hR ▸ g.r y h,λh=>all met hcl hs y (hR ▸ h)⟩⟩;unfold qM Ko;rw[mz];rw[show([ac (W.d (ao ae A)),ac (W.d (aj some_))]++bZ (6-2) af)=[ac (W.d (ao ae A)),ac (W.d (aj some_)),af,af,af,af]from rfl];rw[aL (e':=[ac (W.d (ao ae A)),ac (W.d (aj some_)),ac (W.d (aj some_)),af,af,af]) (bv ((dX (x:=aj some_) rfl).trans rfl))];rw[aL ((ej (gs (Pg rfl) (k9 ae.length n8))).trans f1)];rfl
noncomputable def jh (A:List Ar) (i j:Str) (aC:List Str):Bool:=@decide (fR (ar A) i j (·∈aC)) (v5 _)
theorem oD{A:List Ar}{i j:Str}{aC:List Str}:jh A i j aC=true↔fR (ar A) i j (·∈aC):=by unfold jh;exact@kJ _ (v5 _)
def fU(A:List Ar)(n:Str):List Str:=n::bQ A n
theorem wF{A:List Ar}{n u:Str}:u∈fU A n↔fam (ar A) n u:=by unfold fU fam ar;rw[cn,lA]
def xf(A:List Ar)(bf aC met:List Str):Prop:=∀n∈bf,(∃u∈fU A n,u∈met)->∀v∈fU A n,v∉aC->v∈met
theorem NP{ae:List Str}{A:List Ar}(L:Lk ae A)(n:Str):(fU A n).Nodup:=by refine iO.mpr ⟨λz=>?_,L.vH n⟩;obtain⟨r,hr⟩:=L.rk;have:=hr _ (lA.mp z);simp only at this;omega
theorem Vm{i:Nat}{k v:E}{e:Mi.Env}{fs:List Str}{g:Str->D}{y:Str}(hv:v e=.ok (g y))(hk:k e=.ok (.str y))(hw:wV i e=.ok (qB fs g))(hn:y∉fs)(hl:fs.length<=1000):f9 i k v e=.ok (.nx (e.set i (ac (qB (fs++[y]) g)))):=by
 unfold f9;have h1:w9 (qB fs g) (.str y) (g y)=.ok (qB (fs++[y]) g):=by
  show bu ((fs.map λy=>((fu y:Ky),g y)).length<16777216) ((cQ (pL (.str y))).bind λk=>Rs.ok (W.dk (Mi.putK k (g y) (fs.map λy=>((fu y:Ky),g y)))))=_;rw[aK (by rw[aU];omega)];show Rs.ok (W.dk (Mi.putK (fu y:Ky) (g y) (fs.map λy=>((fu y:Ky),g y))))=_;unfold Mi.putK;rw[ba (by
   rw[CS,yX,yG];intro z hz;simp only[DA,i7];exactλq=>hn (wb q ▸ hz))]
  unfold qB;rw[fo];rfl
 rw[hv,aQ,hk,aQ,hw,aQ,h1];rfl
end Mr
namespace Mr
open PySem Mi
open Vp
section
variable{ae:List Str}{A:List Ar}{i j:Str}{aC bf:List Str}
abbrev fB(ae:List Str)(A:List Ar)(i j:Str)(aC bf fs:List Str)(o6 o7 o8 o9:Option W):Mi.Env:=[ac (W.d (ao ae A)),ac (W.d (.str i)),ac (W.d (.str j)),ac (W.d (aj aC)),ac (W.d (aj bf)),ac (qB fs λy=>aj (fU A y)),o6,o7,o8,o9]
abbrev xN:S:=(aD (aS 9 (bV [ac 7,af] (br (mj 5 (mV 6))) (.n 1) (cB (m2 b8 (mV 1) (mV 0))) (mV 1)))
 (bp (cB (m2 iu (mN cI [(mV 9)]) (mC (.int 0))))
 (aS 7 (m2 a9 (mV 7) (bV [ac 7,ac 3,af] (br (mj 5 (mV 6))) (.n 2) (cH (cB (m2 cz (mV 2) (mV 0))) (cB (m2 cz (mV 2) (mV 1)))) (mV 2))))
 bz))
theorem Qs(L:Lk ae A)(nd:bf.Nodup)(hl:bf.length<=8):∃o6,fV (.n 6) (f9 5 (mV 6) (m2 a9 (mN b9 [(mV 6)]) (bV [ac 6,af,af] (br (m2 aw (mV 0) (mC (.int 1)))) (.t [1,2]) (cB (m2 bM (mV 2) (mV 0))) (mV 1)))) (bf.map D.str) (fB ae A i j aC bf [] af af af af)=.ok (.nx (fB ae A i j aC bf bf o6 af af af)):=by
 have al:=L.al;obtain⟨e',f,o6,he⟩:=fO (tg:=.n 6) (body:=(f9 5 (mV 6) (m2 a9 (mN b9 [(mV 6)]) (bV [ac 6,af,af] (br (m2 aw (mV 0) (mC (.int 1)))) (.t [1,2]) (cB (m2 bM (mV 2) (mV 0))) (mV 1)))))
  (λn e=>∃o6:Option W,e=fB ae A i j aC bf (bf.take n) o6 af af af) (bf.map D.str) 0 (λn d e hi ⟨o6,he⟩=>by
   subst he;rw[dS];rw[fm]at hi;obtain⟨x,hx,rfl⟩:=lh.mp hi;have cm:dA (.t [1,2]) (cB (m2 bM (mV 2) (mV 0))) (mV 1) [ac (.d (.str x)),af,af] (A.map pairD)=.ok ((A.filter λp=>decide (p.2=x)).map λp=>D.str p.1):=
    fi pairD (λp=>D.str p.1) (λp=>decide (p.2=x)) A λp _=>⟨[ac (.d (.str x)),ac (.d (.str p.1)),ac (.d (.str p.2))],rfl,bx (av rfl rfl (vA _ _)),λ_=>rfl⟩
   have ev:m2 a9 (mN b9 [(mV 6)]) (bV [ac 6,af,af] (br (m2 aw (mV 0) (mC (.int 1)))) (.t [1,2]) (cB (m2 bM (mV 2) (mV 0))) (mV 1)) (fB ae A i j aC bf (bf.take n) (ac (.d (.str x))) af af af)=.ok (aj (fU A x)):=by
    refine(av (x:=aj [x]) (y:=aj (bQ A x)) ((dX (x:=.str x) rfl).trans (aK (by show(1:Nat)<=_;decide))) ?_ (og _ _)).trans ?_
    ·have:=eL (ρ:=[ac 6,af,af]) (e:=fB ae A i j aC bf (bf.take n) (ac (.d (.str x))) af af af) (dM (a:=m2 aw (mV 0) (mC (.int 1))) (av rfl rfl (j8 ae A)) rfl) (by rw[aU];omega) cm;rw[this];unfold aj bQ;rw[fG];rfl
    ·have el:=ph (x:=x) al;rw[aK (by rw[aU,aU];simp only[oq];omega)];unfold aj fU;rfl
   have pt:=Vm (i:=5) (k:=mV 6) (e:=fB ae A i j aC bf (bf.take n) (ac (.d (.str x))) af af af) (fs:=bf.take n) (g:=λy=>aj (fU A y)) (y:=x) ev rfl rfl (wA nd hx) (by rw[gY];omega);refine⟨fB ae A i j aC bf (bf.take n) (ac (.d (.str x))) af af af,fB ae A i j aC bf (bf.take (n+1)) (ac (.d (.str x))) af af af,rfl,pt.trans ?_,_,rfl⟩;rw[Gz hx];rfl) (fB ae A i j aC bf [] af af af af) ⟨af,rfl⟩
 subst he;rw[dS,aU,List.take_length]at f;exact⟨o6,f⟩
theorem UJ(L:Lk ae A){R:Str->Prop}(hR:R=Met (kh (ar A) (·∈bf)) (·∈aC) i)(hc:rc A bf)(h8:bf.length<=8){n:Str}(hn:n∈bf){met:List Str}(g:GoodR bf R met)(o8 o9:Option W) :
 ∃dZ o9',xN (fB ae A i j aC bf bf (ac (.d (.str n))) (ac (.d (aj met))) o8 o9)=.ok (.nx (fB ae A i j aC bf bf (ac (.d (.str n))) (ac (.d (aj dZ))) o8 o9'))/\GoodR bf R dZ/\(∀y∈met,y∈dZ)/\(met.length<dZ.length\/(dZ=met/\((∃u∈fU A n,u∈met)->∀v∈fU A n,v∉aC->v∈met))):=by
 have al:=L.al;have fl:(fU A n).length<=100:=by unfold fU;rw[dH];have:=ph (x:=n) al;omega
 have gl:=g.len;have it:∀o9,br (mj 5 (mV 6)) (fB ae A i j aC bf bf (ac (.d (.str n))) (ac (.d (aj met))) o8 o9)=.ok ((fU A n).map D.str):=λo9=>dM (x:=aj (fU A n)) (QZ (fs:=bf) (g:=λy=>aj (fU A y)) (y:=n) rfl rfl hn) rfl;have c1:dA (.n 1) (cB (m2 b8 (mV 1) (mV 0))) (mV 1) [ac (.d (aj met)),af] ((fU A n).map D.str)=.ok (((fU A n).filter λu=>decide (u∈met)).map D.str):=fi D.str D.str _ _ λu _=>⟨[ac (.d (aj met)),ac (.d (.str u))],rfl,bx (av rfl rfl (pz _ _)),λ_=>rfl⟩
 have c2:dA (.n 2) (cH (cB (m2 cz (mV 2) (mV 0))) (cB (m2 cz (mV 2) (mV 1)))) (mV 2) [ac (.d (aj met)),ac (.d (aj aC)),af] ((fU A n).map D.str)=.ok (((fU A n).filter λu=>!decide (u∈met) && !decide (u∈aC)).map D.str):=fi D.str D.str _ _ λu _=>⟨[ac (.d (aj met)),ac (.d (aj aC)),ac (.d (.str u))],rfl,mq (bx (av rfl rfl (qe _ _))) λ_=>bx (av rfl rfl (qe _ _)),λ_=>rfl⟩
 obtain⟨so,hso⟩ : ∃so,so=(fU A n).filter λu=>decide (u∈met):=⟨_,rfl⟩;obtain⟨mo,hmo⟩ : ∃mo,mo=(fU A n).filter λu=>!decide (u∈met) && !decide (u∈aC):=⟨_,rfl⟩;rw[<- hso]at c1;rw[<- hmo]at c2;have s9:aS 9 (bV [ac 7,af] (br (mj 5 (mV 6))) (.n 1) (cB (m2 b8 (mV 1) (mV 0))) (mV 1)) (fB ae A i j aC bf bf (ac (.d (.str n))) (ac (.d (aj met))) o8 o9)=.ok (.nx (fB ae A i j aC bf bf (ac (.d (.str n))) (ac (.d (aj met))) o8 (ac (.d (aj so))))):=bv (eL (ρ:=[ac 7,af]) (it o9) (by rw[aU];omega) c1);have ct:cB (m2 iu (mN cI [(mV 9)]) (mC (.int 0))) (fB ae A i j aC bf bf (ac (.d (.str n))) (ac (.d (aj met))) o8 (ac (.d (aj so))))=.ok (decide ((0:Int)<(so.length:Int))):=bx (av ((dX (x:=aj so) rfl).trans (by unfold aj;rw[oU,aU])) rfl (zF _ 0));have mml:mo.length<=100:=by rw[hmo];exact c8 (gX _ _) fl
 have s7:aS 7 (m2 a9 (mV 7) (bV [ac 7,ac 3,af] (br (mj 5 (mV 6))) (.n 2) (cH (cB (m2 cz (mV 2) (mV 0))) (cB (m2 cz (mV 2) (mV 1)))) (mV 2))) (fB ae A i j aC bf bf (ac (.d (.str n))) (ac (.d (aj met))) o8 (ac (.d (aj so))))=.ok (.nx (fB ae A i j aC bf bf (ac (.d (.str n))) (ac (.d (aj (met++mo)))) o8 (ac (.d (aj so))))):=by refine bv ((av (x:=aj met) (y:=aj mo) rfl (eL (ρ:=[ac 7,ac 3,af]) (it _) (by rw[aU];omega) c2) (og _ _)).trans ?_);rw[aK (by rw[aU,aU];omega)];unfold aj;rw[fo]
 by_cases h0:(0:Int)<(so.length:Int)
 ·rw[ce h0]at ct;obtain⟨u,hu⟩ : ∃u,u∈so:=by
   cases so with
   |nil=>simp at h0
   |cons u r=>exact⟨u,c6⟩
  rw[hso]at hu;obtain⟨hu1,hu2⟩:=cx.mp hu;have hu2:u∈met:=uJ hu2;refine⟨met++mo,ac (.d (aj so)),(aL s9).trans ((gF ct).trans s7),g.add (by rw[hmo];exact(NP L n).filter _) (λy hy=>?_),λy hy=>jU _ hy,?_⟩
  ·rw[hmo]at hy;obtain⟨y1,y2⟩:=cx.mp hy;simp only[jA,rF,qp]at y2;have fy:=wF.mp y1;refine⟨y2.1,?_,?_⟩
   ·rcases fy with z|z
    ·rw[z];exact hn
    ·exact hc (y,n) z hn
   ·have:=g.r u hu2;rw[hR]at this ⊢;exact .step this ⟨n,hn,wF.mp hu1,fy⟩ y2.2
  ·cases hmo':mo with
   |nil=>
    refine .inr ⟨by simp,λ_ v hv hvh=>gN λz=>?_⟩;have:v∈mo:=by rw[hmo];exact cx.mpr ⟨hv,by simp[z,hvh]⟩
    rw[hmo']at this;cases this
   |cons a r=>exact .inl (by simp)
 ·rw[cS h0]at ct;refine⟨met,ac (.d (aj so)),(aL s9).trans ((dr ct).trans rfl),g,λy hy=>hy,.inr ⟨rfl,λ⟨u,hu1,hu2⟩=>?_⟩⟩;have:u∈so:=by rw[hso];exact cx.mpr ⟨hu1,ce hu2⟩
  cases so with
  |nil=>cases this
  |cons a r=>simp at h0
theorem TD(L:Lk ae A){R:Str->Prop}(hR:R=Met (kh (ar A) (·∈bf)) (·∈aC) i)(hc:rc A bf)(h8:bf.length<=8){met:List Str}(g:GoodR bf R met)(o6 o8 o9:Option W) :
 ∃dZ o6' o9',fV (.n 6) xN (bf.map D.str) (fB ae A i j aC bf bf o6 (ac (.d (aj met))) o8 o9)=.ok (.nx (fB ae A i j aC bf bf o6' (ac (.d (aj dZ))) o8 o9'))/\GoodR bf R dZ/\(∀y∈met,y∈dZ)/\(met.length<dZ.length\/(dZ=met/\xf A bf aC met)):=by
 obtain⟨e',f,dZ,o6',o9',he,g',s',c'⟩:=fO (tg:=.n 6) (body:=xN)
  (λk e=>∃(dZ:List Str) (o6 o9:Option W),e=fB ae A i j aC bf bf o6 (ac (.d (aj dZ))) o8 o9/\GoodR bf R dZ/\(∀y∈met,y∈dZ)/\(met.length<dZ.length\/(dZ=met/\∀a n,a<k->bf[a]? = ac n->(∃u∈fU A n,u∈met)->∀v∈fU A n,v∉aC->v∈met))) (bf.map D.str) 0 (λk d e hi ⟨m1,o6,o9,he,g1,s1,c1⟩=>by
   subst he;rw[dS]at c1 ⊢;rw[fm]at hi;obtain⟨n,hn,rfl⟩:=lh.mp hi;obtain⟨m2,o9',st,g2,s2,c2⟩:=UJ (j:=j) L hR hc h8 (pP hn) g1 o8 o9;refine⟨fB ae A i j aC bf bf (ac (.d (.str n))) (ac (.d (aj m1))) o8 o9,_,rfl,st,m2,_,_,rfl,g2,λy hy=>s2 y (s1 y hy),?_⟩;rcases c2 with q|⟨rfl,q⟩
   ·refine .inl ?_;rcases c1 with z|⟨z,_⟩
    ·omega
    ·rw[<- z];exact q
   ·rcases c1 with z|⟨rfl,z⟩
    ·exact .inl z
    ·refine .inr ⟨rfl,λa n' ha hn'=>?_⟩;by_cases e:a=k
     ·subst e;rw[hn]at hn';cases hn';exact q
     ·exact z a n' (by omega) hn') (fB ae A i j aC bf bf o6 (ac (.d (aj met))) o8 o9) ⟨met,o6,o9,rfl,g,λy hy=>hy,.inr ⟨rfl,λa n h=>absurd h (vZ _)⟩⟩
 subst he;refine⟨dZ,o6',o9',f,g',s',?_⟩;rcases c' with z|⟨z,w⟩
 ·exact .inl z
 ·refine .inr ⟨z,λn hn=>?_⟩;obtain⟨a,ha⟩:=rj hn;exact w a n (by rw[dS,aU];exact(eW.mp ha).1) ha
theorem FY(L:Lk ae A)(hi:i∈ae)(hj:j∈ae)(ij:i≠j)(hs:∀x∈aC,x∈ae)(nd:aC.Nodup)(ni:i∉aC)(nj:j∉aC):jX [.d (ao ae A),.d (.str i),.d (.str j),.d (aj aC)]=.ok (.d (.bl (!jh A i j aC))):=by
 have ndS:([i,j]++aC).Nodup:=by
  refine kn.mpr ⟨by simp[ij],nd,λa ha b hb e=>?_⟩;subst e;rcases cn.mp ha with rfl|z
  ·exact ni hb
  ·rw[eD.mp z]at hb;exact nj hb
 have n8:=L.le;have hl8:aC.length<=8:=c8 (i4 nd hs) n8;obtain⟨bf,hh,gh,mh⟩:=Fb L.nt (some_:=[i,j]++aC) ndS (λx hx=>by
  rcases eg.mp hx with z|z
  ·rcases cn.mp z with rfl|z
   ·exact hi
   ·rw[eD.mp z];exact hj
  ·exact hs x z)
 have eT:(λx=>x∈[i,j]++aC)=Vp.Tg i j (·∈aC):=by funext x;refine propext ?_;rw[eg];unfold Vp.Tg;simp only[cn,rm,or_false,or_assoc]
 rw[eT]at mh gh;have h8:bf.length<=8:=c8 gh.len n8;have up:rc A bf:=λp hp h=>(mh p.1).mpr (.up (show ar A p.1 p.2 from hp) ((mh p.2).mp h));have eU:(λx=>x∈bf)=Hi (ar A) (Vp.Tg i j (·∈aC)):=by funext x;exact propext (mh x)
 obtain⟨R,hR⟩ : ∃R,R=Met (kh (ar A) (·∈bf)) (·∈aC) i:=⟨_,rfl⟩;have iR:R i:=by rw[hR];exact .base
 have ih:i∈bf:=(mh i).mpr (.of (.inl rfl));have all:∀met,xf A bf aC met->i∈met->∀y,R y->y∈met:=λmet hc hm y h=>by
  rw[hR]at h
  induction h with
  |base=>exact hm
  |step _ a s ih2=>
   obtain⟨n,hn,f1,f2⟩:=a;exact hc n hn ⟨_,wF.mpr f1,ih2⟩ _ (wF.mpr f2) s
 obtain⟨o6,ff⟩:=Qs (i:=i) (j:=j) (aC:=aC) L gh.nd h8;obtain⟨e',f2,met,p6,p8,p9,he,g,hm,hc⟩:=fO (tg:=.n 8) (body:=(cJ (br (mV 4)) (.n 6) xN))
  (λk e=>∃(met:List Str) (o6 o8 o9:Option W),e=fB ae A i j aC bf bf o6 (ac (.d (aj met))) o8 o9/\GoodR bf R met/\i∈met/\(k+1<=met.length\/xf A bf aC met)) (dv 0 ((bf.length:Nat):Int)) 0 (λk d e hx ⟨met,o6,o8,o9,he,g,hm,hc⟩=>by
   subst he;rw[dS]at hc ⊢;obtain⟨dZ,o6',o9',fr,g',s',c'⟩:=TD (j:=j) L hR up h8 g o6 (ac (.d d)) o9;refine⟨fB ae A i j aC bf bf o6 (ac (.d (aj met))) (ac (.d d)) o9,_,rfl,(ej (dM (a:=mV 4) (x:=aj bf) rfl rfl)).trans fr,dZ,_,_,_,rfl,g',s' i hm,?_⟩;rcases c' with z|⟨rfl,z⟩
   ·rcases hc with w|w
    ·exact .inl (by omega)
    ·exfalso;have:=i4 g'.nd (λy hy=>all met w hm y (g'.r y hy));omega
   ·exact .inr z) (fB ae A i j aC bf bf o6 (ac (.d (aj [i]))) af af) ⟨[i],_,_,_,rfl,⟨by simp,λy hy=>by rw[eD.mp hy];exact ih,λy hy=>by rw[eD.mp hy];exact iR⟩,by simp,.inl (by simp)⟩
 subst he;rw[ja,dS]at hc;have cl:xf A bf aC met:=by
  rcases hc with z|z
  ·have:=g.len;omega
  ·exact z
 have fin:decide (j∈met)=jh A i j aC:=by rw[iQ,kJ,oD];unfold fR;rw[<- eU,<- hR];exact⟨g.r j,all met cl hm j⟩
 unfold jX Ez;rw[KD];rw[show([ac (W.d (ao ae A)),ac (W.d (.str i)),ac (W.d (.str j)),ac (W.d (aj aC))]++bZ (10-4) af)=[ac (W.d (ao ae A)),ac (W.d (.str i)),ac (W.d (.str j)),ac (W.d (aj aC)),af,af,af,af,af,af]from rfl];have l2:m2 a9 (mN b9 [(mV 1),(mV 2)]) (mN ie [(mV 3)]) [ac (W.d (ao ae A)),ac (W.d (.str i)),ac (W.d (.str j)),ac (W.d (aj aC)),af,af,af,af,af,af]=.ok (aj ([i,j]++aC)):=by refine(av (x:=aj [i,j]) (y:=aj aC) (uw rfl rfl) ((dX (x:=aj aC) rfl).trans rfl) (og _ _)).trans ?_;rw[aK (by rw[aU,aU];simp only[dH,gL];omega)];rfl
 rw[aL (e':=[ac (W.d (ao ae A)),ac (W.d (.str i)),ac (W.d (.str j)),ac (W.d (aj aC)),ac (W.d (aj bf)),af,af,af,af,af]) (bv (call2 rfl (bY l2) hh))];rw[aL (e':=fB ae A i j aC bf [] af af af af) rfl];rw[aL ((ej (dM (a:=mV 4) (x:=aj bf) rfl rfl)).trans ff)];rw[aL (e':=fB ae A i j aC bf bf o6 (ac (.d (aj [i]))) af af) (bv (o0 rfl))];rw[aL ((ej (gs ((dX (x:=aj bf) rfl).trans (by unfold aj;rw[oU,aU])) (k9 bf.length h8))).trans f2)];rw[eI (bY (av rfl rfl (qe met j)))];rw[fin];rfl
end
end Mr
namespace Mr
open PySem Mi
open Vp
theorem UY{rest:List Str}(hl:rest.length<=8):pI [.d (aj rest)]=.ok (.d (.lst ((iC rest.reverse).map aj))):=by
 obtain⟨e',f,o2,he⟩:=fO (tg:=.n 2) (body:=(aS 1 (m2 a9 (mV 1) (bV [ac 2,af] (br (mV 1)) (.n 1) dz (m2 a9 (mV 1) (mN b9 [(mV 0)]))))))
  (λn e=>∃o2:Option W,e=[ac (W.d (aj rest)),ac (W.d (.lst ((iC (rest.take n).reverse).map aj))),o2]) (rest.map D.str) 0 (λn d e hi ⟨o2,he⟩=>by
   subst he;rw[dS];rw[fm]at hi;obtain⟨x,hx,rfl⟩:=lh.mp hi;have nl:=(eW.mp hx).1;obtain⟨F,hF⟩ : ∃F,F=iC (rest.take n).reverse:=⟨_,rfl⟩;have fl:F.length<=256:=by rw[hF,xA,yF,gY];have:(2:Nat) ^ min n rest.length<=2 ^ 8:=yZ (by decide) (by omega);exact this
   have sh:∀l∈F,l.length<=8:=λl h=>by
    rw[hF]at h;have:=Bz h;rw[yF,gY]at this;omega
   have cm:=fi (tg:=.n 1) (c:=dz) (a:=m2 a9 (mV 1) (mN b9 [(mV 0)])) (e:=[ac (.d (.str x)),af]) aj (λl=>aj (l++[x])) (λ_=>true) F λl hl=>⟨[ac (.d (.str x)),ac (.d (aj l))],rfl,rfl,λ_=>by
    refine(av (x:=aj l) (y:=aj [x]) rfl (o0 rfl) (og _ _)).trans ?_;have:=sh l hl;rw[aK (by rw[aU,aU,oq];omega)];unfold aj;rw[fo]⟩
   rw[ng.mpr (λ_ _=>rfl)]at cm;rw[<- hF];refine⟨[ac (W.d (aj rest)),ac (W.d (.lst (F.map aj))),ac (W.d (.str x))],[ac (W.d (aj rest)),ac (W.d (.lst ((iC (rest.take (n+1)).reverse).map aj))),ac (W.d (.str x))],rfl,bv ?_,_,rfl⟩;refine(av (x:=.lst (F.map aj)) (y:=.lst (F.map λl=>aj (l++[x]))) rfl (eL (ρ:=[ac 2,af]) (dM (a:=mV 1) (x:=.lst (F.map aj)) rfl rfl) (by rw[aU];omega) cm) (og _ _)).trans ?_;rw[aK (by rw[aU,aU];omega)];rw[Gz hx,List.reverse_append];show _=Rs.ok (D.lst ((iC (x::(rest.take n).reverse)).map aj));rw[iC,<- hF,fo,fG];rfl) [ac (W.d (aj rest)),ac (W.d (.lst [.lst []])),af] ⟨af,rfl⟩
 subst he;unfold pI KU;rw[rS];rw[show([ac (W.d (aj rest))]++bZ (3-1) af)=[ac (W.d (aj rest)),af,af]from rfl];rw[aL (e':=[ac (W.d (aj rest)),ac (W.d (.lst [.lst []])),af]) rfl];rw[aL ((ej (dM (a:=mV 0) (x:=aj rest) rfl rfl)).trans f)];rw[dS,aU,List.take_length];rfl
abbrev Qn:=Str×Str×List Str
def mR(ae:List Str)(a b:Str):List Qn:=(iC (rst ae a b).reverse).map λl=>(a,b,l)
def oF(ae:List Str)(k:Nat):List Qn:=(ae.drop (k+1)).flatMap λb=>mR ae (nth ae k) b
def qs(ae:List Str):List Qn:=(b0 ae.length).flatMap (oF ae)
theorem IS{ae:List Str}{i j:Str}{aC:List Str}:(i,j,aC)∈qs ae↔nQ ae i j aC:=by
 unfold qs nQ;rw[lb];constructor
 ·rintro⟨k,hk,h⟩;obtain⟨b,hb,h⟩:=lb.mp h;obtain⟨l,hl,e⟩:=cL.mp h;cases e;exact⟨k5.mpr ⟨k,fb.mp hk,rfl,hb⟩,hl⟩
 ·rintro⟨h,hl⟩;obtain⟨k,hk,rfl,hb⟩:=k5.mp h;exact⟨k,fb.mpr hk,lb.mpr ⟨j,hb,cL.mpr ⟨aC,hl,rfl⟩⟩⟩
noncomputable def saD (A:List Ar) (q:Qn):D:=.bl (!jh A q.1 q.2.1 q.2.2)
theorem HD(ae:List Str)(a b:Str):(rst ae a b).length<=ae.length:=gX _ _
theorem Ut{ae:List Str}(h8:ae.length<=8)(a b:Str):(mR ae a b).length<=256:=by unfold mR;rw[aU,xA,yF];have:=HD ae a b;exact yZ (n:=2) (by decide) (show _<=8 by omega)
theorem zL{ae:List Str}{A:List Ar}(L:Lk ae A):k4 [.d (ao ae A)]=.ok (.d (.lst ((qs ae).map (saD A)))):=by
 have h8:=L.le;have x0:∀o1 o2 o3 o4 o5:Option W,m2 aw (mV 0) (mC (.int 0)) [ac (W.d (ao ae A)),o1,o2,o3,o4,o5]=.ok (aP ae):=λ_ _ _ _ _=>av rfl rfl (gm ae A);have e1:∀k,(oF ae k).map (saD A)=(ae.drop (k+1)).flatMap λb=>(mR ae (nth ae k) b).map (saD A):=λk=>by unfold oF;rw[oV]
 have e0:(qs ae).map (saD A)=(b0 ae.length).flatMap λk=>(oF ae k).map (saD A):=by unfold qs;rw[oV]
 have l1:∀k,((oF ae k).map (saD A)).length<=2048:=λk=>by
  rw[e1 k];have:=oS (g:=λb=>(mR ae (nth ae k) b).map (saD A)) (m:=256) (l:=ae.drop (k+1)) λb _=>by rw[aU];exact Ut h8 _ _
  rw[jy]at this;have:(ae.length-(k+1))*256<=8*256:=LO _ (by omega);omega
 have l0:((b0 ae.length).flatMap λk=>(oF ae k).map (saD A)).length<=16384:=by have:=oS (g:=λk=>(oF ae k).map (saD A)) (m:=2048) (l:=b0 ae.length) λk _=>l1 k;rw[tU]at this;have:ae.length*2048<=8*2048:=LO _ h8;omega
 obtain⟨e',f,o2,o3,o4,o5,he⟩:=m6 (tg:=.t [2,3]) (body:=(cJ (br (dP qT (m2 aw (mV 0) (mC (.int 0))) (ac (m2 a9 (mV 2) (mC (.int 1)))) af)) (.n 4)
 (aD (aS 5 (bV [ac 3,ac 4,af] (br (m2 aw (mV 0) (mC (.int 0)))) (.n 2) (cH (cB (m2 d6 (mV 2) (mV 0))) (cB (m2 d6 (mV 2) (mV 1)))) (mV 2)))
 (aS 1 (m2 a9 (mV 1) (bV [ac 0,ac 3,ac 4,af] (br (aR pI [(wD (mV 5))])) (.n 3) dz (aR jX [(wD (mV 0)),(wD (mV 1)),(wD (mV 2)),(wD (mV 3))])))))))
  (λk:Nat=>D.tup [.int (k:Nat),.str (nth ae k)]) (λk=>(oF ae k).map (saD A))
  (λacc e=>∃o2 o3 o4 o5:Option W,e=[ac (W.d (ao ae A)),ac (W.d (.lst acc)),o2,o3,o4,o5]) (b0 ae.length) [] [ac (W.d (ao ae A)),ac (W.d (.lst [])),af,af,af,af] (by simp only[gL];omega) ⟨af,af,af,af,rfl⟩
  (λk hk acc e hl ⟨o2,o3,o4,o5,he⟩=>by
   subst he;have hk:=fb.mp hk;obtain⟨a,ha⟩ : ∃a,a=nth ae k:=⟨_,rfl⟩;have an:a∈ae:=by rw[ha];exact kA hk
   rw[e1 k]at hl ⊢;obtain⟨e2,f2,o4',o5',he2⟩:=m6 (tg:=.n 4) (body:=(aD (aS 5 (bV [ac 3,ac 4,af] (br (m2 aw (mV 0) (mC (.int 0)))) (.n 2) (cH (cB (m2 d6 (mV 2) (mV 0))) (cB (m2 d6 (mV 2) (mV 1)))) (mV 2)))
 (aS 1 (m2 a9 (mV 1) (bV [ac 0, ac 3, ac 4, af] (br (aR pI [(wD (mV 5))])) (.n 3) dz (aR jX [(wD (mV 0)), (wD (mV 1)), (wD (mV 2)), (wD (mV 3))]))))))
    D.str (λb=>(mR ae (nth ae k) b).map (saD A))
    (λacc e=>∃o4 o5:Option W,e=[ac (W.d (ao ae A)),ac (W.d (.lst acc)),ac (W.d (.int (k:Nat))),ac (W.d (.str a)),o4,o5]) (ae.drop (k+1)) acc [ac (W.d (ao ae A)),ac (W.d (.lst acc)),ac (W.d (.int (k:Nat))),ac (W.d (.str a)),o4,o5] hl ⟨o4,o5,rfl⟩
    (λb hb acc e hl ⟨o4,o5,he⟩=>by
     subst he;obtain⟨bn,ne⟩:=xg L.nd hk hb;rw[<- ha]at ne hl ⊢;obtain⟨rs,hrs⟩ : ∃rs,rs=rst ae a b:=⟨_,rfl⟩;have rsl:rs.length<=8:=by rw[hrs];exact c8 (HD ae a b) h8
     have rin:∀x∈rs,x∈ae/\x≠a/\x≠b:=λx hx=>by
      rw[hrs]at hx;unfold rst at hx;obtain⟨x1,x2⟩:=cx.mp hx;simp only[jA,rF,qp]at x2;exact⟨x1,x2.1,x2.2⟩
     have iY:rs.Nodup:=by rw[hrs];exact L.nd.filter _
     have c5:dA (.n 2) (cH (cB (m2 d6 (mV 2) (mV 0))) (cB (m2 d6 (mV 2) (mV 1)))) (mV 2) [ac (.d (.str a)),ac (.d (.str b)),af] (ae.map D.str)=.ok (rs.map D.str):=by rw[hrs];exact fi D.str D.str _ ae λx _=>⟨[ac (.d (.str a)),ac (.d (.str b)),ac (.d (.str x))],rfl,mq (bx (av rfl rfl (vN _ _))) λ_=>bx (av rfl rfl (vN _ _)),λ_=>rfl⟩
     have s5:=bv (i:=5) (eL (ρ:=[ac 3,ac 4,af]) (e:=[ac (W.d (ao ae A)),ac (W.d (.lst acc)),ac (W.d (.int (k:Nat))),ac (W.d (.str a)),ac (W.d (.str b)),o5]) (dM (x0 _ _ _ _ _) rfl) (by rw[aU];omega) c5);have cq:=fi (tg:=.n 3) (c:=dz) (a:=aR jX [(wD (mV 0)),(wD (mV 1)),(wD (mV 2)),(wD (mV 3))]) (e:=[ac (W.d (ao ae A)),ac (W.d (.str a)),ac (W.d (.str b)),af]) aj (λl=>saD A (a,b,l)) (λ_=>true) (iC rs.reverse) λl hl=>⟨[ac (W.d (ao ae A)),ac (W.d (.str a)),ac (W.d (.str b)),ac (W.d (aj l))],rfl,rfl,λ_=>by
      have lin:∀x∈l,x∈rs:=λx hx=>List.mem_reverse.mp (sg hl x hx);exact zE rfl rfl rfl rfl (FY L an bn ne (λx hx=>(rin x (lin x hx)).1) (AN (List.pairwise_reverse.mpr (iY.imp fv)) hl) (λz=>(rin a (lin a z)).2.1 rfl) (λz=>(rin b (lin b z)).2.2 rfl))⟩
     rw[ng.mpr (λ_ _=>rfl)]at cq;have eq2:(mR ae a b).map (saD A)=(iC rs.reverse).map λl=>saD A (a,b,l):=by unfold mR;rw[<- hrs,fG];rfl
     have s1:aS 1 (m2 a9 (mV 1) (bV [ac 0,ac 3,ac 4,af] (br (aR pI [(wD (mV 5))])) (.n 3) dz (aR jX [(wD (mV 0)),(wD (mV 1)),(wD (mV 2)),(wD (mV 3))]))) [ac (W.d (ao ae A)),ac (W.d (.lst acc)),ac (W.d (.int (k:Nat))),ac (W.d (.str a)),ac (W.d (.str b)),ac (W.d (aj rs))]=.ok (.nx [ac (W.d (ao ae A)),ac (W.d (.lst (acc++(mR ae a b).map (saD A)))),ac (W.d (.int (k:Nat))),ac (W.d (.str a)),ac (W.d (.str b)),ac (W.d (aj rs))]):=by
      refine bv ((av (x:=.lst acc) (y:=.lst ((mR ae a b).map (saD A))) rfl (by
       rw[eq2];exact eL (ρ:=[ac 0,ac 3,ac 4,af]) (dM (gG rfl (UY rsl)) rfl) (by
        rw[aU,xA,yF];have:(2:Nat) ^ rs.length<=2 ^ 8:=yZ (by decide) rsl;omega) cq) (og _ _)).trans (aK hl))
     exact⟨[ac (W.d (ao ae A)),ac (W.d (.lst acc)),ac (W.d (.int (k:Nat))),ac (W.d (.str a)),ac (W.d (.str b)),o5],_,rfl,(aL s5).trans s1,_,_,rfl⟩)
   subst he2;refine⟨[ac (W.d (ao ae A)),ac (W.d (.lst acc)),ac (W.d (.int (k:Nat))),ac (W.d (.str a)),o4,o5],_,by rw[ha];rfl,(ej (IT hk h8 (x0 _ _ _ _ _) rfl)).trans f2,_,_,_,_,rfl⟩)
 subst he;unfold k4 G8;rw[rS];rw[show([ac (W.d (ao ae A))]++bZ (6-1) af)=[ac (W.d (ao ae A)),af,af,af,af,af]from rfl];rw[aL (e':=[ac (W.d (ao ae A)),ac (W.d (.lst [])),af,af,af,af]) (bv (j6 _))];have hit:sF (m2 aw (mV 0) (mC (.int 0))) [ac (W.d (ao ae A)),ac (W.d (.lst [])),af,af,af,af]=.ok ((b0 ae.length).map λk=>D.tup [.int (k:Nat),.str (nth ae k)]):=by rw[<- JH];unfold sF;rw[x0];rfl
 rw[aL ((ej hit).trans f)];rw[jV,<- e0];rfl
theorem IU{α:Type}(f g:α->Bool):∀l:List α,d0 (l.map λq=>D.bl (f q)) (l.map λq=>D.bl (g q))=l.all λq=>f q==g q
 |[]=>rfl
 |x::r=>by
  rw[cF,cF,d0,IU f g r,yJ];cases f x<;>cases g x<;>rfl
theorem OG{ae:List Str}{A B:List Ar}(GA:Gd ae A)(GB:Gd ae B):bM (.lst ((qs ae).map (saD A))) (.lst ((qs ae).map (saD B)))=.ok (.bl (rV ae A B)):=by
 unfold bM;have dp:∀l:List Qn,eJ (l.map (saD A))<=1:=λl=>by
  induction l with
  |nil=>rw[jz,zD];omega
  |cons x r ih=>
   rw[cF,pK];have:(saD A x).dep=0:=rfl;omega
 rw[aK (by rw[wH];have:=dp (qs ae);omega),bP];have:=IU (λq:Qn=>!jh A q.1 q.2.1 q.2.2) (λq=>!jh B q.1 q.2.1 q.2.2) (qs ae);rw[show(qs ae).map (saD A)=(qs ae).map λq=>D.bl (!jh A q.1 q.2.1 q.2.2)from rfl,show(qs ae).map (saD B)=(qs ae).map λq=>D.bl (!jh B q.1 q.2.1 q.2.2)from rfl,this]
 congr 2
 rw[iQ,xV,rl,QF GA GB];constructor
 ·intro h i j aC a;have:=h (i,j,aC) (IS.mpr a);simp only[mO]at this;rw[<- oD,<- oD];cases hA:jh A i j aC<;>cases hB:jh B i j aC<;>simp_all
 ·intro h q hq;obtain⟨i,j,aC⟩:=q;have:=h i j aC (IS.mp hq);rw[<- oD,<- oD]at this;cases hA:jh A i j aC<;>cases hB:jh B i j aC<;>simp_all
end Mr
namespace Mr
open PySem Mi
theorem Sr{t:Int}(h0:0<=t)(h1:t<=28):∃v,vK (.int 1) (.int t)=.ok (.int v)/\mE v:=by
 refine⟨1*2 ^ t.toNat,aK ⟨h0,by omega,by decide⟩,gt ?_ ?_⟩
 ·rw[Int.one_mul];exact Int.pow_pos (by decide)
 ·rw[Int.one_mul];have:(2:Nat) ^ t.toNat<=2 ^ 28:=yZ (by decide) (by omega);have e:((2:Int) ^ t.toNat)=(((2:Nat) ^ t.toNat:Nat):Int):=by simp
  rw[e];omega
section
variable{ae:List Str}{rs:List Int}{w:Int}
abbrev jo(ae:List Str)(rs:List Int)(w:Int)(o4:Option W)(A:List Ix)(o6 o7:Option W):Mi.Env:=[ac (.d (aj ae)),ac (.d (.int w)),ac (.d (.int (ae.length:Int))),ac (.d (.lst (rs.map D.int))),o4,ac (.d (ia ae A)),o6,o7]
abbrev anyB:S:=(aD (aS 7 (m2 a9 (m2 cW (m2 de (mN gT [(mV 6),(mV 4)]) (m2 fJ (mN gT [(mV 6),(mV 4)]) (mC (.int 1)))) (mC (.int 2))) (mN k8 [(mV 6),(mV 4)])))
 (bp (cH (cB (m2 gr (m2 aw (mV 3) (mV 6)) (m2 aw (mV 3) (mV 4)))) (cB (m2 bM (m2 bL (m2 cW (mV 1) (m2 vK (mC (.int 1)) (mV 7))) (mC (.int 2))) (mC (.int 1)))))
 (dI 5 (mN dTup [(m2 aw (mV 0) (mV 6)),(m2 aw (mV 0) (mV 4))]))
 bz))
theorem TC(h8:ae.length<=8)(hrl:rs.length=ae.length){j k:Nat}(hj:j<ae.length)(hk:k<ae.length){A:List Ix}(hg:good ae.length (λi=>rs.getD i 0) A j k)(o7:Option W) :
 ∃A' o7',anyB (jo ae rs w (ac (.d (.int (k:Int)))) A (ac (.d (.int (j:Int)))) o7)=.ok (.nx (jo ae rs w (ac (.d (.int (k:Int)))) A' (ac (.d (.int (j:Int)))) o7'))/\good ae.length (λi=>rs.getD i 0) A' j (k+1):=by
 have hrx:∀i:Nat,i<ae.length->aw (.lst (rs.map D.int)) (.int (i:Int))=.ok (.int (rs.getD i 0)):=λi hi=>by
  have:=lT (cs:=rs) (i:=(i:Int)) (by omega) (by omega)
  rwa [jf]at this
 have hnx:∀i:Nat,i<ae.length->aw (aj ae) (.int (i:Int))=.ok (.str (nth ae i)):=λi hi=>by
  have:=Ah (cs:=ae) (i:=(i:Int)) (by omega) (by omega)
  rwa [jf]at this
 obtain⟨t1,t2,t3,t4⟩:=EQ (a:=max (j:Int) (k:Int)) (by omega) (by omega);obtain⟨t,ht⟩ : ∃t,t=max (j:Int) (k:Int)*(max (j:Int) (k:Int)-1)/2+min (j:Int) (k:Int):=⟨_,rfl⟩;have tb:0<=t/\t<=28:=by omega
 have hx:mN gT [(mV 6),(mV 4)] (jo ae rs w (ac (.d (.int (k:Int)))) A (ac (.d (.int (j:Int)))) o7)=.ok (.int (max (j:Int) (k:Int))):=(la rfl rfl).trans (FP _ _);have hn:mN k8 [(mV 6),(mV 4)] (jo ae rs w (ac (.d (.int (k:Int)))) A (ac (.d (.int (j:Int)))) o7)=.ok (.int (min (j:Int) (k:Int))):=(la rfl rfl).trans (EA _ _);have s7:aS 7 (m2 a9 (m2 cW (m2 de (mN gT [(mV 6),(mV 4)]) (m2 fJ (mN gT [(mV 6),(mV 4)]) (mC (.int 1)))) (mC (.int 2))) (mN k8 [(mV 6),(mV 4)])) (jo ae rs w (ac (.d (.int (k:Int)))) A (ac (.d (.int (j:Int)))) o7)=.ok (.nx (jo ae rs w (ac (.d (.int (k:Int)))) A (ac (.d (.int (j:Int)))) (ac (.d (.int t))))):=bv ((av (av (av hx (av hx rfl rfl) (aK (lu t1 t2))) rfl (aK (gt (by decide) (by decide)))) hn (sH _ _)).trans (by rw[ht]))
 obtain⟨v,hv,vd⟩:=Sr tb.1 tb.2;have ct:cH (cB (m2 gr (m2 aw (mV 3) (mV 6)) (m2 aw (mV 3) (mV 4)))) (cB (m2 bM (m2 bL (m2 cW (mV 1) (m2 vK (mC (.int 1)) (mV 7))) (mC (.int 2))) (mC (.int 1)))) (jo ae rs w (ac (.d (.int (k:Int)))) A (ac (.d (.int (j:Int)))) (ac (.d (.int t))))=.ok (decide (rs.getD j 0<rs.getD k 0)&&decide (w/v%2=1)):=
  mq (bx (av (av rfl rfl (hrx j hj)) (av rfl rfl (hrx k hk)) rfl)) λ_=>bx (av (av (av rfl (av rfl rfl hv) ((div_ii _ _).trans (aK vd))) rfl ((oJ _ _).trans (aK (by decide)))) rfl (k7 _ _))
 by_cases hb:rs.getD j 0<rs.getD k 0/\w/v%2=1
 ·rw[ce hb.1,ce hb.2]at ct;refine⟨A++[(j,k)],ac (.d (.int t)),(aL s7).trans ((gF ct).trans ?_),hg.add hj hk hb.1⟩;rw[mJ (d:=pairD (nth ae j,nth ae k)) (ds:=(A.map (arrOf ae)).map pairD) (eS (av rfl rfl (hnx j hj)) (av rfl rfl (hnx k hk))) rfl (by rw[aU,aU];have:=hg.2.2;omega)];show Rs.ok (Out.nx [_,_,_,_,_,ac (W.d (D.lst ((A.map (arrOf ae)).map pairD++[pairD (nth ae j,nth ae k)]))),_,_])=_;rw[show jo ae rs w (ac (.d (.int (k:Int)))) (A++[(j,k)]) (ac (.d (.int (j:Int)))) (ac (.d (.int t)))=[ac (.d (aj ae)),ac (.d (.int w)),ac (.d (.int (ae.length:Int))),ac (.d (.lst (rs.map D.int))),ac (.d (.int (k:Int))),ac (.d (ia ae (A++[(j,k)]))),ac (.d (.int (j:Int))),ac (.d (.int t))]from rfl];rw[ia,fo,fo];rfl
 ·have cf:(decide (rs.getD j 0<rs.getD k 0)&&decide (w/v%2=1))=false:=by
   by_cases h1:rs.getD j 0<rs.getD k 0
   ·rw[cS (λz=>hb ⟨h1,z⟩ : ¬ w/v%2=1),t7]
   ·rw[cS h1];rfl
  rw[cf]at ct;exact⟨A,ac (.d (.int t)),(aL s7).trans ((dr ct).trans rfl),hg.skip⟩
theorem OX(nd:ae.Nodup)(h1:1<=ae.length)(h8:ae.length<=8)(d:Int):∃A r,sT [.d (aj ae),.d (.int d)]=.ok (.d (ao ae (A.map (arrOf ae))))/\iV ae A r:=by
 obtain⟨rs,hr,hrl⟩:=Gi d ae.length h8;obtain⟨e0,f0,w,o4,he0⟩:=fO (tg:=.n 4) (body:=(aS 1 (m2 cW (mV 1) (m2 fJ (mV 2) (mV 4)))))
  (λn e=>∃(w:Int) (o4:Option W),e=[ac (.d (aj ae)),ac (.d (.int w)),ac (.d (.int (ae.length:Int))),ac (.d (.lst (rs.map D.int))),o4,af,af,af]) (dv 0 ((ae.length:Nat):Int)) 0 (λk x e hx ⟨w,o4,he⟩=>by
   obtain⟨hk,rfl⟩:=kE hx;subst he;refine⟨[ac (.d (aj ae)),ac (.d (.int w)),ac (.d (.int (ae.length:Int))),ac (.d (.lst (rs.map D.int))),ac (.d (.int (k:Int))),af,af,af],_,rfl,bv (av rfl (av rfl rfl rfl) ((div_ii _ _).trans (aK (gt (by omega) (by omega))))),_,_,rfl⟩) [ac (.d (aj ae)),ac (.d (.int d)),ac (.d (.int (ae.length:Int))),ac (.d (.lst (rs.map D.int))),af,af,af,af] ⟨d,af,rfl⟩
 subst he0;obtain⟨e1,f1,A,p4,p6,p7,he1,hg⟩:=fO (tg:=.n 6) (body:=(cJ (fj (mV 2)) (.n 4) anyB))
  (λj e=>∃(A:List Ix) (o4 o6 o7:Option W),e=jo ae rs w o4 A o6 o7/\good ae.length (λi=>rs.getD i 0) A j 0) (dv 0 ((ae.length:Nat):Int)) 0 (λj x e hx ⟨A,o4,o6,o7,he,hg⟩=>by
   obtain⟨hj,rfl⟩:=kE hx;subst he;rw[dS]at hg ⊢;obtain⟨e2,f2,A',q4,q7,he2,hg2⟩:=fO (tg:=.n 4) (body:=anyB)
    (λk e=>∃(A:List Ix) (o4 o7:Option W),e=jo ae rs w o4 A (ac (.d (.int (j:Int)))) o7/\good ae.length (λi=>rs.getD i 0) A j k) (dv 0 ((ae.length:Nat):Int)) 0 (λk x e hx ⟨A,o4,o7,he,hg⟩=>by
     obtain⟨hk,rfl⟩:=kE hx;subst he;rw[dS]at hg ⊢;obtain⟨A',o7',st,g'⟩:=TC (w:=w) h8 hrl hj hk hg o7;exact⟨jo ae rs w (ac (.d (.int (k:Int)))) A (ac (.d (.int (j:Int)))) o7,_,rfl,st,A',_,_,rfl,g'⟩) (jo ae rs w o4 A (ac (.d (.int (j:Int)))) o7) ⟨A,o4,o7,rfl,hg⟩
   subst he2;rw[ja,dS]at hg2;exact⟨jo ae rs w o4 A (ac (.d (.int (j:Int)))) o7,_,rfl,(ej (gs rfl (k9 ae.length h8))).trans f2,A',_,_,_,rfl,hg2.next h8⟩) (jo ae rs w o4 [] af af) ⟨[],_,_,_,rfl,zd,λp hp=>absurd hp (by simp),gZ _⟩
 subst he1;rw[ja,dS]at hg;refine⟨A,λi=>rs.getD i 0,?_,⟨nd,h1,h8,hg.1,λp hp=>?_,by have:=hg.2.2;omega⟩⟩
 ·unfold sT K4;rw[i5];rw[show([ac (W.d (aj ae)),ac (W.d (.int d))]++bZ (8-2) af)=[ac (W.d (aj ae)),ac (W.d (.int d)),af,af,af,af,af,af]from rfl];rw[aL (e':=[ac (W.d (aj ae)),ac (W.d (.int d)),ac (.d (.int (ae.length:Int))),af,af,af,af,af]) (bv ((dX (x:=aj ae) rfl).trans (by unfold aj;rw[oU,aU])))];rw[aL (e':=[ac (W.d (aj ae)),ac (W.d (.int d)),ac (.d (.int (ae.length:Int))),ac (.d (.lst (rs.map D.int))),af,af,af,af]) (bv (call2 rfl rfl hr))];rw[aL ((ej (gs rfl (k9 ae.length h8))).trans f0)];rw[aL (e':=jo ae rs w o4 [] af af) (bv (j6 _))];rw[aL ((ej (gs rfl (k9 ae.length h8))).trans f1)];rw[eI (bY (eS (x:=aP ae) (y:=dg (A.map (arrOf ae))) (dX (x:=aj ae) rfl) (dX (x:=ia ae A) rfl)))];rfl
 ·obtain⟨a,b,c,_⟩:=hg.2.1 p hp;exact⟨a,b,c⟩
end
end Mr
namespace Mr
open PySem Mi
open My (words fX hU)
theorem Vd{ae:List Str}{A:List Ar}(G:Gd ae A)(d:Int):∃B,qg [.d (ao ae A),.d (.int d)]=.ok (.d (ao ae B))/\Gd ae B:=by
 unfold qg K7;rw[i5];rw[show([ac (W.d (ao ae A)),ac (W.d (.int d))]++bZ (7-2) af)=[ac (W.d (ao ae A)),ac (W.d (.int d)),af,af,af,af,af]from rfl];have ct:cB (m2 bM (m2 bL (mV 1) (mC (.int 3))) (mC (.int 0))) [ac (W.d (ao ae A)),ac (W.d (.int d)),af,af,af,af,af]=.ok (decide (d%3=0)):=bx (av (av rfl rfl ((oJ _ _).trans (aK (by decide)))) rfl (k7 _ _));by_cases h3:d%3=0
 ·rw[ce h3]at ct;obtain⟨I,r,ha,IN⟩:=OX G.nd G.pos G.le (d/3);refine⟨_,?_,IN.gd G.wd⟩;rw[oM ((gF ct).trans (eI (bY (call2 (f:=sT) (bY ((dX (av rfl rfl (gm ae A))).trans rfl)) (bY (av rfl rfl ((div_ii _ _).trans (aK (gt (by decide) (by decide)))))) ha))))];rfl
 ·rw[cS h3]at ct;have q0:=gC (d/3) (b:=7) (by decide);have q1:=gB (d/3) (b:=7) (by decide);obtain⟨n,hn⟩ : ∃n:Nat,d/3%7=(n:Int):=⟨(d/3%7).toNat,by omega⟩;obtain⟨bt,hbt⟩ : ∃bt,bt=d/21%2:=⟨_,rfl⟩;obtain⟨e',f1,L,w,o5,o6,he,hL⟩:=fO (tg:=.n 5) (body:=(aD (aS 6 (aR qY [(wD (mV 2))]))
 (bp (cB (m2 iu (mN cI [(mV 6)]) (mC (.int 0))))
 (aD (aS 2 (aR kT [(wD (mV 2)),(wD (m2 aw (mV 6) (m2 bL (mV 1) (mN cI [(mV 6)]))))]))
 (aS 1 (m2 cW (mV 1) (mN cI [(mV 6)]))))
 bz)))
   (λi e=>∃(L:List Ar) (w:Int) (o5 o6:Option W),e=[ac (W.d (ao ae A)),ac (W.d (.int w)),ac (W.d (aE L)),ac (W.d (.int (n:Int))),ac (W.d (.int bt)),o5,o6]/\Lk ae L) (dv 0 (n:Int)) 0 (λi x e hx ⟨L,w,o5,o6,he,hL⟩=>by
    subst he;obtain⟨hi,rfl⟩:=kE hx;have cv:=Sx hL;obtain⟨C,hC⟩ : ∃C,C=L.filter (cov L):=⟨_,rfl⟩;rw[<- hC]at cv;have cl:C.length<=64:=by rw[hC];exact c8 (gX _ _) hL.al
    have s1:=bv (i:=6) (gG (f:=qY) (a:=wD (mV 2)) (e:=[ac (W.d (ao ae A)),ac (W.d (.int w)),ac (W.d (aE L)),ac (W.d (.int (n:Int))),ac (W.d (.int bt)),ac (W.d (.int (i:Int))),o6]) rfl cv);have lc:∀X:D,mN cI [(mV 6)] [ac (W.d (ao ae A)),ac (W.d (.int w)),ac (W.d X),ac (W.d (.int (n:Int))),ac (W.d (.int bt)),ac (W.d (.int (i:Int))),ac (W.d (aE C))]=.ok (.int (C.length:Int)):=λX=>(dX (x:=aE C) rfl).trans (by unfold aE;rw[oU,aU]);have ct:=bx (av (b:=mC (.int 0)) (lc (aE L)) rfl (zF (C.length:Int) 0));by_cases h0:(0:Int)<(C.length:Int)
    ·rw[ce h0]at ct;obtain⟨p,hp,hx⟩:=Gg (xs:=C) (gC w (b:=(C.length:Int)) (by omega)) (gB w h0);rw[hC]at hp;obtain⟨hp1,hp2⟩:=cx.mp hp;refine⟨[ac (W.d (ao ae A)),ac (W.d (.int w)),ac (W.d (aE L)),ac (W.d (.int (n:Int))),ac (W.d (.int bt)),ac (W.d (.int (i:Int))),o6],[ac (W.d (ao ae A)),ac (W.d (.int (w/(C.length:Int)))),ac (W.d (aE (bX p L))),ac (W.d (.int (n:Int))),ac (W.d (.int bt)),ac (W.d (.int (i:Int))),ac (W.d (aE C))],rfl,?_,bX p L,_,_,_,rfl,hL.bX hp1 hp2⟩;rw[aL s1];refine(gF ct).trans ?_;rw[aL (e':=[ac (W.d (ao ae A)),ac (W.d (.int w)),ac (W.d (aE (bX p L))),ac (W.d (.int (n:Int))),ac (W.d (.int bt)),ac (W.d (.int (i:Int))),ac (W.d (aE C))]) (bv (call2 (x:=.d (aE L)) (y:=.d (pairD p)) rfl (bY (av (x:=aE C) rfl (av rfl (lc (aE L)) ((oJ _ _).trans (aK h0))) hx)) (B3 (by have:=hL.al;omega))))];exact bv (av rfl (lc _) ((div_ii _ _).trans (aK (gt h0 (by omega)))))
    ·rw[cS h0]at ct;refine⟨[ac (W.d (ao ae A)),ac (W.d (.int w)),ac (W.d (aE L)),ac (W.d (.int (n:Int))),ac (W.d (.int bt)),ac (W.d (.int (i:Int))),o6],[ac (W.d (ao ae A)),ac (W.d (.int w)),ac (W.d (aE L)),ac (W.d (.int (n:Int))),ac (W.d (.int bt)),ac (W.d (.int (i:Int))),ac (W.d (aE C))],rfl,?_,L,w,_,_,rfl,hL⟩;rw[aL s1];exact(dr ct).trans rfl) [ac (W.d (ao ae A)),ac (W.d (.int (d/42))),ac (W.d (aE A)),ac (W.d (.int (n:Int))),ac (W.d (.int bt)),af,af] ⟨A,_,af,af,rfl,G.lk⟩
  subst he;obtain⟨X,RX,hif⟩ : ∃X,Rk X/\(bp (cB (m2 bM (mV 4) (mC (.int 1))))
 (aS 2 (aR r6 [(wD (m2 aw (mV 0) (mC (.int 0)))),(wD (mV 2)),(wD (mV 1))]))
 bz) [ac (W.d (ao ae A)),ac (W.d (.int w)),ac (W.d (aE L)),ac (W.d (.int (n:Int))),ac (W.d (.int bt)),o5,o6]=.ok (.nx [ac (W.d (ao ae A)),ac (W.d (.int w)),ac (W.d (aE X)),ac (W.d (.int (n:Int))),ac (W.d (.int bt)),o5,o6]):=by
   have ct:cB (m2 bM (mV 4) (mC (.int 1))) [ac (W.d (ao ae A)),ac (W.d (.int w)),ac (W.d (aE L)),ac (W.d (.int (n:Int))),ac (W.d (.int bt)),o5,o6]=.ok (decide (bt=1)):=bx (av rfl rfl (k7 bt 1));cases hk:decide (bt=1)with
   |false=>
    rw[hk]at ct;exact⟨L,hL.rk,(dr ct).trans rfl⟩
   |true=>
    rw[hk]at ct;obtain⟨B,hB,RB,_⟩:=Sg hL.nt w;exact⟨B,RB,(gF ct).trans (bv (mD (bY (av rfl rfl (gm ae A))) rfl rfl hB))⟩
  refine⟨cj ae X,?_,Gd.of G.nd G.pos G.le G.wd RX⟩;rw[aL ((dr ct).trans rfl)];rw[aL (e':=[ac (W.d (ao ae A)),ac (W.d (.int d)),ac (W.d (aE A)),af,af,af,af]) (bv ((dX (av rfl rfl (j8 ae A))).trans rfl))];rw[aL (e':=[ac (W.d (ao ae A)),ac (W.d (.int d)),ac (W.d (aE A)),ac (W.d (.int (n:Int))),af,af,af]) (bv (av (av rfl rfl ((div_ii _ _).trans (aK (gt (by decide) (by decide))))) rfl ((oJ _ _).trans ((aK (by decide)).trans (by rw[hn])))))];rw[aL (e':=[ac (W.d (ao ae A)),ac (W.d (.int d)),ac (W.d (aE A)),ac (W.d (.int (n:Int))),ac (W.d (.int bt)),af,af]) (bv (av (av rfl rfl ((div_ii _ _).trans (aK (gt (by decide) (by decide))))) rfl ((oJ _ _).trans ((aK (by decide)).trans (by rw[hbt])))))];rw[aL (e':=[ac (W.d (ao ae A)),ac (W.d (.int (d/42))),ac (W.d (aE A)),ac (W.d (.int (n:Int))),ac (W.d (.int bt)),af,af]) (bv (av rfl rfl ((div_ii _ _).trans (aK (gt (by decide) (by decide))))))];rw[aL ((ej (gs rfl (mn (by omega) (by omega)))).trans f1),aL hif];rw[eI (bY (call2 (bY (av rfl rfl (gm ae A))) rfl (HG (ae:=ae) (ag:=X) G.le)))];rfl
end Mr
namespace Vp
section
variable{α:Type}{A:α->α->Prop}{r:α->Int}(hr:∀x y,A x y->r x<r y)
theorem Met.out{adj:α->α->Prop}{S:α->Prop}{i v:α}(m:Met adj S i v):v=i\/¬ S v:=by
 cases m with
 |base=>exact .inl rfl
 |step _ _ s=>exact .inr s
include hr in
theorem RF{l u:α}(ne:l≠u)(nu:¬ Up A l u)(na:¬ A u l){i j:α}(h:(i=l/\j=u)\/(i=u/\j=l)):¬ fR A i j (λz=>A z l):=λc=>by
 have Wv:∀n,Hi A (Tg i j λz=>A z l) n->¬ A l n:=λn ⟨t,ht,up⟩ a=>by
  have r1:=hr _ _ a;have r2:=up.rank hr;have two:∀t,t=l\/t=u->Up A n t->False:=λt ht up=>by
   rcases ht with rfl|rfl
   ·have:=up.rank hr;omega
   ·exact nu (.step a up)
  rcases ht with e|e|e
  ·rcases h with q|q
   ·exact two t (.inl (e.trans q.1)) up
   ·exact two t (.inr (e.trans q.1)) up
  ·rcases h with q|q
   ·exact two t (.inr (e.trans q.2)) up
   ·exact two t (.inl (e.trans q.2)) up
  ·have:=hr _ _ e;omega
 have fl:∀n,Hi A (Tg i j λz=>A z l) n->fam A n l->n=l:=λn hn f=>by
  rcases f with z|z
  ·exact z.symm
  ·exact absurd z (Wv n hn)
 rcases h with ⟨rfl,rfl⟩|⟨rfl,rfl⟩
 ·have key:∀v,Met (kh A (Hi A (Tg i j λz=>A z i))) (λz=>A z i) i v->v=i:=λv m=>by
   induction m with
   |base=>rfl
   |step _ a s ih=>
    subst ih;obtain⟨n,hn,f1,f2⟩:=a;rw[fl n hn f1]at f2;rcases f2 with z|z
    ·exact z
    ·exact absurd z s
  exact ne (key j c).symm
 ·have key:∀v,Met (kh A (Hi A (Tg i j λz=>A z j))) (λz=>A z j) i v->v≠j:=λv m=>by
   induction m with
   |base=>exact ne.symm
   | @step w v mw a s ih=>
    intro e;subst e;obtain⟨n,hn,f1,f2⟩:=a;rw[fl n hn f2]at f1;rcases f1 with z|z
    ·exact ih z
    ·rcases mw.out with q|q
     ·rw[q]at z;exact na z
     ·exact q z
  exact key j c rfl
end
end Vp
namespace Mr
open PySem Mi
open Vp
theorem RC{A:List Ar}{x y:Str}(h:Up (ar A) x y):j1 A x y:=by
 have key:∀{a b:Str},Up (ar A) a b->∀{z:Str},j1 A z a->j1 A z b:=λ{a b} h=>by
  induction h with
  |refl=>exactλk=>k
  |step a _ ih=>exactλk=>ih (.step k a)
 exact key h .refl
theorem Gd.bC{ae:List Str}{A:List Ar}(G:Gd ae A):iw ae A:=by obtain⟨r,h⟩:=G.rk;exact⟨G.nd,G.pos,G.le,G.al,λp hp=>(G.inn p hp).1,r,h⟩
theorem Oj{L:List Ar}(R:Rk L){p:Ar}(hp:p∈L)(hc:cov L p=true):kG (ar L) (ar (bX p L)) p.1 p.2:=by
 obtain⟨r,hr⟩:=ki R;have rp:=hr p.1 p.2 hp;refine⟨λe=>by rw[e]at rp;omega,hp,λz=>?_,λz=>by have:=hr _ _ z;omega,λu v=>?_⟩
 ·have:=(pA.mp (show fW (bQ L p.2) (bQ L p.1++[p.1])=true from hc)) z;unfold ar;rw[this];exact or_comm
 ·unfold ar;rw[pB hp];constructor
  ·rintro(⟨h,k⟩|h)
   ·exact .inl ⟨h,λq=>k (lq q.1 q.2)⟩
   ·exact .inr ⟨congrArg me h,congrArg mi h⟩
  ·rintro(⟨h,k⟩|⟨h,k⟩)
   ·exact .inl ⟨h,λq=>k ⟨congrArg me q,congrArg mi q⟩⟩
   ·exact .inr (lq h k)
theorem UA{L:List Ar}(R:Rk L){p:Ar}(hp:p∈L)(hc:cov L p=true)(q:Qn):saD (bX p L) q=saD L q:=by
 have F:=Oj R hp hc;obtain⟨r,hr⟩:=ki R;have rp:=hr p.1 p.2 hp;unfold saD;have:jh (bX p L) q.1 q.2.1 q.2.2=jh L q.1 q.2.1 q.2.2:=by rw[iQ,oD,oD];exact⟨(F.back (λz=>by have:=hr _ _ z;omega) (λz=>by have:=hr _ _ z;omega)).con,F.con⟩
 rw[this]
theorem T3(A:List Ar)(l:List Qn):(D.lst (l.map (saD A))).dep<=16:=by
 have dp:eJ (l.map (saD A))<=1:=by
  induction l with
  |nil=>rw[jz,zD];omega
  |cons x r ih=>
   rw[cF,pK];have:(saD A x).dep=0:=rfl;omega
 rw[wH];omega
theorem IJ{ae:List Str}{A B:List Ar}{v0 v2:W}:∀(ch L:List Ar) (o5:Option W),Lk ae L->Wk ae B ch L->(∀q,saD L q=saD A q)->∃L' o5',fV (.n 5) (aD (bp (cB (m2 cz (mV 5) (mV 4)))
 (bA (wD (mC (.bl false))))
 bz)
 (aD (aS 4 (aR kT [(wD (mV 4)),(wD (mV 5))]))
 (bp (dU (cB (aR kP [(wD (m2 aw (mV 1) (mC (.int 0)))),(wD (mV 4))])) (cB (m2 d6 (aR k4 [(wD (mN dTup [(m2 aw (mV 1) (mC (.int 0))),(mN jR [(mV 4)])]))]) (mV 3))))
 (bA (wD (mC (.bl false))))
 bz))) (ch.map pairD) [ac v0,ac (W.d (ao ae A)),ac v2,ac (W.d (.lst ((qs ae).map (saD A)))),ac (W.d (aE L)),o5]=.ok (.nx [ac v0,ac (W.d (ao ae A)),ac v2,ac (W.d (.lst ((qs ae).map (saD A)))),ac (W.d (aE L')),o5'])/\cj ae L'=B
 |[],L,o5,G,w,_=>⟨L,o5,rfl,w⟩
 |p::r,L,o5,G,w,hs=>by
  obtain⟨h1,h2,h3⟩:=w;have G':=G.bX h1 h2;have hs':∀q,saD (bX p L) q=saD A q:=λq=>(UA G.rk h1 h2 q).trans (hs q);obtain⟨L',o',ih,e⟩:=IJ (A:=A) (v0:=v0) (v2:=v2) r (bX p L) (ac (W.d (pairD p))) G' h3 hs';refine⟨L',o',?_,e⟩;rw[cF];have al:=G.al;have al':=G'.al;have c1:cB (m2 cz (mV 5) (mV 4)) [ac v0,ac (W.d (ao ae A)),ac v2,ac (W.d (.lst ((qs ae).map (saD A)))),ac (W.d (aE L)),ac (W.d (pairD p))]=.ok false:=bx ((av (x:=pairD p) rfl rfl (ux L p)).trans (by rw[ce h1];rfl));have s4:aS 4 (aR kT [(wD (mV 4)),(wD (mV 5))]) [ac v0,ac (W.d (ao ae A)),ac v2,ac (W.d (.lst ((qs ae).map (saD A)))),ac (W.d (aE L)),ac (W.d (pairD p))]=.ok (.nx [ac v0,ac (W.d (ao ae A)),ac v2,ac (W.d (.lst ((qs ae).map (saD A)))),ac (W.d (aE (bX p L))),ac (W.d (pairD p))]):=bv (call2 rfl rfl (B3 (by omega)));have x0:m2 aw (mV 1) (mC (.int 0)) [ac v0,ac (W.d (ao ae A)),ac v2,ac (W.d (.lst ((qs ae).map (saD A)))),ac (W.d (aE (bX p L))),ac (W.d (pairD p))]=.ok (aP ae):=av rfl rfl (gm ae A);have sy:=zL G';rw[show(qs ae).map (saD (bX p L))=(qs ae).map (saD A)from tR λq _=>hs' q]at sy;have c2:dU (cB (aR kP [(wD (m2 aw (mV 1) (mC (.int 0)))),(wD (mV 4))])) (cB (m2 d6 (aR k4 [(wD (mN dTup [(m2 aw (mV 1) (mC (.int 0))),(mN jR [(mV 4)])]))]) (mV 3))) [ac v0,ac (W.d (ao ae A)),ac v2,ac (W.d (.lst ((qs ae).map (saD A)))),ac (W.d (aE (bX p L))),ac (W.d (pairD p))]=.ok false:=
   lN (p:=false) (q:=false) (bx (call2 (bY x0) rfl ((zH G.le (by omega)).trans (by rw[IF G'.rk])))) λ_=>bx (av (gG (bY ((la x0 ((dX (x:=aE (bX p L)) rfl).trans rfl)).trans (aK (by show(2:Nat)<=_;decide)))) sy) rfl (SI (T3 A _)))
  refine Cq (e0:=[ac v0,ac (W.d (ao ae A)),ac v2,ac (W.d (.lst ((qs ae).map (saD A)))),ac (W.d (aE L)),ac (W.d (pairD p))]) (e1:=[ac v0,ac (W.d (ao ae A)),ac v2,ac (W.d (.lst ((qs ae).map (saD A)))),ac (W.d (aE (bX p L))),ac (W.d (pairD p))]) rfl ?_ ih;exact(aL ((dr c1).trans rfl)).trans ((aL s4).trans ((dr c2).trans rfl))
theorem P8{ae:List Str}{A B:List Ar}(GA:Gd ae A)(GB:Gd ae B)(S:Sm ae A B):qK [.d (aE (jL ae B (iq A B) A)),.d (ao ae A),.d (ao ae B),.d (.lst ((qs ae).map (saD A)))]=.ok (.d (.bl true)):=by obtain⟨w,hlen⟩:=HY GB (iq A B) A A GA S rfl λq=>wc;obtain⟨ch,hch⟩ : ∃ch,ch=jL ae B (iq A B) A:=⟨_,rfl⟩;rw[<- hch]at w ⊢;unfold qK HB;rw[KD];rw[show([ac (W.d (aE ch)),ac (W.d (ao ae A)),ac (W.d (ao ae B)),ac (W.d (.lst ((qs ae).map (saD A))))]++bZ (6-4) af)=[ac (W.d (aE ch)),ac (W.d (ao ae A)),ac (W.d (ao ae B)),ac (W.d (.lst ((qs ae).map (saD A)))),af,af]from rfl];rw[aL ((dr (show dE (cB (m1 (iG ["list"]) (mV 0))) _=.ok false from rfl)).trans rfl)];rw[aL (e':=[ac (W.d (aE ch)),ac (W.d (ao ae A)),ac (W.d (ao ae B)),ac (W.d (.lst ((qs ae).map (saD A)))),ac (W.d (aE A)),af]) (bv ((dX (av rfl rfl (j8 ae A))).trans rfl))];obtain⟨L',o5,lp,e⟩:=IJ (ae:=ae) (A:=A) (B:=B) (v0:=W.d (aE ch)) (v2:=W.d (ao ae B)) ch A af GA.lk w λ_=>rfl;rw[aL ((ej (dM (a:=mV 0) (x:=aE ch) rfl rfl)).trans lp)];have hs:=HG (ae:=ae) (ag:=L') GA.le;rw[e]at hs;rw[eI (bY ((av (call2 (bY (av rfl rfl (gm ae A))) rfl hs) rfl (PP ae B B)).trans (by rw[ce rfl])))];rfl
end Mr
namespace Mr
open PySem Mi
open Vp
def rT(q:Bool×List Str):D:=.tup [aj q.2,.bl q.1]
def lack{α:Type}[BEq α][LawfulBEq α](X Y:List α):List α:=Y.filter λy=>!decide (y∈X)
theorem xR{α:Type}[BEq α][LawfulBEq α]{X Y:List α}{y:α}:y∈lack X Y↔y∈Y/\y∉X:=by unfold lack;rw[cx,rF,qp]
abbrev Gc:S:=(aD (lF 2 (bV [ac 3,af] (br (mV 4)) (.n 1) (cB (m2 cz (mV 1) (mV 0))) (mN dTup [(mN ie [(mV 1)]),(mC (.bl true))])))
 (lF 2 (bV [ac 4,af] (br (mV 3)) (.n 1) (cB (m2 cz (mV 1) (mV 0))) (mN dTup [(mN ie [(mV 1)]),(mC (.bl false))]))))
theorem J7{α:Type}[BEq α][LawfulBEq α]{enc:α->D}{row:α->List Str}(he:∀x,enc x=.tup ((row x).map D.str))(hn:∀(X:List α) x,cz (enc x) (.lst (X.map enc))=.ok (.bl (!decide (x∈X))))(X Y:List α)(b:Bool) :
 dA (.n 1) (cB (m2 cz (mV 1) (mV 0))) (mN dTup [(mN ie [(mV 1)]),(mC (.bl b))]) [ac (.d (.lst (X.map enc))),af] (Y.map enc)=.ok ((lack X Y).map λy=>rT (b,row y)):=
 fi enc (λy=>rT (b,row y)) (λy=>!decide (y∈X)) Y λy _=>⟨[ac (.d (.lst (X.map enc))),ac (.d (enc y))],rfl,bx (av rfl rfl (hn X y)),λ_=>(la (x:=aj (row y)) (y:=.bl b) ((dX (x:=enc y) rfl).trans (by rw[he];rfl)) rfl).trans (aK (by show(2:Nat)<=_;decide))⟩
theorem Fz{α:Type}[BEq α][LawfulBEq α]{enc:α->D}{row:α->List Str}(he:∀x,enc x=.tup ((row x).map D.str))(hn:∀(X:List α) x,cz (enc x) (.lst (X.map enc))=.ok (.bl (!decide (x∈X))))(X Y:List α)(hx:X.length<=1000)(hy:Y.length<=1000)(v0 v1:W)(acc:List D)(ha:acc.length<=10000) :
 Gc [ac v0,ac v1,ac (.d (.lst acc)),ac (.d (.lst (X.map enc))),ac (.d (.lst (Y.map enc)))]=.ok (.nx [ac v0,ac v1,ac (.d (.lst (acc++((lack X Y).map λy=>rT (true,row y))++((lack Y X).map λy=>rT (false,row y))))),ac (.d (.lst (X.map enc))),ac (.d (.lst (Y.map enc)))]):=by
 have l1:(lack X Y).length<=1000:=c8 (gX _ _) hy;have l2:(lack Y X).length<=1000:=c8 (gX _ _) hx;have s1:=wK (i:=2) (e:=[ac v0,ac v1,ac (.d (.lst acc)),ac (.d (.lst (X.map enc))),ac (.d (.lst (Y.map enc)))]) (ds:=acc) (eL (ρ:=[ac 3,af]) (dM (a:=mV 4) (x:=.lst (Y.map enc)) rfl rfl) (by rw[aU];omega) (J7 he hn X Y true)) rfl (by rw[aU];omega);have s2:=wK (i:=2) (e:=[ac v0,ac v1,ac (.d (.lst (acc++(lack X Y).map λy=>rT (true,row y)))),ac (.d (.lst (X.map enc))),ac (.d (.lst (Y.map enc)))]) (ds:=acc++(lack X Y).map λy=>rT (true,row y)) (eL (ρ:=[ac 4,af]) (dM (a:=mV 3) (x:=.lst (X.map enc)) rfl rfl) (by rw[aU];omega) (J7 he hn Y X false)) rfl (by rw[dC,aU,aU];omega);exact(aL s1).trans s2
theorem Su(C:List gK)(t:gK):((C.map dW).any λe=>bP e (dW t))=decide (t∈C):=by
 induction C with
 |nil=>rfl
 |cons x r ih=>
  rw[cF,nk,ih];have e:bP (dW x) (dW t)=decide (x=t):=by have:=AB [x] [t];rw[cF,jz,cF,jz,d0]at this;simpa [d0]using this
  rw[e];by_cases h:x=t
  ·subst h;simp
  ·by_cases k:t∈r
   ·simp[h,k]
   ·simp[h,k];exactλz=>h z.symm
theorem NV(C:List gK)(t:gK):cz (dW t) (.lst (C.map dW))=.ok (.bl (!decide (t∈C))):=by show bu (eJ (C.map dW)<=16) _=_;rw[aK (by have:=Br C;omega),Su]
def mK(ae:List Str)(A B:List Ar):List (Bool×List Str):=((lack (cP ae A) (cP ae B)).map λp=>(true,kL p))++((lack (cP ae B) (cP ae A)).map λp=>(false,kL p))++(((lack (cC ae A) (cC ae B)).map λt=>(true,tr t))++((lack (cC ae B) (cC ae A)).map λt=>(false,tr t)))
theorem J2{ae:List Str}{A B:List Ar}(GA:Gd ae A)(GB:Gd ae B):uY [.d (ao ae A),.d (ao ae B)]=.ok (.d (.lst ((mK ae A B).map rT))):=by
 have tl:∀C:List Ar,(cP ae C).length<=64:=λC=>c8 (gX _ _) (Cr GA.le);have cl:∀C:List Ar,(cC ae C).length<=512:=λC=>R7 GA.le C;unfold uY ET;rw[mz];rw[show([ac (W.d (ao ae A)),ac (W.d (ao ae B))]++bZ (5-2) af)=[ac (W.d (ao ae A)),ac (W.d (ao ae B)),af,af,af]from rfl];rw[aL (e':=[ac (W.d (ao ae A)),ac (W.d (ao ae B)),ac (.d (.lst [])),af,af]) (bv (j6 _))];have it:br (mN dTup [(mN dTup [(aR lO [(wD (mV 0))]),(aR lO [(wD (mV 1))])]),(mN dTup [(aR lP [(wD (mV 0))]),(aR lP [(wD (mV 1))])])]) [ac (W.d (ao ae A)),ac (W.d (ao ae B)),ac (.d (.lst [])),af,af]=.ok [.tup [aE (cP ae A),aE (cP ae B)],.tup [.lst ((cC ae A).map dW),.lst ((cC ae B).map dW)]]:=dM (x:=.tup [.tup [aE (cP ae A),aE (cP ae B)],.tup [.lst ((cC ae A).map dW),.lst ((cC ae B).map dW)]]) ((la ((la (gG rfl (yp GA.le)) (gG rfl (yp GB.le))).trans (aK (by show(2:Nat)<=_;decide))) ((la (gG rfl (wT GA.nt)) (gG rfl (wT GB.nt))).trans (aK (by show(2:Nat)<=_;decide)))).trans (aK (by show(2:Nat)<=_;decide))) rfl
 have st1:=Fz (enc:=pairD) (row:=kL) (λ_=>rfl) (λX x=>ux X x) (cP ae A) (cP ae B) (by have:=tl A;omega) (by have:=tl B;omega) (W.d (ao ae A)) (W.d (ao ae B)) [] (by simp);obtain⟨a1,ha1⟩ : ∃a1,a1=([]++((lack (cP ae A) (cP ae B)).map λy=>rT (true,kL y))++((lack (cP ae B) (cP ae A)).map λy=>rT (false,kL y))):=⟨_,rfl⟩;have al1:a1.length<=128:=by rw[ha1,jV,dC,aU,aU];have h1:(lack (cP ae A) (cP ae B)).length<=64:=c8 (gX _ _) (tl B);have h2:(lack (cP ae B) (cP ae A)).length<=64:=c8 (gX _ _) (tl A);omega
 rw[<- ha1]at st1;have st2:=Fz (enc:=dW) (row:=tr) (λ_=>rfl) NV (cC ae A) (cC ae B) (by have:=cl A;omega) (by have:=cl B;omega) (W.d (ao ae A)) (W.d (ao ae B)) a1 (by omega);have lp:fV (.t [3,4]) Gc [.tup [aE (cP ae A),aE (cP ae B)],.tup [.lst ((cC ae A).map dW),.lst ((cC ae B).map dW)]] [ac (W.d (ao ae A)),ac (W.d (ao ae B)),ac (.d (.lst [])),af,af]=.ok (.nx [ac (W.d (ao ae A)),ac (W.d (ao ae B)),ac (.d (.lst (a1++((lack (cC ae A) (cC ae B)).map λy=>rT (true,tr y))++((lack (cC ae B) (cC ae A)).map λy=>rT (false,tr y))))),ac (.d (.lst ((cC ae A).map dW))),ac (.d (.lst ((cC ae B).map dW)))]):=
  Cq (e0:=[ac (W.d (ao ae A)),ac (W.d (ao ae B)),ac (.d (.lst [])),ac (.d (aE (cP ae A))),ac (.d (aE (cP ae B)))]) rfl st1 (Cq (e0:=[ac (W.d (ao ae A)),ac (W.d (ao ae B)),ac (.d (.lst a1)),ac (.d (.lst ((cC ae A).map dW))),ac (.d (.lst ((cC ae B).map dW)))]) rfl st2 rfl)
 rw[aL ((ej it).trans lp)];have e:(mK ae A B).map rT=a1++((lack (cC ae A) (cC ae B)).map λy=>rT (true,tr y))++((lack (cC ae B) (cC ae A)).map λy=>rT (false,tr y)):=by rw[ha1];unfold mK;simp only[fo,fG,jV,ot];rfl
 rw[e];rfl
theorem FC{ae:List Str}{A B:List Ar}(GA:Gd ae A)(GB:Gd ae B):mK ae A B=[]↔Sm ae A B:=by
 have ln:∀{α:Type} [BEq α] [LawfulBEq α] (X:List α),lack X X=[]:=λX=>by
  unfold lack;rw[CI];intro y hy;rw[ce hy];simp
 constructor
 ·intro h;unfold mK at h;simp only[List.append_eq_nil_iff,List.map_eq_nil_iff]at h;obtain⟨⟨h1,h2⟩,h3,h4⟩:=h;have non:∀{α:Type} [BEq α] [LawfulBEq α] {X Y:List α} {y:α},lack X Y=[]->y∈Y->y∈X:=λ{α _ _ X Y y} e hy=>gN λz=>by
   have:=xR.mpr ⟨hy,z⟩;rw[e]at this;cases this
  have ti:∀a∈ae,∀b∈ae,tie A a b=tie B a b:=λa ha b hb=>by
   by_cases e:a=b
   ·subst e;have n1:∀C:List Ar,Gd ae C->tie C a a=false:=λC G=>by
     obtain⟨r,hr⟩:=ki G.rk;rw[Df,ne_eq,eM];rintro(z|z)<;>(have:=hr _ _ z;omega)
    rw[n1 A GA,n1 B GB]
   ·have one:∀a b,(a,b)∈prs ae->tie A a b=tie B a b:=λa b hp=>iQ.mpr ⟨λz=>(jp.mp (non h2 (jp.mpr ⟨hp,z⟩))).2,λz=>(jp.mp (non h1 (jp.mpr ⟨hp,z⟩))).2⟩;rcases qQ ha hb e with hp|hp
    ·exact one a b hp
    ·rw[pE A,pE B];exact one b a hp
  refine Sm.of GA.nd ti ((uF GA.nd).mpr λa ha m hm b hb ne=>?_);have one:∀a m b,(a,b)∈prs ae->m∈ae->ek A a m b=ek B a m b:=λa m b hp hm=>by
   obtain⟨k,hk,e,hd⟩:=k5.mp hp;exact iQ.mpr ⟨λz=>let ⟨_,_,_,_,_,c⟩:=mB.mp (non h4 (mB.mpr ⟨k,hk,e,hm,hd,z⟩));c,λz=>let ⟨_,_,_,_,_,c⟩:=mB.mp (non h3 (mB.mpr ⟨k,hk,e,hm,hd,z⟩));c⟩
  rcases qQ ha hb ne with hp|hp
  ·exact one a m b hp hm
  ·rw[tL A,tL B];exact one b m a hp hm
 ·intro S;unfold mK;rw[S.ti,S.cr,ln,ln];rfl
inductive Apr(ae:List Str)(P Q:List Ar):List Str->Prop
 |tie {x y:Str} (hp:(x,y)∈prs ae) (hq:tie Q x y=true) (np:¬ tie P x y=true):Apr ae P Q [x,y]
 |ek {x m y:Str} (hp:(x,y)∈prs ae) (hm:m∈ae) (ti:∀a∈ae,∀b∈ae,a≠b->Mr.tie P a b=Mr.tie Q a b) (hq:ek Q x m y=true) (np:¬ ek P x m y=true):Apr ae P Q [x,m,y]
theorem QL{ae:List Str}{A B:List Ar}(GA:Gd ae A)(GB:Gd ae B){b:Bool}{l:List Str}{r:List (Bool×List Str)}(h:mK ae A B=(b,l)::r):Apr ae (if b then A else B) (if b then B else A) l:=by
 have non:∀{α:Type} [BEq α] [LawfulBEq α] {X Y:List α} {y:α},lack X Y=[]->y∈Y->y∈X:=λ{α _ _ X Y y} e hy=>gN λz=>by
  have:=xR.mpr ⟨hy,z⟩;rw[e]at this;cases this
 have tiR:∀P Q:List Ar,∀p,p∈lack (cP ae P) (cP ae Q)->Apr ae P Q (kL p):=λP Q p hp=>by
  obtain⟨h1,h2⟩:=xR.mp hp;obtain⟨h3,h4⟩:=jp.mp h1;exact .tie (x:=p.1) (y:=p.2) h3 h4 λz=>h2 (jp.mpr ⟨h3,z⟩)
 have crR:∀P Q:List Ar,lack (cP ae P) (cP ae Q)=[]->lack (cP ae Q) (cP ae P)=[]->∀t,t∈lack (cC ae P) (cC ae Q)->Apr ae P Q (tr t):=λP Q e1 e2 t ht=>by
  obtain⟨x,m,y⟩:=t;obtain⟨h1,h2⟩:=xR.mp ht;obtain⟨k,hk,e,hm,hd,c⟩:=mB.mp h1;have one:∀a b,(a,b)∈prs ae->Mr.tie P a b=Mr.tie Q a b:=λa b hp=>iQ.mpr ⟨λz=>(jp.mp (non e2 (jp.mpr ⟨hp,z⟩))).2,λz=>(jp.mp (non e1 (jp.mpr ⟨hp,z⟩))).2⟩;refine .ek (k5.mpr ⟨k,hk,e,hd⟩) hm (λa ha b hb ne=>?_) c λz=>h2 (mB.mpr ⟨k,hk,e,hm,hd,z⟩);rcases qQ ha hb ne with hp|hp
  ·exact one a b hp
  ·rw[pE P,pE Q];exact one b a hp
 unfold mK at h;cases h1:lack (cP ae A) (cP ae B)with
 |cons p t=>
  rw[h1]at h;have:=tiR A B p (by rw[h1];exact c6);simp only[cF,pT,rL,rM]at h;rw[<- h.1.1,<- h.1.2];exact this
 |nil=>
  rw[h1]at h;cases h2:lack (cP ae B) (cP ae A)with
  |cons p t=>
   rw[h2]at h;have:=tiR B A p (by rw[h2];exact c6);simp only[jz,jV,cF,pT,rL,rM]at h;rw[<- h.1.1,<- h.1.2];exact this
  |nil=>
   rw[h2]at h;cases h3:lack (cC ae A) (cC ae B)with
   |cons p t=>
    rw[h3]at h;have:=crR A B h1 h2 p (by rw[h3];exact c6);simp only[jz,jV,cF,pT,rL,rM]at h;rw[<- h.1.1,<- h.1.2];exact this
   |nil=>
    rw[h3]at h;cases h4:lack (cC ae B) (cC ae A)with
    |cons p t=>
     rw[h4]at h;have:=crR B A h2 h1 p (by rw[h4];exact c6);simp only[jz,jV,cF,rL,rM]at h;rw[<- h.1.1,<- h.1.2];exact this
    |nil=>
     rw[h4]at h;simp at h
end Mr
namespace Mr
open PySem Mi
open Vp
noncomputable def jC (P:List Ar) (x y:Str):Str:=if rch P y x=true then x else y
theorem QE{ae:List Str}{P:List Ar}(G:Gd ae P){x y:Str}(hx:x∈ae)(hy:y∈ae):rW [.d (ao ae P),.d (.str x),.d (.str y)]=.ok (.d (aj (bQ P (jC P x y)))):=by
 have bl:=TM G.bC (λp hp=>(G.inn p hp).2) hy;have ct:cB (m2 b8 (mV 1) (aR qO [(wD (mV 0)),(wD (mV 2))])) [ac (W.d (ao ae P)),ac (W.d (.str x)),ac (W.d (.str y)),af]=.ok (rch P y x):=
  bx ((av rfl (call2 rfl rfl bl) (pz _ _)).trans (by
   congr 2
   rw[iQ,kJ];exact RO hx))
 have lw:rR (cB (m2 b8 (mV 1) (aR qO [(wD (mV 0)),(wD (mV 2))]))) (mV 1) (mV 2) [ac (W.d (ao ae P)),ac (W.d (.str x)),ac (W.d (.str y)),af]=.ok (.str (jC P x y)):=by unfold rR jC;rw[ct,aQ];cases rch P y x<;>rfl
 have ln:jC P x y∈ae:=by unfold jC;split<;>assumption
 unfold rW FV;rw[JX];rw[show([ac (W.d (ao ae P)),ac (W.d (.str x)),ac (W.d (.str y))]++bZ (4-3) af)=[ac (W.d (ao ae P)),ac (W.d (.str x)),ac (W.d (.str y)),af]from rfl];rw[aL (e':=[ac (W.d (ao ae P)),ac (W.d (.str x)),ac (W.d (.str y)),ac (W.d (.str (jC P x y)))]) (bv lw)];rw[eI (bY ((dX (call2 (f:=jq) (a:=wD (mV 0)) (b:=wD (mV 3)) rfl rfl (x9 ln G.al))).trans rfl))];rfl
noncomputable def toD (x y:Str) (aC:List Str) (b:Bool) (bi:List Str):D:=.tup [.str x,.str y,aj aC,.bl b,aj bi]
theorem Ow{f:List D->Rs D}{a b c d g:E}{e:Mi.Env}{x y z u v:D}(h1:a e=.ok x)(h2:b e=.ok y)(h3:c e=.ok z)(h4:d e=.ok u)(h5:g e=.ok v):mN f [a,b,c,d,g] e=f [x,y,z,u,v]:=by unfold mN;rw[eX,h1,aQ,eX,h2,aQ,eX,h3,aQ,eX,h4,aQ,eX,h5];rfl
theorem Vn{ae:List Str}{A B:List Ar}(GA:Gd ae A)(GB:Gd ae B)(S:Sm ae A B):kC [.d (ao ae A),.d (ao ae B)]=.ok (.d .non):=by
 have ra:=J2 GA GB;rw[(FC GA GB).mpr S]at ra;have hr:lC [.d (ao ae A),.d (ao ae B)]=.ok (.d .non):=by unfold lC xB;rw[i5];rw[(dr (bx ((av (av rfl rfl (gm ae A)) (av rfl rfl (gm ae B)) (Af ae ae)).trans (by rw[ce rfl];rfl))))];rfl
 unfold kC Cj;rw[i5];rw[show([ac (W.d (ao ae A)),ac (W.d (ao ae B))]++bZ (8-2) af)=[ac (W.d (ao ae A)),ac (W.d (ao ae B)),af,af,af,af,af,af]from rfl];rw[aL (oo (call2 rfl rfl hr))];rw[aL (e':=[ac (W.d (ao ae A)),ac (W.d (ao ae B)),ac (W.d (.lst [])),af,af,af,af,af]) (bv (call2 rfl rfl ra))];rfl
theorem Sz{ae:List Str}{A B:List Ar}(GA:Gd ae A)(GB:Gd ae B){b:Bool}{x y:Str}{l:List Str}{r:List (Bool×List Str)}(h:mK ae A B=(b,l)::r)(h2:1<=l.length)(hx:nth l 0=x)(hy:nth l (l.length-1)=y)(xn:x∈ae)(yn:y∈ae) :
 kC [.d (ao ae A),.d (ao ae B)]=.ok (.d (toD x y (bQ (if b then A else B) (jC (if b then A else B) x y)) b l)):=by
 have ra:=J2 GA GB;rw[h]at ra;have hr:lC [.d (ao ae A),.d (ao ae B)]=.ok (.d .non):=by unfold lC xB;rw[i5];rw[(dr (bx ((av (av rfl rfl (gm ae A)) (av rfl rfl (gm ae B)) (Af ae ae)).trans (by rw[ce rfl];rfl))))];rfl
 have lo:=QE (ae:=ae) (P:=if b then A else B) (by cases b;exact GB;exact GA) xn yn;obtain⟨aC,hh⟩ : ∃aC,aC=bQ (if b then A else B) (jC (if b then A else B) x y):=⟨_,rfl⟩;rw[<- hh]at lo ⊢;have i0:aw (aj l) (.int 0)=.ok (.str x):=by have:=x8 (bi:=l) (z:=0) (by decide) (by omega);rw[this,<- hx];rfl
 have i1:aw (aj l) (.int (-1))=.ok (.str y):=by rw[JZ h2,hy]
 unfold kC Cj;rw[i5];rw[show([ac (W.d (ao ae A)),ac (W.d (ao ae B))]++bZ (8-2) af)=[ac (W.d (ao ae A)),ac (W.d (ao ae B)),af,af,af,af,af,af]from rfl];rw[aL (oo (call2 rfl rfl hr))];obtain⟨Rw,hRw⟩ : ∃Rw,Rw=((b,l)::r).map rT:=⟨_,rfl⟩;rw[<- hRw]at ra;rw[aL (e':=[ac (W.d (ao ae A)),ac (W.d (ao ae B)),ac (W.d (.lst Rw)),af,af,af,af,af]) (bv (call2 rfl rfl ra))];rw[aL ((dr (show dE (lG (mV 2)) [ac (W.d (ao ae A)),ac (W.d (ao ae B)),ac (W.d (.lst Rw)),af,af,af,af,af]=.ok false from by rw[hRw];rfl)).trans rfl)];have p1:qy (.t [3,4]) (m2 aw (mV 2) (mC (.int 0))) [ac (W.d (ao ae A)),ac (W.d (ao ae B)),ac (W.d (.lst Rw)),af,af,af,af,af]=.ok (.nx [ac (W.d (ao ae A)),ac (W.d (ao ae B)),ac (W.d (.lst Rw)),ac (W.d (aj l)),ac (W.d (.bl b)),af,af,af]):=by unfold qy;rw[show m2 aw (mV 2) (mC (.int 0)) [ac (W.d (ao ae A)),ac (W.d (ao ae B)),ac (W.d (.lst Rw)),af,af,af,af,af]=.ok (rT (b,l))from av (x:=.lst Rw) rfl rfl (by rw[hRw];show cQ (eo (rT (b,l)::r.map rT) 0)=_;rw[at0];rfl)];rfl
 rw[aL p1];have p2:wM 5 6 (m2 aw (mV 3) (mC (.int 0))) (m2 aw (mV 3) (m1 sK (mC (.int 1)))) [ac (W.d (ao ae A)),ac (W.d (ao ae B)),ac (W.d (.lst Rw)),ac (W.d (aj l)),ac (W.d (.bl b)),af,af,af]=.ok (.nx [ac (W.d (ao ae A)),ac (W.d (ao ae B)),ac (W.d (.lst Rw)),ac (W.d (aj l)),ac (W.d (.bl b)),ac (W.d (.str x)),ac (W.d (.str y)),af]):=by unfold wM;rw[eX,show m2 aw (mV 3) (mC (.int 0)) [ac (W.d (ao ae A)),ac (W.d (ao ae B)),ac (W.d (.lst Rw)),ac (W.d (aj l)),ac (W.d (.bl b)),af,af,af]=.ok (.str x)from av rfl rfl i0,aQ,eX,show m2 aw (mV 3) (m1 sK (mC (.int 1))) [ac (W.d (ao ae A)),ac (W.d (ao ae B)),ac (W.d (.lst Rw)),ac (W.d (aj l)),ac (W.d (.bl b)),af,af,af]=.ok (.str y)from av rfl rfl i1];rfl
 rw[aL p2];have sel:rR (lG (mV 4)) (mV 0) (mV 1) [ac (W.d (ao ae A)),ac (W.d (ao ae B)),ac (W.d (.lst Rw)),ac (W.d (aj l)),ac (W.d (.bl b)),ac (W.d (.str x)),ac (W.d (.str y)),af]=.ok (ao ae (if b then A else B)):=by cases b<;>rfl
 rw[aL (e':=[ac (W.d (ao ae A)),ac (W.d (ao ae B)),ac (W.d (.lst Rw)),ac (W.d (aj l)),ac (W.d (.bl b)),ac (W.d (.str x)),ac (W.d (.str y)),ac (W.d (aj aC))]) (bv (mD (f:=rW) (bY sel) rfl rfl lo))];rw[eI (bY ((Ow (f:=dTup) (a:=mV 5) (b:=mV 6) (c:=mV 7) (d:=mV 4) (g:=mV 3) rfl rfl rfl rfl rfl).trans (aK (by show(5:Nat)<=_;decide))))];rfl
structure AK(ae:List Str)(Q:List Ar)(aC bi:List Str):Prop where
 two:2<=bi.length
 le:bi.length<=8
 inn:∀z∈bi,z∈ae
 nd:bi.Nodup
 ti:∀k,k+1<bi.length->tie Q (nth bi k) (nth bi (k+1))=true
 mid:∀k,k+2<bi.length->(nth bi k,nth bi (k+1))∈Q/\(nth bi (k+2),nth bi (k+1))∈Q/\nth bi (k+1)∈aC
theorem RP{ae:List Str}{Q:List Ar}(G:Gd ae Q){aC bi:List Str}(O:AK ae Q aC bi)(hs:∀z∈aC,z∈ae)(nd:aC.Nodup):qL [.d (ao ae Q),.d (aj bi),.d (.str (nth bi 0)),.d (.str (nth bi (bi.length-1))),.d (aj aC)]=.ok (.d (.bl true)):=by
 obtain⟨bf,hh,_,mh⟩:=Fb G.nt nd hs;have h2:=O.two;have h8:=O.le;obtain⟨x,hx⟩ : ∃x,x=nth bi 0:=⟨_,rfl⟩;obtain⟨y,hy⟩ : ∃y,y=nth bi (bi.length-1):=⟨_,rfl⟩;have i0:aw (aj bi) (.int 0)=.ok (.str x):=by have:=x8 (bi:=bi) (z:=0) (by decide) (by omega);rw[this,hx];rfl
 have i1:aw (aj bi) (.int (-1))=.ok (.str y):=by rw[JZ (by omega),hy]
 have at_:∀k:Nat,k<bi.length->aw (aj bi) (.int (k:Int))=.ok (.str (nth bi k)):=λk hk=>by
  have:=x8 (bi:=bi) (z:=(k:Int)) (by omega) (by omega)
  rwa [jf]at this
 rw[<- hx,<- hy];obtain⟨e1,f1,o5,he1⟩:=fO (tg:=.n 5) (body:=(aD (bp (dU (dE (cB (m1 (iG ["str"]) (m2 aw (mV 1) (mV 5))))) (dU (cB (m2 cz (m2 aw (mV 1) (mV 5)) (m2 aw (mV 0) (mC (.int 0))))) (cB (m2 b8 (m2 aw (mV 1) (mV 5)) (dP fE (mV 1) af (ac (mV 5)))))))
 (bA (wD (mC (.bl false))))
 bz)
 (bp (cH (cB (m2 iu (mV 5) (mC (.int 0)))) (dE (cB (aR qq [(wD (mV 0)),(wD (m2 aw (mV 1) (m2 fJ (mV 5) (mC (.int 1))))),(wD (m2 aw (mV 1) (mV 5)))]))))
 (bA (wD (mC (.bl false))))
 bz)))
  (λn e=>∃o5:Option W,e=[ac (W.d (ao ae Q)),ac (W.d (aj bi)),ac (W.d (.str x)),ac (W.d (.str y)),ac (W.d (aj aC)),o5,af]) (dv 0 ((bi.length:Nat):Int)) 0 (λk d e hd ⟨o5,he⟩=>by
   obtain⟨hk,rfl⟩:=kE hd;subst he;have ik:m2 aw (mV 1) (mV 5) [ac (W.d (ao ae Q)),ac (W.d (aj bi)),ac (W.d (.str x)),ac (W.d (.str y)),ac (W.d (aj aC)),ac (W.d (.int (k:Int))),af]=.ok (.str (nth bi k)):=av rfl rfl (at_ k hk);have sl:dP fE (mV 1) af (ac (mV 5)) [ac (W.d (ao ae Q)),ac (W.d (aj bi)),ac (W.d (.str x)),ac (W.d (.str y)),ac (W.d (aj aC)),ac (W.d (.int (k:Int))),af]=.ok (aj (bi.take k)):=by rw[AF (x:=aj bi) (i:=(k:Int)) rfl rfl];show Rs.ok (D.lst (gf (bi.map D.str) af (ac (k:Int))))=_;rw[HH,<- vR];rfl
   have c1:(dU (dE (cB (m1 (iG ["str"]) (m2 aw (mV 1) (mV 5))))) (dU (cB (m2 cz (m2 aw (mV 1) (mV 5)) (m2 aw (mV 0) (mC (.int 0))))) (cB (m2 b8 (m2 aw (mV 1) (mV 5)) (dP fE (mV 1) af (ac (mV 5))))))) [ac (W.d (ao ae Q)),ac (W.d (aj bi)),ac (W.d (.str x)),ac (W.d (.str y)),ac (W.d (aj aC)),ac (W.d (.int (k:Int))),af]=.ok false:=lN (p:=false) (q:=false) (oH (p:=true) (bx (by unfold m1;rw[ik];rfl))) λ_=>lN (p:=false) (q:=false) (bx (av ik (av rfl rfl (gm ae Q)) ((AI ae _).trans (by rw[ce (O.inn _ (kA hk))];rfl)))) λ_=>bx (av ik sl ((pz _ _).trans (by rw[cS (wA O.nd (AU hk))])))
   have c2:(cH (cB (m2 iu (mV 5) (mC (.int 0)))) (dE (cB (aR qq [(wD (mV 0)),(wD (m2 aw (mV 1) (m2 fJ (mV 5) (mC (.int 1))))),(wD (m2 aw (mV 1) (mV 5)))])))) [ac (W.d (ao ae Q)),ac (W.d (aj bi)),ac (W.d (.str x)),ac (W.d (.str y)),ac (W.d (aj aC)),ac (W.d (.int (k:Int))),af]=.ok false:=by
    have g:=bx (av (a:=mV 5) (b:=mC (.int 0)) (e:=[ac (W.d (ao ae Q)),ac (W.d (aj bi)),ac (W.d (.str x)),ac (W.d (.str y)),ac (W.d (aj aC)),ac (W.d (.int (k:Int))),af]) rfl rfl (zF (k:Int) 0));cases k with
    |zero=>
     have g':cB (m2 iu (mV 5) (mC (.int 0))) [ac (W.d (ao ae Q)),ac (W.d (aj bi)),ac (W.d (.str x)),ac (W.d (.str y)),ac (W.d (aj aC)),ac (W.d (.int ((0:Nat):Int))),af]=.ok false:=g;exact mq (q:=false) g' λz=>(nomatch z)
    |succ k=>
     refine(mq (q:=false) g λ_=>oH (p:=true) (bx (mD rfl (bY (av (x:=aj bi) (y:=.int (k:Int)) rfl (av rfl rfl (by show Rs.ok (D.int (((k+1:Nat):Int)-1))=_;rw[show((k+1:Nat):Int)-1=(k:Int)by omega])) (at_ k (by omega)))) (bY ik) ((Q3 _ _).trans (by rw[O.ti k hk]))))).trans (by rw[t7])
   exact⟨[ac (W.d (ao ae Q)),ac (W.d (aj bi)),ac (W.d (.str x)),ac (W.d (.str y)),ac (W.d (aj aC)),ac (W.d (.int (k:Int))),af],_,rfl,(aL ((dr c1).trans rfl)).trans ((dr c2).trans rfl),_,rfl⟩) [ac (W.d (ao ae Q)),ac (W.d (aj bi)),ac (W.d (.str x)),ac (W.d (.str y)),ac (W.d (aj aC)),af,af] ⟨af,rfl⟩
 subst he1;obtain⟨e2,f2,p5,he2⟩:=fO (tg:=.n 5) (body:=(bp (cH (cB (m2 b8 (mN dTup [(m2 aw (mV 1) (m2 fJ (mV 5) (mC (.int 1)))),(m2 aw (mV 1) (mV 5))]) (m2 aw (mV 0) (mC (.int 1))))) (cB (m2 b8 (mN dTup [(m2 aw (mV 1) (m2 a9 (mV 5) (mC (.int 1)))),(m2 aw (mV 1) (mV 5))]) (m2 aw (mV 0) (mC (.int 1))))))
 (bp (cB (m2 cz (m2 aw (mV 1) (mV 5)) (mV 6)))
 (bA (wD (mC (.bl false))))
 bz)
 (bp (cB (m2 b8 (m2 aw (mV 1) (mV 5)) (mV 4)))
 (bA (wD (mC (.bl false))))
 bz)))
  (λn e=>∃o5:Option W,e=[ac (W.d (ao ae Q)),ac (W.d (aj bi)),ac (W.d (.str x)),ac (W.d (.str y)),ac (W.d (aj aC)),o5,ac (W.d (aj bf))]) ((b0 (bi.length-2)).map λ(i:Nat)=>D.int (1+(i:Int))) 0 (λn d e hd ⟨o5,he⟩=>by
   subst he;rw[fm]at hd;obtain⟨k,hk,rfl⟩:=lh.mp hd;have kl:k+2<bi.length:=by have:=fb.mp (pP hk);omega
   obtain⟨m1,m2',m3⟩:=O.mid k kl;have ik:m2 aw (mV 1) (mV 5) [ac (W.d (ao ae Q)),ac (W.d (aj bi)),ac (W.d (.str x)),ac (W.d (.str y)),ac (W.d (aj aC)),ac (W.d (.int (1+(k:Int)))),ac (W.d (aj bf))]=.ok (.str (nth bi (k+1))):=av (y:=.int ((k+1:Nat):Int)) rfl (by show Rs.ok (D.int (1+(k:Int)))=_;rw[show 1+(k:Int)=((k+1:Nat):Int)by omega]) (at_ (k+1) (by omega));have im:m2 aw (mV 1) (m2 fJ (mV 5) (mC (.int 1))) [ac (W.d (ao ae Q)),ac (W.d (aj bi)),ac (W.d (.str x)),ac (W.d (.str y)),ac (W.d (aj aC)),ac (W.d (.int (1+(k:Int)))),ac (W.d (aj bf))]=.ok (.str (nth bi k)):=av (y:=.int (k:Int)) rfl (av rfl rfl (by show Rs.ok (D.int (1+(k:Int)-1))=_;rw[show 1+(k:Int)-1=(k:Int)by omega])) (at_ k (by omega));have ip:m2 aw (mV 1) (m2 a9 (mV 5) (mC (.int 1))) [ac (W.d (ao ae Q)),ac (W.d (aj bi)),ac (W.d (.str x)),ac (W.d (.str y)),ac (W.d (aj aC)),ac (W.d (.int (1+(k:Int)))),ac (W.d (aj bf))]=.ok (.str (nth bi (k+2))):=av (y:=.int ((k+2:Nat):Int)) rfl (av rfl rfl (by show Rs.ok (D.int (1+(k:Int)+1))=_;rw[show 1+(k:Int)+1=((k+2:Nat):Int)by omega])) (at_ (k+2) kl);have x1:m2 aw (mV 0) (mC (.int 1)) [ac (W.d (ao ae Q)),ac (W.d (aj bi)),ac (W.d (.str x)),ac (W.d (.str y)),ac (W.d (aj aC)),ac (W.d (.int (1+(k:Int)))),ac (W.d (aj bf))]=.ok (dg Q):=av rfl rfl (j8 ae Q);have c1:(cH (cB (m2 b8 (mN dTup [(m2 aw (mV 1) (m2 fJ (mV 5) (mC (.int 1)))),(m2 aw (mV 1) (mV 5))]) (m2 aw (mV 0) (mC (.int 1))))) (cB (m2 b8 (mN dTup [(m2 aw (mV 1) (m2 a9 (mV 5) (mC (.int 1)))),(m2 aw (mV 1) (mV 5))]) (m2 aw (mV 0) (mC (.int 1)))))) [ac (W.d (ao ae Q)),ac (W.d (aj bi)),ac (W.d (.str x)),ac (W.d (.str y)),ac (W.d (aj aC)),ac (W.d (.int (1+(k:Int)))),ac (W.d (aj bf))]=.ok true:=
    mq (p:=true) (q:=true) (bx (av (eS im ik) x1 ((JC Q (nth bi k,nth bi (k+1))).trans (by rw[ce m1])))) λ_=>bx (av (eS ip ik) x1 ((JC Q (nth bi (k+2),nth bi (k+1))).trans (by rw[ce m2'])))
   have c2:cB (m2 cz (m2 aw (mV 1) (mV 5)) (mV 6)) [ac (W.d (ao ae Q)),ac (W.d (aj bi)),ac (W.d (.str x)),ac (W.d (.str y)),ac (W.d (aj aC)),ac (W.d (.int (1+(k:Int)))),ac (W.d (aj bf))]=.ok false:=bx (av ik rfl ((qe _ _).trans (by rw[ce ((mh _).mpr (.of m3))];rfl)));exact⟨[ac (W.d (ao ae Q)),ac (W.d (aj bi)),ac (W.d (.str x)),ac (W.d (.str y)),ac (W.d (aj aC)),ac (W.d (.int (1+(k:Int)))),ac (W.d (aj bf))],_,rfl,(gF c1).trans ((dr c2).trans rfl),_,rfl⟩) [ac (W.d (ao ae Q)),ac (W.d (aj bi)),ac (W.d (.str x)),ac (W.d (.str y)),ac (W.d (aj aC)),o5,ac (W.d (aj bf))] ⟨o5,rfl⟩
 subst he2;have ln:∀o5 o6:Option W,mN cI [(mV 1)] [ac (W.d (ao ae Q)),ac (W.d (aj bi)),ac (W.d (.str x)),ac (W.d (.str y)),ac (W.d (aj aC)),o5,o6]=.ok (.int (bi.length:Int)):=λ_ _=>(dX (x:=aj bi) rfl).trans (by unfold aj;rw[oU,aU]);have cA:(dU (dE (cB (m1 (iG ["list"]) (mV 1)))) (dU (cB (m2 gr (mN cI [(mV 1)]) (mC (.int 2)))) (dU (cB (m2 d6 (m2 aw (mV 1) (mC (.int 0))) (mV 2))) (cB (m2 d6 (m2 aw (mV 1) (m1 sK (mC (.int 1)))) (mV 3)))))) [ac (W.d (ao ae Q)),ac (W.d (aj bi)),ac (W.d (.str x)),ac (W.d (.str y)),ac (W.d (aj aC)),af,af]=.ok false:=
  lN (p:=false) (q:=false) (oH (p:=true) rfl) λ_=>lN (p:=false) (q:=false) (bx (av (ln _ _) rfl ((sC _ _).trans (by rw[cS (by omega)])))) λ_=>lN (p:=false) (q:=false) (bx (av (av rfl rfl i0) rfl ((vN _ _).trans (by rw[ce rfl];rfl)))) λ_=>bx (av (av rfl rfl i1) rfl ((vN _ _).trans (by rw[ce rfl];rfl)))
 unfold qL Fw;rw[Q0];rw[show([ac (W.d (ao ae Q)),ac (W.d (aj bi)),ac (W.d (.str x)),ac (W.d (.str y)),ac (W.d (aj aC))]++bZ (7-5) af)=[ac (W.d (ao ae Q)),ac (W.d (aj bi)),ac (W.d (.str x)),ac (W.d (.str y)),ac (W.d (aj aC)),af,af]from rfl];rw[aL ((dr cA).trans rfl)];rw[aL ((ej (gs (ln _ _) (k9 bi.length h8))).trans f1)];rw[aL (e':=[ac (W.d (ao ae Q)),ac (W.d (aj bi)),ac (W.d (.str x)),ac (W.d (.str y)),ac (W.d (aj aC)),o5,ac (W.d (aj bf))]) (bv (call2 rfl rfl hh))];have rg:uI (mC (.int 1)) (m2 fJ (mN cI [(mV 1)]) (mC (.int 1))) [ac (W.d (ao ae Q)),ac (W.d (aj bi)),ac (W.d (.str x)),ac (W.d (.str y)),ac (W.d (aj aC)),o5,ac (W.d (aj bf))]=.ok ((b0 (bi.length-2)).map λ(i:Nat)=>D.int (1+(i:Int))):=by rw[Sl (i:=1) (j:=(bi.length:Int)-1) rfl (av (ln _ _) rfl rfl) ⟨mn (by decide) (by decide),mn (by omega) (by omega)⟩,Ox]
 rw[aL ((ej rg).trans f2)];rfl
end Mr
namespace Mr
open PySem Mi
open Vp
open My (words fX hU)
theorem KY{ae:List Str}{P:List Ar}(G:Gd ae P){x y:Str}(ne:x≠y):∃w u,jC P x y=w/\((x=w/\y=u)\/(x=u/\y=w))/\w≠u/\¬ Up (ar P) w u:=by
 obtain⟨r,hr⟩:=ki G.rk;unfold jC;cases h:rch P y x with
 |true=>
  refine⟨x,y,bc rfl,.inl ⟨rfl,rfl⟩,ne,λup=>?_⟩;have h2:=up.rank hr;have key:∀z,j1 P y z->r y<=r z/\(z=y\/r y<r z):=λz h=>by
   induction h with
   |refl=>exact⟨v6 _,.inl rfl⟩
   |step _ a ih=>have:=hr _ _ a;exact⟨by omega,.inr (by omega)⟩
  rcases(key x (BU.mp h)).2 with z|z
  ·exact ne z
  ·omega
 |false=>
  refine⟨y,x,ba dR,.inr ⟨rfl,rfl⟩,ne.symm,λup=>?_⟩;rw[BU.mpr (RC up)]at h;cases h
theorem NM{ae:List Str}{P Q:List Ar}(GP:Gd ae P)(GQ:Gd ae Q){l:List Str}(h:Apr ae P Q l):∃x y,nth l 0=x/\nth l (l.length-1)=y/\1<=l.length/\(x,y)∈prs ae/\¬ tie P x y=true/\AK ae Q (bQ P (jC P x y)) l:=by
 cases h with
 | @tie x y hp hq np=>
  obtain⟨m1,m2,ne⟩:=vG GP.nd hp;refine⟨x,y,rfl,rfl,by simp,hp,np,⟨by simp,by simp,λz hz=>?_,by simp[ne],λk hk=>?_,λk hk=>?_⟩⟩
  ·rcases cn.mp hz with rfl|hz
   ·exact m1
   ·rw[eD.mp hz];exact m2
  ·have:k=0:=by simp at hk;omega
   subst this;exact hq
  ·simp at hk;omega
 | @ek x m y hp hm ti hq np=>
  obtain⟨m1,m2,ne⟩:=vG GP.nd hp;obtain⟨q1,q2,q3,q4⟩:=oX.mp hq;obtain⟨rq,hrq⟩:=ki GQ.rk;have xm:x≠m:=λe=>by have:=hrq _ _ q1;rw[e]at this;omega
  have ym:y≠m:=λe=>by have:=hrq _ _ q2;rw[e]at this;omega
  have ntp:¬ Mr.tie P x y=true:=by
   rw[ti x m1 y m2 ne,eM];rintro(z|z)
   ·exact q3 z
   ·exact q4 z
  have tx:Mr.tie P x m=true:=by rw[ti x m1 m hm xm,eM];exact .inl q1
  have ty:Mr.tie P y m=true:=by rw[ti y m2 m hm ym,eM];exact .inl q2
  have aC:m∈bQ P (jC P x y):=by
   obtain⟨w,u,ew,hc,wu,nu⟩:=KY GP ne;rw[ew,lA];have tw:Mr.tie P w m=true:=by rcases hc with ⟨rfl,_⟩|⟨_,rfl⟩<;>assumption
   have tu:Mr.tie P u m=true:=by rcases hc with ⟨_,rfl⟩|⟨rfl,_⟩<;>assumption
   rcases eM.mp tw with a|a
   ·rcases eM.mp tu with b|b
    ·refine absurd (oX.mpr ⟨?_,?_,λz=>ntp (eM.mpr (.inl z)),λz=>ntp (eM.mpr (.inr z))⟩) np
     ·rcases hc with ⟨rfl,_⟩|⟨rfl,_⟩<;>assumption
     ·rcases hc with ⟨_,rfl⟩|⟨_,rfl⟩<;>assumption
    ·exact absurd (Up.step (show ar P w m from a) (.step (show ar P m u from b) (.refl u))) nu
   ·exact a
  refine⟨x,y,rfl,rfl,by simp,hp,ntp,⟨by simp,by simp,λz hz=>?_,by simp[xm,ne,fv ym],λk hk=>?_,λk hk=>?_⟩⟩
  ·rcases cn.mp hz with rfl|hz
   ·exact m1
   ·rcases cn.mp hz with rfl|hz
    ·exact hm
    ·rw[eD.mp hz];exact m2
  ·have:k=0\/k=1:=by simp at hk;omega
   rcases this with rfl|rfl
   ·exact eM.mpr (.inl q1)
   ·exact eM.mpr (.inr q2)
  ·have:k=0:=by simp at hk;omega
   subst this;exact⟨q1,q2,aC⟩
theorem VG{ae:List Str}{A B:List Ar}(GA:Gd ae A)(GB:Gd ae B){b:Bool}{l:List Str}{x y:Str}(hx:nth l 0=x)(hy:nth l (l.length-1)=y)(hp:(x,y)∈prs ae)(np:¬ tie (if b then A else B) x y=true)(O:AK ae (if b then B else A) (bQ (if b then A else B) (jC (if b then A else B) x y)) l) :
 qH [.d (toD x y (bQ (if b then A else B) (jC (if b then A else B) x y)) b l),.d (.lst [ao ae A,ao ae B])]=.ok (.d (.bl true)):=by
 have GP:Gd ae (if b then A else B):=by cases b;exact GB;exact GA
 have GQ:Gd ae (if b then B else A):=by cases b;exact GA;exact GB
 obtain⟨P,hP⟩ : ∃P,P=if b then A else B:=⟨_,rfl⟩;obtain⟨Q,hQ⟩ : ∃Q,Q=if b then B else A:=⟨_,rfl⟩;rw[<- hP]at np O GP ⊢;rw[<- hQ]at O GQ;obtain⟨mx,my,ne⟩:=vG GP.nd hp;obtain⟨w,u,ew,hc,wu,nu⟩:=KY GP ne;obtain⟨r,hr⟩:=ki GP.rk;obtain⟨aC,hh⟩ : ∃aC,aC=bQ P (jC P x y):=⟨_,rfl⟩;rw[<- hh]at O ⊢;rw[ew]at hh;have mh:∀z,z∈aC↔ar P z w:=λz=>by rw[hh,lA];exact wc
 have wn:w∈ae:=by rcases hc with ⟨rfl,_⟩|⟨_,rfl⟩<;>assumption
 have hs:∀z∈aC,z∈ae:=λz hz=>(GP.inn _ ((mh z).mp hz)).1;have ndh:aC.Nodup:=by rw[hh];exact GP.lk.vH w
 have nw:w∉aC:=λz=>by have:=hr _ _ ((mh w).mp z);omega
 have nuh:u∉aC:=λz=>np (by
  have z:=(mh u).mp z;rcases hc with ⟨rfl,rfl⟩|⟨rfl,rfl⟩
  ·exact eM.mpr (.inr z)
  ·exact eM.mpr (.inl z))
 have nx:x∉aC:=by rcases hc with ⟨rfl,_⟩|⟨rfl,_⟩<;>assumption
 have ny:y∉aC:=by rcases hc with ⟨_,rfl⟩|⟨_,rfl⟩<;>assumption
 have hl8:aC.length<=8:=c8 (i4 ndh hs) GP.le;have prt:jX [.d (ao ae P),.d (.str x),.d (.str y),.d (aj aC)]=.ok (.d (.bl true)):=by
  rw[FY GP.lk mx my ne hs ndh nx ny];have:jh P x y aC=false:=by rw[Df,ne_eq,oD];rw[show(λz=>z∈aC)=(λz=>ar P z w)from funext λz=>propext (mh z)];exact RF hr wu nu (λz=>nuh ((mh u).mpr z)) hc
  rw[this];rfl
 have opn:qL [.d (ao ae Q),.d (aj l),.d (.str x),.d (.str y),.d (aj aC)]=.ok (.d (.bl true)):=by rw[<- hx,<- hy];exact RP GQ O hs ndh
 have ndS:([x,y]++aC).Nodup:=by
  refine kn.mpr ⟨by simp[ne],ndh,λa ha b hb e=>?_⟩;subst e;rcases cn.mp ha with rfl|z
  ·exact nx hb
  ·rw[eD.mp z]at hb;exact ny hb
 obtain⟨so,hso⟩ : ∃so,so=[x,y]++aC:=⟨_,rfl⟩;rw[<- hso]at ndS;have sin:∀z∈so,z∈ae:=λz hz=>by
  rw[hso]at hz;rcases eg.mp hz with q|q
  ·rcases cn.mp q with rfl|q
   ·exact mx
   ·rw[eD.mp q];exact my
  ·exact hs z q
 have s8:so.length<=8:=c8 (i4 ndS sin) GP.le;obtain⟨e1,f1,o8,he1⟩:=fO (tg:=.n 8) (body:=(bp (dU (dE (cB (m1 (iG ["str"]) (m2 aw (mV 7) (mV 8))))) (dU (cB (m2 cz (m2 aw (mV 7) (mV 8)) (m2 aw (m2 aw (mV 1) (mC (.int 0))) (mC (.int 0))))) (cB (m2 b8 (m2 aw (mV 7) (mV 8)) (dP fE (mV 7) af (ac (mV 8)))))))
 (bA (wD (mC (.bl false))))
 bz))
  (λn e=>∃o8:Option W,e=[ac (W.d (toD x y aC b l)),ac (W.d (.lst [ao ae A,ao ae B])),ac (W.d (.str x)),ac (W.d (.str y)),ac (W.d (aj aC)),ac (W.d (.bl b)),ac (W.d (aj l)),ac (W.d (aj so)),o8,af,af]) (dv 0 ((so.length:Nat):Int)) 0 (λk d e hd ⟨o8,he⟩=>by
   obtain⟨hk,rfl⟩:=kE hd;subst he;have ik:m2 aw (mV 7) (mV 8) [ac (W.d (toD x y aC b l)),ac (W.d (.lst [ao ae A,ao ae B])),ac (W.d (.str x)),ac (W.d (.str y)),ac (W.d (aj aC)),ac (W.d (.bl b)),ac (W.d (aj l)),ac (W.d (aj so)),ac (W.d (.int (k:Int))),af,af]=.ok (.str (nth so k)):=av rfl rfl (by
    have:=x8 (bi:=so) (z:=(k:Int)) (by omega) (by omega)
    rwa [jf]at this)
   have sl:dP fE (mV 7) af (ac (mV 8)) [ac (W.d (toD x y aC b l)),ac (W.d (.lst [ao ae A,ao ae B])),ac (W.d (.str x)),ac (W.d (.str y)),ac (W.d (aj aC)),ac (W.d (.bl b)),ac (W.d (aj l)),ac (W.d (aj so)),ac (W.d (.int (k:Int))),af,af]=.ok (aj (so.take k)):=by rw[AF (x:=aj so) (i:=(k:Int)) rfl rfl];show Rs.ok (D.lst (gf (so.map D.str) af (ac (k:Int))))=_;rw[HH,<- vR];rfl
   have nm:m2 aw (m2 aw (mV 1) (mC (.int 0))) (mC (.int 0)) [ac (W.d (toD x y aC b l)),ac (W.d (.lst [ao ae A,ao ae B])),ac (W.d (.str x)),ac (W.d (.str y)),ac (W.d (aj aC)),ac (W.d (.bl b)),ac (W.d (aj l)),ac (W.d (aj so)),ac (W.d (.int (k:Int))),af,af]=.ok (aP ae):=av (av rfl rfl (by show cQ (eo [ao ae A,ao ae B] 0)=_;rw[at0];rfl)) rfl (gm ae A);have c1:(dU (dE (cB (m1 (iG ["str"]) (m2 aw (mV 7) (mV 8))))) (dU (cB (m2 cz (m2 aw (mV 7) (mV 8)) (m2 aw (m2 aw (mV 1) (mC (.int 0))) (mC (.int 0))))) (cB (m2 b8 (m2 aw (mV 7) (mV 8)) (dP fE (mV 7) af (ac (mV 8))))))) [ac (W.d (toD x y aC b l)),ac (W.d (.lst [ao ae A,ao ae B])),ac (W.d (.str x)),ac (W.d (.str y)),ac (W.d (aj aC)),ac (W.d (.bl b)),ac (W.d (aj l)),ac (W.d (aj so)),ac (W.d (.int (k:Int))),af,af]=.ok false:=lN (p:=false) (q:=false) (oH (p:=true) (bx (by unfold m1;rw[ik];rfl))) λ_=>lN (p:=false) (q:=false) (bx (av ik nm ((AI ae _).trans (by rw[ce (sin _ (kA hk))];rfl)))) λ_=>bx (av ik sl ((pz _ _).trans (by rw[cS (wA ndS (AU hk))])))
   exact⟨[ac (W.d (toD x y aC b l)),ac (W.d (.lst [ao ae A,ao ae B])),ac (W.d (.str x)),ac (W.d (.str y)),ac (W.d (aj aC)),ac (W.d (.bl b)),ac (W.d (aj l)),ac (W.d (aj so)),ac (W.d (.int (k:Int))),af,af],_,rfl,(dr c1).trans rfl,_,rfl⟩) [ac (W.d (toD x y aC b l)),ac (W.d (.lst [ao ae A,ao ae B])),ac (W.d (.str x)),ac (W.d (.str y)),ac (W.d (aj aC)),ac (W.d (.bl b)),ac (W.d (aj l)),ac (W.d (aj so)),af,af,af] ⟨af,rfl⟩
 subst he1;unfold qH I0;rw[i5];rw[show([ac (W.d (toD x y aC b l)),ac (W.d (.lst [ao ae A,ao ae B]))]++bZ (11-2) af)=[ac (W.d (toD x y aC b l)),ac (W.d (.lst [ao ae A,ao ae B])),af,af,af,af,af,af,af,af,af]from rfl];rw[aL ((dr (show(dU (dE (cB (m1 (iG ["tuple"]) (mV 0)))) (cB (m2 d6 (mN cI [(mV 0)]) (mC (.int 5))))) [ac (W.d (toD x y aC b l)),ac (W.d (.lst [ao ae A,ao ae B])),af,af,af,af,af,af,af,af,af]=.ok false from rfl)).trans rfl)];rw[aL (e':=[ac (W.d (toD x y aC b l)),ac (W.d (.lst [ao ae A,ao ae B])),ac (W.d (.str x)),ac (W.d (.str y)),ac (W.d (aj aC)),ac (W.d (.bl b)),ac (W.d (aj l)),af,af,af,af]) rfl];rw[aL ((dr (show(dU (dE (cB (m1 (iG ["list"]) (mV 4)))) (dE (cB (m1 (iG ["bool"]) (mV 5))))) [ac (W.d (toD x y aC b l)),ac (W.d (.lst [ao ae A,ao ae B])),ac (W.d (.str x)),ac (W.d (.str y)),ac (W.d (aj aC)),ac (W.d (.bl b)),ac (W.d (aj l)),af,af,af,af]=.ok false from rfl)).trans rfl)];have s7:m2 a9 (mN b9 [(mV 2),(mV 3)]) (mV 4) [ac (W.d (toD x y aC b l)),ac (W.d (.lst [ao ae A,ao ae B])),ac (W.d (.str x)),ac (W.d (.str y)),ac (W.d (aj aC)),ac (W.d (.bl b)),ac (W.d (aj l)),af,af,af,af]=.ok (aj so):=by refine(av (x:=aj [x,y]) (y:=aj aC) (uw rfl rfl) rfl (og _ _)).trans ?_;rw[aK (by rw[aU,aU];simp only[dH,gL];omega),hso];rfl
 rw[aL (e':=[ac (W.d (toD x y aC b l)),ac (W.d (.lst [ao ae A,ao ae B])),ac (W.d (.str x)),ac (W.d (.str y)),ac (W.d (aj aC)),ac (W.d (.bl b)),ac (W.d (aj l)),ac (W.d (aj so)),af,af,af]) (bv s7)];rw[aL ((ej (gs ((dX (x:=aj so) rfl).trans (by unfold aj;rw[oU,aU])) (k9 so.length s8))).trans f1)];have s9:m2 aw (mV 1) (mN mS [(Be (mV 5))]) [ac (W.d (toD x y aC b l)),ac (W.d (.lst [ao ae A,ao ae B])),ac (W.d (.str x)),ac (W.d (.str y)),ac (W.d (aj aC)),ac (W.d (.bl b)),ac (W.d (aj l)),ac (W.d (aj so)),o8,af,af]=.ok (ao ae P):=by rw[hP];cases b<;>rfl
 rw[aL (e':=[ac (W.d (toD x y aC b l)),ac (W.d (.lst [ao ae A,ao ae B])),ac (W.d (.str x)),ac (W.d (.str y)),ac (W.d (aj aC)),ac (W.d (.bl b)),ac (W.d (aj l)),ac (W.d (aj so)),o8,ac (W.d (ao ae P)),af]) (bv s9)];have s10:m2 aw (mV 1) (mN mS [(mV 5)]) [ac (W.d (toD x y aC b l)),ac (W.d (.lst [ao ae A,ao ae B])),ac (W.d (.str x)),ac (W.d (.str y)),ac (W.d (aj aC)),ac (W.d (.bl b)),ac (W.d (aj l)),ac (W.d (aj so)),o8,ac (W.d (ao ae P)),af]=.ok (ao ae Q):=by rw[hQ];cases b<;>rfl
 rw[aL (e':=[ac (W.d (toD x y aC b l)),ac (W.d (.lst [ao ae A,ao ae B])),ac (W.d (.str x)),ac (W.d (.str y)),ac (W.d (aj aC)),ac (W.d (.bl b)),ac (W.d (aj l)),ac (W.d (aj so)),o8,ac (W.d (ao ae P)),ac (W.d (ao ae Q))]) (bv s10)];rw[eI (bY (An (p:=true) (q:=true) (zE (f:=jX) rfl rfl rfl rfl prt) λ_=>Py (f:=qL) rfl rfl rfl rfl rfl opn))];rfl
theorem HF(ns:List Int)(hl:ns.length<=63):Cc [.d (.lst (ns.map D.int))]=.ok (.d (.bl true)):=by
 obtain⟨ds,hds,hdl⟩:=Sy ns;have h33:aw (.lst (ds.map D.int)) (.int 33)=.ok (.int (ds.getD 33 0)):=lT (by decide) (by omega);have r0:=gC (ds.getD 33 0) (b:=4) (by decide);have r1:=gB (ds.getD 33 0) (b:=4) (by decide);obtain⟨hi,hi1,hi2,hhi⟩ : ∃hi:Nat,1<=hi/\hi<=8/\aw (.lst ([4,4,4,5].map D.int)) (.int (ds.getD 33 0%4))=.ok (.int (hi:Int)):=by
  obtain⟨z,hz⟩ : ∃z,z=ds.getD 33 0%4:=⟨_,rfl⟩;rw[<- hz]at r0 r1 ⊢;have:z=0\/z=1\/z=2\/z=3:=by omega
  rcases this with h|h|h|h<;>subst h
  ·exact⟨4,by decide,by decide,rfl⟩
  ·exact⟨4,by decide,by decide,rfl⟩
  ·exact⟨4,by decide,by decide,rfl⟩
  ·exact⟨5,by decide,by decide,rfl⟩
 obtain⟨ae,I,r,D6,IN,_,_,hwf⟩:=Oh ds hdl 1 hi (by decide) hi1 hi2;have hw:∀x∈ae,j9 [.d (.str x)]=.ok (.d (.bl true)):=λx hx=>(Wd.ok ⟨x.cps.toList,Hb rfl,hwf x hx⟩);have G:=IN.gd hw;generalize I.map (arrOf ae)=A at D6 G;have sy:=zL G.lk;obtain⟨qd,hqd⟩ : ∃qd:List Int,gf (ds.map D.int) (ac 39) (ac 40)=qd.map D.int:=by unfold gf;exact⟨_,by rw[<- yK,<- vR]⟩
 obtain⟨Ls,hLs⟩ : ∃Ls,Ls=D.lst (ns.map D.int):=⟨_,rfl⟩;obtain⟨Ds,hDs⟩ : ∃Ds,Ds=D.lst (ds.map D.int):=⟨_,rfl⟩;obtain⟨Y,hY⟩ : ∃Y,Y=D.lst ((qs ae).map (saD A)):=⟨_,rfl⟩;obtain⟨e',f1,o4,o5,he⟩:=fO (tg:=.n 4) (body:=(aD (aS 5 (aR qg [(wD (mV 2)),(wD (mV 4))]))
 (bp (cB (m2 bM (mV 3) (aR k4 [(wD (mV 5))])))
 (bp (dU (cB (m2 oO (aR kC [(wD (mV 2)),(wD (mV 5))]) (mC .non))) (dE (cB (aR qK [(wD (aR qX [(wD (mV 2)),(wD (mV 5))])),(wD (mV 2)),(wD (mV 5)),(wD (mV 3))]))))
 (bA (wD (mC (.bl false))))
 bz)
 (bp (dE (cB (aR qH [(wD (aR kC [(wD (mV 2)),(wD (mV 5))])),(wD (mN b9 [(mV 2),(mV 5)]))])))
 (bA (wD (mC (.bl false))))
 bz))))
  (λi e=>∃o4 o5:Option W,e=[ac (W.d Ls),ac (W.d Ds),ac (W.d (ao ae A)),ac (W.d Y),o4,o5]) (qd.map D.int) 0 (λi x e hx ⟨o4,o5,he⟩=>by
   subst he;rw[fm]at hx;obtain⟨d,_,rfl⟩:=lh.mp hx;obtain⟨B,hB,GB⟩:=Vd G d;have sB:=zL GB.lk;have eqs:=OG G GB;rw[<- hY]at eqs;have s5:=bv (i:=5) (call2 (f:=qg) (a:=wD (mV 2)) (b:=wD (mV 4)) (e:=[ac (W.d Ls),ac (W.d Ds),ac (W.d (ao ae A)),ac (W.d Y),ac (W.d (.int d)),o5]) rfl rfl hB);have c1:cB (m2 bM (mV 3) (aR k4 [(wD (mV 5))])) [ac (W.d Ls),ac (W.d Ds),ac (W.d (ao ae A)),ac (W.d Y),ac (W.d (.int d)),ac (W.d (ao ae B))]=.ok (rV ae A B):=bx (av rfl (gG rfl sB) eqs);refine⟨[ac (W.d Ls),ac (W.d Ds),ac (W.d (ao ae A)),ac (W.d Y),ac (W.d (.int d)),o5],[ac (W.d Ls),ac (W.d Ds),ac (W.d (ao ae A)),ac (W.d Y),ac (W.d (.int d)),ac (W.d (ao ae B))],rfl,(aL s5).trans ?_,_,_,rfl⟩;cases hs:rV ae A B with
   |true=>
    rw[hs]at c1;have S:=xV.mp hs;have kp:=P8 G GB S;rw[<- hY]at kp;have c2:(dU (cB (m2 oO (aR kC [(wD (mV 2)),(wD (mV 5))]) (mC .non))) (dE (cB (aR qK [(wD (aR qX [(wD (mV 2)),(wD (mV 5))])),(wD (mV 2)),(wD (mV 5)),(wD (mV 3))])))) [ac (W.d Ls),ac (W.d Ds),ac (W.d (ao ae A)),ac (W.d Y),ac (W.d (.int d)),ac (W.d (ao ae B))]=.ok false:=
     lN (p:=false) (q:=false) (bx (av (call2 rfl rfl (Vn G GB S)) rfl rfl)) λ_=>oH (p:=true) (bx (zE (bY (call2 rfl rfl (P4 G GB S))) rfl rfl rfl kp))
    exact(gF c1).trans ((dr c2).trans rfl)
   |false=>
    rw[hs]at c1;have nS:¬ Sm ae A B:=λS=>by rw[xV.mpr S]at hs;cases hs
    cases ha:mK ae A B with
    |nil=>exact absurd ((FC G GB).mp ha) nS
    |cons q rr=>
     obtain⟨b,l⟩:=q;have ap:=QL G GB ha;obtain⟨x,y,hx,hy,h1,hp,np,O⟩:=NM (by cases b;exact GB;exact G) (by cases b;exact G;exact GB) ap;obtain⟨xn,yn⟩:=om hp;have tl:=Sz G GB ha h1 hx hy xn yn;have apk:=VG G GB hx hy hp np O;have c2:(dE (cB (aR qH [(wD (aR kC [(wD (mV 2)),(wD (mV 5))])),(wD (mN b9 [(mV 2),(mV 5)]))]))) [ac (W.d Ls),ac (W.d Ds),ac (W.d (ao ae A)),ac (W.d Y),ac (W.d (.int d)),ac (W.d (ao ae B))]=.ok false:=
      oH (p:=true) (bx (call2 (bY (call2 rfl rfl tl)) (bY ((la (x:=ao ae A) (y:=ao ae B) rfl rfl).trans (aK (by show(2:Nat)<=_;decide)))) apk))
     exact(dr c1).trans ((dr c2).trans rfl)) [ac (W.d Ls),ac (W.d Ds),ac (W.d (ao ae A)),ac (W.d Y),af,af] ⟨af,af,rfl⟩
 subst he;unfold Cc Kl;rw[rS,<- hLs];rw[<- hLs,<- hDs]at hds;rw[<- hDs]at D6 h33;rw[<- hY]at sy;rw[show([ac (W.d Ls)]++bZ (6-1) af)=[ac (W.d Ls),af,af,af,af,af]from rfl];rw[aL (e':=[ac (W.d Ls),ac (W.d Ds),af,af,af,af]) (bv (gG rfl hds))];have h4:m2 aw (mN b9 [(mC (.int 4)),(mC (.int 4)),(mC (.int 4)),(mC (.int 5))]) (m2 bL (m2 aw (mV 1) (mC (.int 33))) (mC (.int 4))) [ac (W.d Ls),ac (W.d Ds),af,af,af,af]=.ok (.int (hi:Int)):=
  av (x:=.lst ([4,4,4,5].map D.int)) (by show bu (([4,4,4,5].map D.int).length<=16777216) _=_;exact aK (by simp)) (av (av rfl rfl h33) rfl ((oJ _ _).trans (aK (by decide)))) hhi
 rw[aL (e':=[ac (W.d Ls),ac (W.d Ds),ac (W.d (ao ae A)),af,af,af]) (bv (mD (f:=tq) rfl rfl (bY h4) D6))];rw[aL (e':=[ac (W.d Ls),ac (W.d Ds),ac (W.d (ao ae A)),ac (W.d Y),af,af]) (bv (gG rfl sy))];have it:br (dP fE (mV 1) (ac (mC (.int 39))) (ac (mC (.int 40)))) [ac (W.d Ls),ac (W.d Ds),ac (W.d (ao ae A)),ac (W.d Y),af,af]=.ok (qd.map D.int):=by refine dM (x:=.lst (qd.map D.int)) ?_ rfl;rw[<- hqd,hDs];rfl
 rw[aL ((ej it).trans f1)];rfl
end Mr
namespace rN
open PySem L2 PyProof.Rows
theorem _root_.L2.cE.cl{K:bb}{mg:Str->Option ai}{k:Nat}{x:Str}{st:bE}{ps:List Str}{sp:Sp}(F:cE K mg x st ps)(P:cp)(w:bI)(base:bq)(h:∀f fd,cy K x x st f fd->bN P w K mg base aX k f fd ps sp):bG P w K mg base aX k x ps sp:=F.cal h
abbrev cN:ak:=177
abbrev tN:ak:=173
instance Ww:A.dm:=⟨[(tN,yd "sorted_rows")],λc=>0⟩
theorem walk{l:CY}{q:cp}{loose:List Str}{XP:(Str->Option ai)->bq->Prop}{YP:bI->bq->Prop}{d:DefRec}{K:Params->bb}(hn:l.most=ac 63)(hdf:d.params.defaults=[])
 (hY:∀(w:bI) (h:bq),YP w h->(K w.params).In h) (hL:∀w:bI,GK (K w.params)=true) (hK:∀w:bI,(K w.params).lookup tN=af) (hrec:∃d,(recsOf q).find? (λe=>e.name==("sorted_rows" : Str))=ac d) (htab:∀w:bI,PySem.W.tabIn (K w.params) "sorted_rows" = ac (cN,tN))
 (F:∀(w:bI) (mg:Str->Option ai) (fa:ak) (h:bq),(K w.params).In h->h.Ns mainGlobals mg->mg d.name=ac (.ref fa) ->
  ∃fd:bU,(∀(s:aB) (u:ai),pY s fd ⟨[u],[]⟩ [("_law_script",u)])/\∀base:bq,(K w.params).In base->base.Ns mainGlobals mg->BM mg base->lf base cN tN->bN l.prog w (K w.params) mg base aX 9 fa fd ["_law_script"] A.vM) :
 PySem.W.WalkO q loose XP YP l.row.toRowW d [] (λf vs=>C8 f vs):=
 L2.VA (x := "_law_script") (dn := "sorted_rows") (qn:=yd "sorted_rows") (k:=9) rfl hn hdf ⟨rfl,by decide,by decide⟩ hY (λw a o e c=>TX (hL w) e c) hK hrec htab F
theorem QK{K:bb}{h:bq}{mg:Str->Option ai}(X:K.In h)(G:h.Ns mainGlobals mg)(D7:gA K mainGlobals "len" = ac af)(D8:gA K mainGlobals "range" = ac af)(D9:gA K mainGlobals "max" = ac af)(Ea:gA K mainGlobals "min" = ac af)(Eb:gA K mainGlobals "tuple" = ac af)(Ec:gA K mainGlobals "list" = ac af)(Ed:gA K mainGlobals "isinstance" = ac af)(Ee:gA K mainGlobals "all" = ac af)(Ef:gA K mainGlobals "any" = ac af)(Eg:gA K mainGlobals "bool" = ac af)(Eh:gA K mainGlobals "str" = ac af)(Ei:gA K mainGlobals "int" = ac af)(Ej:gA K mainGlobals "zip" = ac af)(Ek:gA K mainGlobals "enumerate" = ac af)(El:gA K mainGlobals "sorted" = ac af)(Em:gA K mainGlobals "reversed" = ac af)(En:gA K mainGlobals "set" = ac af){MK:Tok}(Eo:gA K mainGlobals "LETTERS" = ac (ac (.str "abcdefghijklmnopqrstuvwxyz" MK))){ML:Tok}(Ep:gA K mainGlobals "MOST_LETTERS" = ac (ac (.int 8 ML))){MM:Tok}(Er:gA K mainGlobals "MOST_NAMES" = ac (ac (.int 8 MM))):Txt mg:=⟨iP X G D7,iP X G D8,iP X G D9,iP X G Ea,iP X G Eb,iP X G Ec,iP X G Ed,iP X G Ee,iP X G Ef,iP X G Eg,iP X G Eh,iP X G Ei,iP X G Ej,iP X G Ek,iP X G El,iP X G Em,iP X G En,⟨MK,vU X G Eo⟩,⟨ML,vU X G Ep⟩,⟨MM,vU X G Er⟩⟩
theorem Qk{l:CY}{w:bI}{K:bb}{mg:Str->Option ai}{fa:ak}(hfa:mg "law" = ac (.ref fa))(T:Txt mg)(MN:cE K mg "refuse_unlike_names" Bd ["first","second"])(MO:cE K mg "refuse_strangers" BW ["names","asked"])(MP:cE K mg "are_tied" zG ["net","one","other"])(MQ:cE K mg "pairs_of" BG ["names"])(MR:cE K mg "ties_of" Bt ["net"])(Es:wJ K mg "sorted_rows" Ac ["names","rows"] cN)(MS:cE K mg "corners_of" BR ["net"])(MT:cE K mg "roads_apart" Cp ["first","second"])(MU:cE K mg "elders_of" Bf ["net","name"])(MV:cE K mg "names_along" B7 ["names","steps","name"])(MW:cE K mg "names_below" zA ["net","name"])(MX:cE K mg "list_that_parts" z8 ["net","one","other"])(MY:cE K mg "told_apart" zQ ["first","second"])(MZ:cE K mg "say_same" Bc ["first","second"])(M0:cE K mg "can_be_turned" Al ["net","tail","head"])(M1:cE K mg "turnable_in" BA ["net"])(M2:cE K mg "is_word" BH ["text"])(M3:cE K mg "refuse_wrong_names" zV ["names"])(M4:cE K mg "refuse_wrong_pairs" Ag ["names","arrows"])(M5:cE K mg "first_ready" A7 ["net","told"])(M6:cE K mg "in_turn" BZ ["net"])(M7:cE K mg "refuse_ring" Bn ["net"])(M8:cE K mg "net_made" Ce ["names","arrows"])(M9:cE K mg "net_turned" Ap ["net","tail","head"])(Na:cE K mg "chain_to" Cy ["first","second"])(Nb:cE K mg "_law_draws" Am ["_law_script"])(Nc:cE K mg "_law_words" A8 ["_law_cell","_law_many"])(Nd:cE K mg "_law_names" BE ["_law_draws_here","_law_many"])(Nf:cE K mg "_law_ranks" AY ["_law_draw","_law_many"])(Ng:cE K mg "_law_net" AH ["_law_draws_here","_law_least","_law_most"])(Nh:cE K mg "_law_any" BX ["_law_names_here","_law_draw"])(Ni:cE K mg "_law_elders" As ["_law_arrows","_law_name"])(Nj:cE K mg "_law_covered" B4 ["_law_arrows"])(Nk:cE K mg "_law_flipped" BY ["_law_arrows","_law_arrow"])(Nl:cE K mg "_law_comes_round" A9 ["_law_names_here","_law_arrows"])(Nm:cE K mg "_law_spoiled" Bs ["_law_names_here","_law_arrows","_law_cell"])(No:cE K mg "_law_sorted" zB ["_law_names_here","_law_arrows"])(Np:cE K mg "_law_second" A3 ["_law_net_here","_law_draw"])(Nq:cE K mg "_law_high" A1 ["_law_net_here","_law_some"])(Nr:cE K mg "_law_parted" zM ["_law_net_here","_law_one","_law_other","_law_held"])(Nu:cE K mg "_law_tied" Ax ["_law_net_here","_law_one","_law_other"])(Nv:cE K mg "_law_open" BB ["_law_net_here","_law_road","_law_one","_law_other","_law_held"])(Nw:cE K mg "_law_apart" zz ["_law_told","_law_nets"])(Nx:cE K mg "_law_lists" Cs ["_law_some"])(Ny:cE K mg "_law_says" Bl ["_law_net_here"])(Nz:cE K mg "_law_keeps" B0 ["_law_told","_law_net_here","_law_other","_law_says_here"])(NA:cE K mg "law" Aw ["_law_script"]) :
 ∃fd:bU,(∀(s:aB) (u:ai),pY s fd ⟨[u],[]⟩ [("_law_script",u)])/\∀base:bq,K.In base->base.Ns mainGlobals mg->BM mg base->lf base cN tN->bN l.prog w K mg base aX 9 fa fd ["_law_script"] A.vM:=
 cE.Th NA hfa λbase kb nb hB hC f fd F=>by
  have ui:=MN.cl l.prog w base λf fd F=>Ra F T;have jB:=MO.cl l.prog w base λf fd F=>Sw F T;have uf:=MP.cl l.prog w base λf fd F=>Q6 F T jB;have ug:=MQ.cl l.prog w base λf fd F=>Qr F T;have qb:=MR.cl l.prog w base λf fd F=>Vq F T uf ug;have uh:=Es.cal (P:=l.prog) (w:=w) (base:=base) (CX:=aX) λf fd F=>O9 F T hB hC (eD.mpr rfl);have qc:=MS.cl l.prog w base λf fd F=>PZ F T uf uh ug;have DF:=MT.cl l.prog w base λf fd F=>P1 F T qb qc;have nG:=MU.cl l.prog w base λf fd F=>TF F T jB;have DD:=MV.cl l.prog w base λf fd F=>QV F T;have DE:=MW.cl l.prog w base λf fd F=>Ug F T jB DD;have DG:=MX.cl l.prog w base λf fd F=>Sv F T nG DE;have zr:=MY.cl l.prog w base λf fd F=>VM F T ui DF DG;have DN:=MZ.cl l.prog w base λf fd F=>TV F T qb qc ui;have uj:=M0.cl l.prog w base λf fd F=>PV F T nG;have DO:=M1.cl l.prog w base λf fd F=>UG F T uj;have DH:=M2.cl l.prog w base λf fd F=>Rb F T;have DJ:=M3.cl l.prog w base λf fd F=>Qd F T DH;have DK:=M4.cl l.prog w base λf fd F=>Ol F T jB;have zp:=M5.cl l.prog w base λf fd F=>Oq F T nG;have DI:=M6.cl l.prog w base λf fd F=>R9 F T zp;have DL:=M7.cl l.prog w base λf fd F=>QR F T DI;have DM:=M8.cl l.prog w base λf fd F=>SS F T uh DJ DK DL;have DP:=M9.cl l.prog w base λf fd F=>PX F T DM jB uj;have DY:=Na.cl l.prog w base λf fd F=>Pl F T DN DO DP;have DZ:=Nb.cl l.prog w base λf fd F=>PU F T;have DQ:=Nc.cl l.prog w base λf fd F=>NI F T;have DR:=Nd.cl l.prog w base λf fd F=>OS F T DQ;have uk:=Nf.cl l.prog w base λf fd F=>N0 F T;have D0:=Ng.cl l.prog w base λf fd F=>Pb F T DR uk;have DS:=Nh.cl l.prog w base λf fd F=>NR F T uk;have zq:=Ni.cl l.prog w base λf fd F=>Vu F T;have DT:=Nj.cl l.prog w base λf fd F=>Vz F T zq;have oC:=Nk.cl l.prog w base λf fd F=>RR F T;have rP:=Nl.cl l.prog w base λf fd F=>Q8 F T;have DU:=Nm.cl l.prog w base λf fd F=>On F T oC rP;have ul:=No.cl l.prog w base λf fd F=>N8 F T;have D1:=Np.cl l.prog w base λf fd F=>Tq F T DS DT oC DU ul;have uo:=Nq.cl l.prog w base λf fd F=>S8 F T;have uq:=Nr.cl l.prog w base λf fd F=>UF F T uo;have DV:=Nu.cl l.prog w base λf fd F=>VE F T;have DW:=Nv.cl l.prog w base λf fd F=>O6 F T DV uo;have D2:=Nw.cl l.prog w base λf fd F=>OR F T uq DW;have DX:=Nx.cl l.prog w base λf fd F=>U1 F T;have rQ:=Ny.cl l.prog w base λf fd F=>Va F T uq DX;have D3:=Nz.cl l.prog w base λf fd F=>SV F T oC rP ul rQ;exact A.UR (QA F T zr DY DZ D0 D1 D2 rQ D3) λns hl=>by first|exact Mr.HF ns|exact Mr.HF ns hl
end rN
namespace PySem.W.Fast
def tw5360222388596599950:=0
def tw9521724880594721318:=0
def tw2793304484719382178:=0
def tw12334719586886719360:=0
def tw7710467499420332572:=0
def tw14892845404514793044:=0
def tw12668959685551398009:=0
def tw17270916051171328876:=0
def tw13215105666584335143:=0
def tw12327088468638459711:=0
def tw10362398026338863277:=0
def tw7171977484859132261:=0
def tw12571850761808926264:=0
def tw10986739418729448660:=0
def tw6168744558050268340:=0
def tw3690822484492828748:=0
def tw15775342193235778894:=0
def tw9342375508936772922:=0
def tw16151081349325259020:=0
def tw14426357290778485065:=0
def tw14302270453185375280:=0
def tw16541299349900950214:=0
def tw11251202335232916905:=0
def tw18013361883923926438:=0
def tw14282633009173663931:=0
def tw10247262392527139896:=0
def tw5459407661860511927:=0
def tw13724436870026754347:=0
def tw12951651991605173108:=0
def tw5616682464153472038:=0
def tw14754094070426570736:=0
def tw17872403598546197588:=0
def tw16233556476879786735:=0
def tw11978851398086193620:=0
def tw8535105599894104248:=0
def tw16605337078666948138:=0
def tw801864125398567955:=0
def tw11649241895256841847:=0
def tw3942947345232430612:=0
def tw6860528333580384743:=0
def tw4224226273030989963:=0
def tw15369389222622539800:=0
def tw8970143347767218638:=0
def tw5105380315279703726:=0
def tw2056094550371192474:=0
def tw6696071797796041781:=0
def tw12959129999437148073:=0
def tw12719314463907119526:=0
def tw3450811416146122549:=0
def tw14069144757859633724:=0
def tw11069965562771011442:=0
def tw14530415552842754716:=0
def tw17833311925833584132:=0
def tw13369921730622331758:=0
def tw11806365318887158018:=0
def tw11172489645172056194:=0
def tw18414540511845258592:=0
def tw17928177042642641702:=0
def tw16763502571810060559:=0
def tw11825329570944131217:=0
def tw7370686372138182096:=0
def tw9561603413692287719:=0
def tw8453970247609502553:=0
def tw12203240889051543647:=0
def tw11189220479608592822:=0
def tw2488114432468888073:=0
def tw10496230710109278363:=0
def tw6740820484182336916:=0
def tw16392065687998703177:=0
def tw14928197781749916235:=0
def tw9317753951995676726:=0
def tw7950082176070839581:=0
def tw4672777504153470011:=0
def tw11000220371346633968:=0
def tw10823700987397144110:=0
def tw6728910808408271952:=0
def tw2344084196255708938:=0
def tw16394078929384778005:=0
def tw14897533897546989607:=0
def tw12693054231607505537:=0
def tw2889525975677166211:=0
def tw10064960308861368943:=0
def tw15423501084666972702:=0
def tw1162352610480483991:=0
def tw8686587113498713123:=0
def tw5791858559902755655:=0
def tw1523978402683633706:=0
def tw1103491258483097463:=0
def tw8853264500589455663:=0
def tw6156684433081076580:=0
def tw576537054483402966:=0
def tw662269057446996470:=0
def tw14445710225039914723:=0
def tw12434767644304012416:=0
def tw18088888749868931403:=0
def tw3968094351324093969:=0
def tw3200287396413626264:=0
def tw14171726599395152457:=0
def tw12744693039249639913:=0
def tw14573560257326309719:=0
def tw11010504401849320836:=0
def tw6780912127115945815:=0
def tw2037764700160882553:=0
def tw9765930708876747434:=0
def tw6916268010098081891:=0
def tw14227876191612243594:=0
def tw2890444446836879961:=0
def tw10719950346285731764:=0
def tw9667278696720186542:=0
def tw1991630274545180401:=0
def tw14296440341793249762:=0
def tw8457032402050029013:=0
def tw13249098518732789201:=0
def tw937660500553735994:=0
def tw9326707552149010952:=0
def tw9157306225748680516:=0
def tw9075703970146590487:=0
def tw8542886208699454931:=0
def tw8529060098239737766:=0
def tw8211530212037777914:=0
def tw7895495783734605308:=0
def tw7872247660809548419:=0
def tw7434876752487598330:=0
def tw7204389424872723346:=0
def tw7199173751973936153:=0
def tw6574738035967490506:=0
def tw6253343956868696417:=0
def tw6239424072848843388:=0
def tw5773249161591651176:=0
def tw5689157320281303233:=0
def tw546982996663167664:=0
def tw545780572192832930:=0
def tw5277464028445870486:=0
def tw4908674558814226886:=0
def tw4657713421005885304:=0
def tw4572177121484162038:=0
def tw3993598349854479357:=0
def tw3827935851322261544:=0
def tw3814160876678494098:=0
def tw3729644225754621851:=0
def tw3005675557671910280:=0
def tw296107142686336952:=0
def tw2894913623240247023:=0
def tw2831897887438771786:=0
def tw2639281357785464682:=0
def tw234769039753013263:=0
def tw2138482112121878474:=0
def tw1909376962028341696:=0
def tw18132713435347473090:=0
def tw18128239969078423529:=0
def tw17882586679476099090:=0
def tw17078295225588342849:=0
def tw16536250763377732729:=0
def tw15378021275260545840:=0
def tw1513386069770665001:=0
def tw14602134693170255180:=0
def tw14294864704649330024:=0
def tw14254863274462656337:=0
def tw13998364705905774000:=0
def tw13177942102588257450:=0
def tw13085179754259308671:=0
def tw13070758622803294517:=0
def tw12922706756699132489:=0
def tw12701838413235622575:=0
def tw12502020328301611361:=0
def tw12448871491032174909:=0
def tw12334451104677895727:=0
def tw12018379946404658697:=0
def tw11731187558184694900:=0
def tw11706386745818395403:=0
def tw11413819103963050158:=0
def tw11373754067148053707:=0
def tw11358536301432971733:=0
def tw10716833295925920926:=0
def tw10335782998531425232:=0
def tw7238546780226156144:=0
def tw6472507110710698850:=0
def tw6109717709635026715:=0
def tw2277646462710079556:=0
def tw13371681698799314939:=0
def tw10965601619267486405:=0
def tw9744697382862413289:=0
def tw5696785799555503561:=0
def tw3196550994481251594:=0
def tw2916367300953406918:=0
def tw2639282854642395417:=0
def tw15511186962771552649:=0
def tw13935003815406345387:=0
def tw13667134482705468082:=0
def tw13334229241218983224:=0
def tw12977297248152234634:=0
def tw12072426439349202076:=0
def tw11955163403307191447:=0
def tw1187058157394644803:=0
def tw11670367776103461633:=0
def tw10107807602426835638:=0
def tw979195416596541643:=0
def tw9706811405304806950:=0
def tw9404675323653246863:=0
def tw9279187279070866998:=0
def tw7870214997944158396:=0
def tw7492670710284722373:=0
def tw7148577825718183392:=0
def tw6849240929742036474:=0
def tw6700040603168712694:=0
def tw6089150432660919785:=0
def tw3171450981729081635:=0
def tw2480622288607442446:=0
def tw2118545311758678528:=0
def tw18127760213043249577:=0
def tw17387918935384180518:=0
def tw17234621991358566335:=0
def tw14271939689309068348:=0
def tw13946808731815188018:=0
def tw1302167481474169600:=0
def tw12934409502112635635:=0
def tw10644946600266373812:=0
def tw1042214370755308596:=0
def tw9970870451688032328:=0
def tw9876986028096742173:=0
def tw9876047307618128144:=0
def tw9785768134272290506:=0
def tw9623859996441146507:=0
def tw9523186472504725682:=0
def tw9518866148457734080:=0
def tw9202675434780434889:=0
def tw8978471879335860549:=0
def tw874928863568045500:=0
def tw8731627098433561288:=0
def tw8369237805016255886:=0
def tw8355482076469921032:=0
def tw8296349176222713748:=0
def tw8285163472508605804:=0
def tw8122725688222251635:=0
def tw8067462311386021947:=0
def tw795926348248339857:=0
def tw7956751559209763300:=0
def tw782653036582669010:=0
def tw7683259613252804573:=0
def tw7460098686068732365:=0
def tw7409945421815808601:=0
def tw7408687882649803732:=0
def tw7303819308357776885:=0
def tw7221917103408083145:=0
def tw7181648331569791452:=0
def tw6634581985150621316:=0
def tw6590174373471059494:=0
def tw6277995829409907638:=0
def tw587406374040067145:=0
def tw5835153109314027311:=0
def tw5829359194028141116:=0
def tw5612477175434106017:=0
def tw5584205187924986377:=0
def tw5536469377769374383:=0
def tw5443892394019312582:=0
def tw5422824720498346421:=0
def tw518563417161735345:=0
def tw5063303953264971935:=0
def tw491731583538263144:=0
def tw4809242091418860729:=0
def tw4728571650153385828:=0
def tw4710729856276701633:=0
def tw4646469611013116769:=0
def tw4546843522099584727:=0
def tw4527100957750201912:=0
def tw4469885166348584525:=0
def tw4403390286797783680:=0
def tw4394474607183283820:=0
def tw41290940066281457:=0
def tw4081339382854795263:=0
def tw3792235543254721669:=0
def tw3359676798613281199:=0
def tw31975906194000973:=0
def tw3154269337433316816:=0
def tw2938711781758704420:=0
def tw2900283196681003163:=0
def tw2889070497539883263:=0
def tw2650128202838712606:=0
def tw2484888320146737138:=0
def tw2483928338559779881:=0
def tw1953097902697609001:=0
def tw18143360401647550827:=0
def tw18119546591524752363:=0
def tw17692057026596998423:=0
def tw17574216666996831623:=0
def tw17543023056849592587:=0
def tw17353008214416693889:=0
def tw17246790754794823873:=0
def tw16839936056299420646:=0
def tw16751267299579022191:=0
def tw16726889637877525357:=0
def tw16449579063928276408:=0
def tw16332190308802733952:=0
def tw16102872594109969508:=0
def tw15728937117383809073:=0
def tw15466163366262448831:=0
def tw15274987109974523670:=0
def tw1494944750094086428:=0
def tw14903318370316834947:=0
def tw14765669727609698698:=0
def tw14639235128272438677:=0
def tw14351120268741585336:=0
def tw14307896827869372842:=0
def tw14264889229691296239:=0
def tw14107707258158036462:=0
def tw1409304126792191826:=0
def tw1369798595923979419:=0
def tw13548552016135258544:=0
def tw12976051266861127637:=0
def tw12966580180903070480:=0
def tw12810449036104761973:=0
def tw12555758257381026355:=0
def tw12494517786308436317:=0
def tw11996135681871468511:=0
def tw11827425377289667075:=0
def tw11683543188360421915:=0
def tw11422231561761984228:=0
def tw11329963198334758325:=0
def tw10775885724485851840:=0
def tw10670178284678196021:=0
def tw10505208926254322935:=0
def tw10487295431830428954:=0
def tw10326999896822969800:=0
def tw10308914850334337450:=0
def tw10204690026537867924:=0
def tw100494522796592162:=0
def tw10011966775635045937:=0
def tw1000251355140673469:=0
def tw15779453832152643124:=0
def tw11142374832366942585:=0
def tw5987900742980154600:=0
def tw10376554485618253198:=0
def tw2692246153223321260:=0
def tw18265615814787960126:=0
def tw3740760292295747442:=0
def tw15476780715583263673:=0
def tw3035587617936921977:=0
def tw314696013537988682:=0
def tw14035538141067312272:=0
def tw9637205890789164196:=0
def tw1864722213609993500:=0
def tw2099403356430752962:=0
end PySem.W.Fast
open PySem PySem.W PyProof.Rows
set_option maxRecDepth 100000 in
set_option maxHeartbeats 0 in
theorem PySem.Challenge.cw_arrowfind_k33_whole_chains_keep_partings_holds : PySem.Challenge.rw_arrowfind_k33_whole_chains_keep_partings.Holds := by
 w_on;o_law;k_head;(case hw=>w_witness2)
 k_fill
 refine rN.walk (l:=PySem.Challenge.rw_arrowfind_k33_whole_chains_keep_partings) rfl rfl (λw h Y=>PySem.W.km_in_of Y) ?L ?K ⟨_,rfl⟩ ?H ?F
 case L=>
  intro w
  kernel_rfl
 case K=>
  intro w
  kernel_rfl
 case H=>
  intro w
  kernel_rfl
 case F=>
  intro w mg fa h KX G hmg
  refine' rN.Qk hmg ?T ?MN ?MO ?MP ?MQ ?MR ?Es ?MS ?MT ?MU ?MV ?MW ?MX ?MY ?MZ ?M0 ?M1 ?M2 ?M3 ?M4 ?M5 ?M6 ?M7 ?M8 ?M9 ?Na ?Nb ?Nc ?Nd ?Nf ?Ng ?Nh ?Ni ?Nj ?Nk ?Nl ?Nm ?No ?Np ?Nq ?Nr ?Nu ?Nv ?Nw ?Nx ?Ny ?Nz ?NA
  case T=>
   refine' rN.QK KX G ?D7 ?D8 ?D9 ?Ea ?Eb ?Ec ?Ed ?Ee ?Ef ?Eg ?Eh ?Ei ?Ej ?Ek ?El ?Em ?En ?Eo ?Ep ?Er
   (case D7=>k_is)
   (case D8=>k_is)
   (case D9=>k_is)
   (case Ea=>k_is)
   (case Eb=>k_is)
   (case Ec=>k_is)
   (case Ed=>k_is)
   (case Ee=>k_is)
   (case Ef=>k_is)
   (case Eg=>k_is)
   (case Eh=>k_is)
   (case Ei=>k_is)
   (case Ej=>k_is)
   (case Ek=>k_is)
   (case El=>k_is)
   (case Em=>k_is)
   (case En=>k_is)
   (case Eo=>k_is)
   (case Ep=>k_is)
   (case Er=>k_is)
  case Es=>
   refine' L2.P6 (c:=rN.cN) KX G (λ_ _ _ _ _ _ us hl=>match us,hl with|[_,_],_=>rfl) ?a ?l ?c ?k
   (case a=>k_is);(case l=>k_is);(case c=>k_is);(case k=>k_is)
  all_goals
   first
    |(refine' L2.vB KX G (λ_ _ _ _ _ _ us hl=>match us,hl with|[_],_=>rfl) ?a ?l ?c ?k;(case a=>k_is);(case l=>k_is);(case c=>k_is);(case k=>k_is))
    |(refine' L2.vB KX G (λ_ _ _ _ _ _ us hl=>match us,hl with|[_,_],_=>rfl) ?a ?l ?c ?k;(case a=>k_is);(case l=>k_is);(case c=>k_is);(case k=>k_is))
    |(refine' L2.vB KX G (λ_ _ _ _ _ _ us hl=>match us,hl with|[_,_,_],_=>rfl) ?a ?l ?c ?k;(case a=>k_is);(case l=>k_is);(case c=>k_is);(case k=>k_is))
    |(refine' L2.vB KX G (λ_ _ _ _ _ _ us hl=>match us,hl with|[_,_,_,_],_=>rfl) ?a ?l ?c ?k;(case a=>k_is);(case l=>k_is);(case c=>k_is);(case k=>k_is))
    |(refine' L2.vB KX G (λ_ _ _ _ _ _ us hl=>match us,hl with|[_,_,_,_,_],_=>rfl) ?a ?l ?c ?k;(case a=>k_is);(case l=>k_is);(case c=>k_is);(case k=>k_is))
