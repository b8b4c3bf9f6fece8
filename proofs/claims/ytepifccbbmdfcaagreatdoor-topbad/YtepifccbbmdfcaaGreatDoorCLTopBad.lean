/- For every input the law TopBad answers true and leaves its arguments as they were; the table of operators is as the program's own text lays it (the card ties it). -/
import Derived.Deep.Modes
import Derived.SevenTiedAt
import Derived.Test.YtepifccbbmdfcaaGreatDoorCards
import Derived.Test.YtepifccbbmdfcaaGreatDoorTie
import Derived.Test.YtepifccbbmdfcaaGreatDoorCETopBadJTopBad
namespace Go.Proofs.YtepifccbbmdfcaaGreatDoor
set_option maxRecDepth 100000
set_option maxHeartbeats 8000000
open Go.ChangeShapes Go.WideShapes Go.ChangeAt Go.RowKit Go.Deep
theorem topBad_lifted (os:Os) (started:os.Started) (H:Type) (enc:TypeId × Value->H) :
  ReturnsInHanded {} Tryz.checked os 8 .any (fun w args=>(Rows.topBadSpec.pre enc Tryz.prog Tryz.f8 [] false w args/\laidMetH Tryz.prog opsLaid w)/\sizedMet enc Tryz.prog Tryz.f8 (OpenSpec.ofChange Rows.topBadSpec) false w args)
   (Rows.topBadSpec.post enc Tryz.prog Tryz.f8 false true false false):=by
 refine returnsInHanded_of_change_and (C:=Tryz.checked) (X:=fun w _=>laidMetH Tryz.prog opsLaid w) (fun _ _ _ hh h=>h.of_heap hh) Tryz.cown started (by kernel_rfl) Tryz.func8
  (ChangeSpec.witness_shaped (enc:=enc) (C:=Tryz.checked) (os:=os) (X:=fun w _=>laidMetH Tryz.prog opsLaid w) false (World.doorLaid Tryz.prog 400 os) #[.slice none 0 0,.int .i64 0,.int .i64 0] 8 rfl (World.shaped_of_RefB (by kernel_rfl) (by kernel_rfl)) (by kernel_rfl) (by kernel_rfl) (by kernel_rfl) (door_met os _)) ?_
 intro W base args ds gs before hval0 hW _ hsz0 hL _;have hsz:(DataW.weightsEach Tryz.prog (Tryz.f8.params.toList++Rows.topBadSpec.plain.varTypes Tryz.prog) (ds++gs)).all (·<=reachBytes)=true:=hsz0;clear hsz0;have hval:∀ (j:Nat) t v,Tryz.f8.params[j]?=some t->args[j]?=some v->Value.okWide Tryz.prog W .any base t v:=hval0;have hW':=hW;obtain⟨p,q,hA0,hV,rfl,hfz,_⟩:=hW;have hA:DataW.TrodAll enc Tryz.prog W 0 (fun _=>true) true Tryz.f8.params.toList args.toList ds p:=hA0
 rw[Tryz.params8] at hA hval hsz;have hAk:DataW.TrodAll enc Tryz.prog W 0 (fun _=>true) true [57,3,3] args.toList ds p:=hA;obtain⟨rfl,rfl⟩:=trodVars_none hV;clear hA0 hval0 hV hA;simp only[List.append_nil] at hW' hfz hsz;have hlt:∀ x∈p,x.block<W.heap.size:=fun x hx=>hW'.lt x (by simp[hx])
 have hAc:=hAk;obtain⟨v0,vs0,d0,ds0,p0,q0,hargs,hds,hps,h0,hAc⟩:=trodAll_cons hAc;obtain⟨v1,vs1,d1,ds1,p1,q1,rfl,rfl,rfl,h1,hAc⟩:=trodAll_cons hAc;obtain⟨v2,vs2,d2,ds2,p2,q2,rfl,rfl,rfl,h2,hAc⟩:=trodAll_cons hAc;obtain⟨rfl,rfl,rfl⟩:=trodAll_nil hAc;obtain rfl:args=#[v0,v1,v2]:=by cases args;simp_all
 subst hds;clear hAc hargs;obtain⟨_,_,_,_,TR⟩:=rawTypes;have hw0:∀ n∈d0.weights Tryz.prog 57,n<=reachBytes:=fun n hn=>of_decide_eq_true (List.all_eq_true.1 hsz n (DataW.weights_mem_each (j:=0) (t:=57) rfl rfl n hn))
 obtain⟨a0,l0,c0,rfl,hp0,hb0⟩:=open_raws TR (hval 0 57 v0 rfl rfl) h0 hw0;obtain⟨n1,rfl,hi1⟩:=open_int Tryz.underlying3 (hval 1 3 v1 rfl rfl) h1;obtain⟨n2,rfl,hi2⟩:=open_int Tryz.underlying3 (hval 2 3 v2 rfl rfl) h2;refine(topBad_walk a0 c0 l0 n1 n2 W (tab_of_laid hL) hp0 hb0 hi1 hi2).mono fun e W' ⟨he,hb⟩=>?_
 subst he;refine⟨_,rfl,?_⟩;have ARG:DataW.TrodAll enc Tryz.prog W' 0 (fun x=>decide (x<W.heap.size)) true [57,3,3] _ _ p :=
  trodAll_stays Tryz.claidOut hAk (fun t ht=>by
   have hall:([57,3,3].all fun u=>Tryz.prog.readableRec u && decide (u<Tryz.prog.types.size))=true:=by kernel_rfl
   simpa using List.all_eq_true.1 hall t ht) (fun x hx=>hb.same (hlt x hx)) (fun x hx=>by simpa using hlt x hx)
 refine⟨_,_,_,[],p,[],hW',trodAll_mk1 (shut_bool Tryz.underlying4 true),ARG,rfl,hb.frame _,fun h=>by cases h⟩
theorem topBad_row:Rows.TopBadSaid :=
 OpenClaim.holds_of_wide 8 Tryz.f8 rfl rfl rfl rfl rfl rfl rfl ⟨rfl,rfl,rfl,rfl,rfl⟩ rfl rfl rfl rfl rfl (by kernel_rfl) Tryz.func8 topBad_facts
  (of_decide_eq_true (by kernel_rfl)) (by unfold Func.isWrapper;rw[if_neg (of_decide_eq_false (by kernel_rfl))];exact⟨rfl,rfl⟩)
  (fun os started H enc _=>topBad_lifted os started H enc)
theorem topBad_card:Rows.TopBadCardSaid :=
 Claim7.holds_tied_plain_at .later [] [.data] true Rows.topBadCard.stood.harness false
  topBad_row (fun _ h=>by cases h) (by as_aux_lemma=>kernel_rfl) (fun _ h=>by cases h) topBad_row_tie rfl ⟨rfl,rfl⟩ (by as_aux_lemma=>kernel_rfl) rfl
  (fun f fn hf hfn=>by
   obtain rfl : f = 8 := Option.some.inj ((show Tryz.prog.funcNamed "treadwheel/treadwheeltop.TopBad" = some 8 by as_aux_lemma => kernel_rfl).symm.trans hf) |>.symm
   obtain rfl:fn=Tryz.f8:=(Option.some.inj (Tryz.func8.symm.trans hfn)).symm;exact⟨by as_aux_lemma=>kernel_rfl,fun j t ht=>by
    rw[Tryz.params8] at ht;have hm:t∈[57,3,3]:=by simpa using Array.mem_of_getElem? ht
    have hall:([57,3,3].all fun u=>!Tryz.prog.wantsStandIn u)=true:=by as_aux_lemma=>kernel_rfl
    exact(show Tryz.prog.wantsStandIn t=false by simpa using List.all_eq_true.1 hall t hm)⟩)
  (by as_aux_lemma=>kernel_rfl)
#print axioms topBad_card
end Go.Proofs.YtepifccbbmdfcaaGreatDoor
