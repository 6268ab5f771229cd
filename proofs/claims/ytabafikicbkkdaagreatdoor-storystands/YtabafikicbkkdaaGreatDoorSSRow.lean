/- The statement StoryStands holds, tied: for every script the call returns true and its argument reads as it did; the package-level variables start as their texts lay them. -/
import Derived.Test.YtabafikicbkkdaaGreatDoorCards
import Derived.Test.YtabafikicbkkdaaGreatDoorTie
import Derived.Test.YtabafikicbkkdaaGreatDoorSV12
import Derived.Test.YtabafikicbkkdaaGreatDoorSV43
import Derived.Deep.DeepHandedRow
import Derived.LaidMore
import Derived.SevenTiedAt
namespace Go.Proofs.YtabafikicbkkdaaGreatDoor
open Go.ChangeShapes Go.WideShapes Go.ChangeAt Go.RowKit
set_option linter.unusedVariables false
set_option maxRecDepth 100000
set_option linter.unusedSimpArgs false
theorem storyStands_contract (H:Type) (enc:TypeId×Value→H) (W:World) (base:Nat) (args:Array Value) (ds gs:List (DataW H)) (before:List MemPlace)
  (hval0:∀ (j:Nat) t v,Tryz.f5.params[j]?=some t→args[j]?=some v→Value.okWide Tryz.prog W .any base t v)
  (hW:DataW.Whole enc Tryz.prog Tryz.f5.params.toList Rows.storyStandsSpec.vars false W args.toList ds gs before) (hL:laidMetH Tryz.prog Rows.storyStandsRow.laid W) (hsh:W.ShapedOpen Tryz.prog) :
  Calls Tryz.prog 5 args W fun e W'=>∃ v,e=.returned v∧Rows.storyStandsSpec.post enc Tryz.prog Tryz.f5 false true false false W args v W':=by
 have hE:Env W:=env_of (laid:=Rows.storyStandsRow.laid) hL hsh (List.mem_of_getElem? (show Rows.storyStandsRow.laid[2]?=some _ from rfl)) (List.mem_of_getElem? (show Rows.storyStandsRow.laid[4]?=some _ from rfl)) (List.mem_of_getElem? (show Rows.storyStandsRow.laid[5]?=some _ from rfl)) (List.mem_of_getElem? (show Rows.storyStandsRow.laid[6]?=some _ from rfl))
 have hval:∀ (j:Nat) t v,Tryz.f5.params[j]?=some t→args[j]?=some v→Value.okWide Tryz.prog W .any base t v:=hval0
 have hW':=hW
 obtain ⟨p,q,hA0,hV,rfl,hfz,hnd⟩:=hW
 have hA:DataW.TrodAll enc Tryz.prog W 0 (fun _=>true) true Tryz.f5.params.toList args.toList ds p:=hA0
 rw [Tryz.params5] at hA hval
 obtain ⟨v0,vs0,d0,ds0,p0,q0,hargs,rfl,rfl,k0,r0⟩:=trodAll_cons hA
 obtain ⟨rfl,rfl,rfl⟩:=trodAll_nil r0
 obtain rfl:args=#[v0]:=by cases args;simp_all
 obtain ⟨rfl,rfl⟩:=trodVars_none hV
 have lt0:∀ x∈p0,x.block < W.heap.size:=by obtain ⟨m,hm⟩:=k0;exact DataW.trod_lt m _ _ _ hm
 obtain ⟨a0,n0,c0,X0,rfl,i0⟩:=haps_arg (hval 0 22 v0 rfl rfl) k0
 clear hA0 hval0
 refine (StoryStands_c a0 n0 c0 X0 W hE i0).mono fun e W' ⟨he,bel⟩=>?_
 subst he
 exact ⟨_,rfl,_,_,_,[],_,[],hW',trodAll_mk1 (shut_bool Tryz.underlying4 _),(trodAll_cons_mk (Below.trod laidOut (by kernel_rfl) (of_decide_eq_true (by kernel_rfl)) k0 bel lt0) trodAll_mk0),rfl,bel.frame _,fun h=>by cases h⟩
noncomputable def storyStands_world (os:Os):World:=
 {(World.doorLaid Tryz.prog 101 os) with heap:=(World.doorLaid Tryz.prog 101 os).heap.modify 5 fun
   |.cells _ t fr=>.cells ((Rows.laid_unicode_utf8_first:DataW Unit).flat.map Lit.toCell).toArray t fr
   |o=>o}
theorem storyStands_met (os:Os):laidMet Tryz.prog Rows.storyStandsRow.laid ((storyStands_world os).forCall (fun _ _=>0) ⟨#[],#[.slice none 0 0],[]⟩).memory:=
 laidMet_of_run' 8 (by kernel_rfl) (by kernel_rfl)
theorem storyStands_reads (os:Os) {H:Type} (enc:TypeId×Value→H):∃ places,DataW.whole enc Tryz.prog ((storyStands_world os).forCall (fun _ _=>0) ⟨#[],#[.slice none 0 0],[]⟩).memory Tryz.f5.params.toList Rows.storyStandsSpec.vars false (#[.slice none 0 0]:Array Value).toList 8=some ([.nil],[],places):=
 ⟨[],by kernel_rfl⟩
theorem storyStands_lifted (os:Os) (started:os.Started) (H:Type) (enc:TypeId×Value→H) (F:Stop.Interp) :
  ReturnsInHanded {} Tryz.checked os 5 .any ((OpenSpec.ofChange Rows.storyStandsSpec).preRow enc Tryz.prog Tryz.f5 Rows.storyStandsRow.domain false Rows.storyStandsRow.laid) (((OpenSpec.ofChange Rows.storyStandsSpec).at F).post enc Tryz.prog Tryz.f5 false true false false):=by
 obtain ⟨places,hx⟩:=storyStands_reads os enc
 refine returnsInHanded_of_row (C:=Tryz.checked) (s:=OpenSpec.ofChange Rows.storyStandsSpec) own started (by kernel_rfl) Tryz.func5
  (witness_row_at (enc:=enc) (C:=Tryz.checked) false (storyStands_world os) #[.slice none 0 0] rfl (by kernel_rfl) (by kernel_rfl) (by kernel_rfl)
   (OpenSpec.preRow_of_cond 8 hx (by kernel_rfl) (fun k hk=>by cases hk) (by kernel_rfl) (storyStands_met os))) ?_
 intro W base args ds gs before hval hW _ _ _ hL hsh _
 exact storyStands_contract H enc W base args ds gs before hval hW hL hsh
theorem storyStands_said:Rows.StoryStandsSaid:=
 OpenClaim.holds_of_cond 5 Tryz.f5 rfl rfl rfl rfl rfl rfl rfl ⟨rfl,rfl,rfl,rfl,rfl⟩ rfl rfl rfl rfl rfl (by kernel_rfl) Tryz.func5 (by kernel_rfl)
  (of_decide_eq_true (by kernel_rfl)) (by unfold Func.isWrapper;first|(rw [if_pos (by decide +kernel)];kernel_rfl)|(rw [if_neg (by decide +kernel)];exact ⟨rfl,rfl⟩))
  (fun os started H enc _ F=>by rw [OpenClaim.pre_eq_preRow];exact storyStands_lifted os started H enc F)
theorem storyStands_plain (f:FuncId) (fn:Func) (hf:Tryz.pinned.checked.prog.funcNamed Rows.storyStandsRow.func=some f) (hfn:Tryz.pinned.checked.prog.funcs[f]?=some fn) :
  true=Tryz.pinned.checked.prog.looks []∧∀ (j:Nat) t,fn.params[j]?=some t→Tryz.pinned.checked.prog.wantsStandIn t=false:=by
 obtain rfl:f=5:=Option.some.inj ((show Tryz.prog.funcNamed Rows.storyStandsRow.func=some 5 by kernel_rfl).symm.trans hf)|>.symm
 obtain rfl:fn=Tryz.f5:=(Option.some.inj (Tryz.func5.symm.trans hfn)).symm
 refine ⟨by kernel_rfl,fun j t ht=>?_⟩
 rw [Tryz.params5] at ht
 have hm:t∈[22]:=by simpa using Array.mem_of_getElem? ht
 have hall:([22].all fun u=>!Tryz.prog.wantsStandIn u)=true:=by kernel_rfl
 exact (show Tryz.prog.wantsStandIn t=false by simpa using List.all_eq_true.1 hall t hm)
theorem storyStands_proved:Rows.StoryStandsCardSaid:=
 Claim7.holds_tied_plain_at .later [] _ _ _ _ storyStands_said (fun _ h=>by cases h) (by kernel_rfl) (fun _ h=>by cases h) storyStands_row_tie rfl ⟨rfl,rfl⟩ (by kernel_rfl) rfl storyStands_plain (by kernel_rfl)
#print axioms storyStands_proved
end Go.Proofs.YtabafikicbkkdaaGreatDoor
