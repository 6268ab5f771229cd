/- The statement WorldTwice holds, tied: for every world and number the call returns true and each argument reads as it did; the package-level variables start as their texts lay them. -/
import Derived.Test.YtnnngphfmclegaaGreatDoorCards
import Derived.Test.YtnnngphfmclegaaGreatDoorTie
import Derived.Test.YtnnngphfmclegaaGreatDoorWU13
import Derived.Test.YtnnngphfmclegaaGreatDoorWU45
import Derived.Deep.DeepHandedRow
import Derived.LaidMore
import Derived.SevenTiedAt
namespace Go.Proofs.YtnnngphfmclegaaGreatDoor
open Go.ChangeShapes Go.WideShapes Go.ChangeAt Go.RowKit
set_option linter.unusedVariables false
set_option maxRecDepth 100000
set_option linter.unusedSimpArgs false
theorem worldTwice_contract (H:Type) (enc:TypeId×Value→H) (W:World) (base:Nat) (args:Array Value) (ds gs:List (DataW H)) (before:List MemPlace)
  (hval0:∀ (j:Nat) t v,Tryz.f4.params[j]?=some t→args[j]?=some v→Value.okWide Tryz.prog W .any base t v)
  (hW:DataW.Whole enc Tryz.prog Tryz.f4.params.toList Rows.worldTwiceSpec.vars false W args.toList ds gs before) (hL:laidMetH Tryz.prog Rows.worldTwiceRow.laid W) (hsh:W.ShapedOpen Tryz.prog) (hz0:(DataW.weightsEach Tryz.prog (Tryz.f4.params.toList++(OpenSpec.ofChange Rows.worldTwiceSpec).bare.plain.varTypes Tryz.prog) (ds++gs)).all (·≤reachBytes)=true) :
  Calls Tryz.prog 4 args W fun e W'=>∃ v,e=.returned v∧Rows.worldTwiceSpec.post enc Tryz.prog Tryz.f4 false true false false W args v W':=by
 have hE:Env W:=env_of (laid:=Rows.worldTwiceRow.laid) hL hsh (List.mem_of_getElem? (show Rows.worldTwiceRow.laid[2]?=some _ from rfl)) (List.mem_of_getElem? (show Rows.worldTwiceRow.laid[4]?=some _ from rfl)) (List.mem_of_getElem? (show Rows.worldTwiceRow.laid[5]?=some _ from rfl)) (List.mem_of_getElem? (show Rows.worldTwiceRow.laid[6]?=some _ from rfl))
 have hval:∀ (j:Nat) t v,Tryz.f4.params[j]?=some t→args[j]?=some v→Value.okWide Tryz.prog W .any base t v:=hval0
 have hW':=hW
 obtain ⟨p,q,hA0,hV,rfl,hfz,hnd⟩:=hW
 have hA:DataW.TrodAll enc Tryz.prog W 0 (fun _=>true) true Tryz.f4.params.toList args.toList ds p:=hA0
 rw [Tryz.params4] at hA hval hz0
 obtain ⟨v0,vs0,d0,ds0,p0,q0,hargs,rfl,rfl,k0,r0⟩:=trodAll_cons hA
 obtain ⟨v1,vs1,d1,ds1,p1,q1,rfl,rfl,rfl,k1,r1⟩:=trodAll_cons r0
 obtain ⟨rfl,rfl,rfl⟩:=trodAll_nil r1
 obtain rfl:args=#[v0,v1]:=by cases args;simp_all
 obtain ⟨rfl,rfl⟩:=trodVars_none hV
 have lt0:∀ x∈p0,x.block < W.heap.size:=by obtain ⟨m,hm⟩:=k0;exact DataW.trod_lt m _ _ _ hm
 have lt1:∀ x∈p1,x.block < W.heap.size:=by obtain ⟨m,hm⟩:=k1;exact DataW.trod_lt m _ _ _ hm
 obtain ⟨b0,rfl,i0,g0⟩:=world_arg (hval 0 37 v0 rfl rfl) k0
 obtain ⟨x1,rfl,z1⟩:=int_arg (hval 1 3 v1 rfl rfl) k1
 obtain ⟨g01,g02⟩:=g0 (sized_arg hz0 (j:=0) rfl rfl)
 clear hA0 hval0
 refine (WorldTwice_c b0 x1 W hE i0 ⟨Nat.le_trans g01 (by decide),Nat.le_trans g02 (by decide)⟩ z1).mono fun e W' ⟨he,bel⟩=>?_
 subst he
 exact ⟨_,rfl,_,_,_,[],_,[],hW',trodAll_mk1 (shut_bool Tryz.underlying4 _),(trodAll_cons_mk (Below.trod laidOut (by kernel_rfl) (of_decide_eq_true (by kernel_rfl)) k0 bel lt0) (trodAll_cons_mk (Below.trod laidOut (by kernel_rfl) (of_decide_eq_true (by kernel_rfl)) k1 bel lt1) trodAll_mk0)),rfl,bel.frame _,fun h=>by cases h⟩
noncomputable def worldTwice_world (os:Os):World:=
 {(World.doorLaid Tryz.prog 101 os) with heap:=(World.doorLaid Tryz.prog 101 os).heap.modify 5 fun
   |.cells _ t fr=>.cells ((Rows.laid_unicode_utf8_first:DataW Unit).flat.map Lit.toCell).toArray t fr
   |o=>o}
theorem worldTwice_met (os:Os):laidMet Tryz.prog Rows.worldTwiceRow.laid ((worldTwice_world os).forCall (fun _ _=>0) ⟨#[],#[.agg #[.slice none 0 0,.slice none 0 0,.int .i64 0,.int .i64 0,.slice none 0 0,.slice none 0 0,.slice none 0 0,.bool false,.slice none 0 0,.slice none 0 0],.int .i64 0],[]⟩).memory:=
 laidMet_of_run' 8 (by kernel_rfl) (by kernel_rfl)
theorem worldTwice_reads (os:Os) {H:Type} (enc:TypeId×Value→H):∃ places,DataW.whole enc Tryz.prog ((worldTwice_world os).forCall (fun _ _=>0) ⟨#[],#[.agg #[.slice none 0 0,.slice none 0 0,.int .i64 0,.int .i64 0,.slice none 0 0,.slice none 0 0,.slice none 0 0,.bool false,.slice none 0 0,.slice none 0 0],.int .i64 0],[]⟩).memory Tryz.f4.params.toList Rows.worldTwiceSpec.vars false (#[.agg #[.slice none 0 0,.slice none 0 0,.int .i64 0,.int .i64 0,.slice none 0 0,.slice none 0 0,.slice none 0 0,.bool false,.slice none 0 0,.slice none 0 0],.int .i64 0]:Array Value).toList 8=some ([.agg [.agg [.agg [.nil,.agg [.nil,.lit (.int .i64 0),.lit (.int .i64 0)]],.nil],.agg [.nil,.nil],.lit (.bool false),.nil,.nil],.lit (.int .i64 0)],[],places):=
 ⟨[],by kernel_rfl⟩
theorem worldTwice_lifted (os:Os) (started:os.Started) (H:Type) (enc:TypeId×Value→H) (F:Stop.Interp) :
  ReturnsInHanded {} Tryz.checked os 4 .any ((OpenSpec.ofChange Rows.worldTwiceSpec).preRow enc Tryz.prog Tryz.f4 Rows.worldTwiceRow.domain false Rows.worldTwiceRow.laid) (((OpenSpec.ofChange Rows.worldTwiceSpec).at F).post enc Tryz.prog Tryz.f4 false true false false):=by
 obtain ⟨places,hx⟩:=worldTwice_reads os enc
 refine returnsInHanded_of_row (C:=Tryz.checked) (s:=OpenSpec.ofChange Rows.worldTwiceSpec) own started (by kernel_rfl) Tryz.func4
  (witness_row_at (enc:=enc) (C:=Tryz.checked) false (worldTwice_world os) #[.agg #[.slice none 0 0,.slice none 0 0,.int .i64 0,.int .i64 0,.slice none 0 0,.slice none 0 0,.slice none 0 0,.bool false,.slice none 0 0,.slice none 0 0],.int .i64 0] rfl (by kernel_rfl) (by kernel_rfl) (by kernel_rfl)
   (OpenSpec.preRow_of_cond 8 hx (by kernel_rfl) (fun k hk=>by cases hk) (by kernel_rfl) (worldTwice_met os))) ?_
 intro W base args ds gs before hval hW _ _ hz hL hsh _
 exact worldTwice_contract H enc W base args ds gs before hval hW hL hsh hz
theorem worldTwice_said:Rows.WorldTwiceSaid:=
 OpenClaim.holds_of_cond 4 Tryz.f4 rfl rfl rfl rfl rfl rfl rfl ⟨rfl,rfl,rfl,rfl,rfl⟩ rfl rfl rfl rfl rfl (by kernel_rfl) Tryz.func4 (by kernel_rfl)
  (of_decide_eq_true (by kernel_rfl)) (by unfold Func.isWrapper;first|(rw [if_pos (by decide +kernel)];kernel_rfl)|(rw [if_neg (by decide +kernel)];exact ⟨rfl,rfl⟩))
  (fun os started H enc _ F=>by rw [OpenClaim.pre_eq_preRow];exact worldTwice_lifted os started H enc F)
theorem worldTwice_plain (f:FuncId) (fn:Func) (hf:Tryz.pinned.checked.prog.funcNamed Rows.worldTwiceRow.func=some f) (hfn:Tryz.pinned.checked.prog.funcs[f]?=some fn) :
  true=Tryz.pinned.checked.prog.looks []∧∀ (j:Nat) t,fn.params[j]?=some t→Tryz.pinned.checked.prog.wantsStandIn t=false:=by
 obtain rfl:f=4:=Option.some.inj ((show Tryz.prog.funcNamed Rows.worldTwiceRow.func=some 4 by kernel_rfl).symm.trans hf)|>.symm
 obtain rfl:fn=Tryz.f4:=(Option.some.inj (Tryz.func4.symm.trans hfn)).symm
 refine ⟨by kernel_rfl,fun j t ht=>?_⟩
 rw [Tryz.params4] at ht
 have hm:t∈[37,3]:=by simpa using Array.mem_of_getElem? ht
 have hall:([37,3].all fun u=>!Tryz.prog.wantsStandIn u)=true:=by kernel_rfl
 exact (show Tryz.prog.wantsStandIn t=false by simpa using List.all_eq_true.1 hall t hm)
theorem worldTwice_proved:Rows.WorldTwiceCardSaid:=
 Claim7.holds_tied_plain_at .later [] _ _ _ _ worldTwice_said (fun _ h=>by cases h) (by kernel_rfl) (fun _ h=>by cases h) worldTwice_row_tie rfl ⟨rfl,rfl⟩ (by kernel_rfl) rfl worldTwice_plain (by kernel_rfl)
#print axioms worldTwice_proved
end Go.Proofs.YtnnngphfmclegaaGreatDoor
