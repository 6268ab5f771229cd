/- How the arguments of the laws read: a world, a happening, a script; no condition. -/
import Derived.Test.YtabafikicbkkdaaGreatDoorSU8
import Derived.Test.YtabafikicbkkdaaGreatDoorSU11
import Derived.Test.YtabafikicbkkdaaGreatDoorSU12
import Derived.Test.YtabafikicbkkdaaGreatDoorRows
import Derived.Test.YtabafikicbkkdaaGreatDoorSU1
import Derived.Stop.LaidErr
import Derived.Shelf.Vars
import Derived.MapViews
import Derived.DeepKeys2
import Derived.Lib.LaidTab
import Derived.Test.YtabafikicbkkdaaGreatDoorSU4
namespace Go.Proofs.YtabafikicbkkdaaGreatDoor
open Go.ChangeShapes Go.WideShapes Go.ChangeAt Go.RowKit Go.Joins Go.ChangeMaps
set_option linter.unusedVariables false
set_option maxRecDepth 100000
set_option linter.unusedSimpArgs false
theorem cellsHap:Tryz.prog.cellsOf 75=8:=by kernel_rfl
theorem cellsInt1:Tryz.prog.cellsOf 3=1:=by kernel_rfl
theorem rows_of {α:Type} {K:Kin α} {ts te:TypeId} {H:Type} {enc:TypeId×Value→H} {W:World} (hu:Tryz.prog.underlying ts=some (.slice te)) (hc:Tryz.prog.cellsOf te=K.k) (hp:0 < K.k)
  (el:∀ {fuel:Nat} {cs:List Value} {y:DataW H×List MemPlace},DataW.trod enc Tryz.prog W 0 (fun _=>true) true fuel te cs=some y→∃ x,cs=K.cs x∧K.ok W x)
  {fuel:Nat} {v:Value} {y:DataW H×List MemPlace} (h:DataW.trod enc Tryz.prog W 0 (fun _=>true) true fuel ts [v]=some y):∃ a n c X,v=.slice a n c∧Rows' K W a n c X:=by
 rcases Go.Deep.open_slice hu h with ⟨hcs,_⟩|⟨x,len,cap,m,n,D,Pl,hcs,_,hl,hm,hmm,_,hel⟩
 ·simp at hcs
  subst hcs
  exact ⟨none,0,0,[],rfl,Rows'.none W⟩
 ·simp at hcs
  subst hcs
  have hm':m=cap:=by simpa using hmm
  subst hm'
  have hz:∀ i,i < len→∃ z:α,K.ok W z∧∀ j v,(K.cs z)[j]?=some v→W.cell? ((x.add (i * K.k)).add j)=some v:=by
   intro i hi
   obtain ⟨cs',h1,h2⟩:=hel i (by omega)
   rw [hc] at h1
   obtain ⟨z,rfl,hz⟩:=el h2
   obtain ⟨_,_,hcc⟩:=World.cells?_some h1
   refine ⟨z,hz,fun j v hv=>?_⟩
   have hj:j < K.k:=by have:=(List.getElem?_eq_some_iff.1 hv).1;rwa [K.len] at this
   rw [hcc j hj]
   exact hv
  by_cases h0:len=0
  ·subst h0
   exact ⟨some x,0,m,[],rfl,⟨rfl,hl,hm,fun e=>(by cases e),.inl rfl,fun x hx=>by cases hx⟩⟩
  ·obtain ⟨z0,hz0⟩:=hz 0 (by omega)
   have dft:Inhabited α:=⟨z0⟩
   obtain ⟨f,hf⟩:=Go.Deep.choose_lt hz
   refine ⟨some x,len,m,(List.range len).map f,rfl,⟨by simp,hl,hm,fun e=>(by cases e),?_,?_⟩⟩
   ·obtain ⟨b,off,spot⟩:=x
    have hc0:∃ v,(K.cs (f 0))[0]?=some v:=⟨_,List.getElem?_eq_getElem (by rw [K.len];exact hp)⟩
    obtain ⟨v0,hv0⟩:=hc0
    have hc0:=(hf 0 (by omega)).2 0 _ hv0
    have hspot:spot=none:=by simpa [Addr.add] using World.cell?_spot hc0
    subst hspot
    refine .inr ⟨b,off,rfl,World.block_lt_of_cell? W ⟨b,off,none⟩ (by simpa [Addr.add] using hc0),fun i z hz j v hv=>?_⟩
    have hi:i < len:=by have:=(List.getElem?_eq_some_iff.1 hz).1;simpa using this
    rw [List.getElem?_map,List.getElem?_range hi] at hz
    simp at hz
    subst hz
    have h1:=(hf i hi).2 j v hv
    rw [addr_add,addr_add] at h1
    exact h1
   ·intro z hz
    simp at hz
    obtain ⟨i,hi,rfl⟩:=hz
    exact (hf i hi).1
theorem hap_of {H:Type} {enc:TypeId×Value→H} {W:World} {fuel:Nat} {cs:List Value} {y:DataW H×List MemPlace}
  (h:DataW.trod enc Tryz.prog W 0 (fun _=>true) true fuel 75 cs=some y):∃ x:XV,cs=x.cells∧x.ok W:=by
 obtain ⟨xs,n,_,_,hl,hlen,hfs⟩:=DataW.trod_struct Tryz.underlying75 h
 rw [cellsHap] at hl
 match cs,hl with
 |[v0,v1,v2,v3,v4,v5,v6,v7],_=>
  match xs,hlen with
  |[y0,y1,y2,y3],_=>
   have k0:DataW.trod enc Tryz.prog W 0 (fun _=>true) true n 3 [v0]=some y0:=by simpa [cellsInt1] using hfs 0 _ rfl
   have k1:DataW.trod enc Tryz.prog W 0 (fun _=>true) true n 3 [v1]=some y1:=by simpa [cellsInt1] using hfs 1 _ rfl
   have k2:DataW.trod enc Tryz.prog W 0 (fun _=>true) true n 3 [v2]=some y2:=by simpa [cellsInt1] using hfs 2 _ rfl
   have k3:DataW.trod enc Tryz.prog W 0 (fun _=>true) true n 50 [v3,v4,v5,v6,v7]=some y3:=by simpa [cellsCmd] using hfs 3 _ rfl
   obtain ⟨k,e0,_,_⟩:=DataW.trod_int Tryz.underlying3 k0
   obtain ⟨i,e1,_,_⟩:=DataW.trod_int Tryz.underlying3 k1
   obtain ⟨s,e2,_,_⟩:=DataW.trod_int Tryz.underlying3 k2
   obtain ⟨ca,cn,cc,c,e3,hc⟩:=cmd_of k3
   simp at e0 e1 e2 e3
   subst e0 e1 e2
   obtain ⟨rfl,rfl,rfl,rfl,rfl⟩:=e3
   exact ⟨⟨k,i,s,c,ca,cn,cc⟩,rfl,hc⟩
theorem haps_arg {H:Type} {enc:TypeId×Value→H} {W:World} {base:Nat} {v:Value} {d:DataW H} {p:List MemPlace} (hv:Value.okWide Tryz.prog W .any base 22 v)
  (h:DataW.Trod enc Tryz.prog W 0 (fun _=>true) true 22 v d p):∃ a n c X,v=.slice a n c∧Rows' hapK W a n c X:=by
 obtain ⟨a,n,c,rfl⟩:=okWide_slice Tryz.underlying22 hv
 obtain ⟨fuel,hf⟩:=h
 exact rows_of (K:=hapK) Tryz.underlying22 cellsHap (by decide) (fun h=>hap_of h) (by simpa [Value.cells] using hf)
end Go.Proofs.YtabafikicbkkdaaGreatDoor
namespace Go.Proofs.YtabafikicbkkdaaGreatDoor
open Go.RowKit
set_option linter.unusedVariables false
set_option maxRecDepth 100000
set_option linter.unusedSimpArgs false
theorem laid_at {P:Program} {w:World} : ∀ {laid:List (String×DataW Unit)} {ps:List MemPlace},DataW.LaidVars P w laid ps→∀ {n:String} {d:DataW Unit},(n,d)∈laid→
  ∃ g t cs fuel p,P.globalNamed n=some g∧(P.globals[g]?).map (·.type)=some t∧w.var? P n=some cs∧DataW.trod (fun _=>()) P w 0 (fun _=>true) false fuel t cs.toList=some (d,p)
 |[],_,_,_,_,h=>by cases h
 |(n,d) :: r,ps,hl,n',d',h=>by
  obtain ⟨g,t,cs,fuel,p,q,h1,h2,h3,h4,h5,_⟩:=hl
  rcases List.mem_cons.1 h with e|h
  ·cases e
   exact ⟨g,t,cs,fuel,p,h1,h2,h3,h4⟩
  ·exact laid_at h5 h
theorem gShapes : Tryz.prog.globalNamed "quayhand/cmd.shapes" = some 0 := by kernel_rfl
theorem tShapes:(Tryz.prog.globals[0]?).map (·.type)=some 158:=by kernel_rfl
theorem shapes_cells:(Rows.laid_quayhand_cmd_shapes:DataW Unit).flat.map Lit.toCell=((List.range 13).flatMap fun k=>[.string (word k),.bool (hasZ k),.bool (hasA k),.bool (hasN k),.bool (hasD k)]):=by rfl
theorem flat_get (f:Nat→List Value) (h5:∀ k,(f k).length=5):∀ (n k j:Nat),k < n→j < 5→((List.range n).flatMap f)[k * 5 + j]?=(f k)[j]?
 |0,k,j,hk,_=>by omega
 |n + 1,k,j,hk,hj=>by
  have hlen:∀ m,((List.range m).flatMap f).length=m * 5:=by
   intro m
   induction m with
   |zero=>rfl
   |succ m ih=>rw [List.range_succ,List.flatMap_append,List.length_append,ih];simp [h5];omega
  rw [List.range_succ,List.flatMap_append]
  by_cases hkn:k < n
  ·rw [List.getElem?_append_left (by rw [hlen];omega)]
   exact flat_get f h5 n k j hkn hj
  ·obtain rfl:k=n:=by omega
   rw [List.getElem?_append_right (by rw [hlen];omega),hlen]
   simp
theorem shapes_of {W : World} {laid : List (String × DataW Unit)} (hL : laidMet Tryz.prog laid W) (m4 : ("quayhand/cmd.shapes", Rows.laid_quayhand_cmd_shapes) ∈ laid) : Shapes W := by
 obtain ⟨ps,hv,_,_⟩:=hL
 obtain ⟨g,t,cs,fuel,p,h1,h2,h3,h4⟩:=laid_at hv m4
 obtain rfl:=Option.some.inj (gShapes.symm.trans h1)
 obtain rfl:=Option.some.inj (tShapes.symm.trans h2)
 have h5:=(keyLits_of_trod 5 158 (by kernel_rfl) _ _ _ h4).1
 have h6:=cells_of_lits 5 158 (by kernel_rfl) _ _ _ h5
 rw [shapes_cells] at h6
 have hc:∀ k j,k≤12→j < 5→W.cell? ⟨0,k * 5 + j,none⟩=([.string (word k),.bool (hasZ k),.bool (hasA k),.bool (hasN k),.bool (hasD k)]:List Value)[j]?:=by
  intro k j hk hj
  rw [World.var?_cell gShapes h3,← Array.getElem?_toList,h6]
  exact flat_get _ (fun k=>rfl) 13 k j (by omega) hj
 exact ⟨fun k hk=>hc k 0 hk (by omega),fun k hk=>hc k 1 hk (by omega),fun k hk=>hc k 2 hk (by omega),fun k hk=>hc k 3 hk (by omega),fun k hk=>hc k 4 hk (by omega)⟩
end Go.Proofs.YtabafikicbkkdaaGreatDoor
namespace Go.Proofs.YtabafikicbkkdaaGreatDoor
open Go.RowKit
set_option linter.unusedVariables false
set_option maxRecDepth 100000
set_option linter.unusedSimpArgs false
theorem gSyn : Tryz.prog.globalNamed "strconv.ErrSyntax" = some 2 := by kernel_rfl
theorem gRng : Tryz.prog.globalNamed "strconv.ErrRange" = some 3 := by kernel_rfl
theorem tTab:(Tryz.prog.globals[4]?).map (·.type)=some 293:=by kernel_rfl
theorem tSyn:(Tryz.prog.globals[2]?).map (·.type)=some 210:=by kernel_rfl
theorem tRng:(Tryz.prog.globals[3]?).map (·.type)=some 210:=by kernel_rfl
theorem env_of {W:World} {laid:List (String×DataW Unit)} (hL:laidMet Tryz.prog laid W) (hsh:W.ShapedOpen Tryz.prog)
  (m1 : ("internal/strconv.uint64pow10", Rows.laid_internal_strconv_uint64pow10) ∈ laid) (m2 : ("strconv.ErrRange", Rows.laid_strconv_ErrRange) ∈ laid)
  (m3 : ("strconv.ErrSyntax", Rows.laid_strconv_ErrSyntax) ∈ laid) (m4 : ("quayhand/cmd.shapes", Rows.laid_quayhand_cmd_shapes) ∈ laid) : Env W := by
 obtain ⟨ps,hv,_,_⟩:=id hL
 refine ⟨?_,?_,?_,?_,?_⟩
 ·exact cell_of_shapedOpen_int (P:=Tryz.prog) (g:=1) (t:=3) (zero:=#[.int .i64 0]) hsh (of_decide_eq_true (by kernel_rfl)) (by kernel_rfl) rfl (by kernel_rfl) (by kernel_rfl) Tryz.underlying3
 ·obtain ⟨g,t,cs,fuel,p,h1,h2,h3,h4⟩:=laid_at hv m1
  obtain rfl:=Option.some.inj (gTab.symm.trans h1)
  obtain rfl:=Option.some.inj (tTab.symm.trans h2)
  unfold Lib.TabIs
  rw [h3]
  have h5:DataW.trod (fun _=>()) Tryz.prog W 0 (fun _=>true) false fuel 293 cs.toList=some (Lib.tabData .u64 Lib.pow10Tab,p):=h4
  have:=Lib.cells_of_tab Tryz.underlying293 Tryz.underlying272 (by kernel_rfl) (by kernel_rfl) h5
  rw [← this]
 ·obtain ⟨g,t,cs,fuel,p,h1,h2,h3,h4⟩:=laid_at hv m3
  obtain rfl:=Option.some.inj (gSyn.symm.trans h1)
  obtain rfl:=Option.some.inj (tSyn.symm.trans h2)
  obtain ⟨f1,u,v,e,_,_⟩:=iface_of_trod Tryz.underlying210 h4
  refine ⟨u,v,?_⟩
  have:=World.var?_cell gSyn h3 0
  rw [this,← Array.getElem?_toList,e]
  rfl
 ·obtain ⟨g,t,cs,fuel,p,h1,h2,h3,h4⟩:=laid_at hv m2
  obtain rfl:=Option.some.inj (gRng.symm.trans h1)
  obtain rfl:=Option.some.inj (tRng.symm.trans h2)
  obtain ⟨f1,u,v,e,_,_⟩:=iface_of_trod Tryz.underlying210 h4
  refine ⟨u,v,?_⟩
  have:=World.var?_cell gRng h3 0
  rw [this,← Array.getElem?_toList,e]
  rfl
 ·exact shapes_of hL m4
end Go.Proofs.YtabafikicbkkdaaGreatDoor
namespace Go.Proofs.YtabafikicbkkdaaGreatDoor
open Go.RowKit
set_option linter.unusedVariables false
set_option maxRecDepth 100000
set_option linter.unusedSimpArgs false
theorem recK_facts {d:PK} (h:checkK d=0):∃ L,recK d=(⟨textL L,[]⟩,L,0)∧(∀ r∈L,checkR r=0)∧L.length≤80∧(d.w=[]→d=⟨textL L,[]⟩):=by
 have hk:=h
 unfold checkK at hk
 split at hk
 ·cases hk
 ·obtain ⟨a1,a2,a3,a4,a5⟩:=lines_facts _ 80 d.s (Nat.le_refl _)
  obtain ⟨b1,b2,b3,b4,b5⟩:=lines_facts _ (80 - (linesP 80 d.s).1.length) d.w (Nat.le_refl _)
  have hs:d.s=textL (linesP 80 d.s).1:=by
   have:=a5 hk
   rw [this,List.drop_length,List.append_nil] at a3
   exact a3
  have hw:d.w.take (linesP (80 - (linesP 80 d.s).1.length) d.w).2.1=textL (linesP (80 - (linesP 80 d.s).1.length) d.w).1:=by
   rw [b4]
   conv=>lhs;arg 2;rw [b3]
   rw [List.take_left' rfl]
  refine ⟨(linesP 80 d.s).1++(linesP (80 - (linesP 80 d.s).1.length) d.w).1,?_,fun r hr=>(List.mem_append.1 hr).elim (a2 r) (b2 r),by rw [List.length_append];omega,fun e=>?_⟩
  ·unfold recK
   rw [if_neg (by simp [h]),hw,textL_append,← hs]
  ·rw [e,linesP_nil,List.append_nil,← hs,← e]
theorem checkW_ok {x:PW} (k:checkW x=0):x.n.length=3∧x.m.length≤30∧(∀ m∈x.m,checkM m=0)∧checkK x.d=0∧(x.u=true→x.d.w=[])∧replayH (logW x)=(x.h,0)∧∀ n∈x.n,checkN n=0:=by
 unfold checkW at k
 split at k
 ·cases k
 ·rename_i q1
  split at k
  ·cases k
  ·rename_i q2
   split at k
   ·rename_i q;exact absurd k q
   ·rename_i q3
    split at k
    ·rename_i q;exact absurd k q
    ·rename_i q4
     split at k
     ·cases k
     ·rename_i q5
      split at k
      ·rename_i q;exact absurd k q
      ·rename_i q6
       split at k
       ·cases k
       ·rename_i q7
        refine ⟨by simpa using q1,by omega,firstM_all (by simpa using q3),by simpa using q4,fun hu=>?_,?_,firstN_all k⟩
        ·by_cases c:x.d.w=[]
         ·exact c
         ·exact absurd ⟨hu,c⟩ q5
        ·have e:=(sameH_iff _ _).1 (by simpa using q7)
         exact Prod.ext e (by simpa using q6)
theorem firstM_of:∀ {l:List PM},(∀ x∈l,checkM x=0)→firstM l=0
 |[],_=>rfl
 |y :: l,h=>by
  simp only [firstM]
  rw [if_neg (by simp [h y (by simp)])]
  exact firstM_of (fun x hx=>h x (by simp [hx]))
theorem firstN_of:∀ {l:List PN},(∀ x∈l,checkN x=0)→firstN l=0
 |[],_=>rfl
 |y :: l,h=>by
  simp only [firstN]
  rw [if_neg (by simp [h y (by simp)])]
  exact firstN_of (fun x hx=>h x (by simp [hx]))
theorem checkW_mk {x:PW} (h1:x.n.length=3) (h2:x.m.length≤30) (h3:∀ m∈x.m,checkM m=0) (h4:checkK x.d=0) (h5:x.u=true→x.d.w=[]) (h6:replayH (logW x)=(x.h,0)) (h7:∀ n∈x.n,checkN n=0):checkW x=0:=by
 unfold checkW
 rw [if_neg (by simp [h1]),if_neg (by omega),if_neg (by simp [firstM_of h3]),if_neg (by simp [h4]),if_neg (fun c=>c.2 (h5 c.1)),if_neg (by simp [h6]),if_neg (by simp [h6,(sameH_iff _ _).2 rfl])]
 exact firstN_of h7
theorem up_log {x:PW} (k:checkW x=0) (hu:x.u=true):∃ A,x.d=⟨textL A,[]⟩∧(∀ r∈A,checkR r=0)∧A.length≤80∧recK x.d=(x.d,A,0)∧replayF freshH A=(x.h,0):=by
 obtain ⟨-,-,-,h4,h5,h6,-⟩:=checkW_ok k
 obtain ⟨L,g1,g2,g3,g4⟩:=recK_facts h4
 have e:=g4 (h5 hu)
 refine ⟨L,e,g2,g3,by rw [g1,← e],?_⟩
 rw [logW,hu,if_pos rfl,g1] at h6
 simpa [replayH,if_neg (show ¬ 80 < L.length by omega)] using h6
end Go.Proofs.YtabafikicbkkdaaGreatDoor
namespace Go.Proofs.YtabafikicbkkdaaGreatDoor
open Go.RowKit
set_option linter.unusedVariables false
set_option maxRecDepth 100000
set_option linter.unusedSimpArgs false
theorem checkM_facts {m:PM} (h:checkM m=0):(0≤m.w∧m.w≤2)∧(1≤m.s∧m.s≤40)∧(m.b=true→m.c=zeroC∧checkA m.a=0)∧(m.b=false→m.a=zeroA∧checkC m.c=0):=by
 unfold checkM at h
 split at h
 ·cases h
 ·rename_i q
  simp only [not_or,Bool.not_eq_false] at q
  refine ⟨by have:=q.1;simp [inB] at this;omega,by have:=q.2;simp [inB] at this;omega,fun e=>?_,fun e=>?_⟩
  ·rw [e,if_pos rfl] at h
   split at h
   ·cases h
   ·rename_i c
    exact ⟨(sameC_iff _ _).1 (by simpa using c),h⟩
  ·rw [e,if_neg (by simp)] at h
   split at h
   ·cases h
   ·rename_i c
    exact ⟨(sameA_iff _ _).1 (by simpa using c),h⟩
theorem checkM_mk {m:PM} (h1:0≤m.w∧m.w≤2) (h2:1≤m.s∧m.s≤40) (h3:m.b=true→m.c=zeroC∧checkA m.a=0) (h4:m.b=false→m.a=zeroA∧checkC m.c=0):checkM m=0:=by
 unfold checkM
 rw [if_neg (by simp [inB];omega)]
 cases e:m.b with
 |true=>
  obtain ⟨q1,q2⟩:=h3 e
  rw [if_pos rfl,if_neg (by simp [(sameC_iff _ _).2 q1])]
  exact q2
 |false=>
  obtain ⟨q1,q2⟩:=h4 e
  rw [if_neg (by simp),if_neg (by simp [(sameA_iff _ _).2 q1])]
  exact q2
theorem next_answer {h:PH} {r:PR} (k:(nextH h r).2.2=0):checkA (nextH h r).2.1=0:=by
 obtain ⟨h1,h2,h3⟩:=next_stands k
 obtain ⟨i,hi,hi3⟩:=rec_who h2
 obtain ⟨_,hl,hx⟩:=checkH_ok h1
 have hm:=hx _ (lastH_mem hl hi3)
 rw [← hi,h3] at hm
 exact (checkL_facts hm).2.1
theorem asked_cases {x:PW} {m:PM} (k:checkW x=0) (hu:x.u=true) (hb:m.b=false) (hm:checkM m=0) :
  askedW x m=x∨
  (m.s=(lastH x.h m.w).s∧nextH x.h ⟨m.w,m.s,m.c⟩=(x.h,(lastH x.h m.w).a,0)∧askedW x m=postW x ⟨true,m.w,m.s,zeroC,(lastH x.h m.w).a⟩)∨
  (m.s=(lastH x.h m.w).s + 1∧(nextH x.h ⟨m.w,m.s,m.c⟩).2.2=0∧∃ A,x.d=⟨textL A,[]⟩∧A.length < 80∧(∀ r∈A,checkR r=0)∧replayF freshH A=(x.h,0)∧
   askedW x m=postW {x with h:=(nextH x.h ⟨m.w,m.s,m.c⟩).1,d:=⟨textL (A++[⟨m.w,m.s,m.c⟩]),[]⟩} ⟨true,m.w,m.s,zeroC,(nextH x.h ⟨m.w,m.s,m.c⟩).2.1⟩):=by
 by_cases hn:(nextH x.h ⟨m.w,m.s,m.c⟩).2.2=0
 ·obtain ⟨h1,h2,h3⟩:=nextH_ok hn
  rcases h3 with ⟨e,q⟩|⟨e,q⟩
  ·right;left
   refine ⟨e,q,?_⟩
   unfold askedW
   rw [if_neg (by simp [hn]),if_pos e,q]
  ·obtain ⟨A,e1,e2,e3,e4,e5⟩:=up_log k hu
   have hne:¬ m.s=(lastH x.h m.w).s:=by simp only at e;omega
   by_cases hA:A.length < 80
   ·right;right
    obtain ⟨s1,s2⟩:=sync_one e2 h2 hA
    refine ⟨e,hn,A,e1,hA,e2,e5,?_⟩
    unfold askedW
    rw [if_neg (by simp [hn]),if_neg hne,e1,s1,if_neg (by simp),s2,if_neg (by simp)]
   ·left
    unfold askedW
    rw [if_neg (by simp [hn]),if_neg hne,e1]
    have l1:=textL_len A e2
    have l3:=textR_len h2
    have p1:putK ⟨textL A,[]⟩ ⟨m.w,m.s,m.c⟩=(⟨textL A,textL [⟨m.w,m.s,m.c⟩]⟩,0):=by
     unfold putK
     rw [checkK_text e2 (by omega) (by simp;omega),if_neg (by simp),h2,if_neg (by simp)]
     simp only [List.length_nil]
     rw [if_neg (by omega)]
     simp [textL]
    have p2:(syncK ⟨textL A,textL [⟨m.w,m.s,m.c⟩]⟩).2≠0:=by
     have hl:(textL [⟨m.w,m.s,m.c⟩]).length≤101:=by simp [textL];omega
     have hh:checkK ⟨textL A++textL [⟨m.w,m.s,m.c⟩],[]⟩=2:=by
      unfold checkK
      rw [if_neg (by simp;omega)]
      simp only
      rw [lines_ahead A 80 _ e2 (by omega)]
      simp only
      have e80:80 - A.length=0:=by omega
      have hc:cutN (textL [⟨m.w,m.s,m.c⟩])=some (textR ⟨m.w,m.s,m.c⟩,textL []):=by
       rw [textL_cons]
       exact cutN_word _ _ (textR_no_lf _)
      rw [e80,linesP_line hc,parse_textR h2,if_neg (by simp)]
     unfold syncK
     rw [checkK_text e2 (by omega) (by omega),if_neg (by simp)]
     simp only
     rw [hh,if_pos (by simp)]
     simp
    rw [p1,if_neg (by simp),if_pos p2]
 ·left
  unfold askedW
  rw [if_pos hn]
theorem post_right {x:PW} {m:PM} (k:checkW x=0) (hm:checkM m=0):checkW (postW x m)=0:=by
 obtain ⟨h1,h2,h3,h4,h5,h6,h7⟩:=checkW_ok k
 unfold postW
 split
 ·refine checkW_mk h1 (by simp;omega) (fun y hy=>?_) h4 h5 h6 h7
  rcases List.mem_append.1 hy with hy|hy
  ·exact h3 y hy
  ·simp at hy;rw [hy];exact hm
 ·exact k
theorem post_same (x:PW) (m:PM):(postW x m).h=x.h∧(postW x m).d=x.d∧(postW x m).u=x.u∧(postW x m).n=x.n∧x.m.length≤(postW x m).m.length∧(postW x m).m.length≤x.m.length + 1∧∀ (i:Nat) (y:PM),x.m[i]?=some y→(postW x m).m[i]?=some y:=by
 unfold postW
 split
 ·refine ⟨rfl,rfl,rfl,rfl,by simp,by simp,fun i y hy=>?_⟩
  have:=(List.getElem?_eq_some_iff.1 hy).1
  simp only
  rw [List.getElem?_append_left this]
  exact hy
 ·exact ⟨rfl,rfl,rfl,rfl,Nat.le_refl _,by omega,fun i y hy=>hy⟩
theorem mem_post {x:PW} {m y:PM} (h:y∈(postW x m).m):y∈x.m∨y=m:=by
 unfold postW at h
 split at h
 ·simpa using h
 ·exact .inl h
theorem gone_right {x:PW} (k:checkW x=0) (j:Nat):checkW (goneW x j)=0:=by
 obtain ⟨h1,h2,h3,h4,h5,h6,h7⟩:=checkW_ok k
 exact checkW_mk h1 (by have:=List.length_eraseIdx_le x.m j;simp only [goneW];omega) (fun y hy=>h3 y (List.mem_of_mem_eraseIdx hy)) h4 h5 h6 h7
theorem hand_mem {x:PW} (k:checkW x=0) {j:Int} (h:0≤j∧j≤2):x.n[j.toNat]?=some (handW x j)∧checkN (handW x j)=0:=by
 obtain ⟨h1,-,-,-,-,-,h7⟩:=checkW_ok k
 have hj:j.toNat < x.n.length:=by omega
 have e:x.n[j.toNat]?=some (handW x j):=by
  unfold handW
  rw [List.getD,List.getElem?_eq_getElem hj]
  rfl
 exact ⟨e,h7 _ (List.mem_of_getElem? e)⟩
theorem set_right {x:PW} (k:checkW x=0) {j:Int} {h:PN} (hn:checkN h=0):checkW (setW x j h)=0:=by
 obtain ⟨h1,h2,h3,h4,h5,h6,h7⟩:=checkW_ok k
 refine checkW_mk (by simp [setW,h1]) h2 h3 h4 h5 h6 (fun n hn'=>?_)
 rcases List.mem_or_eq_of_mem_set hn' with m|rfl
 ·exact h7 n m
 ·exact hn
theorem logged_right {x:PW} {r:PR} {A:List PR} (k:checkW x=0) (hu:x.u=true) (hA:A.length < 80) (e2:∀ r∈A,checkR r=0) (e5:replayF freshH A=(x.h,0)) (hn:(nextH x.h r).2.2=0):checkW {x with h:=(nextH x.h r).1,d:=⟨textL (A++[r]),[]⟩}=0∧replayF freshH (A++[r])=((nextH x.h r).1,0)∧∀ y∈A++[r],checkR y=0:=by
 obtain ⟨h1,h2,h3,h4,h5,h6,h7⟩:=checkW_ok k
 have hr:=(nextH_ok hn).2.1
 have hall:∀ y∈A++[r],checkR y=0:=fun y hy=>(List.mem_append.1 hy).elim (e2 y) (fun q=>by simp at q;rw [q];exact hr)
 have hl:(A++[r]).length≤80:=by simp;omega
 have hrep:replayF freshH (A++[r])=((nextH x.h r).1,0):=by
  rw [replay_app _ _ _ (by rw [e5]),e5,replay_cons,if_neg (by simp [hn])]
  rfl
 refine ⟨checkW_mk h1 h2 h3 (checkK_text hall hl ?_) (fun _=>rfl) ?_ h7,hrep,hall⟩
 ·have:=textL_len _ hall
  simp only [List.length_nil]
  omega
 ·have e:recK (⟨textL (A++[r]),[]⟩:PK)=(⟨textL (A++[r]),[]⟩,A++[r],0):=recK_again hall hl
  simp only [logW,hu,if_true,e]
  unfold replayH
  rw [if_neg (by omega),hrep]
theorem hear_right {h:PN} {q:Int} {a:PA} (k:(hearN h q a).2=0):checkN h=0∧checkA a=0∧checkN (hearN h q a).1=0:=by
 unfold hearN at k
 split at k
 ·rename_i q;exact absurd k q
 ·rename_i q1
  split at k
  ·rename_i q;exact absurd k q
  ·rename_i q2
   have q1':checkN h=0:=by simpa using q1
   have q2':checkA a=0:=by simpa using q2
   refine ⟨q1',q2',?_⟩
   by_cases c:h.w=false∨h.s≠q
   ·rw [hear_deaf q1' q2' c]
    exact q1'
   ·simp only [not_or,Bool.not_eq_false,Decidable.not_not] at c
    obtain ⟨c1,rfl⟩:=c
    obtain ⟨e1,e2⟩:=hear_ok q1' c1 q2'
    rw [e1]
    exact e2
theorem set_others (x:PW) (j:Int) (h:PN):∀ i:Nat,i≠j.toNat→(setW x j h).n[i]?=x.n[i]?:=fun i hi=>by
 unfold setW
 simp only
 rw [List.getElem?_set_ne (fun e=>hi e.symm)]
theorem comes_keeps {x:PW} {m:PM} (k:checkW x=0) (hm:checkM m=0) (e:(comesW x m).2=0):checkW (comesW x m).1=0∧(∃ j:Nat,∀ i,i≠j→(comesW x m).1.n[i]?=x.n[i]?)∧x.m.length≤(comesW x m).1.m.length∧(comesW x m).1.m.length≤x.m.length + 1∧(comesW x m).1.n.length=3:=by
 obtain ⟨h1,h2,-,-,-,-,-⟩:=checkW_ok k
 have fin:∀ y:PW,checkW y=0→(∃ j:Nat,∀ i,i≠j→y.n[i]?=x.n[i]?)→x.m.length≤y.m.length→y.m.length≤x.m.length + 1→checkW y=0∧(∃ j:Nat,∀ i,i≠j→y.n[i]?=x.n[i]?)∧x.m.length≤y.m.length∧y.m.length≤x.m.length + 1∧y.n.length=3:=fun y a b c d=>⟨a,b,c,d,(checkW_ok a).1⟩
 unfold comesW at e ⊢
 cases hb:m.b with
 |true=>
  rw [hb,if_pos rfl] at e
  rw [if_pos rfl]
  split at e
  ·rename_i q;exact absurd e q
  ·rename_i q
   rw [if_neg q]
   exact fin _ (set_right k (hear_right (by simpa using q)).2.2) ⟨m.w.toNat,set_others x _ _⟩ (Nat.le_refl _) (by simp [setW])
 |false=>
  rw [hb,if_neg (by simp)] at e
  rw [if_neg (by simp)]
  split at e
  ·cases e
  ·rename_i q
   rw [if_neg q]
   have hu:x.u=true:=by simpa using q
   have hmw:=(checkM_facts hm).1
   have hms:=(checkM_facts hm).2.1
   simp only
   rcases asked_cases k hu hb hm with q|⟨q1,q2,q3⟩|⟨q1,q2,A,e1,e2,e3,e4,e5⟩
   ·rw [q]
    exact fin _ k ⟨0,fun _ _=>rfl⟩ (Nat.le_refl _) (by omega)
   ·rw [q3]
    have hn:(nextH x.h ⟨m.w,m.s,m.c⟩).2.2=0:=by rw [q2]
    have ha:=next_answer hn
    rw [q2] at ha
    obtain ⟨p1,p2,p3,p4,p5,p6,_⟩:=post_same x ⟨true,m.w,m.s,zeroC,(lastH x.h m.w).a⟩
    exact fin _ (post_right k (checkM_mk hmw hms (fun _=>⟨rfl,ha⟩) (fun e=>by cases e))) ⟨0,fun _ _=>by rw [p4]⟩ p5 p6
   ·rw [e5]
    have hx:=(logged_right k hu e2 e3 e4 q2).1
    obtain ⟨p1,p2,p3,p4,p5,p6,_⟩:=post_same {x with h:=(nextH x.h ⟨m.w,m.s,m.c⟩).1,d:=⟨textL (A++[⟨m.w,m.s,m.c⟩]),[]⟩} ⟨true,m.w,m.s,zeroC,(nextH x.h ⟨m.w,m.s,m.c⟩).2.1⟩
    exact fin _ (post_right hx (checkM_mk hmw hms (fun _=>⟨rfl,next_answer q2⟩) (fun e=>by cases e))) ⟨0,fun _ _=>by rw [p4]⟩ p5 p6
end Go.Proofs.YtabafikicbkkdaaGreatDoor
namespace Go.Proofs.YtabafikicbkkdaaGreatDoor
open Go.RowKit
set_option linter.unusedVariables false
set_option maxRecDepth 100000
set_option linter.unusedSimpArgs false
theorem doW_right {x:PW} {e:PX} (k:(doW x e).2=0):checkW x=0∧doW x e=happenW x e:=by
 unfold doW at k ⊢
 split at k
 ·rename_i q;exact absurd k q
 ·rename_i q
  rw [if_neg q]
  exact ⟨by simpa using q,rfl⟩
theorem happen_cases {x:PW} {e:PX} (k:checkW x=0) (hk:(happenW x e).2=0) :
  (∃ m,(0≤e.n∧e.n.toNat < x.m.length)∧x.m[e.n.toNat]?=some m∧((e.k=5∧happenW x e=(goneW x e.n.toNat,0))∨(e.k=4∧happenW x e=comesW x m)∨(e.k=3∧happenW x e=comesW (goneW x e.n.toNat) m)))∨
  (e.k=6∧x.u=true∧happenW x e=({x with h:=freshH,u:=false},0))∨
  (e.k=7∧x.u=false∧(replayH (recK x.d).2.1).2=0∧happenW x e=({x with h:=(replayH (recK x.d).2.1).1,d:=(recK x.d).1,u:=true},0))∨
  (e.k=1∧(0≤e.w∧e.w≤2)∧(askN (handW x e.w) e.c).2=0∧happenW x e=(postW (setW x e.w (askN (handW x e.w) e.c).1) ⟨false,e.w,(askN (handW x e.w) e.c).1.s,(askN (handW x e.w) e.c).1.c,zeroA⟩,0))∨
  (e.k=2∧(0≤e.w∧e.w≤2)∧(handW x e.w).w=true∧happenW x e=(postW x ⟨false,e.w,(handW x e.w).s,(handW x e.w).c,zeroA⟩,0)):=by
 unfold happenW at hk ⊢
 by_cases c1:e.k=3∨e.k=4∨e.k=5
 ·rw [if_pos c1] at hk ⊢
  by_cases c2:e.n < 0∨(x.m.length:Int)≤e.n
  ·rw [if_pos c2] at hk
   cases hk
  ·rw [if_neg c2] at hk ⊢
   have hl:e.n.toNat < x.m.length:=by omega
   obtain ⟨m,hm⟩:∃ m,x.m[e.n.toNat]?=some m:=⟨_,List.getElem?_eq_getElem hl⟩
   rw [hm] at hk ⊢
   simp only at hk ⊢
   left
   refine ⟨m,⟨by omega,hl⟩,rfl,?_⟩
   rcases c1 with c|c|c
   ·exact .inr (.inr ⟨c,by rw [if_neg (by omega),if_neg (by omega)]⟩)
   ·exact .inr (.inl ⟨c,by rw [if_neg (by omega),if_pos c]⟩)
   ·exact .inl ⟨c,by rw [if_pos c]⟩
 ·rw [if_neg c1] at hk ⊢
  right
  by_cases c6:e.k=6
  ·rw [if_pos c6] at hk ⊢
   left
   split at hk
   ·cases hk
   ·rename_i q
    exact ⟨c6,by simpa using q,by rw [if_neg q]⟩
  ·rw [if_neg c6] at hk ⊢
   right
   by_cases c7:e.k=7
   ·rw [if_pos c7] at hk ⊢
    left
    split at hk
    ·cases hk
    ·rename_i q
     split at hk
     ·rename_i p;exact absurd hk p
     ·rename_i p
      exact ⟨c7,by simpa using q,by simpa using p,by rw [if_neg q,if_neg p]⟩
   ·rw [if_neg c7] at hk ⊢
    right
    by_cases ca:e.k=1
    ·rw [if_pos ca] at hk ⊢
     left
     split at hk
     ·cases hk
     ·rename_i q
      split at hk
      ·rename_i p;exact absurd hk p
      ·rename_i p
       exact ⟨ca,by simp [inB] at q;omega,by simpa using p,by rw [if_neg q,if_neg p]⟩
    ·rw [if_neg ca] at hk ⊢
     right
     by_cases cb:e.k=2
     ·rw [if_pos cb] at hk ⊢
      split at hk
      ·cases hk
      ·rename_i q
       split at hk
       ·cases hk
       ·rename_i p
        exact ⟨cb,by simp [inB] at q;omega,by simpa using p,by rw [if_neg q,if_neg p]⟩
     ·rw [if_neg cb] at hk
      cases hk
theorem boot_right {x:PW} (k:checkW x=0) (hr:(replayH (recK x.d).2.1).2=0):checkW {x with h:=(replayH (recK x.d).2.1).1,d:=(recK x.d).1,u:=true}=0:=by
 obtain ⟨h1,h2,h3,h4,h5,h6,h7⟩:=checkW_ok k
 obtain ⟨L,g1,g2,g3,-⟩:=recK_facts h4
 have l:=textL_len L g2
 rw [g1] at hr ⊢
 refine checkW_mk h1 h2 h3 (checkK_text g2 g3 (by simp;omega)) (fun _=>rfl) ?_ h7
 have e:recK (⟨textL L,[]⟩:PK)=(⟨textL L,[]⟩,L,0):=recK_again g2 g3
 simp only [logW,if_true,e]
 exact Prod.ext rfl hr
theorem ask_right {h:PN} {c:PC} (k:(askN h c).2=0):askN h c=(⟨h.s + 1,true,c,h.g⟩,0)∧checkN ⟨h.s + 1,true,c,h.g⟩=0∧h.w=false∧checkC c=0∧(0≤h.s∧h.s < 40):=by
 obtain ⟨a1,a2,a3,a4⟩:=ask_some k
 obtain ⟨e1,e2⟩:=ask_ok a1 a3 a2 a4
 exact ⟨e1,e2,a3,a2,(checkN_ok a1).1.1,a4⟩
theorem waits_facts {h:PN} (k:checkN h=0) (hw:h.w=true):(1≤h.s∧h.s≤40)∧h.s=h.g.length + 1∧checkC h.c=0:=by
 obtain ⟨h1,h2,h3,h4⟩:=checkN_ok k
 simp only [formN,hw,if_true,decide_eq_true_eq] at h3
 exact ⟨by omega,h3,h4 hw⟩
theorem world_keeps {x:PW} {e:PX} (k:(doW x e).2=0):checkW x=0∧checkW (doW x e).1=0∧(∃ j:Nat,∀ i,i≠j→(doW x e).1.n[i]?=x.n[i]?)∧
  (if e.k=3∨e.k=5 then x.m.length - 1 else x.m.length)≤(doW x e).1.m.length∧(doW x e).1.m.length≤(if e.k=3∨e.k=5 then x.m.length - 1 else x.m.length) + 1∧((doW x e).1.d.s=x.d.s∨e.k=3∨e.k=4∨e.k=7):=by
 obtain ⟨hx,he⟩:=doW_right k
 rw [he] at k ⊢
 refine ⟨hx,?_⟩
 obtain ⟨h1,h2,h3,h4,h5,h6,h7⟩:=checkW_ok hx
 rcases happen_cases hx k with ⟨m,⟨n1,n2⟩,hm,⟨c,q⟩|⟨c,q⟩|⟨c,q⟩⟩|⟨c,hu,q⟩|⟨c,hu,hr,q⟩|⟨c,hw,ha,q⟩|⟨c,hw,ha,q⟩
 ·rw [q]
  have hl:(goneW x e.n.toNat).m.length=x.m.length - 1:=by simp [goneW,List.length_eraseIdx,n2]
  rw [if_pos (.inr c)]
  exact ⟨gone_right hx _,⟨0,fun _ _=>rfl⟩,by rw [hl];exact Nat.le_refl _,by rw [hl];omega,.inl rfl⟩
 ·rw [q] at k ⊢
  rw [if_neg (by omega)]
  obtain ⟨p1,p2,p3,p4,_⟩:=comes_keeps hx (h3 m (List.mem_of_getElem? hm)) k
  exact ⟨p1,p2,p3,p4,.inr (.inr (.inl c))⟩
 ·rw [q] at k ⊢
  rw [if_pos (.inl c)]
  have hl:(goneW x e.n.toNat).m.length=x.m.length - 1:=by simp [goneW,List.length_eraseIdx,n2]
  obtain ⟨p1,p2,p3,p4,_⟩:=comes_keeps (gone_right hx e.n.toNat) (h3 m (List.mem_of_getElem? hm)) k
  rw [hl] at p3 p4
  exact ⟨p1,p2,p3,p4,.inr (.inl c)⟩
 ·rw [q,if_neg (by omega)]
  exact ⟨checkW_mk h1 h2 h3 h4 (fun e=>by cases e) rfl h7,⟨0,fun _ _=>rfl⟩,Nat.le_refl _,by simp only;omega,.inl rfl⟩
 ·rw [q,if_neg (by omega)]
  exact ⟨boot_right hx hr,⟨0,fun _ _=>rfl⟩,Nat.le_refl _,by simp only;omega,.inr (.inr (.inr c))⟩
 ·rw [q,if_neg (by omega)]
  obtain ⟨a1,a2,a3,a4,a5⟩:=ask_right ha
  have hs:=set_right hx (j:=e.w) a2
  rw [a1]
  obtain ⟨p1,p2,p3,p4,p5,p6,_⟩:=post_same (setW x e.w ⟨(handW x e.w).s + 1,true,e.c,(handW x e.w).g⟩) ⟨false,e.w,(handW x e.w).s + 1,e.c,zeroA⟩
  refine ⟨post_right hs (checkM_mk hw (by simp only;omega) (fun e=>by cases e) (fun _=>⟨rfl,a4⟩)),⟨e.w.toNat,fun i hi=>?_⟩,p5,p6,.inl (by rw [p2];rfl)⟩
  rw [p4]
  exact set_others x _ _ i hi
 ·rw [q,if_neg (by omega)]
  obtain ⟨w1,w2,w3⟩:=waits_facts (hand_mem hx hw).2 ha
  obtain ⟨p1,p2,p3,p4,p5,p6,_⟩:=post_same x ⟨false,e.w,(handW x e.w).s,(handW x e.w).c,zeroA⟩
  exact ⟨post_right hx (checkM_mk hw w1 (fun e=>by cases e) (fun _=>⟨rfl,w3⟩)),⟨0,fun _ _=>by rw [p4]⟩,p5,p6,.inl (by rw [p2])⟩
end Go.Proofs.YtabafikicbkkdaaGreatDoor
namespace Go.Proofs.YtabafikicbkkdaaGreatDoor
open Go.RowKit
set_option linter.unusedVariables false
set_option maxRecDepth 100000
set_option linter.unusedSimpArgs false
def toldF:PH→List PR→List PA
 |h,[]=>[]
 |h,r :: rs=>(nextH h r).2.1 :: toldF (nextH h r).1 rs
theorem told_app:∀ (a:List PR) (r:PR) (h:PH),(replayF h a).2=0→toldF h (a++[r])=toldF h a++[(nextH (replayF h a).1 r).2.1]
 |[],r,h,_=>rfl
 |x :: a,r,h,k=>by
  rw [replay_cons] at k
  split at k
  ·rename_i q;exact absurd k q
  ·rename_i q
   rw [List.cons_append]
   simp only [toldF]
   rw [told_app a r _ k,replay_cons,if_neg q]
   rfl
theorem told_step {X:List PR} {k:Nat} {r:PR} {hp:PH} (hr:X[k]?=some r) (h:replayF freshH (X.take k)=(hp,0)):toldF freshH (X.take (k + 1))=toldF freshH (X.take k)++[(nextH hp r).2.1]:=by
 obtain ⟨g1,g2⟩:=List.getElem?_eq_some_iff.1 hr
 rw [List.take_succ_eq_append_getElem g1,told_app _ _ _ (by rw [h]),h,g2]
end Go.Proofs.YtabafikicbkkdaaGreatDoor
