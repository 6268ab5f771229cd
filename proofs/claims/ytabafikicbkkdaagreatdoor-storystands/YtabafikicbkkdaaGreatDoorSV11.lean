/- Lists of commands in memory; plain mathematics, no condition. -/
import Derived.Test.YtabafikicbkkdaaGreatDoorSV1
import Derived.Test.YtabafikicbkkdaaGreatDoorSV2
import Derived.Test.YtabafikicbkkdaaGreatDoorSV10
import Derived.Test.YtabafikicbkkdaaGreatDoorSV3
import Derived.Test.YtabafikicbkkdaaGreatDoorSV9
import Derived.Deep.AppendLies
import Derived.Test.YtabafikicbkkdaaGreatDoorSV8
namespace Go.Proofs.YtabafikicbkkdaaGreatDoor
open Go.RowKit
set_option linter.unusedVariables false
set_option maxRecDepth 100000
set_option linter.unusedSimpArgs false
structure BV where
 p:PC
 a:Option Addr
 n:Nat
 c:Nat
def BV.cells (x:BV):List Value:=[.int .i64 x.p.k,.int .i64 x.p.z,.int .i64 x.p.n,.int .i64 x.p.at',.slice x.a x.n x.c]
def BV.ok (w:World) (x:BV):Prop:=Ints w x.a x.n x.c x.p.d
def BV.zero:BV:=⟨zeroC,none,0,0⟩
theorem BV.ok.below {w w':World} {x:BV} (h:x.ok w) {B:Nat} (hb:Below B w w') (hB:w.heap.size≤B):x.ok w':=Ints.below h hb hB
structure Cmds (w:World) (a:Option Addr) (n c:Nat) (X:List BV):Prop where
 len:X.length=n
 le:n≤c
 max:c≤9223372036854775807
 nil:a=none→c=0
 row:n=0∨∃ b off,a=some ⟨b,off,none⟩∧b < w.heap.size∧∀ i x,X[i]?=some x→∀ j v,x.cells[j]?=some v→w.cell? ⟨b,off + i * 5 + j,none⟩=some v
 ok:∀ x∈X,x.ok w
theorem Cmds.nilSlice (w:World):Cmds w none 0 0 []:=⟨rfl,Nat.le_refl _,by omega,fun _=>rfl,.inl rfl,by simp⟩
theorem Cmds.at {w:World} {a:Option Addr} {n c:Nat} {X:List BV} (h:Cmds w a n c X) {i:Nat} (hi:i < n):∃ b off x,a=some ⟨b,off,none⟩∧X[i]?=some x∧x.ok w∧b < w.heap.size∧∀ j v,x.cells[j]?=some v→w.cell? ⟨b,off + i * 5 + j,none⟩=some v:=by
 obtain ⟨b,off,e,hlt,hc⟩:=h.row.resolve_left (by omega)
 obtain ⟨x,hx⟩:∃ x,X[i]?=some x:=⟨_,List.getElem?_eq_getElem (by rw [h.len];exact hi)⟩
 exact ⟨b,off,x,e,hx,h.ok x (List.mem_of_getElem? hx),hlt,hc i x hx⟩
end Go.Proofs.YtabafikicbkkdaaGreatDoor
namespace Go.Proofs.YtabafikicbkkdaaGreatDoor
open Go.RowKit
set_option linter.unusedVariables false
set_option maxRecDepth 100000
set_option linter.unusedSimpArgs false
structure PN where
 s:Int
 w:Bool
 c:PC
 g:List PA
def zeroN:PN:=⟨0,false,zeroC,[]⟩
def firstA:List PA→Int
 |[]=>0
 |a :: l=>if checkA a≠0 then checkA a else firstA l
def formN (h:PN):Bool:=if h.w then decide (h.s=h.g.length + 1) else decide (h.s=h.g.length)&&sameC h.c zeroC
def checkN (h:PN):Int:=if inB h.s 0 40=false then 3 else if firstA h.g≠0 then firstA h.g else if formN h=false then 4 else if h.w then checkC h.c else 0
def askN (h:PN) (c:PC):PN×Int:=
 if checkN h≠0 then (zeroN,checkN h) else if checkC c≠0 then (zeroN,checkC c) else if h.w then (zeroN,6) else if 40≤h.s then (zeroN,2) else (⟨h.s + 1,true,c,h.g⟩,0)
def hearN (h:PN) (q:Int) (a:PA):PN×Int:=
 if checkN h≠0 then (zeroN,checkN h) else if checkA a≠0 then (zeroN,checkA a) else if h.w=false∨h.s≠q then (h,0) else (⟨q,false,zeroC,h.g++[a]⟩,0)
theorem firstA_step:∀ {l:List PA} {k:Nat} {y:PA},l[k]?=some y→firstA (l.take k)=0→checkA y=0→firstA (l.take (k + 1))=0
 |[],k,y,h,_,_=>by simp at h
 |z :: l,0,y,h,_,hy=>by
  simp at h
  subst h
  simp [firstA,hy]
 |z :: l,k + 1,y,h,h0,hy=>by
  simp only [List.take_succ_cons,firstA] at h0 ⊢
  split at h0
  ·rename_i q;exact absurd h0 q
  ·rename_i q
   rw [if_neg q]
   exact firstA_step (by simpa using h) h0 hy
theorem firstA_at:∀ {l:List PA} {k:Nat} {y:PA},l[k]?=some y→firstA (l.take k)=0→checkA y≠0→firstA l=checkA y
 |[],k,y,h,_,_=>by simp at h
 |z :: l,0,y,h,_,hy=>by
  simp at h
  subst h
  simp only [firstA]
  rw [if_pos hy]
 |z :: l,k + 1,y,h,h0,hy=>by
  simp only [List.take_succ_cons,firstA] at h0 ⊢
  split at h0
  ·rename_i q;exact absurd h0 q
  ·rename_i q
   rw [if_neg q]
   exact firstA_at (by simpa using h) h0 hy
theorem firstA_all:∀ {l:List PA},firstA l=0→∀ x∈l,checkA x=0
 |[],_,x,hx=>by cases hx
 |y :: l,h,x,hx=>by
  simp only [firstA] at h
  split at h
  ·rename_i q;exact absurd h q
  ·rename_i q
   rcases List.mem_cons.1 hx with rfl|hx
   ·simpa using q
   ·exact firstA_all h x hx
theorem firstA_of:∀ {l:List PA},(∀ x∈l,checkA x=0)→firstA l=0
 |[],_=>rfl
 |y :: l,h=>by
  simp only [firstA]
  rw [if_neg (by simp [h y (by simp)])]
  exact firstA_of (fun x hx=>h x (by simp [hx]))
theorem firstA_snoc {l:List PA} {a:PA} (h:firstA l=0) (ha:checkA a=0):firstA (l++[a])=0:=
 firstA_of fun x hx=>(List.mem_append.1 hx).elim (firstA_all h x) (fun m=>by simp at m;rw [m];exact ha)
theorem checkN_ok {h:PN} (k:checkN h=0):(0≤h.s∧h.s≤40)∧firstA h.g=0∧formN h=true∧(h.w=true→checkC h.c=0):=by
 unfold checkN at k
 split at k
 ·cases k
 ·rename_i q1
  split at k
  ·rename_i q;exact absurd k q
  ·rename_i q2
   split at k
   ·cases k
   ·rename_i q3
    refine ⟨by simp [inB] at q1;omega,by simpa using q2,by simpa using q3,fun hw=>?_⟩
    rw [if_pos hw] at k
    exact k
theorem checkN_mk {h:PN} (h1:0≤h.s∧h.s≤40) (h2:firstA h.g=0) (h3:formN h=true) (h4:h.w=true→checkC h.c=0):checkN h=0:=by
 unfold checkN
 rw [if_neg (by simp [inB];omega),if_neg (by simp [h2]),if_neg (by simp [h3])]
 split
 ·rename_i q;exact h4 q
 ·rfl
theorem ask_ok {h:PN} {c:PC} (hk:checkN h=0) (hw:h.w=false) (hc:checkC c=0) (hs:h.s < 40):askN h c=(⟨h.s + 1,true,c,h.g⟩,0)∧checkN ⟨h.s + 1,true,c,h.g⟩=0:=by
 obtain ⟨h1,h2,h3,_⟩:=checkN_ok hk
 refine ⟨?_,checkN_mk (by simp only;omega) h2 ?_ (fun _=>hc)⟩
 ·unfold askN
  rw [if_neg (by simp [hk]),if_neg (by simp [hc]),if_neg (by simp [hw]),if_neg (by omega)]
 ·simp only [formN,hw,Bool.false_eq_true,if_false,Bool.and_eq_true,decide_eq_true_eq] at h3
  simp only [formN,if_true,decide_eq_true_eq]
  omega
theorem ask_some {h:PN} {c:PC} (k:(askN h c).2=0):checkN h=0∧checkC c=0∧h.w=false∧h.s < 40:=by
 unfold askN at k
 split at k
 ·rename_i q;exact absurd k q
 ·rename_i q1
  split at k
  ·rename_i q;exact absurd k q
  ·rename_i q2
   split at k
   ·cases k
   ·rename_i q3
    split at k
    ·cases k
    ·rename_i q4
     exact ⟨by simpa using q1,by simpa using q2,by simpa using q3,by omega⟩
theorem hear_ok {h:PN} {a:PA} (hk:checkN h=0) (hw:h.w=true) (ha:checkA a=0):hearN h h.s a=(⟨h.s,false,zeroC,h.g++[a]⟩,0)∧checkN ⟨h.s,false,zeroC,h.g++[a]⟩=0:=by
 obtain ⟨h1,h2,h3,_⟩:=checkN_ok hk
 refine ⟨?_,checkN_mk h1 (firstA_snoc h2 ha) ?_ (fun e=>by cases e)⟩
 ·unfold hearN
  rw [if_neg (by simp [hk]),if_neg (by simp [ha]),if_neg (by simp [hw])]
 ·simp only [formN,hw,if_true,decide_eq_true_eq] at h3
  simp only [formN,Bool.false_eq_true,if_false,Bool.and_eq_true,decide_eq_true_eq,List.length_append,List.length_singleton]
  exact ⟨by omega,(sameC_iff _ _).2 rfl⟩
theorem hear_deaf {h:PN} {q:Int} {a:PA} (hk:checkN h=0) (ha:checkA a=0) (hn:h.w=false∨h.s≠q):hearN h q a=(h,0):=by
 unfold hearN
 rw [if_neg (by simp [hk]),if_neg (by simp [ha]),if_pos hn]
end Go.Proofs.YtabafikicbkkdaaGreatDoor
namespace Go.Proofs.YtabafikicbkkdaaGreatDoor
open Go.RowKit
set_option linter.unusedVariables false
set_option maxRecDepth 100000
set_option linter.unusedSimpArgs false
def AV.cells (x:AV):List Value:=[.int .i64 x.e,.int .i64 x.t,.slice x.a x.n x.c]
theorem ansInfo:∃ i,Tryz.prog.info? 56=some i∧i.zero=some (.agg #[.int .i64 0,.int .i64 0,.slice none 0 0])∧i.size=3∧i.bytes=40:=by
 have h:(Tryz.prog.info? 56).map (fun i=>(i.zero,i.size,i.bytes))=some (some (.agg #[.int .i64 0,.int .i64 0,.slice none 0 0]),3,40):=by kernel_rfl
 obtain ⟨i,hi,h⟩:=Option.map_eq_some_iff.1 h
 simp only [Prod.mk.injEq] at h
 exact ⟨i,hi,h.1,h.2.1,h.2.2⟩
def acells (X:List AV):List Value:=X.flatMap AV.cells
theorem acells_cons (x:AV) (X:List AV):acells (x :: X)=x.cells++acells X:=by simp [acells]
theorem acells_snoc (X:List AV) (x:AV):acells (X++[x])=acells X++x.cells:=by simp [acells]
theorem AV.cells_len (x:AV):x.cells.length=3:=rfl
theorem acells_len:∀ X:List AV,(acells X).length=X.length * 3
 |[]=>rfl
 |x :: X=>by rw [acells_cons,List.length_append,acells_len X,x.cells_len,List.length_cons];omega
theorem acells_get:∀ (X:List AV) (i:Nat) (x:AV),X[i]?=some x→∀ j v,x.cells[j]?=some v→(acells X)[i * 3 + j]?=some v
 |[],i,x,h,_,_,_=>by simp at h
 |y :: X,0,x,h,j,v,hv=>by
  have hj:j < 3:=(List.getElem?_eq_some_iff.1 hv).1
  simp at h
  subst h
  rw [acells_cons,List.getElem?_append_left (by rw [AV.cells_len];omega)]
  simpa using hv
 |y :: X,i + 1,x,h,j,v,hv=>by
  rw [acells_cons,List.getElem?_append_right (by rw [AV.cells_len];omega),AV.cells_len,show (i + 1) * 3 + j - 3=i * 3 + j by omega]
  exact acells_get X i x (by simpa using h) j v hv
theorem AV.cells_one (x:AV):∀ v∈x.cells,v.oneCell'=true:=by
 intro v hx
 simp only [AV.cells,List.mem_cons,List.not_mem_nil,or_false] at hx
 rcases hx with rfl|rfl|rfl<;>rfl
structure Answers (w:World) (a:Option Addr) (n c:Nat) (X:List AV):Prop where
 len:X.length=n
 le:n≤c
 max:c≤9223372036854775807
 nil:a=none→c=0
 row:n=0∨∃ b off,a=some ⟨b,off,none⟩∧b < w.heap.size∧∀ i x,X[i]?=some x→∀ j v,x.cells[j]?=some v→w.cell? ⟨b,off + i * 3 + j,none⟩=some v
 ok:∀ x∈X,x.ok w
theorem Answers.below {w w':World} {a:Option Addr} {n c:Nat} {X:List AV} (h:Answers w a n c X) {B:Nat} (hb:Below B w w') (hB:w.heap.size≤B):Answers w' a n c X:=by
 refine ⟨h.len,h.le,h.max,h.nil,?_,fun x hx=>AV.ok.below (h.ok x hx) hb hB⟩
 rcases h.row with h0|⟨b,off,ha,hlt,hc⟩
 ·exact .inl h0
 ·refine .inr ⟨b,off,ha,Nat.lt_of_lt_of_le hlt hb.size,fun i x hx j v hv=>?_⟩
  rw [hb.cell (p:=⟨b,off + i * 3 + j,none⟩) (Nat.lt_of_lt_of_le hlt hB)]
  exact hc i x hx j v hv
theorem Answers.nilSlice (w:World):Answers w none 0 0 []:=⟨rfl,Nat.le_refl _,by omega,fun _=>rfl,.inl rfl,by simp⟩
theorem Answers.take {w:World} {a:Option Addr} {n c:Nat} {X:List AV} (h:Answers w a n c X) {k:Nat} (hk:k≤n):Answers w a k c (X.take k):=by
 refine ⟨by rw [List.length_take,h.len];omega,Nat.le_trans hk h.le,h.max,h.nil,?_,fun x hx=>h.ok x (List.mem_of_mem_take hx)⟩
 rcases h.row with h0|⟨b,off,ha,hlt,hc⟩
 ·exact .inl (by omega)
 ·refine .inr ⟨b,off,ha,hlt,fun i x hx=>hc i x ?_⟩
  have hi:=(List.getElem?_eq_some_iff.1 hx).1
  rw [List.length_take] at hi
  rwa [List.getElem?_take_of_lt (by omega)] at hx
structure FreshA (B:Nat) (a:Option Addr) (X:List AV):Prop where
 a:∀ y,a=some y→B≤y.block
 d:∀ x∈X,x.new B
theorem FreshA.mono {B B':Nat} {a:Option Addr} {X:List AV} (h:FreshA B a X) (hB:B'≤B):FreshA B' a X:=⟨fun y e=>Nat.le_trans hB (h.a y e),fun x hx=>AV.new.mono (h.d x hx) hB⟩
theorem FreshA.nil (B:Nat):FreshA B none []:=⟨fun y e=>(by cases e),fun x hx=>(by cases hx)⟩
theorem Answers.but {w w':World} {g:Nat} {a:Option Addr} {n c:Nat} {X:List AV} (h:Answers w a n c X) (hb:But g w w') (ha:n=0∨∀ y,a=some y→y.block≠g) (hd:∀ x∈X,x.off g):Answers w' a n c X:=by
 refine ⟨h.len,h.le,h.max,h.nil,?_,fun x hx=>AV.ok.but (h.ok x hx) hb (hd x hx)⟩
 rcases ha with h0|hne
 ·exact .inl h0
 ·rcases h.row with h0|⟨b,off,ha,hlt,hc⟩
  ·exact .inl h0
  ·refine .inr ⟨b,off,ha,Nat.lt_of_lt_of_le hlt hb.size,fun i x hx j v hv=>?_⟩
   have:=hne _ ha
   rw [hb.cell ⟨b,off + i * 3 + j,none⟩ hlt this]
   exact hc i x hx j v hv
theorem grown_but {w w':World} {g:Nat} (h:w.grownBy w' (some g)) (hg:g≤w.heap.size):But g w w':=
 ⟨⟨h.os,h.tape,h.output,h.size,fun k hk=>h.block k (by omega) (fun e=>by cases e;omega)⟩,h.size,fun q hq hne=>h.cell_far q hq (fun e=>hne (by cases e;rfl))⟩
theorem grown_none {w w':World} (h:w.grownBy w' none):Below w.heap.size w w':=⟨h.os,h.tape,h.output,h.size,fun k hk=>h.block k hk (by simp)⟩
theorem HV.ok.grown {w w':World} {row:Option Nat} {h:HV} (k:h.ok w) (hg:w.grownBy w' row) (hr:∀ g,row=some g→g≤w.heap.size∧h.off g):h.ok w':=by
 cases row with
 |none=>exact k.below (grown_none hg) (Nat.le_refl _)
 |some g=>exact k.but (grown_but hg (hr g rfl).1) (hr g rfl).2
theorem AV.ok.grown {w w':World} {row:Option Nat} {x:AV} (k:x.ok w) (hg:w.grownBy w' row) (hr:∀ g,row=some g→g≤w.heap.size∧x.off g):x.ok w':=by
 cases row with
 |none=>exact AV.ok.below k (grown_none hg) (Nat.le_refl _)
 |some g=>exact AV.ok.but k (grown_but hg (hr g rfl).1) (hr g rfl).2
theorem Lay.grownA {w w':World} {B:Nat} {vs:List Value} {row:Option Nat} (h:Lay w B vs) (hg:w.grownBy w' row) (hne:some B≠row):Lay w' B vs:=
 ⟨fun i v hv=>hg.cell (h.cell i v hv) hne,fun i=>by rw [hg.frozen_far ⟨B,i,none⟩ h.lt hne];exact h.ice i,Nat.lt_of_lt_of_le h.lt hg.size⟩
theorem Ints.setOffA {w:World} {a:Option Addr} {n c:Nat} {l:List Int} (h:Ints w a n c l) (p:Addr) (v:Value) (hne:n=0∨∀ x,a=some x→x.block≠p.block):Ints (w.setCell p v) a n c l:=by
 rcases hne with h0|hne
 ·exact ⟨h.len,h.le,h.max,h.nil,.inl h0,h.wf⟩
 ·exact h.setCell p v hne
structure OwnA (w:World) (base:Nat) (v:Value) (X:List AV):Prop where
 own:w.ownsRow base 56 3 v X.length (acells X)
 ok:∀ x∈X,x.ok w
 off:∀ x∈X,∀ g,v.ownBlock=some g→x.off g
theorem OwnA.nil (w:World) (base:Nat):OwnA w base (.slice none 0 0) []:=⟨World.ownsRow_nil w base _ 3,by simp,by simp⟩
theorem OwnA.below {w w':World} {base:Nat} {v:Value} {X:List AV} (h:OwnA w base v X) (hb:Below w.heap.size w w'):OwnA w' base v X:=
 ⟨h.own.kept (grown_below hb) (by cases v.ownBlock<;>simp),fun x hx=>AV.ok.below (h.ok x hx) hb (Nat.le_refl _),h.off⟩
theorem OwnA.mono {w:World} {base base':Nat} {v:Value} {X:List AV} (h:OwnA w base v X) (hb:base'≤base):OwnA w base' v X:=by
 refine ⟨⟨h.own.1,?_⟩,h.ok,h.off⟩
 rcases h.own.2 with h|⟨g,cap,cur,e,hg,r⟩
 ·exact .inl h
 ·exact .inr ⟨g,cap,cur,e,Nat.le_trans hb hg,r⟩
theorem OwnA.recs {w:World} {base:Nat} {v:Value} {X:List AV} (h:OwnA w base v X):∃ a c,v=.slice a X.length c∧Answers w a X.length c X∧∀ y,a=some y→base≤y.block:=by
 rcases h.own.2 with ⟨rfl,h0⟩|⟨g,cap,cur,rfl,hb,hg,hn,hm,hs,hc⟩
 ·rw [List.length_eq_zero_iff] at h0
  subst h0
  exact ⟨none,0,rfl,Answers.nilSlice w,fun y e=>by cases e⟩
 ·refine ⟨_,cap,rfl,?_,fun x e=>by cases e;exact hb⟩
  refine ⟨rfl,hn,by simp [maxLen] at hm;omega,fun e=>(by cases e),.inr ⟨g,0,rfl,(Array.getElem?_eq_some_iff.1 hg).1,fun i x hx j v hv=>?_⟩,h.ok⟩
  have hj:j < 3:=(List.getElem?_eq_some_iff.1 hv).1
  have hi:=(List.getElem?_eq_some_iff.1 hx).1
  have hr:=acells_get X i x hx j v hv
  rw [← hc,List.getElem?_take,if_pos (by omega)] at hr
  rw [cell_of_row w g _ _ _ _ hg,Nat.zero_add]
  simpa using hr
theorem OwnA.snoc {w w':World} {base:Nat} {v:Value} {X:List AV} {x:AV} {g cap:Nat} (h:OwnA w base v X) (hx:x.ok w) (ho:∀ g,v.ownBlock=some g→x.off g)
  (hown:w'.ownsRow base 56 3 (.slice (some ⟨g,0,none⟩) (X.length + 1) cap) (X.length + 1) (acells X++x.cells)) (hg:w.grownBy w' v.ownBlock) (hat:v.ownBlock=some g∨g=w.heap.size) :
  OwnA w' base (.slice (some ⟨g,0,none⟩) (X.length + 1) cap) (X++[x]):=by
 have all:∀ y∈X++[x],y.ok w∧(∀ k,v.ownBlock=some k→y.off k):=by
  intro y hy
  rcases List.mem_append.1 hy with hy|hy
  ·exact ⟨h.ok y hy,h.off y hy⟩
  ·obtain rfl:y=x:=by simpa using hy
   exact ⟨hx,ho⟩
 refine ⟨by rw [List.length_append,acells_snoc];exact hown,fun y hy=>?_,fun y hy k e=>?_⟩
 ·obtain ⟨h1,h2⟩:=all y hy
  refine Ints.grown h1 hg ?_
  cases e:v.ownBlock with
  |none=>exact .inr fun z _ q=>by cases q
  |some k=>
   rcases h2 k e with h0|h0
   ·exact .inl h0
   ·exact .inr fun z hz q=>h0 z hz (by cases q;rfl)
 ·obtain ⟨h1,h2⟩:=all y hy
  obtain rfl:g=k:=by simpa [Value.ownBlock] using e
  rcases hat with hat|rfl
  ·exact h2 _ hat
  ·exact AV.ok.off h1 (Nat.le_refl _)
theorem OwnA.far {w:World} {base:Nat} {v:Value} {X:List AV} (h:OwnA w base v X) (p:Addr) (u:Value) (hp:p.block < base) (hX:∀ x∈X,x.off p.block):OwnA (w.setCell p u) base v X:=
 ⟨ownsRow_setCell_below h.own hp u,fun x hx=>Ints.setOffA (h.ok x hx) p u (hX x hx),h.off⟩
end Go.Proofs.YtabafikicbkkdaaGreatDoor
namespace Go.Proofs.YtabafikicbkkdaaGreatDoor
open Go.RowKit
set_option linter.unusedVariables false
set_option maxRecDepth 100000
set_option linter.unusedSimpArgs false
structure NV where
 s:Int
 w:Bool
 c:PC
 ca:Option Addr
 cn:Nat
 cc:Nat
 ga:Option Addr
 gn:Nat
 gc:Nat
 G:List AV
def NV.p (h:NV):PN:=⟨h.s,h.w,h.c,h.G.map AV.p⟩
def NV.cells (h:NV):List Value:=[.int .i64 h.s,.bool h.w,.int .i64 h.c.k,.int .i64 h.c.z,.int .i64 h.c.n,.int .i64 h.c.at',.slice h.ca h.cn h.cc,.slice h.ga h.gn h.gc]
def NV.v (h:NV):Value:=.agg #[.int .i64 h.s,.bool h.w,.int .i64 h.c.k,.int .i64 h.c.z,.int .i64 h.c.n,.int .i64 h.c.at',.slice h.ca h.cn h.cc,.slice h.ga h.gn h.gc]
structure NV.ok (w:World) (h:NV):Prop where
 c:Ints w h.ca h.cn h.cc h.c.d
 g:Answers w h.ga h.gn h.gc h.G
def NV.zero:NV:=⟨0,false,zeroC,none,0,0,none,0,0,[]⟩
theorem NV.zero_ok (w:World):NV.zero.ok w:=⟨Ints.nilSlice w,Answers.nilSlice w⟩
theorem NV.zero_p:NV.zero.p=zeroN:=rfl
theorem NV.ok.below {w w':World} {h:NV} (k:h.ok w) {B:Nat} (hb:Below B w w') (hB:w.heap.size≤B):h.ok w':=⟨k.c.below hb hB,k.g.below hb hB⟩
structure NV.off (R:Nat) (h:NV):Prop where
 c:h.cn=0∨∀ y,h.ca=some y→y.block≠R
 a:h.gn=0∨∀ y,h.ga=some y→y.block≠R
 g:∀ x∈h.G,x.off R
def NV.new (B:Nat) (h:NV):Prop:=∀ R,R < B→h.off R
theorem NV.ok.but {w w':World} {g:Nat} {h:NV} (k:h.ok w) (hb:But g w w') (ho:h.off g):h.ok w':=⟨k.c.but hb ho.c,k.g.but hb ho.a ho.g⟩
theorem Answers.off {w:World} {a:Option Addr} {n c:Nat} {X:List AV} (h:Answers w a n c X) {R:Nat} (hR:w.heap.size≤R):(n=0∨∀ y,a=some y→y.block≠R)∧∀ x∈X,x.off R:=by
 refine ⟨?_,fun x hx=>AV.ok.off (h.ok x hx) hR⟩
 rcases h.row with h0|⟨b,off,rfl,hlt,_⟩
 ·exact .inl h0
 ·exact .inr fun y e=>by cases e;simp;omega
theorem NV.ok.off {w:World} {h:NV} (k:h.ok w) {R:Nat} (hR:w.heap.size≤R):h.off R:=⟨Ints.offs k.c hR,(k.g.off hR).1,(k.g.off hR).2⟩
theorem NV.new.mono {B B':Nat} {h:NV} (k:h.new B) (hb:B'≤B):h.new B':=fun R hR=>k R (by omega)
theorem NV.zero_off (R:Nat):NV.zero.off R:=⟨.inl rfl,.inl rfl,fun x hx=>(by cases hx)⟩
theorem NV.zero_new (B:Nat):NV.zero.new B:=fun R _=>NV.zero_off R
theorem Answers.at {w:World} {a:Option Addr} {n c:Nat} {X:List AV} (h:Answers w a n c X) {i:Nat} (hi:i < n):∃ b off x,a=some ⟨b,off,none⟩∧X[i]?=some x∧x.ok w∧b < w.heap.size∧∀ j v,x.cells[j]?=some v→w.cell? ⟨b,off + i * 3 + j,none⟩=some v:=by
 obtain ⟨b,off,e,hlt,hc⟩:=h.row.resolve_left (by omega)
 obtain ⟨x,hx⟩:∃ x,X[i]?=some x:=⟨_,List.getElem?_eq_getElem (by rw [h.len];exact hi)⟩
 exact ⟨b,off,x,e,hx,h.ok x (List.mem_of_getElem? hx),hlt,hc i x hx⟩
end Go.Proofs.YtabafikicbkkdaaGreatDoor
namespace Go.Proofs.YtabafikicbkkdaaGreatDoor
open Go.ChangeShapes Go.WideShapes Go.ChangeAt Go.RowKit Go.Joins Go.ChangeMaps
set_option linter.unusedVariables false
set_option maxRecDepth 100000
set_option linter.unusedSimpArgs false
end Go.Proofs.YtabafikicbkkdaaGreatDoor
namespace Go.Proofs.YtabafikicbkkdaaGreatDoor
open Go.RowKit
set_option linter.unusedVariables false
set_option maxRecDepth 100000
set_option linter.unusedSimpArgs false
structure Kin (α:Type) where
 k:Nat
 cs:α→List Value
 ok:World→α→Prop
 off:Nat→α→Prop
 len:∀ x,(cs x).length=k
 one:∀ x,∀ v∈cs x,v.oneCell'=true
 below:∀ {w w':World} {x:α},ok w x→∀ {B:Nat},Below B w w'→w.heap.size≤B→ok w' x
 but:∀ {w w':World} {g:Nat} {x:α},ok w x→But g w w'→off g x→ok w' x
 far:∀ {w:World} {R:Nat} {x:α},ok w x→w.heap.size≤R→off R x
def Kin.cells {α:Type} (K:Kin α) (X:List α):List Value:=X.flatMap K.cs
theorem Kin.cells_cons {α:Type} {K:Kin α} (x:α) (X:List α):K.cells (x :: X)=K.cs x++K.cells X:=by simp [Kin.cells]
theorem Kin.cells_app {α:Type} {K:Kin α} (X Y:List α):K.cells (X++Y)=K.cells X++K.cells Y:=by simp [Kin.cells]
theorem Kin.cells_len {α:Type} {K:Kin α} : ∀ X:List α,(K.cells X).length=X.length * K.k
 |[]=>by simp [Kin.cells]
 |x :: X=>by rw [Kin.cells_cons,List.length_append,Kin.cells_len X,K.len,List.length_cons,Nat.add_mul,Nat.one_mul,Nat.add_comm]
theorem Kin.cells_get {α:Type} {K:Kin α} : ∀ (X:List α) (i:Nat) (x:α),X[i]?=some x→∀ j v,(K.cs x)[j]?=some v→(K.cells X)[i * K.k + j]?=some v
 |[],i,x,h,_,_,_=>by simp at h
 |y :: X,0,x,h,j,v,hv=>by
  have hj:=(List.getElem?_eq_some_iff.1 hv).1
  simp at h
  subst h
  rw [Kin.cells_cons,List.getElem?_append_left (by omega)]
  simpa using hv
 |y :: X,i + 1,x,h,j,v,hv=>by
  rw [Kin.cells_cons,List.getElem?_append_right (by rw [K.len,Nat.add_mul];omega),K.len,show (i + 1) * K.k + j - K.k=i * K.k + j by rw [Nat.add_mul];omega]
  exact Kin.cells_get X i x (by simpa using h) j v hv
theorem Kin.cells_set {α:Type} {K:Kin α} : ∀ (X:List α) (i:Nat) (x:α),i < X.length→∀ j,j < K.k→(K.cells (X.set i x))[i * K.k + j]?=(K.cs x)[j]?
 |[],i,x,h,_,_=>by simp at h
 |y :: X,0,x,_,j,hj=>by
  rw [List.set_cons_zero,Kin.cells_cons,List.getElem?_append_left (by rw [K.len];omega)]
  simp
 |y :: X,i + 1,x,h,j,hj=>by
  rw [List.set_cons_succ,Kin.cells_cons,List.getElem?_append_right (by rw [K.len,Nat.add_mul];omega),K.len,show (i + 1) * K.k + j - K.k=i * K.k + j by rw [Nat.add_mul];omega]
  exact Kin.cells_set X i x (by simpa using h) j hj
theorem Kin.cells_one {α:Type} {K:Kin α} (X:List α):∀ v∈K.cells X,v.oneCell'=true:=by
 intro v hv
 simp only [Kin.cells,List.mem_flatMap] at hv
 obtain ⟨x,_,hx⟩:=hv
 exact K.one x v hx
structure Rows' {α:Type} (K:Kin α) (w:World) (a:Option Addr) (n c:Nat) (X:List α):Prop where
 len:X.length=n
 le:n≤c
 max:c≤9223372036854775807
 nil:a=none→c=0
 row:n=0∨∃ b off,a=some ⟨b,off,none⟩∧b < w.heap.size∧∀ i x,X[i]?=some x→∀ j v,(K.cs x)[j]?=some v→w.cell? ⟨b,off + i * K.k + j,none⟩=some v
 ok:∀ x∈X,K.ok w x
structure OffR {α:Type} (K:Kin α) (R:Nat) (a:Option Addr) (n:Nat) (X:List α):Prop where
 a:n=0∨∀ y,a=some y→y.block≠R
 x:∀ x∈X,K.off R x
theorem Rows'.below {α:Type} {K:Kin α} {w:World} {w':World} {a:Option Addr} {n:Nat} {c:Nat} {X:List α} (h:Rows' K w a n c X) {B:Nat} (hb:Below B w w') (hB:w.heap.size≤B):Rows' K w' a n c X:=by
 refine ⟨h.len,h.le,h.max,h.nil,?_,fun x hx=>K.below (h.ok x hx) hb hB⟩
 rcases h.row with h0|⟨b,off,ha,hlt,hc⟩
 ·exact .inl h0
 ·refine .inr ⟨b,off,ha,Nat.lt_of_lt_of_le hlt hb.size,fun i x hx j v hv=>?_⟩
  rw [hb.cell (p:=⟨b,off + i * K.k + j,none⟩) (Nat.lt_of_lt_of_le hlt hB)]
  exact hc i x hx j v hv
theorem Rows'.but {α:Type} {K:Kin α} {w:World} {w':World} {a:Option Addr} {n:Nat} {c:Nat} {X:List α} {g:Nat} (h:Rows' K w a n c X) (hb:But g w w') (ho:OffR K g a n X):Rows' K w' a n c X:=by
 refine ⟨h.len,h.le,h.max,h.nil,?_,fun x hx=>K.but (h.ok x hx) hb (ho.x x hx)⟩
 rcases ho.a with h0|hne
 ·exact .inl h0
 ·rcases h.row with h0|⟨b,off,ha,hlt,hc⟩
  ·exact .inl h0
  ·refine .inr ⟨b,off,ha,Nat.lt_of_lt_of_le hlt hb.size,fun i x hx j v hv=>?_⟩
   rw [hb.cell ⟨b,off + i * K.k + j,none⟩ hlt (by have:=hne _ ha;exact this)]
   exact hc i x hx j v hv
theorem Rows'.off {α:Type} {K:Kin α} {w:World} {a:Option Addr} {n:Nat} {c:Nat} {X:List α} (h:Rows' K w a n c X) {R:Nat} (hR:w.heap.size≤R):OffR K R a n X:=by
 refine ⟨?_,fun x hx=>K.far (h.ok x hx) hR⟩
 rcases h.row with h0|⟨b,off,rfl,hlt,_⟩
 ·exact .inl h0
 ·exact .inr fun y e=>by cases e;simp;omega
theorem Rows'.none {α:Type} {K:Kin α} (w:World):Rows' K w none 0 0 []:=⟨rfl,Nat.le_refl _,by omega,fun _=>rfl,.inl rfl,fun x hx=>by cases hx⟩
theorem Rows'.at {α:Type} {K:Kin α} {w:World} {a:Option Addr} {n:Nat} {c:Nat} {X:List α} (h:Rows' K w a n c X) {i:Nat} (hi:i < n):∃ b off x,a=some ⟨b,off,.none⟩∧X[i]?=some x∧K.ok w x∧b < w.heap.size∧∀ j v,(K.cs x)[j]?=some v→w.cell? ⟨b,off + i * K.k + j,.none⟩=some v:=by
 obtain ⟨b,off,e,hlt,hc⟩:=h.row.resolve_left (by omega)
 obtain ⟨x,hx⟩:∃ x,X[i]?=some x:=⟨_,List.getElem?_eq_getElem (by rw [h.len];exact hi)⟩
 exact ⟨b,off,x,e,hx,h.ok x (List.mem_of_getElem? hx),hlt,hc i x hx⟩
theorem Rows'.lies {α:Type} {K:Kin α} {w:World} {a:Option Addr} {n:Nat} {c:Nat} {X:List α} (h:Rows' K w a n c X) (hn:0 < n):∃ b off,a=some ⟨b,off,.none⟩∧b < w.heap.size∧∀ i x,X[i]?=some x→∀ j v,(K.cs x)[j]?=some v→w.cell? ⟨b,off + i * K.k + j,.none⟩=some v:=h.row.resolve_left (by omega)
theorem Rows'.take {α:Type} {K:Kin α} {w:World} {a:Option Addr} {n:Nat} {c:Nat} {X:List α} (h:Rows' K w a n c X) {m:Nat} (hm:m≤n):Rows' K w a m c (X.take m):=by
 refine ⟨by rw [List.length_take,h.len];omega,Nat.le_trans hm h.le,h.max,h.nil,?_,fun x hx=>h.ok x (List.mem_of_mem_take hx)⟩
 rcases h.row with h0|⟨b,off,ha,hlt,hc⟩
 ·exact .inl (by omega)
 ·exact .inr ⟨b,off,ha,hlt,fun i x hx=>hc i x (by
   have hi:=(List.getElem?_eq_some_iff.1 hx).1
   rw [List.length_take] at hi
   rwa [List.getElem?_take_of_lt (by omega)] at hx)⟩
theorem Rows'.drop {α:Type} {K:Kin α} {w:World} {a:Option Addr} {n:Nat} {c:Nat} {X:List α} (h:Rows' K w a n c X) {j:Nat} (hj:j≤n):Rows' K w (if c=j then a else a.map (fun x=>x.add (j * K.k))) (n - j) (c - j) (X.drop j):=by
 have hlen:=h.len
 have hle:=h.le
 have hmax:=h.max
 refine ⟨by rw [List.length_drop,hlen],by omega,by omega,fun e=>?_,?_,fun x hx=>h.ok x (List.mem_of_mem_drop hx)⟩
 ·by_cases hcj:c=j
  ·omega
  ·rw [if_neg hcj] at e
   cases ha:a with
   |none=>have:=h.nil ha;omega
   |some x=>rw [ha] at e;cases e
 ·rcases h.row with h0|⟨b,off,ha,hlt,hc⟩
  ·exact .inl (by omega)
  ·by_cases hcj:c=j
   ·exact .inl (by omega)
   ·refine .inr ⟨b,off + j * K.k,by rw [if_neg hcj,ha];simp [addr_add],hlt,fun i x hx k v hv=>?_⟩
    rw [List.getElem?_drop] at hx
    have:=hc (j + i) x hx k v hv
    rw [Nat.add_mul] at this
    rwa [Nat.add_assoc off]
structure MineR {α:Type} (K:Kin α) (t:TypeId) (w:World) (g:Nat) (X:List α):Prop where
 lay:Lay w g (K.cells X)
 ok:∀ x∈X,K.ok w x
 row:∃ cur:Array Value,w.heap[g]?=some (.cells cur t (0,0))∧cur.size=X.length * K.k
theorem MineR.below {α:Type} {K:Kin α} {w:World} {w':World} {X:List α} {t:TypeId} {g:Nat} (h:MineR K t w g X) (hb:Below w.heap.size w w'):MineR K t w' g X:=
 ⟨h.lay.below hb,fun x hx=>K.below (h.ok x hx) hb (Nat.le_refl _),by obtain ⟨cur,e,k⟩:=h.row;exact ⟨cur,by rw [hb.block g h.lay.lt];exact e,k⟩⟩
theorem MineR.far {α:Type} {K:Kin α} {w:World} {X:List α} {t:TypeId} {g:Nat} (h:MineR K t w g X) {p:Addr} (v:Value) (hf:But p.block w (w.setCell p v)) (hp:p.block≠g) (ho:∀ x∈X,K.off p.block x):MineR K t (w.setCell p v) g X:=
 ⟨h.lay.far p v hp,fun x hx=>K.but (h.ok x hx) hf (ho x hx),by obtain ⟨cur,e,k⟩:=h.row;exact ⟨cur,by rw [heap_setCell_other _ _ _ _ (fun e=>hp e.symm)];exact e,k⟩⟩
theorem MineR.rows {α:Type} {K:Kin α} {w:World} {n:Nat} {X:List α} {t:TypeId} {g:Nat} (h:MineR K t w g X) (hn:X.length=n) (hm:n≤9223372036854775807):Rows' K w (some ⟨g,0,.none⟩) n n X:=by
 subst hn
 refine ⟨rfl,Nat.le_refl _,hm,fun e=>(by cases e),.inr ⟨g,0,rfl,h.lay.lt,fun i y hy j v hv=>?_⟩,h.ok⟩
 have:=h.lay.cell _ _ (Kin.cells_get X i y hy j v hv)
 simpa using this
structure OwnK {α:Type} (K:Kin α) (t:TypeId) (w:World) (base:Nat) (v:Value) (X:List α):Prop where
 own:w.ownsRow base t K.k v X.length (K.cells X)
 ok:∀ x∈X,K.ok w x
 off:∀ x∈X,∀ g,v.ownBlock=some g→K.off g x
theorem OwnK.nil {α:Type} {K:Kin α} {t:TypeId} (w:World) (base:Nat):OwnK K t w base (.slice none 0 0) []:=⟨World.ownsRow_nil w base _ _,by simp,by simp⟩
theorem MineR.own {α:Type} {K:Kin α} {w:World} {X:List α} {t:TypeId} {g:Nat} (h:MineR K t w g X) (hm:X.length≤maxLen) (ho:∀ x∈X,K.off g x):OwnK K t w g (.slice (some ⟨g,0,.none⟩) X.length X.length) X:=by
 obtain ⟨cur,e,k⟩:=h.row
 have hl:cur.toList=K.cells X:=by
  apply List.ext_getElem?
  intro i
  by_cases hi:i < (K.cells X).length
  ·obtain ⟨v,hv⟩:∃ v,(K.cells X)[i]?=some v:=⟨_,List.getElem?_eq_getElem hi⟩
   have:=h.lay.cell i v hv
   rw [cell_of_row w g _ _ _ _ e] at this
   rw [hv]
   simpa using this
  ·have h1:(K.cells X)[i]?=none:=List.getElem?_eq_none (by omega)
   have h2:cur.toList[i]?=none:=List.getElem?_eq_none (by rw [Array.length_toList,k];rw [Kin.cells_len] at hi;omega)
   rw [h1,h2]
 refine ⟨⟨by rw [Kin.cells_len],.inr ⟨g,X.length,cur,rfl,Nat.le_refl _,e,Nat.le_refl _,hm,k,?_⟩⟩,h.ok,fun x hx b hb=>?_⟩
 ·rw [hl,List.take_of_length_le (by rw [Kin.cells_len];omega)]
 ·obtain rfl:g=b:=by simpa [Value.ownBlock] using hb
  exact ho x hx
theorem OwnK.below {α:Type} {K:Kin α} {w:World} {w':World} {X:List α} {t:TypeId} {base:Nat} {v:Value} (h:OwnK K t w base v X) (hb:Below w.heap.size w w'):OwnK K t w' base v X:=
 ⟨h.own.kept (row:=none) ⟨hb.os,hb.tape,hb.output,hb.size,fun k hk _=>hb.block k hk⟩ (by cases v.ownBlock<;>simp),fun x hx=>K.below (h.ok x hx) hb (Nat.le_refl _),h.off⟩
theorem OwnK.rows {α:Type} {K:Kin α} {w:World} {X:List α} {t:TypeId} {base:Nat} {v:Value} (h:OwnK K t w base v X):∃ a c,v=.slice a X.length c∧Rows' K w a X.length c X∧∀ y,a=some y→base≤y.block:=by
 rcases h.own.2 with ⟨rfl,h0⟩|⟨g,cap,cur,rfl,hb,hg,hn,hm,hs,hc⟩
 ·rw [List.length_eq_zero_iff] at h0
  subst h0
  exact ⟨none,0,rfl,Rows'.none w,fun y e=>by cases e⟩
 ·refine ⟨_,cap,rfl,?_,fun x e=>by cases e;exact hb⟩
  refine ⟨rfl,hn,by simp [maxLen] at hm;omega,fun e=>(by cases e),.inr ⟨g,0,rfl,(Array.getElem?_eq_some_iff.1 hg).1,fun i x hx j v hv=>?_⟩,h.ok⟩
  have hr:=Kin.cells_get X i x hx j v hv
  have hl:=(List.getElem?_eq_some_iff.1 hr).1
  rw [Kin.cells_len] at hl
  rw [← hc,List.getElem?_take,if_pos (by omega)] at hr
  rw [cell_of_row w g _ _ _ _ hg,Nat.zero_add]
  simpa using hr
theorem grown_but' {w:World} {w':World} {row:Option Nat} {g:Nat} (h:w.grownBy w' row) (hr:row=some g) (hg:g≤w.heap.size):But g w w':=by
 subst hr
 exact ⟨⟨h.os,h.tape,h.output,h.size,fun k hk=>h.block k (by omega) (by simp;omega)⟩,h.size,fun q hq hne=>h.cell_far q hq (fun e=>hne (by cases e;rfl))⟩
theorem Kin.grown {α:Type} {K:Kin α} {w:World} {w':World} {row:Option Nat} {x:α} (h:K.ok w x) (hg:w.grownBy w' row) (hr:∀ g,row=some g→g≤w.heap.size∧K.off g x):K.ok w' x:=by
 cases row with
 |none=>exact K.below h ⟨hg.os,hg.tape,hg.output,hg.size,fun k hk=>hg.block k hk (by simp)⟩ (Nat.le_refl _)
 |some g=>exact K.but h (grown_but' hg rfl (hr g rfl).1) (hr g rfl).2
theorem OwnK.snoc {α:Type} {K:Kin α} {w:World} {w':World} {X:List α} {t:TypeId} {base:Nat} {v:Value} {x:α} {g cap:Nat} (h:OwnK K t w base v X) (hx:K.ok w x) (ho:∀ g,v.ownBlock=some g→K.off g x)
  (hown:w'.ownsRow base t K.k (.slice (some ⟨g,0,.none⟩) (X.length + 1) cap) (X.length + 1) (K.cells X++K.cs x)) (hg:w.grownBy w' v.ownBlock) (hat:v.ownBlock=some g∨g=w.heap.size) :
  OwnK K t w' base (.slice (some ⟨g,0,.none⟩) (X.length + 1) cap) (X++[x]):=by
 have all:∀ y∈X++[x],K.ok w y∧(∀ k,v.ownBlock=some k→K.off k y):=by
  intro y hy
  rcases List.mem_append.1 hy with hy|hy
  ·exact ⟨h.ok y hy,h.off y hy⟩
  ·obtain rfl:y=x:=by simpa using hy
   exact ⟨hx,ho⟩
 have hlt:=h.own.lt
 refine ⟨by rw [List.length_append,Kin.cells_app,show K.cells [x]=K.cs x by simp [Kin.cells]];exact hown,fun y hy=>?_,fun y hy k e=>?_⟩
 ·exact Kin.grown (all y hy).1 hg fun k e=>⟨by have:=hlt k e;omega,(all y hy).2 k e⟩
 ·obtain rfl:g=k:=by simpa [Value.ownBlock] using e
  rcases hat with hat|rfl
  ·exact (all y hy).2 _ hat
  ·exact K.far (all y hy).1 (Nat.le_refl _)
theorem Rows'.of_lay {α:Type} {K:Kin α} {w:World} {g n:Nat} {X:List α} (h:Lay w g (K.cells X)) (hok:∀ x∈X,K.ok w x) (hn:X.length=n) (hm:n≤9223372036854775807):Rows' K w (some ⟨g,0,.none⟩) n n X:=by
 subst hn
 refine ⟨rfl,Nat.le_refl _,hm,fun e=>(by cases e),.inr ⟨g,0,rfl,h.lt,fun i y hy j v hv=>?_⟩,hok⟩
 have:=h.cell _ _ (Kin.cells_get X i y hy j v hv)
 simpa using this
end Go.Proofs.YtabafikicbkkdaaGreatDoor
namespace Go.Proofs.YtabafikicbkkdaaGreatDoor
open Go.RowKit
set_option linter.unusedVariables false
set_option maxRecDepth 100000
set_option linter.unusedSimpArgs false
theorem next_right {h:PH} {r:PR} (k:(nextH h r).2.2=0):checkH (nextH h r).1=0:=by
 obtain ⟨h1,h2,h3⟩:=nextH_ok k
 obtain ⟨hd,hl,hx⟩:=checkH_ok h1
 obtain ⟨i,hi,hi3⟩:=rec_who h2
 obtain ⟨_,hs,hc⟩:=checkR_facts h2
 rcases h3 with ⟨e,q⟩|⟨e,q⟩
 ·rw [q]
  exact h1
 ·rw [q]
  have hr:=done_right (c:=r.c) hd hi3 hc
  rw [← hi] at hr
  refine checkH_mk hr.desk (by simp [hl]) (fun x hx'=>?_)
  rcases List.mem_or_eq_of_mem_set hx' with m|rfl
  ·exact hx x m
  ·unfold checkL
   rw [if_neg (by simp [inB];omega),if_neg (by simp [hr.ans]),if_neg (by rintro ⟨q,_⟩;simp at q;omega)]
theorem next_stands {h:PH} {r:PR} (k:(nextH h r).2.2=0):checkH (nextH h r).1=0∧checkR r=0∧lastH (nextH h r).1 r.w=⟨r.s,(nextH h r).2.1⟩:=by
 obtain ⟨h1,h2,h3⟩:=nextH_ok k
 obtain ⟨i,hi,hi3⟩:=rec_who h2
 refine ⟨next_right k,h2,?_⟩
 rw [hi,next_last k hi3,if_pos hi]
theorem replay_nil (h:PH):replayF h []=(h,0):=rfl
theorem replay_cons (h:PH) (r:PR) (rs:List PR):replayF h (r :: rs)=if (nextH h r).2.2≠0 then (zeroH,(nextH h r).2.2) else replayF (nextH h r).1 rs:=rfl
theorem replay_app:∀ (a b:List PR) (h:PH),(replayF h a).2=0→replayF h (a++b)=replayF (replayF h a).1 b
 |[],b,h,_=>rfl
 |r :: a,b,h,k=>by
  rw [replay_cons] at k
  split at k
  ·rename_i q;exact absurd k q
  ·rename_i q
   rw [List.cons_append,replay_cons,replay_cons,if_neg q,if_neg q]
   exact replay_app a b _ k
theorem replay_front:∀ (a b:List PR) (h:PH),(replayF h (a++b)).2=0→(replayF h a).2=0
 |[],b,h,_=>rfl
 |r :: a,b,h,k=>by
  rw [List.cons_append,replay_cons] at k
  split at k
  ·rename_i q;exact absurd k q
  ·rename_i q
   rw [replay_cons,if_neg q]
   exact replay_front a b _ k
theorem replay_right:∀ (a:List PR) (h:PH),checkH h=0→(replayF h a).2=0→checkH (replayF h a).1=0∧∀ r∈a,checkR r=0
 |[],h,hk,_=>⟨hk,by simp⟩
 |r :: a,h,hk,k=>by
  rw [replay_cons] at k
  split at k
  ·rename_i q;exact absurd k q
  ·rename_i q
   have q':(nextH h r).2.2=0:=by simpa using q
   obtain ⟨h1,h2⟩:=replay_right a _ (next_right q') k
   rw [replay_cons,if_neg q]
   refine ⟨h1,fun x hx=>?_⟩
   rcases List.mem_cons.1 hx with rfl|hx
   ·exact (nextH_ok q').2.1
   ·exact h2 x hx
theorem replay_snoc (a:List PR) (r:PR) (h:PH) (k:(replayF h (a++[r])).2=0):(replayF h a).2=0∧(nextH (replayF h a).1 r).2.2=0∧(replayF h (a++[r])).1=(nextH (replayF h a).1 r).1:=by
 have k1:=replay_front a [r] h k
 have e:=replay_app a [r] h k1
 rw [e] at k ⊢
 rw [replay_cons] at k ⊢
 split at k
 ·rename_i q;exact absurd k q
 ·rename_i q
  rw [if_neg q]
  exact ⟨k1,by simpa using q,rfl⟩
end Go.Proofs.YtabafikicbkkdaaGreatDoor
namespace Go.Proofs.YtabafikicbkkdaaGreatDoor
open Go.RowKit
set_option linter.unusedVariables false
set_option maxRecDepth 100000
set_option linter.unusedSimpArgs false
theorem sync_one {a:List PR} {r:PR} (h:∀ x∈a,checkR x=0) (hr:checkR r=0) (hl:a.length < 80):putK ⟨textL a,[]⟩ r=(⟨textL a,textL [r]⟩,0)∧syncK ⟨textL a,textL [r]⟩=(⟨textL (a++[r]),[]⟩,0):=
 ⟨putK_text (b:=[]) h (by simp) (by simpa using hl) hr,syncK_text (b:=[r]) h (by simpa using hr) (by simp;omega)⟩
end Go.Proofs.YtabafikicbkkdaaGreatDoor
