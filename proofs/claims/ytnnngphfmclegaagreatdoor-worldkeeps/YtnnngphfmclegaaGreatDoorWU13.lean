/- Mail, happenings and worlds in memory; plain mathematics, no condition. -/
import Derived.Test.YtnnngphfmclegaaGreatDoorWU12
import Derived.Test.YtnnngphfmclegaaGreatDoorWU8
import Derived.Test.YtnnngphfmclegaaGreatDoorWU11
import Derived.Test.YtnnngphfmclegaaGreatDoorRows
import Derived.Test.YtnnngphfmclegaaGreatDoorWU1
import Derived.Stop.LaidErr
import Derived.Shelf.Vars
import Derived.MapViews
import Derived.DeepKeys2
import Derived.Lib.LaidTab
import Derived.Test.YtnnngphfmclegaaGreatDoorWU4
namespace Go.Proofs.YtnnngphfmclegaaGreatDoor
open Go.RowKit
set_option linter.unusedVariables false
set_option maxRecDepth 100000
set_option linter.unusedSimpArgs false
theorem one_of {k:Nat} {f:List Value} (h:f.all (fun v=>v.oneCell')=true):∀ v∈f,v.oneCell'=true:=fun v hv=>List.all_eq_true.1 h v hv
def handK:Kin NV where
 k:=8
 cs:=NV.cells
 ok w x:=x.ok w
 off R x:=x.off R
 len _:=rfl
 one x:=one_of (k:=0) rfl
 below h _ hb hB:=h.below hb hB
 but h hb ho:=h.but hb ho
 far h hR:=h.off hR
structure MV where
 b:Bool
 w:Int
 s:Int
 c:PC
 ca:Option Addr
 cn:Nat
 cc:Nat
 x:AV
def MV.p (m:MV):PM:=⟨m.b,m.w,m.s,m.c,m.x.p⟩
def MV.cells (m:MV):List Value:=[.bool m.b,.int .i64 m.w,.int .i64 m.s,.int .i64 m.c.k,.int .i64 m.c.z,.int .i64 m.c.n,.int .i64 m.c.at',.slice m.ca m.cn m.cc,.int .i64 m.x.e,.int .i64 m.x.t,.slice m.x.a m.x.n m.x.c]
def MV.v (m:MV):Value:=.agg #[.bool m.b,.int .i64 m.w,.int .i64 m.s,.int .i64 m.c.k,.int .i64 m.c.z,.int .i64 m.c.n,.int .i64 m.c.at',.slice m.ca m.cn m.cc,.int .i64 m.x.e,.int .i64 m.x.t,.slice m.x.a m.x.n m.x.c]
structure MV.ok (w:World) (m:MV):Prop where
 c:Ints w m.ca m.cn m.cc m.c.d
 x:m.x.ok w
structure MV.off (R:Nat) (m:MV):Prop where
 c:m.cn=0∨∀ y,m.ca=some y→y.block≠R
 x:m.x.off R
def mailK:Kin MV where
 k:=11
 cs:=MV.cells
 ok w x:=x.ok w
 off R x:=x.off R
 len _:=rfl
 one x:=one_of (k:=0) rfl
 below h _ hb hB:=⟨h.c.below hb hB,AV.ok.below h.x hb hB⟩
 but h hb ho:=⟨h.c.but hb ho.c,AV.ok.but h.x hb ho.x⟩
 far h hR:=⟨Ints.offs h.c hR,AV.ok.off h.x hR⟩
structure XV where
 k:Int
 w:Int
 n:Int
 c:PC
 ca:Option Addr
 cn:Nat
 cc:Nat
def XV.p (x:XV):PX:=⟨x.k,x.w,x.n,x.c⟩
def XV.cells (x:XV):List Value:=[.int .i64 x.k,.int .i64 x.w,.int .i64 x.n,.int .i64 x.c.k,.int .i64 x.c.z,.int .i64 x.c.n,.int .i64 x.c.at',.slice x.ca x.cn x.cc]
def XV.v (x:XV):Value:=.agg #[.int .i64 x.k,.int .i64 x.w,.int .i64 x.n,.int .i64 x.c.k,.int .i64 x.c.z,.int .i64 x.c.n,.int .i64 x.c.at',.slice x.ca x.cn x.cc]
def XV.ok (w:World) (x:XV):Prop:=Ints w x.ca x.cn x.cc x.c.d
def XV.off (R:Nat) (x:XV):Prop:=x.cn=0∨∀ y,x.ca=some y→y.block≠R
def hapK:Kin XV where
 k:=8
 cs:=XV.cells
 ok w x:=x.ok w
 off R x:=x.off R
 len _:=rfl
 one x:=one_of (k:=0) rfl
 below h _ hb hB:=Ints.below h hb hB
 but h hb ho:=Ints.but h hb ho
 far h hR:=Ints.offs h hR
structure KV.off (R:Nat) (x:KV):Prop where
 s:x.n=0∨∀ y,x.a=some y→y.block≠R
 w:x.m=0∨∀ y,x.b=some y→y.block≠R
theorem KV.ok.off {w:World} {x:KV} (h:x.ok w) {R:Nat} (hR:w.heap.size≤R):x.off R:=⟨Cel.offs h.s hR,Cel.offs h.w hR⟩
theorem KV.ok.butO {w w':World} {g:Nat} {x:KV} (h:x.ok w) (hb:But g w w') (ho:x.off g):x.ok w':=⟨h.s.but hb ho.s,h.w.but hb ho.w⟩
theorem KV.ok.belowB {w w':World} {x:KV} (h:x.ok w) {B:Nat} (hb:Below B w w') (hB:w.heap.size≤B):x.ok w':=⟨h.s.below hb hB,h.w.below hb hB⟩
theorem KV.fresh.off {B R:Nat} {x:KV} (h:x.fresh B) (hR:R < B):x.off R:=⟨.inr fun y e=>by have:=h.s y e;omega,.inr fun y e=>by have:=h.w y e;omega⟩
structure WV where
 h:HV
 d:KV
 u:Bool
 na:Option Addr
 nn:Nat
 nc:Nat
 N:List NV
 ma:Option Addr
 mn:Nat
 mc:Nat
 M:List MV
def WV.p (x:WV):PW:=⟨x.h.p,x.d.p,x.u,x.N.map NV.p,x.M.map MV.p⟩
abbrev WV.cells (x:WV):List Value:=[.slice x.h.d.za x.h.d.zn x.h.d.zc,.slice x.h.d.ka x.h.d.kn x.h.d.kc,.int .i64 x.h.d.b.h,.int .i64 x.h.d.b.t,.slice x.h.a x.h.n x.h.c,.slice x.d.a x.d.n x.d.c,.slice x.d.b x.d.m x.d.d,.bool x.u,.slice x.na x.nn x.nc,.slice x.ma x.mn x.mc]
abbrev WV.v (x:WV):Value:=.agg #[.slice x.h.d.za x.h.d.zn x.h.d.zc,.slice x.h.d.ka x.h.d.kn x.h.d.kc,.int .i64 x.h.d.b.h,.int .i64 x.h.d.b.t,.slice x.h.a x.h.n x.h.c,.slice x.d.a x.d.n x.d.c,.slice x.d.b x.d.m x.d.d,.bool x.u,.slice x.na x.nn x.nc,.slice x.ma x.mn x.mc]
structure WV.ok (w:World) (x:WV):Prop where
 h:x.h.ok w
 d:x.d.ok w
 n:Rows' handK w x.na x.nn x.nc x.N
 m:Rows' mailK w x.ma x.mn x.mc x.M
structure WV.sm (x:WV):Prop where
 s:x.d.n≤140737488355328
 w:x.d.m≤140737488355328
structure WV.off (R:Nat) (x:WV):Prop where
 h:x.h.off R
 d:x.d.off R
 n:OffR handK R x.na x.nn x.N
 m:OffR mailK R x.ma x.mn x.M
def WV.new (B:Nat) (x:WV):Prop:=∀ R,R < B→x.off R
theorem WV.ok.below {w w':World} {x:WV} (k:x.ok w) {B:Nat} (hb:Below B w w') (hB:w.heap.size≤B):x.ok w':=⟨k.h.below hb hB,k.d.belowB hb hB,k.n.below hb hB,k.m.below hb hB⟩
theorem WV.ok.but {w w':World} {g:Nat} {x:WV} (k:x.ok w) (hb:But g w w') (ho:x.off g):x.ok w':=⟨k.h.but hb ho.h,k.d.butO hb ho.d,k.n.but hb ho.n,k.m.but hb ho.m⟩
theorem WV.ok.off {w:World} {x:WV} (k:x.ok w) {R:Nat} (hR:w.heap.size≤R):x.off R:=⟨k.h.off hR,k.d.off hR,k.n.off hR,k.m.off hR⟩
theorem WV.new.mono {B B':Nat} {x:WV} (k:x.new B) (hb:B'≤B):x.new B':=fun R hR=>k R (by omega)
def WV.zero:WV:=⟨HV.zero,KV.zero,false,none,0,0,[],none,0,0,[]⟩
theorem WV.zero_ok (w:World):WV.zero.ok w:=⟨HV.zero_ok w,KV.zero_ok w,Rows'.none w,Rows'.none w⟩
theorem WV.zero_p:WV.zero.p=zeroW:=rfl
theorem WV.zero_off (R:Nat):WV.zero.off R:=⟨HV.zero_off R,⟨.inl rfl,.inl rfl⟩,⟨.inl rfl,fun x hx=>(by cases hx)⟩,⟨.inl rfl,fun x hx=>(by cases hx)⟩⟩
theorem WV.zero_new (B:Nat):WV.zero.new B:=fun R _=>WV.zero_off R
theorem WV.zero_sm:WV.zero.sm:=⟨by decide,by decide⟩
def WorldNew (r:PW×Int) (w:World) (e:Ending) (w':World):Prop:=
 (∃ x:WV,e=.returned (.tuple #[x.v,.int .i64 r.2])∧x.ok w'∧x.sm∧x.new w.heap.size∧x.p=r.1)∧Below w.heap.size w w'
def WorldOf (r:PW) (w:World) (e:Ending) (w':World):Prop:=
 (∃ x:WV,e=.returned x.v∧x.ok w'∧x.sm∧x.new w.heap.size∧x.p=r)∧Below w.heap.size w w'
def RunNew (r:PW×List Int×Int) (w:World) (e:Ending) (w':World):Prop:=
 (∃ (x:WV) (a:Option Addr) (n c:Nat),e=.returned (.tuple #[x.v,.slice a n c,.int .i64 r.2.2])∧x.ok w'∧x.sm∧x.new w.heap.size∧Ints w' a n c r.2.1∧(n=0∨∀ y,a=some y→w.heap.size≤y.block)∧x.p=r.1)∧Below w.heap.size w w'
def runW (x:PW) (l:List PX):PW×List Int×Int:=if checkW x≠0 then (zeroW,[],checkW x) else if 120 < l.length then (zeroW,[],2) else ((runF x l).1,(runF x l).2,0)
theorem Lay.ten {w:World} {B:Nat} {x:WV} (h:Lay w B x.cells):w.cell? ⟨B,0,none⟩=some (.slice x.h.d.za x.h.d.zn x.h.d.zc)∧w.cell? ⟨B,1,none⟩=some (.slice x.h.d.ka x.h.d.kn x.h.d.kc)∧w.cell? ⟨B,2,none⟩=some (.int .i64 x.h.d.b.h)∧w.cell? ⟨B,3,none⟩=some (.int .i64 x.h.d.b.t)∧w.cell? ⟨B,4,none⟩=some (.slice x.h.a x.h.n x.h.c)∧w.cell? ⟨B,5,none⟩=some (.slice x.d.a x.d.n x.d.c)∧w.cell? ⟨B,6,none⟩=some (.slice x.d.b x.d.m x.d.d)∧w.cell? ⟨B,7,none⟩=some (.bool x.u)∧w.cell? ⟨B,8,none⟩=some (.slice x.na x.nn x.nc)∧w.cell? ⟨B,9,none⟩=some (.slice x.ma x.mn x.mc):=
 ⟨h.cell 0 _ rfl,h.cell 1 _ rfl,h.cell 2 _ rfl,h.cell 3 _ rfl,h.cell 4 _ rfl,h.cell 5 _ rfl,h.cell 6 _ rfl,h.cell 7 _ rfl,h.cell 8 _ rfl,h.cell 9 _ rfl⟩
abbrev WV.into (x:WV) (w:World) (B:Nat):World:=(((((((((w.setCell ⟨B,0,none⟩ (.slice x.h.d.za x.h.d.zn x.h.d.zc)).setCell ⟨B,1,none⟩ (.slice x.h.d.ka x.h.d.kn x.h.d.kc)).setCell ⟨B,2,none⟩ (.int .i64 x.h.d.b.h)).setCell ⟨B,3,none⟩ (.int .i64 x.h.d.b.t)).setCell ⟨B,4,none⟩ (.slice x.h.a x.h.n x.h.c)).setCell ⟨B,5,none⟩ (.slice x.d.a x.d.n x.d.c)).setCell ⟨B,6,none⟩ (.slice x.d.b x.d.m x.d.d)).setCell ⟨B,7,none⟩ (.bool x.u)).setCell ⟨B,8,none⟩ (.slice x.na x.nn x.nc)).setCell ⟨B,9,none⟩ (.slice x.ma x.mn x.mc)
theorem WV.put {x:WV} {w:World} {B:Nat} {a b c d e f g i j k:Value} (h:Lay w B [a,b,c,d,e,f,g,i,j,k]):Lay (x.into w B) B x.cells∧ButI B w (x.into w B):=
 ⟨(((((((((h.set 0 (.slice x.h.d.za x.h.d.zn x.h.d.zc)).set 1 (.slice x.h.d.ka x.h.d.kn x.h.d.kc)).set 2 (.int .i64 x.h.d.b.h)).set 3 (.int .i64 x.h.d.b.t)).set 4 (.slice x.h.a x.h.n x.h.c)).set 5 (.slice x.d.a x.d.n x.d.c)).set 6 (.slice x.d.b x.d.m x.d.d)).set 7 (.bool x.u)).set 8 (.slice x.na x.nn x.nc)).set 9 (.slice x.ma x.mn x.mc),((((((((((ButI.refl B w).step 0 (.slice x.h.d.za x.h.d.zn x.h.d.zc)).step 1 (.slice x.h.d.ka x.h.d.kn x.h.d.kc)).step 2 (.int .i64 x.h.d.b.h)).step 3 (.int .i64 x.h.d.b.t)).step 4 (.slice x.h.a x.h.n x.h.c)).step 5 (.slice x.d.a x.d.n x.d.c)).step 6 (.slice x.d.b x.d.m x.d.d)).step 7 (.bool x.u)).step 8 (.slice x.na x.nn x.nc)).step 9 (.slice x.ma x.mn x.mc)⟩
theorem NV.lay {w:World} {b o:Nat} {x:NV} (h:∀ j v,x.cells[j]?=some v→w.cell? ⟨b,o + j,none⟩=some v):w.cell? ⟨b,o,none⟩=some (.int .i64 x.s)∧w.cell? ⟨b,o + 1,none⟩=some (.bool x.w)∧w.cell? ⟨b,o + 2,none⟩=some (.int .i64 x.c.k)∧w.cell? ⟨b,o + 3,none⟩=some (.int .i64 x.c.z)∧w.cell? ⟨b,o + 4,none⟩=some (.int .i64 x.c.n)∧w.cell? ⟨b,o + 5,none⟩=some (.int .i64 x.c.at')∧w.cell? ⟨b,o + 6,none⟩=some (.slice x.ca x.cn x.cc)∧w.cell? ⟨b,o + 7,none⟩=some (.slice x.ga x.gn x.gc):=
 ⟨h 0 _ rfl,h 1 _ rfl,h 2 _ rfl,h 3 _ rfl,h 4 _ rfl,h 5 _ rfl,h 6 _ rfl,h 7 _ rfl⟩
theorem MV.lay {w:World} {b o:Nat} {x:MV} (h:∀ j v,x.cells[j]?=some v→w.cell? ⟨b,o + j,none⟩=some v):w.cell? ⟨b,o,none⟩=some (.bool x.b)∧w.cell? ⟨b,o + 1,none⟩=some (.int .i64 x.w)∧w.cell? ⟨b,o + 2,none⟩=some (.int .i64 x.s)∧w.cell? ⟨b,o + 3,none⟩=some (.int .i64 x.c.k)∧w.cell? ⟨b,o + 4,none⟩=some (.int .i64 x.c.z)∧w.cell? ⟨b,o + 5,none⟩=some (.int .i64 x.c.n)∧w.cell? ⟨b,o + 6,none⟩=some (.int .i64 x.c.at')∧w.cell? ⟨b,o + 7,none⟩=some (.slice x.ca x.cn x.cc)∧w.cell? ⟨b,o + 8,none⟩=some (.int .i64 x.x.e)∧w.cell? ⟨b,o + 9,none⟩=some (.int .i64 x.x.t)∧w.cell? ⟨b,o + 10,none⟩=some (.slice x.x.a x.x.n x.x.c):=
 ⟨h 0 _ rfl,h 1 _ rfl,h 2 _ rfl,h 3 _ rfl,h 4 _ rfl,h 5 _ rfl,h 6 _ rfl,h 7 _ rfl,h 8 _ rfl,h 9 _ rfl,h 10 _ rfl⟩
theorem XV.lay {w:World} {b o:Nat} {x:XV} (h:∀ j v,x.cells[j]?=some v→w.cell? ⟨b,o + j,none⟩=some v):w.cell? ⟨b,o,none⟩=some (.int .i64 x.k)∧w.cell? ⟨b,o + 1,none⟩=some (.int .i64 x.w)∧w.cell? ⟨b,o + 2,none⟩=some (.int .i64 x.n)∧w.cell? ⟨b,o + 3,none⟩=some (.int .i64 x.c.k)∧w.cell? ⟨b,o + 4,none⟩=some (.int .i64 x.c.z)∧w.cell? ⟨b,o + 5,none⟩=some (.int .i64 x.c.n)∧w.cell? ⟨b,o + 6,none⟩=some (.int .i64 x.c.at')∧w.cell? ⟨b,o + 7,none⟩=some (.slice x.ca x.cn x.cc):=
 ⟨h 0 _ rfl,h 1 _ rfl,h 2 _ rfl,h 3 _ rfl,h 4 _ rfl,h 5 _ rfl,h 6 _ rfl,h 7 _ rfl⟩
end Go.Proofs.YtnnngphfmclegaaGreatDoor
namespace Go.Proofs.YtnnngphfmclegaaGreatDoor
open Go.ChangeShapes Go.WideShapes Go.ChangeAt Go.RowKit Go.Joins Go.ChangeMaps
set_option linter.unusedVariables false
set_option maxRecDepth 100000
set_option linter.unusedSimpArgs false
theorem cellsMail:Tryz.prog.cellsOf 77=11:=by kernel_rfl
theorem cellsHap:Tryz.prog.cellsOf 46=8:=by kernel_rfl
theorem cellsWorld:Tryz.prog.cellsOf 37=10:=by kernel_rfl
theorem cellsBool:Tryz.prog.cellsOf 4=1:=by kernel_rfl
theorem cellsInt1:Tryz.prog.cellsOf 3=1:=by kernel_rfl
theorem rows_of {α:Type} {K:Kin α} {ts te:TypeId} {H:Type} {enc:TypeId×Value→H} {W:World} (hu:Tryz.prog.underlying ts=some (.slice te)) (hc:Tryz.prog.cellsOf te=K.k) (hp:0 < K.k)
  (el:∀ {fuel:Nat} {cs:List Value} {y:DataW H×List MemPlace},DataW.trod enc Tryz.prog W 0 (fun _=>true) true fuel te cs=some y→∃ x,cs=K.cs x∧K.ok W x)
  {fuel:Nat} {v:Value} {y:DataW H×List MemPlace} (h:DataW.trod enc Tryz.prog W 0 (fun _=>true) true fuel ts [v]=some y):∃ a n c X,v=.slice a n c∧Rows' K W a n c X:=by
 rcases Go.Deep.open_slice hu h with ⟨hcs,_⟩|⟨x,len,cap,m,n,D,Pl,hcs,_,hl,hm,hmm,_,hel⟩
 ·simp at hcs
  subst hcs
  exact ⟨none,0,0,[],rfl,Rows'.none W⟩
 ·simp at hcs
  subst hcs
  have hm':m=cap:=by simpa using hmm
  subst hm'
  have hz:∀ i,i < len→∃ z:α,K.ok W z∧∀ j v,(K.cs z)[j]?=some v→W.cell? ((x.add (i * K.k)).add j)=some v:=by
   intro i hi
   obtain ⟨cs',h1,h2⟩:=hel i (by omega)
   rw [hc] at h1
   obtain ⟨z,rfl,hz⟩:=el h2
   obtain ⟨_,_,hcc⟩:=World.cells?_some h1
   refine ⟨z,hz,fun j v hv=>?_⟩
   have hj:j < K.k:=by have:=(List.getElem?_eq_some_iff.1 hv).1;rwa [K.len] at this
   rw [hcc j hj]
   exact hv
  by_cases h0:len=0
  ·subst h0
   exact ⟨some x,0,m,[],rfl,⟨rfl,hl,hm,fun e=>(by cases e),.inl rfl,fun x hx=>by cases hx⟩⟩
  ·obtain ⟨z0,hz0⟩:=hz 0 (by omega)
   have dft:Inhabited α:=⟨z0⟩
   obtain ⟨f,hf⟩:=Go.Deep.choose_lt hz
   refine ⟨some x,len,m,(List.range len).map f,rfl,⟨by simp,hl,hm,fun e=>(by cases e),?_,?_⟩⟩
   ·obtain ⟨b,off,spot⟩:=x
    have hc0:∃ v,(K.cs (f 0))[0]?=some v:=⟨_,List.getElem?_eq_getElem (by rw [K.len];exact hp)⟩
    obtain ⟨v0,hv0⟩:=hc0
    have hc0:=(hf 0 (by omega)).2 0 _ hv0
    have hspot:spot=none:=by simpa [Addr.add] using World.cell?_spot hc0
    subst hspot
    refine .inr ⟨b,off,rfl,World.block_lt_of_cell? W ⟨b,off,none⟩ (by simpa [Addr.add] using hc0),fun i z hz j v hv=>?_⟩
    have hi:i < len:=by have:=(List.getElem?_eq_some_iff.1 hz).1;simpa using this
    rw [List.getElem?_map,List.getElem?_range hi] at hz
    simp at hz
    subst hz
    have h1:=(hf i hi).2 j v hv
    rw [addr_add,addr_add] at h1
    exact h1
   ·intro z hz
    simp at hz
    obtain ⟨i,hi,rfl⟩:=hz
    exact (hf i hi).1
theorem mail_of {H:Type} {enc:TypeId×Value→H} {W:World} {fuel:Nat} {cs:List Value} {y:DataW H×List MemPlace}
  (h:DataW.trod enc Tryz.prog W 0 (fun _=>true) true fuel 77 cs=some y):∃ x:MV,cs=x.cells∧x.ok W:=by
 obtain ⟨xs,n,_,_,hl,hlen,hfs⟩:=DataW.trod_struct Tryz.underlying77 h
 rw [cellsMail] at hl
 match cs,hl with
 |[v0,v1,v2,v3,v4,v5,v6,v7,v8,v9,v10],_=>
  match xs,hlen with
  |[y0,y1,y2,y3,y4],_=>
   have k0:DataW.trod enc Tryz.prog W 0 (fun _=>true) true n 4 [v0]=some y0:=by simpa [cellsBool] using hfs 0 _ rfl
   have k1:DataW.trod enc Tryz.prog W 0 (fun _=>true) true n 3 [v1]=some y1:=by simpa [cellsInt1] using hfs 1 _ rfl
   have k2:DataW.trod enc Tryz.prog W 0 (fun _=>true) true n 3 [v2]=some y2:=by simpa [cellsInt1] using hfs 2 _ rfl
   have k3:DataW.trod enc Tryz.prog W 0 (fun _=>true) true n 44 [v3,v4,v5,v6,v7]=some y3:=by simpa [cellsCmd] using hfs 3 _ rfl
   have k4:DataW.trod enc Tryz.prog W 0 (fun _=>true) true n 75 [v8,v9,v10]=some y4:=by simpa [cellsAnswer] using hfs 4 _ rfl
   obtain ⟨b,e0,_⟩:=DataW.trod_bool Tryz.underlying4 k0
   obtain ⟨i,e1,_,_⟩:=DataW.trod_int Tryz.underlying3 k1
   obtain ⟨s,e2,_,_⟩:=DataW.trod_int Tryz.underlying3 k2
   obtain ⟨ca,cn,cc,c,e3,hc⟩:=cmd_of k3
   obtain ⟨x,e4,hx⟩:=ans_of k4
   simp at e0 e1 e2 e3
   simp [AV.cells] at e4
   subst e0 e1 e2
   obtain ⟨rfl,rfl,rfl,rfl,rfl⟩:=e3
   obtain ⟨rfl,rfl,rfl⟩:=e4
   exact ⟨⟨b,i,s,c,ca,cn,cc,x⟩,rfl,⟨hc,hx⟩⟩
theorem hap_of {H:Type} {enc:TypeId×Value→H} {W:World} {fuel:Nat} {cs:List Value} {y:DataW H×List MemPlace}
  (h:DataW.trod enc Tryz.prog W 0 (fun _=>true) true fuel 46 cs=some y):∃ x:XV,cs=x.cells∧x.ok W:=by
 obtain ⟨xs,n,_,_,hl,hlen,hfs⟩:=DataW.trod_struct Tryz.underlying46 h
 rw [cellsHap] at hl
 match cs,hl with
 |[v0,v1,v2,v3,v4,v5,v6,v7],_=>
  match xs,hlen with
  |[y0,y1,y2,y3],_=>
   have k0:DataW.trod enc Tryz.prog W 0 (fun _=>true) true n 3 [v0]=some y0:=by simpa [cellsInt1] using hfs 0 _ rfl
   have k1:DataW.trod enc Tryz.prog W 0 (fun _=>true) true n 3 [v1]=some y1:=by simpa [cellsInt1] using hfs 1 _ rfl
   have k2:DataW.trod enc Tryz.prog W 0 (fun _=>true) true n 3 [v2]=some y2:=by simpa [cellsInt1] using hfs 2 _ rfl
   have k3:DataW.trod enc Tryz.prog W 0 (fun _=>true) true n 44 [v3,v4,v5,v6,v7]=some y3:=by simpa [cellsCmd] using hfs 3 _ rfl
   obtain ⟨k,e0,_,_⟩:=DataW.trod_int Tryz.underlying3 k0
   obtain ⟨i,e1,_,_⟩:=DataW.trod_int Tryz.underlying3 k1
   obtain ⟨s,e2,_,_⟩:=DataW.trod_int Tryz.underlying3 k2
   obtain ⟨ca,cn,cc,c,e3,hc⟩:=cmd_of k3
   simp at e0 e1 e2 e3
   subst e0 e1 e2
   obtain ⟨rfl,rfl,rfl,rfl,rfl⟩:=e3
   exact ⟨⟨k,i,s,c,ca,cn,cc⟩,rfl,hc⟩
theorem hap_arg {H:Type} {enc:TypeId×Value→H} {W:World} {base:Nat} {v:Value} {d:DataW H} {p:List MemPlace} (hv:Value.okWide Tryz.prog W .any base 46 v)
  (h:DataW.Trod enc Tryz.prog W 0 (fun _=>true) true 46 v d p):∃ x:XV,v=x.v∧x.ok W:=by
 obtain ⟨cs,rfl,hsz⟩:=okWide_struct Tryz.underlying46 hv
 obtain ⟨v0,v1,v2,v3,v4,v5,v6,v7,rfl⟩:=array8 (hsz.trans cellsHap)
 obtain ⟨fuel,hf⟩:=h
 obtain ⟨x,e,hx⟩:=hap_of (by simpa [Value.cells] using hf)
 simp [XV.cells] at e
 obtain ⟨rfl,rfl,rfl,rfl,rfl,rfl,rfl,rfl⟩:=e
 exact ⟨x,rfl,hx⟩
theorem haps_arg {H:Type} {enc:TypeId×Value→H} {W:World} {base:Nat} {v:Value} {d:DataW H} {p:List MemPlace} (hv:Value.okWide Tryz.prog W .any base 60 v)
  (h:DataW.Trod enc Tryz.prog W 0 (fun _=>true) true 60 v d p):∃ a n c X,v=.slice a n c∧Rows' hapK W a n c X:=by
 obtain ⟨a,n,c,rfl⟩:=okWide_slice Tryz.underlying60 hv
 obtain ⟨fuel,hf⟩:=h
 exact rows_of (K:=hapK) Tryz.underlying60 cellsHap (by decide) (fun h=>hap_of h) (by simpa [Value.cells] using hf)
theorem disk_of {H:Type} {enc:TypeId×Value→H} {W:World} {fuel:Nat} {cs:List Value} {y:DataW H×List MemPlace}
  (h:DataW.trod enc Tryz.prog W 0 (fun _=>true) true fuel 33 cs=some y):∃ x:KV,cs=x.cells∧x.ok W∧((∀ k∈y.1.weights Tryz.prog 33,k≤reachBytes)→x.n≤reachBytes∧x.m≤reachBytes):=by
 obtain ⟨y0,y1,n,rfl,hl,h0,h1⟩:=trod_struct2 Tryz.underlying33 h
 rw [cellsDisk] at hl
 match cs,hl with
 |[v0,v1],_=>
  obtain ⟨a,n,c,l,rfl,hi,si⟩:=byts_of (v:=v0) h0
  obtain ⟨b,k,e,r,rfl,hj,sj⟩:=byts_of (v:=v1) h1
  refine ⟨⟨⟨l,r⟩,a,n,c,b,k,e⟩,rfl,⟨hi,hj⟩,fun hw=>⟨si fun q hq=>hw q ?_,sj fun q hq=>hw q ?_⟩⟩
  ·unfold DataW.weights
   rw [Tryz.underlying33]
   simp [DataW.weightsEach]
   exact .inl hq
  ·unfold DataW.weights
   rw [Tryz.underlying33]
   simp [DataW.weightsEach]
   exact .inr hq
theorem array10 {α:Type} {xs:Array α} (h:xs.size=10):∃ a b c d e f g i j k,xs=#[a,b,c,d,e,f,g,i,j,k]:=by
 obtain ⟨l⟩:=xs
 match l,h with
 |[a,b,c,d,e,f,g,i,j,k],_=>exact ⟨a,b,c,d,e,f,g,i,j,k,rfl⟩
theorem world_arg {H:Type} {enc:TypeId×Value→H} {W:World} {base:Nat} {v:Value} {d:DataW H} {p:List MemPlace} (hv:Value.okWide Tryz.prog W .any base 37 v)
  (h:DataW.Trod enc Tryz.prog W 0 (fun _=>true) true 37 v d p):∃ x:WV,v=x.v∧x.ok W∧((∀ k∈d.weights Tryz.prog 37,k≤reachBytes)→x.d.n≤reachBytes∧x.d.m≤reachBytes):=by
 obtain ⟨cs,rfl,hsz⟩:=okWide_struct Tryz.underlying37 hv
 obtain ⟨v0,v1,v2,v3,v4,v5,v6,v7,v8,v9,rfl⟩:=array10 (hsz.trans cellsWorld)
 obtain ⟨fuel,hf⟩:=h
 have hf:DataW.trod enc Tryz.prog W 0 (fun _=>true) true fuel 37 [v0,v1,v2,v3,v4,v5,v6,v7,v8,v9]=some (d,p):=by simpa [Value.cells] using hf
 obtain ⟨xs,n,_,hx,hl,hlen,hfs⟩:=DataW.trod_struct Tryz.underlying37 hf
 match xs,hlen with
 |[y0,y1,y2,y3,y4],_=>
  have k0:DataW.trod enc Tryz.prog W 0 (fun _=>true) true n 30 [v0,v1,v2,v3,v4]=some y0:=by simpa [cellsHall] using hfs 0 _ rfl
  have k1:DataW.trod enc Tryz.prog W 0 (fun _=>true) true n 33 [v5,v6]=some y1:=by simpa [cellsDisk] using hfs 1 _ rfl
  have k2:DataW.trod enc Tryz.prog W 0 (fun _=>true) true n 4 [v7]=some y2:=by simpa [cellsBool] using hfs 2 _ rfl
  have k3:DataW.trod enc Tryz.prog W 0 (fun _=>true) true n 34 [v8]=some y3:=by simpa [show Tryz.prog.cellsOf 34=1 by kernel_rfl] using hfs 3 _ rfl
  have k4:DataW.trod enc Tryz.prog W 0 (fun _=>true) true n 35 [v9]=some y4:=by simpa [show Tryz.prog.cellsOf 35=1 by kernel_rfl] using hfs 4 _ rfl
  obtain ⟨b0,e0,h0⟩:=hall_of k0
  obtain ⟨b1,e1,h1,s1⟩:=disk_of k1
  obtain ⟨u,e2,_⟩:=DataW.trod_bool Tryz.underlying4 k2
  obtain ⟨na,nn,nc,N,rfl,h3⟩:=rows_of (K:=handK) Tryz.underlying34 cellsHand (by decide) (fun h=>hand_of h) k3
  obtain ⟨ma,mn,mc,M,rfl,h4⟩:=rows_of (K:=mailK) Tryz.underlying35 cellsMail (by decide) (fun h=>mail_of h) k4
  simp [HV.cells] at e0
  simp [KV.cells] at e1
  simp at e2
  obtain ⟨rfl,rfl,rfl,rfl,rfl⟩:=e0
  obtain ⟨rfl,rfl⟩:=e1
  subst e2
  simp only [Prod.mk.injEq] at hx
  refine ⟨⟨b0,b1,u,na,nn,nc,N,ma,mn,mc,M⟩,rfl,⟨h0,h1,h3,h4⟩,fun hw=>s1 fun q hq=>hw q ?_⟩
  rw [hx.1]
  unfold DataW.weights
  rw [Tryz.underlying37]
  simp only [List.map_cons,List.map_nil,DataW.weightsEach,List.mem_append]
  exact .inr (.inl hq)
end Go.Proofs.YtnnngphfmclegaaGreatDoor
namespace Go.Proofs.YtnnngphfmclegaaGreatDoor
open Go.RowKit
set_option linter.unusedVariables false
set_option maxRecDepth 100000
set_option linter.unusedSimpArgs false
theorem laid_at {P:Program} {w:World} : ∀ {laid:List (String×DataW Unit)} {ps:List MemPlace},DataW.LaidVars P w laid ps→∀ {n:String} {d:DataW Unit},(n,d)∈laid→
  ∃ g t cs fuel p,P.globalNamed n=some g∧(P.globals[g]?).map (·.type)=some t∧w.var? P n=some cs∧DataW.trod (fun _=>()) P w 0 (fun _=>true) false fuel t cs.toList=some (d,p)
 |[],_,_,_,_,h=>by cases h
 |(n,d) :: r,ps,hl,n',d',h=>by
  obtain ⟨g,t,cs,fuel,p,q,h1,h2,h3,h4,h5,_⟩:=hl
  rcases List.mem_cons.1 h with e|h
  ·cases e
   exact ⟨g,t,cs,fuel,p,h1,h2,h3,h4⟩
  ·exact laid_at h5 h
theorem gShapes : Tryz.prog.globalNamed "quayhand/cmd.shapes" = some 0 := by kernel_rfl
theorem tShapes:(Tryz.prog.globals[0]?).map (·.type)=some 123:=by kernel_rfl
theorem shapes_cells:(Rows.laid_quayhand_cmd_shapes:DataW Unit).flat.map Lit.toCell=((List.range 13).flatMap fun k=>[.string (word k),.bool (hasZ k),.bool (hasA k),.bool (hasN k),.bool (hasD k)]):=by rfl
theorem flat_get (f:Nat→List Value) (h5:∀ k,(f k).length=5):∀ (n k j:Nat),k < n→j < 5→((List.range n).flatMap f)[k * 5 + j]?=(f k)[j]?
 |0,k,j,hk,_=>by omega
 |n + 1,k,j,hk,hj=>by
  have hlen:∀ m,((List.range m).flatMap f).length=m * 5:=by
   intro m
   induction m with
   |zero=>rfl
   |succ m ih=>rw [List.range_succ,List.flatMap_append,List.length_append,ih];simp [h5];omega
  rw [List.range_succ,List.flatMap_append]
  by_cases hkn:k < n
  ·rw [List.getElem?_append_left (by rw [hlen];omega)]
   exact flat_get f h5 n k j hkn hj
  ·obtain rfl:k=n:=by omega
   rw [List.getElem?_append_right (by rw [hlen];omega),hlen]
   simp
theorem shapes_of {W : World} {laid : List (String × DataW Unit)} (hL : laidMet Tryz.prog laid W) (m4 : ("quayhand/cmd.shapes", Rows.laid_quayhand_cmd_shapes) ∈ laid) : Shapes W := by
 obtain ⟨ps,hv,_,_⟩:=hL
 obtain ⟨g,t,cs,fuel,p,h1,h2,h3,h4⟩:=laid_at hv m4
 obtain rfl:=Option.some.inj (gShapes.symm.trans h1)
 obtain rfl:=Option.some.inj (tShapes.symm.trans h2)
 have h5:=(keyLits_of_trod 5 123 (by kernel_rfl) _ _ _ h4).1
 have h6:=cells_of_lits 5 123 (by kernel_rfl) _ _ _ h5
 rw [shapes_cells] at h6
 have hc:∀ k j,k≤12→j < 5→W.cell? ⟨0,k * 5 + j,none⟩=([.string (word k),.bool (hasZ k),.bool (hasA k),.bool (hasN k),.bool (hasD k)]:List Value)[j]?:=by
  intro k j hk hj
  rw [World.var?_cell gShapes h3,← Array.getElem?_toList,h6]
  exact flat_get _ (fun k=>rfl) 13 k j (by omega) hj
 exact ⟨fun k hk=>hc k 0 hk (by omega),fun k hk=>hc k 1 hk (by omega),fun k hk=>hc k 2 hk (by omega),fun k hk=>hc k 3 hk (by omega),fun k hk=>hc k 4 hk (by omega)⟩
end Go.Proofs.YtnnngphfmclegaaGreatDoor
namespace Go.Proofs.YtnnngphfmclegaaGreatDoor
open Go.RowKit
set_option linter.unusedVariables false
set_option maxRecDepth 100000
set_option linter.unusedSimpArgs false
theorem gSyn : Tryz.prog.globalNamed "strconv.ErrSyntax" = some 2 := by kernel_rfl
theorem gRng : Tryz.prog.globalNamed "strconv.ErrRange" = some 3 := by kernel_rfl
theorem tTab:(Tryz.prog.globals[4]?).map (·.type)=some 295:=by kernel_rfl
theorem tSyn:(Tryz.prog.globals[2]?).map (·.type)=some 204:=by kernel_rfl
theorem tRng:(Tryz.prog.globals[3]?).map (·.type)=some 204:=by kernel_rfl
theorem env_of {W:World} {laid:List (String×DataW Unit)} (hL:laidMet Tryz.prog laid W) (hsh:W.ShapedOpen Tryz.prog)
  (m1 : ("internal/strconv.uint64pow10", Rows.laid_internal_strconv_uint64pow10) ∈ laid) (m2 : ("strconv.ErrRange", Rows.laid_strconv_ErrRange) ∈ laid)
  (m3 : ("strconv.ErrSyntax", Rows.laid_strconv_ErrSyntax) ∈ laid) (m4 : ("quayhand/cmd.shapes", Rows.laid_quayhand_cmd_shapes) ∈ laid) : Env W := by
 obtain ⟨ps,hv,_,_⟩:=id hL
 refine ⟨?_,?_,?_,?_,?_⟩
 ·exact cell_of_shapedOpen_int (P:=Tryz.prog) (g:=1) (t:=3) (zero:=#[.int .i64 0]) hsh (of_decide_eq_true (by kernel_rfl)) (by kernel_rfl) rfl (by kernel_rfl) (by kernel_rfl) Tryz.underlying3
 ·obtain ⟨g,t,cs,fuel,p,h1,h2,h3,h4⟩:=laid_at hv m1
  obtain rfl:=Option.some.inj (gTab.symm.trans h1)
  obtain rfl:=Option.some.inj (tTab.symm.trans h2)
  unfold Lib.TabIs
  rw [h3]
  have h5:DataW.trod (fun _=>()) Tryz.prog W 0 (fun _=>true) false fuel 295 cs.toList=some (Lib.tabData .u64 Lib.pow10Tab,p):=h4
  have:=Lib.cells_of_tab Tryz.underlying295 Tryz.underlying268 (by kernel_rfl) (by kernel_rfl) h5
  rw [← this]
 ·obtain ⟨g,t,cs,fuel,p,h1,h2,h3,h4⟩:=laid_at hv m3
  obtain rfl:=Option.some.inj (gSyn.symm.trans h1)
  obtain rfl:=Option.some.inj (tSyn.symm.trans h2)
  obtain ⟨f1,u,v,e,_,_⟩:=iface_of_trod Tryz.underlying204 h4
  refine ⟨u,v,?_⟩
  have:=World.var?_cell gSyn h3 0
  rw [this,← Array.getElem?_toList,e]
  rfl
 ·obtain ⟨g,t,cs,fuel,p,h1,h2,h3,h4⟩:=laid_at hv m2
  obtain rfl:=Option.some.inj (gRng.symm.trans h1)
  obtain rfl:=Option.some.inj (tRng.symm.trans h2)
  obtain ⟨f1,u,v,e,_,_⟩:=iface_of_trod Tryz.underlying204 h4
  refine ⟨u,v,?_⟩
  have:=World.var?_cell gRng h3 0
  rw [this,← Array.getElem?_toList,e]
  rfl
 ·exact shapes_of hL m4
end Go.Proofs.YtnnngphfmclegaaGreatDoor
namespace Go.Proofs.YtnnngphfmclegaaGreatDoor
open Go.RowKit
set_option linter.unusedVariables false
set_option maxRecDepth 100000
set_option linter.unusedSimpArgs false
def sameM (a b:PM):Bool:=(a.b==b.b)&&decide (a.w=b.w)&&decide (a.s=b.s)&&sameC a.c b.c&&sameA a.a b.a
theorem sameM_iff (a b:PM):sameM a b=true↔a=b:=by
 obtain ⟨b1,w1,s1,c1,a1⟩:=a
 obtain ⟨b2,w2,s2,c2,a2⟩:=b
 simp [sameM,sameC_iff,sameA_iff,and_assoc]
def sameBy {α:Type} (f:α→α→Bool):List α→List α→Bool
 |[],[]=>true
 |a :: l,b :: m=>f a b&&sameBy f l m
 |[],_ :: _=>false
 |_ :: _,[]=>false
theorem sameBy_iff {α:Type} {f:α→α→Bool} (hf:∀ a b,f a b=true↔a=b):∀ l m:List α,sameBy f l m=true↔l=m
 |[],[]=>by simp [sameBy]
 |x :: l,y :: m=>by simp [sameBy,hf,sameBy_iff hf l m]
 |[],y :: m=>by simp [sameBy]
 |x :: l,[]=>by simp [sameBy]
theorem sameBy_t {α:Type} {f:α→α→Bool} (hf:∀ a b,f a b=true↔a=b) {A B:List α} (h:A=B):sameBy f A B=true:=(sameBy_iff hf A B).2 h
theorem sameBy_f {α:Type} {f:α→α→Bool} (hf:∀ a b,f a b=true↔a=b) {A B:List α} (h:A≠B):sameBy f A B=false:=by
 cases e:sameBy f A B with
 |false=>rfl
 |true=>exact absurd ((sameBy_iff hf A B).1 e) h
def sameW (a b:PW):Bool:=(a.u==b.u)&&sameH a.h b.h&&sameK a.d b.d&&sameBy sameN a.n b.n&&sameBy sameM a.m b.m
theorem sameW_iff (a b:PW):sameW a b=true↔a=b:=by
 obtain ⟨h1,d1,u1,n1,m1⟩:=a
 obtain ⟨h2,d2,u2,n2,m2⟩:=b
 simp [sameW,sameH_iff,sameK_iff,sameBy_iff sameN_iff,sameBy_iff sameM_iff]
 constructor
 ·rintro ⟨⟨⟨⟨a,b⟩,c⟩,d⟩,e⟩;exact ⟨b,c,a,d,e⟩
 ·rintro ⟨b,c,a,d,e⟩;exact ⟨⟨⟨⟨a,b⟩,c⟩,d⟩,e⟩
end Go.Proofs.YtnnngphfmclegaaGreatDoor
namespace Go.Proofs.YtnnngphfmclegaaGreatDoor
open Go.RowKit
set_option linter.unusedVariables false
set_option maxRecDepth 100000
set_option linter.unusedSimpArgs false
def HandNew (r:PN×Int) (w:World) (e:Ending) (w':World):Prop:=
 (∃ h':NV,e=.returned (.tuple #[h'.v,.int .i64 r.2])∧h'.ok w'∧h'.new w.heap.size∧h'.p=r.1)∧Below w.heap.size w w'
end Go.Proofs.YtnnngphfmclegaaGreatDoor
namespace Go.Proofs.YtnnngphfmclegaaGreatDoor
open Go.RowKit
set_option linter.unusedVariables false
set_option maxRecDepth 100000
set_option linter.unusedSimpArgs false
def putAll (w:World) (g:Nat):Nat→List Value→World
 |_,[]=>w
 |o,v :: r=>putAll (w.setCell ⟨g,o,none⟩ v) g (o + 1) r
def setAll {β:Type} (L:List β):Nat→List β→List β
 |_,[]=>L
 |o,v :: r=>setAll (L.set o v) (o + 1) r
theorem putAll_but (g:Nat):∀ (vs:List Value) (w:World) (o:Nat),ButI g w (putAll w g o vs)
 |[],w,o=>ButI.refl g w
 |v :: r,w,o=>((ButI.refl g w).step o v).trans (putAll_but g r _ (o + 1))
theorem putAll_lay {g:Nat} : ∀ (vs:List Value) {w:World} {L:List Value} (o:Nat),Lay w g L→Lay (putAll w g o vs) g (setAll L o vs)
 |[],_,_,_,h=>h
 |v :: r,_,_,o,h=>putAll_lay r (o + 1) (h.set o v)
theorem putAll_row {g:Nat} {t:TypeId} {n:Nat} : ∀ (vs:List Value) {w:World} (o:Nat),(∃ cur:Array Value,w.heap[g]?=some (.cells cur t (0,0))∧cur.size=n)→∃ cur:Array Value,(putAll w g o vs).heap[g]?=some (.cells cur t (0,0))∧cur.size=n
 |[],_,_,h=>h
 |v :: r,w,o,⟨cur,e,k⟩=>putAll_row r (o + 1) ⟨_,heap_setCell_same _ _ _ _ _ _ e,by simpa using k⟩
theorem setAll_app {β:Type} : ∀ (vs P A R:List β),A.length=vs.length→setAll (P++(A++R)) P.length vs=P++(vs++R)
 |[],P,A,R,h=>by
  have:A=[]:=List.eq_nil_of_length_eq_zero h
  subst this
  rfl
 |v :: r,P,[],R,h=>by cases h
 |v :: r,P,a :: A,R,h=>by
  have e:(P++(a :: A++R)).set P.length v=(P++[v])++(A++R):=by simp
  have:=setAll_app r (P++[v]) A R (by simpa using h)
  rw [List.length_append] at this
  rw [setAll,e,show P.length + 1=P.length + [v].length from rfl,this]
  simp
theorem setAll_all {β:Type} (A vs:List β) (h:A.length=vs.length):setAll A 0 vs=vs:=by
 have:=setAll_app vs [] A [] h
 simpa using this
theorem Lay.fill {w:World} {g:Nat} {L:List Value} (h:Lay w g L) {vs:List Value} (e:L.length=vs.length):Lay (putAll w g 0 vs) g vs:=by
 have:=putAll_lay vs 0 h
 rwa [setAll_all L vs e] at this
theorem Kin.cells_put {α:Type} {K:Kin α} (X:List α) (i:Nat) (x:α) (h:i < X.length):setAll (K.cells X) (i * K.k) (K.cs x)=K.cells (X.set i x):=by
 have e:K.cells X=K.cells (X.take i)++(K.cs X[i]++K.cells (X.drop (i + 1))):=by
  rw [← Kin.cells_cons,← Kin.cells_app,← List.drop_eq_getElem_cons h,List.take_append_drop]
 have e2:K.cells (X.set i x)=K.cells (X.take i)++(K.cs x++K.cells (X.drop (i + 1))):=by
  rw [← Kin.cells_cons,← Kin.cells_app,List.set_eq_take_append_cons_drop,if_pos h]
 have l:(K.cells (X.take i)).length=i * K.k:=by rw [Kin.cells_len,List.length_take,Nat.min_eq_left (by omega)]
 rw [e,e2,← l]
 exact setAll_app _ _ _ _ (by rw [K.len,K.len])
theorem MineR.put {α:Type} {K:Kin α} {t:TypeId} {w:World} {g:Nat} {X:List α} (h:MineR K t w g X) {i:Nat} (hi:i < X.length) {x:α} (hx:K.ok w x) (hn:∀ y∈X,K.off g y) (ho:K.off g x) :
  MineR K t (putAll w g (i * K.k) (K.cs x)) g (X.set i x):=by
 have hb:=putAll_but g (K.cs x) w (i * K.k)
 refine ⟨by rw [← Kin.cells_put X i x hi];exact putAll_lay _ _ h.lay,fun z hz=>?_,by rw [List.length_set];exact putAll_row _ _ h.row⟩
 rcases List.mem_or_eq_of_mem_set hz with hz|rfl
 ·exact K.but (h.ok z hz) hb.but (hn z hz)
 ·exact K.but hx hb.but ho
theorem take_setK {α β:Type} {p:α→β} {X X':List α} {k:Nat} {z u:α} (hz:X[k]?=some z) (hk:k < X'.length) (h:(X'.take k).map p=(X.take k).map p) (hu:p u=p z):((X'.set k u).take (k + 1)).map p=(X.take (k + 1)).map p:=by
 obtain ⟨g1,g2⟩:=List.getElem?_eq_some_iff.1 hz
 rw [List.take_succ_eq_append_getElem g1,List.take_succ_eq_append_getElem (by simpa using hk),List.map_append,List.map_append,List.take_set_of_le (Nat.le_refl k),h,g2]
 simp [hu]
theorem Kin.made {α:Type} (K:Kin α) (z:α) (zs:Array Value) (hz:zs.toList=K.cs z) (hk:0 < K.k) (n:Nat):madeCells zs (n * K.k)=(K.cells (List.replicate n z)).toArray:=by
 have hs:zs.size=K.k:=by rw [← Array.length_toList,hz,K.len]
 apply Array.ext_getElem?
 intro i
 have e:(K.cells (List.replicate n z)).toArray[i]?=(K.cells (List.replicate n z))[i]?:=by simp
 rw [e]
 by_cases h:i < n * K.k
 ·have h1:i / K.k < n:=Nat.div_lt_of_lt_mul (by rw [Nat.mul_comm];exact h)
  have hm:=Nat.mod_lt i hk
  have h2:(K.cs z)[i % K.k]?=some zs[i % K.k]!:=by
   rw [← hz,Array.getElem?_toList,getElem!_pos zs _ (by rw [hs];exact hm)]
   simp [hs,hm]
  have:=Kin.cells_get (K:=K) (List.replicate n z) (i / K.k) z (by rw [List.getElem?_replicate,if_pos h1]) _ _ h2
  rw [Nat.mul_comm,Nat.div_add_mod] at this
  rw [this]
  simp [madeCells,h,hs]
 ·rw [Array.getElem?_eq_none (by rw [size_madeCells];omega),List.getElem?_eq_none (by rw [Kin.cells_len];simp;omega)]
theorem mkR {α:Type} (K:Kin α) {P:Program} (z:α) {zs:Array Value} {ts t:TypeId} {i:TypeInfo} {v:Value} (hu:P.underlying ts=some (.slice t)) (hi:P.info? t=some i) (hz:i.zero=some v) (hv:v.cells=zs) (hc:zs.toList=K.cs z) (hs:i.size=K.k) (hb:i.bytes≤1000) (hk:0 < K.k) (n:Nat) (hn:n≤1000000) (w:World) :
  (Instr.makeSlice ts (.int .i64 (n:Int)) (.int .i64 (n:Int))).run P w=.ok (.slice (some ⟨w.heap.size,0,none⟩) n n) (w.alloc (.cells (K.cells (List.replicate n z)).toArray t)):=by
 have hr:=run_make (P:=P) w ts t i _ hu hi hz .i64 .i64 (n:Int) (n:Int) (by omega) (Int.le_refl _) (by rw [← Int.natCast_mul];exact Int.le_trans (Int.ofNat_le.2 (Nat.mul_le_mul hb hn)) (by decide)) (by omega)
 simp only [Int.toNat_natCast,hs] at hr
 rw [hr,hv,Kin.made K z zs hc hk]
theorem MineR.made {α:Type} (K:Kin α) (t:TypeId) (z:α) (hz:∀ w,K.ok w z) (n:Nat) (w:World):MineR K t (w.alloc (.cells (K.cells (List.replicate n z)).toArray t (0,0))) w.heap.size (List.replicate n z):=
 ⟨Lay.made w _ _,fun y hy=>by rw [List.eq_of_mem_replicate hy];exact hz _,⟨_,heap_new w _,by simp [Kin.cells_len]⟩⟩
structure NewK {α:Type} (K:Kin α) where
 new:Nat→α→Prop
 off:∀ {B R:Nat} {y:α},new B y→R < B→K.off R y
 mono:∀ {B B':Nat} {y:α},new B y→B'≤B→new B' y
 zero:α
 zero_new:∀ B,new B zero
 zero_ok:∀ w,K.ok w zero
abbrev Copied {α β:Type} (K:Kin α) (t:TypeId) (p:α→β) (N:NewK K) (w:World) (n:Nat) (X:List α) (e:Ending) (w':World):Prop:=
 (∃ (g:Nat) (Y:List α),e=.returned (.slice (some ⟨g,0,none⟩) n n)∧MineR K t w' g Y∧Y.length=n∧Y.map p=X.map p∧w.heap.size≤g∧∀ y∈Y,N.new (g + 1) y)∧Below w.heap.size w w'
abbrev Copy1 {α β:Type} (K:Kin α) (v:α→Value) (p:α→β) (N:NewK K) (x:α) (w:World) (e:Ending) (w':World):Prop:=
 (∃ y,e=.returned (v y)∧K.ok w' y∧N.new w.heap.size y∧p y=p x)∧Below w.heap.size w w'
theorem MineR.at {α:Type} {K:Kin α} {t:TypeId} {w:World} {g:Nat} {X:List α} (h:MineR K t w g X) {i j:Nat} (hi:i < X.length) (hj:j < K.k):∃ u,w.cell? ⟨g,i * K.k + j,none⟩=some u:=by
 have hl:j < (K.cs X[i]).length:=by rw [K.len];exact hj
 exact ⟨_,h.lay.cell _ _ (Kin.cells_get X i X[i] (List.getElem?_eq_getElem hi) j _ (List.getElem?_eq_getElem hl))⟩
theorem putAll_heap (g k:Nat) (h:k≠g):∀ (vs:List Value) (w:World) (o:Nat),(putAll w g o vs).heap[k]?=w.heap[k]?
 |[],_,_=>rfl
 |v :: r,w,o=>by rw [putAll,putAll_heap g k h r,heap_setCell_other _ _ _ _ h]
theorem MineR.away {α:Type} {K:Kin α} {t:TypeId} {w:World} {g k:Nat} {X:List α} (h:MineR K t w g X) (vs:List Value) (o:Nat) (hk:k≠g) (ho:∀ y∈X,K.off k y):MineR K t (putAll w k o vs) g X:=
 ⟨h.lay.butI (putAll_but k vs w o) (fun e=>hk e.symm),fun y hy=>K.but (h.ok y hy) (putAll_but k vs w o).but (ho y hy),by obtain ⟨cur,e,z⟩:=h.row;exact ⟨cur,by rw [putAll_heap k g (fun e=>hk e.symm)];exact e,z⟩⟩
end Go.Proofs.YtnnngphfmclegaaGreatDoor
