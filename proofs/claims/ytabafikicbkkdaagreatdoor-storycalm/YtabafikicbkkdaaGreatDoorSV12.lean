/- Worlds as plain data, and what a happening makes of them; plain mathematics, no condition. -/
import Derived.Test.YtabafikicbkkdaaGreatDoorSV11
import Derived.Test.YtabafikicbkkdaaGreatDoorSV8
import Derived.Test.YtabafikicbkkdaaGreatDoorSV10
import Derived.Test.YtabafikicbkkdaaGreatDoorRows
import Derived.Test.YtabafikicbkkdaaGreatDoorSV1
import Derived.Stop.LaidErr
import Derived.Shelf.Vars
import Derived.MapViews
import Derived.DeepKeys2
import Derived.Lib.LaidTab
import Derived.Test.YtabafikicbkkdaaGreatDoorSV4
namespace Go.Proofs.YtabafikicbkkdaaGreatDoor
open Go.RowKit
set_option linter.unusedVariables false
set_option maxRecDepth 100000
set_option linter.unusedSimpArgs false
structure PM where
 b:Bool
 w:Int
 s:Int
 c:PC
 a:PA
structure PW where
 h:PH
 d:PK
 u:Bool
 n:List PN
 m:List PM
structure PX where
 k:Int
 w:Int
 n:Int
 c:PC
def zeroW:PW:=⟨zeroH,zeroK,false,[],[]⟩
def freshW:PW:=⟨freshH,zeroK,true,[zeroN,zeroN,zeroN],[]⟩
def checkM (m:PM):Int:=
 if inB m.w 0 2=false∨inB m.s 1 40=false then 3
 else if m.b then (if sameC m.c zeroC=false then 4 else checkA m.a) else (if sameA m.a zeroA=false then 4 else checkC m.c)
def firstM:List PM→Int
 |[]=>0
 |x :: l=>if checkM x≠0 then checkM x else firstM l
def firstN:List PN→Int
 |[]=>0
 |x :: l=>if checkN x≠0 then checkN x else firstN l
def logW (x:PW):List PR:=if x.u then (recK x.d).2.1 else []
def checkW (x:PW):Int:=
 if x.n.length≠3 then 4 else if 30 < x.m.length then 2 else if firstM x.m≠0 then firstM x.m
 else if checkK x.d≠0 then checkK x.d else if x.u=true∧x.d.w≠[] then 4
 else if (replayH (logW x)).2≠0 then (replayH (logW x)).2 else if sameH (replayH (logW x)).1 x.h=false then 4 else firstN x.n
def postW (x:PW) (m:PM):PW:=if x.m.length < 30 then {x with m:=x.m++[m]} else x
def handW (x:PW) (j:Int):PN:=x.n.getD j.toNat zeroN
def setW (x:PW) (j:Int) (h:PN):PW:={x with n:=x.n.set j.toNat h}
def askedW (x:PW) (m:PM):PW:=
 if (nextH x.h ⟨m.w,m.s,m.c⟩).2.2≠0 then x
 else if m.s=(lastH x.h m.w).s then postW x ⟨true,m.w,m.s,zeroC,(nextH x.h ⟨m.w,m.s,m.c⟩).2.1⟩
 else if (putK x.d ⟨m.w,m.s,m.c⟩).2≠0 then x
 else if (syncK (putK x.d ⟨m.w,m.s,m.c⟩).1).2≠0 then x
 else postW {x with h:=(nextH x.h ⟨m.w,m.s,m.c⟩).1,d:=(syncK (putK x.d ⟨m.w,m.s,m.c⟩).1).1} ⟨true,m.w,m.s,zeroC,(nextH x.h ⟨m.w,m.s,m.c⟩).2.1⟩
def comesW (x:PW) (m:PM):PW×Int:=
 if m.b then (if (hearN (handW x m.w) m.s m.a).2≠0 then (zeroW,(hearN (handW x m.w) m.s m.a).2) else (setW x m.w (hearN (handW x m.w) m.s m.a).1,0))
 else if x.u=false then (zeroW,6) else (askedW x m,0)
def goneW (x:PW) (j:Nat):PW:={x with m:=x.m.eraseIdx j}
def happenW (x:PW) (e:PX):PW×Int:=
 if e.k=3∨e.k=4∨e.k=5 then
  (if e.n < 0∨(x.m.length:Int)≤e.n then (zeroW,5) else match x.m[e.n.toNat]? with
   |none=>(zeroW,5)
   |some m=>if e.k=5 then (goneW x e.n.toNat,0) else if e.k=4 then comesW x m else comesW (goneW x e.n.toNat) m)
 else if e.k=6 then (if x.u=false then (zeroW,6) else ({x with h:=freshH,u:=false},0))
 else if e.k=7 then (if x.u then (zeroW,6) else if (replayH (recK x.d).2.1).2≠0 then (zeroW,(replayH (recK x.d).2.1).2) else ({x with h:=(replayH (recK x.d).2.1).1,d:=(recK x.d).1,u:=true},0))
 else if e.k=1 then (if inB e.w 0 2=false then (zeroW,5) else if (askN (handW x e.w) e.c).2≠0 then (zeroW,(askN (handW x e.w) e.c).2)
  else (postW (setW x e.w (askN (handW x e.w) e.c).1) ⟨false,e.w,(askN (handW x e.w) e.c).1.s,(askN (handW x e.w) e.c).1.c,zeroA⟩,0))
 else if e.k=2 then (if inB e.w 0 2=false then (zeroW,5) else if (handW x e.w).w=false then (zeroW,6) else (postW x ⟨false,e.w,(handW x e.w).s,(handW x e.w).c,zeroA⟩,0))
 else (zeroW,4)
def doW (x:PW) (e:PX):PW×Int:=if checkW x≠0 then (zeroW,checkW x) else happenW x e
def runF:PW→List PX→PW×List Int
 |x,[]=>(x,[])
 |x,e :: l=>((runF (if (doW x e).2=0 then (doW x e).1 else x) l).1,(doW x e).2 :: (runF (if (doW x e).2=0 then (doW x e).1 else x) l).2)
theorem run_app:∀ (a b:List PX) (x:PW),runF x (a++b)=((runF (runF x a).1 b).1,(runF x a).2++(runF (runF x a).1 b).2)
 |[],b,x=>by simp [runF]
 |e :: a,b,x=>by
  simp only [List.cons_append,runF]
  rw [run_app a b]
theorem firstM_all:∀ {l:List PM},firstM l=0→∀ x∈l,checkM x=0
 |[],_,x,hx=>by cases hx
 |y :: l,h,x,hx=>by
  simp only [firstM] at h
  split at h
  ·rename_i q;exact absurd h q
  ·rename_i q
   rcases List.mem_cons.1 hx with rfl|hx
   ·simpa using q
   ·exact firstM_all h x hx
theorem firstN_all:∀ {l:List PN},firstN l=0→∀ x∈l,checkN x=0
 |[],_,x,hx=>by cases hx
 |y :: l,h,x,hx=>by
  simp only [firstN] at h
  split at h
  ·rename_i q;exact absurd h q
  ·rename_i q
   rcases List.mem_cons.1 hx with rfl|hx
   ·simpa using q
   ·exact firstN_all h x hx
end Go.Proofs.YtabafikicbkkdaaGreatDoor
namespace Go.Proofs.YtabafikicbkkdaaGreatDoor
open Go.RowKit
set_option linter.unusedVariables false
set_option maxRecDepth 100000
set_option linter.unusedSimpArgs false
theorem one_of {k:Nat} {f:List Value} (h:f.all (fun v=>v.oneCell')=true):∀ v∈f,v.oneCell'=true:=fun v hv=>List.all_eq_true.1 h v hv
def handK:Kin NV where
 k:=8
 cs:=NV.cells
 ok w x:=x.ok w
 off R x:=x.off R
 len _:=rfl
 one x:=one_of (k:=0) rfl
 below h _ hb hB:=h.below hb hB
 but h hb ho:=h.but hb ho
 far h hR:=h.off hR
structure MV where
 b:Bool
 w:Int
 s:Int
 c:PC
 ca:Option Addr
 cn:Nat
 cc:Nat
 x:AV
def MV.p (m:MV):PM:=⟨m.b,m.w,m.s,m.c,m.x.p⟩
def MV.cells (m:MV):List Value:=[.bool m.b,.int .i64 m.w,.int .i64 m.s,.int .i64 m.c.k,.int .i64 m.c.z,.int .i64 m.c.n,.int .i64 m.c.at',.slice m.ca m.cn m.cc,.int .i64 m.x.e,.int .i64 m.x.t,.slice m.x.a m.x.n m.x.c]
def MV.v (m:MV):Value:=.agg #[.bool m.b,.int .i64 m.w,.int .i64 m.s,.int .i64 m.c.k,.int .i64 m.c.z,.int .i64 m.c.n,.int .i64 m.c.at',.slice m.ca m.cn m.cc,.int .i64 m.x.e,.int .i64 m.x.t,.slice m.x.a m.x.n m.x.c]
structure MV.ok (w:World) (m:MV):Prop where
 c:Ints w m.ca m.cn m.cc m.c.d
 x:m.x.ok w
structure MV.off (R:Nat) (m:MV):Prop where
 c:m.cn=0∨∀ y,m.ca=some y→y.block≠R
 x:m.x.off R
def mailK:Kin MV where
 k:=11
 cs:=MV.cells
 ok w x:=x.ok w
 off R x:=x.off R
 len _:=rfl
 one x:=one_of (k:=0) rfl
 below h _ hb hB:=⟨h.c.below hb hB,AV.ok.below h.x hb hB⟩
 but h hb ho:=⟨h.c.but hb ho.c,AV.ok.but h.x hb ho.x⟩
 far h hR:=⟨Ints.offs h.c hR,AV.ok.off h.x hR⟩
structure XV where
 k:Int
 w:Int
 n:Int
 c:PC
 ca:Option Addr
 cn:Nat
 cc:Nat
def XV.p (x:XV):PX:=⟨x.k,x.w,x.n,x.c⟩
def XV.cells (x:XV):List Value:=[.int .i64 x.k,.int .i64 x.w,.int .i64 x.n,.int .i64 x.c.k,.int .i64 x.c.z,.int .i64 x.c.n,.int .i64 x.c.at',.slice x.ca x.cn x.cc]
def XV.v (x:XV):Value:=.agg #[.int .i64 x.k,.int .i64 x.w,.int .i64 x.n,.int .i64 x.c.k,.int .i64 x.c.z,.int .i64 x.c.n,.int .i64 x.c.at',.slice x.ca x.cn x.cc]
def XV.ok (w:World) (x:XV):Prop:=Ints w x.ca x.cn x.cc x.c.d
def XV.off (R:Nat) (x:XV):Prop:=x.cn=0∨∀ y,x.ca=some y→y.block≠R
def hapK:Kin XV where
 k:=8
 cs:=XV.cells
 ok w x:=x.ok w
 off R x:=x.off R
 len _:=rfl
 one x:=one_of (k:=0) rfl
 below h _ hb hB:=Ints.below h hb hB
 but h hb ho:=Ints.but h hb ho
 far h hR:=Ints.offs h hR
structure KV.off (R:Nat) (x:KV):Prop where
 s:x.n=0∨∀ y,x.a=some y→y.block≠R
 w:x.m=0∨∀ y,x.b=some y→y.block≠R
theorem KV.ok.off {w:World} {x:KV} (h:x.ok w) {R:Nat} (hR:w.heap.size≤R):x.off R:=⟨Cel.offs h.s hR,Cel.offs h.w hR⟩
theorem KV.ok.butO {w w':World} {g:Nat} {x:KV} (h:x.ok w) (hb:But g w w') (ho:x.off g):x.ok w':=⟨h.s.but hb ho.s,h.w.but hb ho.w⟩
theorem KV.ok.belowB {w w':World} {x:KV} (h:x.ok w) {B:Nat} (hb:Below B w w') (hB:w.heap.size≤B):x.ok w':=⟨h.s.below hb hB,h.w.below hb hB⟩
theorem KV.fresh.off {B R:Nat} {x:KV} (h:x.fresh B) (hR:R < B):x.off R:=⟨.inr fun y e=>by have:=h.s y e;omega,.inr fun y e=>by have:=h.w y e;omega⟩
structure WV where
 h:HV
 d:KV
 u:Bool
 na:Option Addr
 nn:Nat
 nc:Nat
 N:List NV
 ma:Option Addr
 mn:Nat
 mc:Nat
 M:List MV
def WV.p (x:WV):PW:=⟨x.h.p,x.d.p,x.u,x.N.map NV.p,x.M.map MV.p⟩
abbrev WV.cells (x:WV):List Value:=[.slice x.h.d.za x.h.d.zn x.h.d.zc,.slice x.h.d.ka x.h.d.kn x.h.d.kc,.int .i64 x.h.d.b.h,.int .i64 x.h.d.b.t,.slice x.h.a x.h.n x.h.c,.slice x.d.a x.d.n x.d.c,.slice x.d.b x.d.m x.d.d,.bool x.u,.slice x.na x.nn x.nc,.slice x.ma x.mn x.mc]
abbrev WV.v (x:WV):Value:=.agg #[.slice x.h.d.za x.h.d.zn x.h.d.zc,.slice x.h.d.ka x.h.d.kn x.h.d.kc,.int .i64 x.h.d.b.h,.int .i64 x.h.d.b.t,.slice x.h.a x.h.n x.h.c,.slice x.d.a x.d.n x.d.c,.slice x.d.b x.d.m x.d.d,.bool x.u,.slice x.na x.nn x.nc,.slice x.ma x.mn x.mc]
structure WV.ok (w:World) (x:WV):Prop where
 h:x.h.ok w
 d:x.d.ok w
 n:Rows' handK w x.na x.nn x.nc x.N
 m:Rows' mailK w x.ma x.mn x.mc x.M
structure WV.sm (x:WV):Prop where
 s:x.d.n≤140737488355328
 w:x.d.m≤140737488355328
structure WV.off (R:Nat) (x:WV):Prop where
 h:x.h.off R
 d:x.d.off R
 n:OffR handK R x.na x.nn x.N
 m:OffR mailK R x.ma x.mn x.M
def WV.new (B:Nat) (x:WV):Prop:=∀ R,R < B→x.off R
theorem WV.ok.below {w w':World} {x:WV} (k:x.ok w) {B:Nat} (hb:Below B w w') (hB:w.heap.size≤B):x.ok w':=⟨k.h.below hb hB,k.d.belowB hb hB,k.n.below hb hB,k.m.below hb hB⟩
theorem WV.ok.but {w w':World} {g:Nat} {x:WV} (k:x.ok w) (hb:But g w w') (ho:x.off g):x.ok w':=⟨k.h.but hb ho.h,k.d.butO hb ho.d,k.n.but hb ho.n,k.m.but hb ho.m⟩
theorem WV.ok.off {w:World} {x:WV} (k:x.ok w) {R:Nat} (hR:w.heap.size≤R):x.off R:=⟨k.h.off hR,k.d.off hR,k.n.off hR,k.m.off hR⟩
theorem WV.new.mono {B B':Nat} {x:WV} (k:x.new B) (hb:B'≤B):x.new B':=fun R hR=>k R (by omega)
def WV.zero:WV:=⟨HV.zero,KV.zero,false,none,0,0,[],none,0,0,[]⟩
theorem WV.zero_ok (w:World):WV.zero.ok w:=⟨HV.zero_ok w,KV.zero_ok w,Rows'.none w,Rows'.none w⟩
theorem WV.zero_p:WV.zero.p=zeroW:=rfl
theorem WV.zero_off (R:Nat):WV.zero.off R:=⟨HV.zero_off R,⟨.inl rfl,.inl rfl⟩,⟨.inl rfl,fun x hx=>(by cases hx)⟩,⟨.inl rfl,fun x hx=>(by cases hx)⟩⟩
theorem WV.zero_new (B:Nat):WV.zero.new B:=fun R _=>WV.zero_off R
theorem WV.zero_sm:WV.zero.sm:=⟨by decide,by decide⟩
def WorldNew (r:PW×Int) (w:World) (e:Ending) (w':World):Prop:=
 (∃ x:WV,e=.returned (.tuple #[x.v,.int .i64 r.2])∧x.ok w'∧x.sm∧x.new w.heap.size∧x.p=r.1)∧Below w.heap.size w w'
def WorldOf (r:PW) (w:World) (e:Ending) (w':World):Prop:=
 (∃ x:WV,e=.returned x.v∧x.ok w'∧x.sm∧x.new w.heap.size∧x.p=r)∧Below w.heap.size w w'
def RunNew (r:PW×List Int×Int) (w:World) (e:Ending) (w':World):Prop:=
 (∃ (x:WV) (a:Option Addr) (n c:Nat),e=.returned (.tuple #[x.v,.slice a n c,.int .i64 r.2.2])∧x.ok w'∧x.sm∧x.new w.heap.size∧Ints w' a n c r.2.1∧(n=0∨∀ y,a=some y→w.heap.size≤y.block)∧x.p=r.1)∧Below w.heap.size w w'
def runW (x:PW) (l:List PX):PW×List Int×Int:=if checkW x≠0 then (zeroW,[],checkW x) else if 120 < l.length then (zeroW,[],2) else ((runF x l).1,(runF x l).2,0)
theorem Lay.ten {w:World} {B:Nat} {x:WV} (h:Lay w B x.cells):w.cell? ⟨B,0,none⟩=some (.slice x.h.d.za x.h.d.zn x.h.d.zc)∧w.cell? ⟨B,1,none⟩=some (.slice x.h.d.ka x.h.d.kn x.h.d.kc)∧w.cell? ⟨B,2,none⟩=some (.int .i64 x.h.d.b.h)∧w.cell? ⟨B,3,none⟩=some (.int .i64 x.h.d.b.t)∧w.cell? ⟨B,4,none⟩=some (.slice x.h.a x.h.n x.h.c)∧w.cell? ⟨B,5,none⟩=some (.slice x.d.a x.d.n x.d.c)∧w.cell? ⟨B,6,none⟩=some (.slice x.d.b x.d.m x.d.d)∧w.cell? ⟨B,7,none⟩=some (.bool x.u)∧w.cell? ⟨B,8,none⟩=some (.slice x.na x.nn x.nc)∧w.cell? ⟨B,9,none⟩=some (.slice x.ma x.mn x.mc):=
 ⟨h.cell 0 _ rfl,h.cell 1 _ rfl,h.cell 2 _ rfl,h.cell 3 _ rfl,h.cell 4 _ rfl,h.cell 5 _ rfl,h.cell 6 _ rfl,h.cell 7 _ rfl,h.cell 8 _ rfl,h.cell 9 _ rfl⟩
abbrev WV.into (x:WV) (w:World) (B:Nat):World:=(((((((((w.setCell ⟨B,0,none⟩ (.slice x.h.d.za x.h.d.zn x.h.d.zc)).setCell ⟨B,1,none⟩ (.slice x.h.d.ka x.h.d.kn x.h.d.kc)).setCell ⟨B,2,none⟩ (.int .i64 x.h.d.b.h)).setCell ⟨B,3,none⟩ (.int .i64 x.h.d.b.t)).setCell ⟨B,4,none⟩ (.slice x.h.a x.h.n x.h.c)).setCell ⟨B,5,none⟩ (.slice x.d.a x.d.n x.d.c)).setCell ⟨B,6,none⟩ (.slice x.d.b x.d.m x.d.d)).setCell ⟨B,7,none⟩ (.bool x.u)).setCell ⟨B,8,none⟩ (.slice x.na x.nn x.nc)).setCell ⟨B,9,none⟩ (.slice x.ma x.mn x.mc)
theorem WV.put {x:WV} {w:World} {B:Nat} {a b c d e f g i j k:Value} (h:Lay w B [a,b,c,d,e,f,g,i,j,k]):Lay (x.into w B) B x.cells∧ButI B w (x.into w B):=
 ⟨(((((((((h.set 0 (.slice x.h.d.za x.h.d.zn x.h.d.zc)).set 1 (.slice x.h.d.ka x.h.d.kn x.h.d.kc)).set 2 (.int .i64 x.h.d.b.h)).set 3 (.int .i64 x.h.d.b.t)).set 4 (.slice x.h.a x.h.n x.h.c)).set 5 (.slice x.d.a x.d.n x.d.c)).set 6 (.slice x.d.b x.d.m x.d.d)).set 7 (.bool x.u)).set 8 (.slice x.na x.nn x.nc)).set 9 (.slice x.ma x.mn x.mc),((((((((((ButI.refl B w).step 0 (.slice x.h.d.za x.h.d.zn x.h.d.zc)).step 1 (.slice x.h.d.ka x.h.d.kn x.h.d.kc)).step 2 (.int .i64 x.h.d.b.h)).step 3 (.int .i64 x.h.d.b.t)).step 4 (.slice x.h.a x.h.n x.h.c)).step 5 (.slice x.d.a x.d.n x.d.c)).step 6 (.slice x.d.b x.d.m x.d.d)).step 7 (.bool x.u)).step 8 (.slice x.na x.nn x.nc)).step 9 (.slice x.ma x.mn x.mc)⟩
theorem NV.lay {w:World} {b o:Nat} {x:NV} (h:∀ j v,x.cells[j]?=some v→w.cell? ⟨b,o + j,none⟩=some v):w.cell? ⟨b,o,none⟩=some (.int .i64 x.s)∧w.cell? ⟨b,o + 1,none⟩=some (.bool x.w)∧w.cell? ⟨b,o + 2,none⟩=some (.int .i64 x.c.k)∧w.cell? ⟨b,o + 3,none⟩=some (.int .i64 x.c.z)∧w.cell? ⟨b,o + 4,none⟩=some (.int .i64 x.c.n)∧w.cell? ⟨b,o + 5,none⟩=some (.int .i64 x.c.at')∧w.cell? ⟨b,o + 6,none⟩=some (.slice x.ca x.cn x.cc)∧w.cell? ⟨b,o + 7,none⟩=some (.slice x.ga x.gn x.gc):=
 ⟨h 0 _ rfl,h 1 _ rfl,h 2 _ rfl,h 3 _ rfl,h 4 _ rfl,h 5 _ rfl,h 6 _ rfl,h 7 _ rfl⟩
theorem MV.lay {w:World} {b o:Nat} {x:MV} (h:∀ j v,x.cells[j]?=some v→w.cell? ⟨b,o + j,none⟩=some v):w.cell? ⟨b,o,none⟩=some (.bool x.b)∧w.cell? ⟨b,o + 1,none⟩=some (.int .i64 x.w)∧w.cell? ⟨b,o + 2,none⟩=some (.int .i64 x.s)∧w.cell? ⟨b,o + 3,none⟩=some (.int .i64 x.c.k)∧w.cell? ⟨b,o + 4,none⟩=some (.int .i64 x.c.z)∧w.cell? ⟨b,o + 5,none⟩=some (.int .i64 x.c.n)∧w.cell? ⟨b,o + 6,none⟩=some (.int .i64 x.c.at')∧w.cell? ⟨b,o + 7,none⟩=some (.slice x.ca x.cn x.cc)∧w.cell? ⟨b,o + 8,none⟩=some (.int .i64 x.x.e)∧w.cell? ⟨b,o + 9,none⟩=some (.int .i64 x.x.t)∧w.cell? ⟨b,o + 10,none⟩=some (.slice x.x.a x.x.n x.x.c):=
 ⟨h 0 _ rfl,h 1 _ rfl,h 2 _ rfl,h 3 _ rfl,h 4 _ rfl,h 5 _ rfl,h 6 _ rfl,h 7 _ rfl,h 8 _ rfl,h 9 _ rfl,h 10 _ rfl⟩
theorem XV.lay {w:World} {b o:Nat} {x:XV} (h:∀ j v,x.cells[j]?=some v→w.cell? ⟨b,o + j,none⟩=some v):w.cell? ⟨b,o,none⟩=some (.int .i64 x.k)∧w.cell? ⟨b,o + 1,none⟩=some (.int .i64 x.w)∧w.cell? ⟨b,o + 2,none⟩=some (.int .i64 x.n)∧w.cell? ⟨b,o + 3,none⟩=some (.int .i64 x.c.k)∧w.cell? ⟨b,o + 4,none⟩=some (.int .i64 x.c.z)∧w.cell? ⟨b,o + 5,none⟩=some (.int .i64 x.c.n)∧w.cell? ⟨b,o + 6,none⟩=some (.int .i64 x.c.at')∧w.cell? ⟨b,o + 7,none⟩=some (.slice x.ca x.cn x.cc):=
 ⟨h 0 _ rfl,h 1 _ rfl,h 2 _ rfl,h 3 _ rfl,h 4 _ rfl,h 5 _ rfl,h 6 _ rfl,h 7 _ rfl⟩
end Go.Proofs.YtabafikicbkkdaaGreatDoor
namespace Go.Proofs.YtabafikicbkkdaaGreatDoor
open Go.ChangeShapes Go.WideShapes Go.ChangeAt Go.RowKit Go.Joins Go.ChangeMaps
set_option linter.unusedVariables false
set_option maxRecDepth 100000
set_option linter.unusedSimpArgs false
theorem cellsHap:Tryz.prog.cellsOf 75=8:=by kernel_rfl
theorem cellsInt1:Tryz.prog.cellsOf 3=1:=by kernel_rfl
theorem rows_of {α:Type} {K:Kin α} {ts te:TypeId} {H:Type} {enc:TypeId×Value→H} {W:World} (hu:Tryz.prog.underlying ts=some (.slice te)) (hc:Tryz.prog.cellsOf te=K.k) (hp:0 < K.k)
  (el:∀ {fuel:Nat} {cs:List Value} {y:DataW H×List MemPlace},DataW.trod enc Tryz.prog W 0 (fun _=>true) true fuel te cs=some y→∃ x,cs=K.cs x∧K.ok W x)
  {fuel:Nat} {v:Value} {y:DataW H×List MemPlace} (h:DataW.trod enc Tryz.prog W 0 (fun _=>true) true fuel ts [v]=some y):∃ a n c X,v=.slice a n c∧Rows' K W a n c X:=by
 rcases Go.Deep.open_slice hu h with ⟨hcs,_⟩|⟨x,len,cap,m,n,D,Pl,hcs,_,hl,hm,hmm,_,hel⟩
 ·simp at hcs
  subst hcs
  exact ⟨none,0,0,[],rfl,Rows'.none W⟩
 ·simp at hcs
  subst hcs
  have hm':m=cap:=by simpa using hmm
  subst hm'
  have hz:∀ i,i < len→∃ z:α,K.ok W z∧∀ j v,(K.cs z)[j]?=some v→W.cell? ((x.add (i * K.k)).add j)=some v:=by
   intro i hi
   obtain ⟨cs',h1,h2⟩:=hel i (by omega)
   rw [hc] at h1
   obtain ⟨z,rfl,hz⟩:=el h2
   obtain ⟨_,_,hcc⟩:=World.cells?_some h1
   refine ⟨z,hz,fun j v hv=>?_⟩
   have hj:j < K.k:=by have:=(List.getElem?_eq_some_iff.1 hv).1;rwa [K.len] at this
   rw [hcc j hj]
   exact hv
  by_cases h0:len=0
  ·subst h0
   exact ⟨some x,0,m,[],rfl,⟨rfl,hl,hm,fun e=>(by cases e),.inl rfl,fun x hx=>by cases hx⟩⟩
  ·obtain ⟨z0,hz0⟩:=hz 0 (by omega)
   have dft:Inhabited α:=⟨z0⟩
   obtain ⟨f,hf⟩:=Go.Deep.choose_lt hz
   refine ⟨some x,len,m,(List.range len).map f,rfl,⟨by simp,hl,hm,fun e=>(by cases e),?_,?_⟩⟩
   ·obtain ⟨b,off,spot⟩:=x
    have hc0:∃ v,(K.cs (f 0))[0]?=some v:=⟨_,List.getElem?_eq_getElem (by rw [K.len];exact hp)⟩
    obtain ⟨v0,hv0⟩:=hc0
    have hc0:=(hf 0 (by omega)).2 0 _ hv0
    have hspot:spot=none:=by simpa [Addr.add] using World.cell?_spot hc0
    subst hspot
    refine .inr ⟨b,off,rfl,World.block_lt_of_cell? W ⟨b,off,none⟩ (by simpa [Addr.add] using hc0),fun i z hz j v hv=>?_⟩
    have hi:i < len:=by have:=(List.getElem?_eq_some_iff.1 hz).1;simpa using this
    rw [List.getElem?_map,List.getElem?_range hi] at hz
    simp at hz
    subst hz
    have h1:=(hf i hi).2 j v hv
    rw [addr_add,addr_add] at h1
    exact h1
   ·intro z hz
    simp at hz
    obtain ⟨i,hi,rfl⟩:=hz
    exact (hf i hi).1
theorem hap_of {H:Type} {enc:TypeId×Value→H} {W:World} {fuel:Nat} {cs:List Value} {y:DataW H×List MemPlace}
  (h:DataW.trod enc Tryz.prog W 0 (fun _=>true) true fuel 75 cs=some y):∃ x:XV,cs=x.cells∧x.ok W:=by
 obtain ⟨xs,n,_,_,hl,hlen,hfs⟩:=DataW.trod_struct Tryz.underlying75 h
 rw [cellsHap] at hl
 match cs,hl with
 |[v0,v1,v2,v3,v4,v5,v6,v7],_=>
  match xs,hlen with
  |[y0,y1,y2,y3],_=>
   have k0:DataW.trod enc Tryz.prog W 0 (fun _=>true) true n 3 [v0]=some y0:=by simpa [cellsInt1] using hfs 0 _ rfl
   have k1:DataW.trod enc Tryz.prog W 0 (fun _=>true) true n 3 [v1]=some y1:=by simpa [cellsInt1] using hfs 1 _ rfl
   have k2:DataW.trod enc Tryz.prog W 0 (fun _=>true) true n 3 [v2]=some y2:=by simpa [cellsInt1] using hfs 2 _ rfl
   have k3:DataW.trod enc Tryz.prog W 0 (fun _=>true) true n 50 [v3,v4,v5,v6,v7]=some y3:=by simpa [cellsCmd] using hfs 3 _ rfl
   obtain ⟨k,e0,_,_⟩:=DataW.trod_int Tryz.underlying3 k0
   obtain ⟨i,e1,_,_⟩:=DataW.trod_int Tryz.underlying3 k1
   obtain ⟨s,e2,_,_⟩:=DataW.trod_int Tryz.underlying3 k2
   obtain ⟨ca,cn,cc,c,e3,hc⟩:=cmd_of k3
   simp at e0 e1 e2 e3
   subst e0 e1 e2
   obtain ⟨rfl,rfl,rfl,rfl,rfl⟩:=e3
   exact ⟨⟨k,i,s,c,ca,cn,cc⟩,rfl,hc⟩
theorem haps_arg {H:Type} {enc:TypeId×Value→H} {W:World} {base:Nat} {v:Value} {d:DataW H} {p:List MemPlace} (hv:Value.okWide Tryz.prog W .any base 22 v)
  (h:DataW.Trod enc Tryz.prog W 0 (fun _=>true) true 22 v d p):∃ a n c X,v=.slice a n c∧Rows' hapK W a n c X:=by
 obtain ⟨a,n,c,rfl⟩:=okWide_slice Tryz.underlying22 hv
 obtain ⟨fuel,hf⟩:=h
 exact rows_of (K:=hapK) Tryz.underlying22 cellsHap (by decide) (fun h=>hap_of h) (by simpa [Value.cells] using hf)
end Go.Proofs.YtabafikicbkkdaaGreatDoor
namespace Go.Proofs.YtabafikicbkkdaaGreatDoor
open Go.RowKit
set_option linter.unusedVariables false
set_option maxRecDepth 100000
set_option linter.unusedSimpArgs false
theorem laid_at {P:Program} {w:World} : ∀ {laid:List (String×DataW Unit)} {ps:List MemPlace},DataW.LaidVars P w laid ps→∀ {n:String} {d:DataW Unit},(n,d)∈laid→
  ∃ g t cs fuel p,P.globalNamed n=some g∧(P.globals[g]?).map (·.type)=some t∧w.var? P n=some cs∧DataW.trod (fun _=>()) P w 0 (fun _=>true) false fuel t cs.toList=some (d,p)
 |[],_,_,_,_,h=>by cases h
 |(n,d) :: r,ps,hl,n',d',h=>by
  obtain ⟨g,t,cs,fuel,p,q,h1,h2,h3,h4,h5,_⟩:=hl
  rcases List.mem_cons.1 h with e|h
  ·cases e
   exact ⟨g,t,cs,fuel,p,h1,h2,h3,h4⟩
  ·exact laid_at h5 h
theorem gShapes : Tryz.prog.globalNamed "quayhand/cmd.shapes" = some 0 := by kernel_rfl
theorem tShapes:(Tryz.prog.globals[0]?).map (·.type)=some 158:=by kernel_rfl
theorem shapes_cells:(Rows.laid_quayhand_cmd_shapes:DataW Unit).flat.map Lit.toCell=((List.range 13).flatMap fun k=>[.string (word k),.bool (hasZ k),.bool (hasA k),.bool (hasN k),.bool (hasD k)]):=by rfl
theorem flat_get (f:Nat→List Value) (h5:∀ k,(f k).length=5):∀ (n k j:Nat),k < n→j < 5→((List.range n).flatMap f)[k * 5 + j]?=(f k)[j]?
 |0,k,j,hk,_=>by omega
 |n + 1,k,j,hk,hj=>by
  have hlen:∀ m,((List.range m).flatMap f).length=m * 5:=by
   intro m
   induction m with
   |zero=>rfl
   |succ m ih=>rw [List.range_succ,List.flatMap_append,List.length_append,ih];simp [h5];omega
  rw [List.range_succ,List.flatMap_append]
  by_cases hkn:k < n
  ·rw [List.getElem?_append_left (by rw [hlen];omega)]
   exact flat_get f h5 n k j hkn hj
  ·obtain rfl:k=n:=by omega
   rw [List.getElem?_append_right (by rw [hlen];omega),hlen]
   simp
theorem shapes_of {W : World} {laid : List (String × DataW Unit)} (hL : laidMet Tryz.prog laid W) (m4 : ("quayhand/cmd.shapes", Rows.laid_quayhand_cmd_shapes) ∈ laid) : Shapes W := by
 obtain ⟨ps,hv,_,_⟩:=hL
 obtain ⟨g,t,cs,fuel,p,h1,h2,h3,h4⟩:=laid_at hv m4
 obtain rfl:=Option.some.inj (gShapes.symm.trans h1)
 obtain rfl:=Option.some.inj (tShapes.symm.trans h2)
 have h5:=(keyLits_of_trod 5 158 (by kernel_rfl) _ _ _ h4).1
 have h6:=cells_of_lits 5 158 (by kernel_rfl) _ _ _ h5
 rw [shapes_cells] at h6
 have hc:∀ k j,k≤12→j < 5→W.cell? ⟨0,k * 5 + j,none⟩=([.string (word k),.bool (hasZ k),.bool (hasA k),.bool (hasN k),.bool (hasD k)]:List Value)[j]?:=by
  intro k j hk hj
  rw [World.var?_cell gShapes h3,← Array.getElem?_toList,h6]
  exact flat_get _ (fun k=>rfl) 13 k j (by omega) hj
 exact ⟨fun k hk=>hc k 0 hk (by omega),fun k hk=>hc k 1 hk (by omega),fun k hk=>hc k 2 hk (by omega),fun k hk=>hc k 3 hk (by omega),fun k hk=>hc k 4 hk (by omega)⟩
end Go.Proofs.YtabafikicbkkdaaGreatDoor
namespace Go.Proofs.YtabafikicbkkdaaGreatDoor
open Go.RowKit
set_option linter.unusedVariables false
set_option maxRecDepth 100000
set_option linter.unusedSimpArgs false
theorem gSyn : Tryz.prog.globalNamed "strconv.ErrSyntax" = some 2 := by kernel_rfl
theorem gRng : Tryz.prog.globalNamed "strconv.ErrRange" = some 3 := by kernel_rfl
theorem tTab:(Tryz.prog.globals[4]?).map (·.type)=some 293:=by kernel_rfl
theorem tSyn:(Tryz.prog.globals[2]?).map (·.type)=some 210:=by kernel_rfl
theorem tRng:(Tryz.prog.globals[3]?).map (·.type)=some 210:=by kernel_rfl
theorem env_of {W:World} {laid:List (String×DataW Unit)} (hL:laidMet Tryz.prog laid W) (hsh:W.ShapedOpen Tryz.prog)
  (m1 : ("internal/strconv.uint64pow10", Rows.laid_internal_strconv_uint64pow10) ∈ laid) (m2 : ("strconv.ErrRange", Rows.laid_strconv_ErrRange) ∈ laid)
  (m3 : ("strconv.ErrSyntax", Rows.laid_strconv_ErrSyntax) ∈ laid) (m4 : ("quayhand/cmd.shapes", Rows.laid_quayhand_cmd_shapes) ∈ laid) : Env W := by
 obtain ⟨ps,hv,_,_⟩:=id hL
 refine ⟨?_,?_,?_,?_,?_⟩
 ·exact cell_of_shapedOpen_int (P:=Tryz.prog) (g:=1) (t:=3) (zero:=#[.int .i64 0]) hsh (of_decide_eq_true (by kernel_rfl)) (by kernel_rfl) rfl (by kernel_rfl) (by kernel_rfl) Tryz.underlying3
 ·obtain ⟨g,t,cs,fuel,p,h1,h2,h3,h4⟩:=laid_at hv m1
  obtain rfl:=Option.some.inj (gTab.symm.trans h1)
  obtain rfl:=Option.some.inj (tTab.symm.trans h2)
  unfold Lib.TabIs
  rw [h3]
  have h5:DataW.trod (fun _=>()) Tryz.prog W 0 (fun _=>true) false fuel 293 cs.toList=some (Lib.tabData .u64 Lib.pow10Tab,p):=h4
  have:=Lib.cells_of_tab Tryz.underlying293 Tryz.underlying272 (by kernel_rfl) (by kernel_rfl) h5
  rw [← this]
 ·obtain ⟨g,t,cs,fuel,p,h1,h2,h3,h4⟩:=laid_at hv m3
  obtain rfl:=Option.some.inj (gSyn.symm.trans h1)
  obtain rfl:=Option.some.inj (tSyn.symm.trans h2)
  obtain ⟨f1,u,v,e,_,_⟩:=iface_of_trod Tryz.underlying210 h4
  refine ⟨u,v,?_⟩
  have:=World.var?_cell gSyn h3 0
  rw [this,← Array.getElem?_toList,e]
  rfl
 ·obtain ⟨g,t,cs,fuel,p,h1,h2,h3,h4⟩:=laid_at hv m2
  obtain rfl:=Option.some.inj (gRng.symm.trans h1)
  obtain rfl:=Option.some.inj (tRng.symm.trans h2)
  obtain ⟨f1,u,v,e,_,_⟩:=iface_of_trod Tryz.underlying210 h4
  refine ⟨u,v,?_⟩
  have:=World.var?_cell gRng h3 0
  rw [this,← Array.getElem?_toList,e]
  rfl
 ·exact shapes_of hL m4
end Go.Proofs.YtabafikicbkkdaaGreatDoor
namespace Go.Proofs.YtabafikicbkkdaaGreatDoor
open Go.RowKit
set_option linter.unusedVariables false
set_option maxRecDepth 100000
set_option linter.unusedSimpArgs false
theorem recK_facts {d:PK} (h:checkK d=0):∃ L,recK d=(⟨textL L,[]⟩,L,0)∧(∀ r∈L,checkR r=0)∧L.length≤80∧(d.w=[]→d=⟨textL L,[]⟩):=by
 have hk:=h
 unfold checkK at hk
 split at hk
 ·cases hk
 ·obtain ⟨a1,a2,a3,a4,a5⟩:=lines_facts _ 80 d.s (Nat.le_refl _)
  obtain ⟨b1,b2,b3,b4,b5⟩:=lines_facts _ (80 - (linesP 80 d.s).1.length) d.w (Nat.le_refl _)
  have hs:d.s=textL (linesP 80 d.s).1:=by
   have:=a5 hk
   rw [this,List.drop_length,List.append_nil] at a3
   exact a3
  have hw:d.w.take (linesP (80 - (linesP 80 d.s).1.length) d.w).2.1=textL (linesP (80 - (linesP 80 d.s).1.length) d.w).1:=by
   rw [b4]
   conv=>lhs;arg 2;rw [b3]
   rw [List.take_left' rfl]
  refine ⟨(linesP 80 d.s).1++(linesP (80 - (linesP 80 d.s).1.length) d.w).1,?_,fun r hr=>(List.mem_append.1 hr).elim (a2 r) (b2 r),by rw [List.length_append];omega,fun e=>?_⟩
  ·unfold recK
   rw [if_neg (by simp [h]),hw,textL_append,← hs]
  ·rw [e,linesP_nil,List.append_nil,← hs,← e]
theorem checkW_ok {x:PW} (k:checkW x=0):x.n.length=3∧x.m.length≤30∧(∀ m∈x.m,checkM m=0)∧checkK x.d=0∧(x.u=true→x.d.w=[])∧replayH (logW x)=(x.h,0)∧∀ n∈x.n,checkN n=0:=by
 unfold checkW at k
 split at k
 ·cases k
 ·rename_i q1
  split at k
  ·cases k
  ·rename_i q2
   split at k
   ·rename_i q;exact absurd k q
   ·rename_i q3
    split at k
    ·rename_i q;exact absurd k q
    ·rename_i q4
     split at k
     ·cases k
     ·rename_i q5
      split at k
      ·rename_i q;exact absurd k q
      ·rename_i q6
       split at k
       ·cases k
       ·rename_i q7
        refine ⟨by simpa using q1,by omega,firstM_all (by simpa using q3),by simpa using q4,fun hu=>?_,?_,firstN_all k⟩
        ·by_cases c:x.d.w=[]
         ·exact c
         ·exact absurd ⟨hu,c⟩ q5
        ·have e:=(sameH_iff _ _).1 (by simpa using q7)
         exact Prod.ext e (by simpa using q6)
theorem firstM_of:∀ {l:List PM},(∀ x∈l,checkM x=0)→firstM l=0
 |[],_=>rfl
 |y :: l,h=>by
  simp only [firstM]
  rw [if_neg (by simp [h y (by simp)])]
  exact firstM_of (fun x hx=>h x (by simp [hx]))
theorem firstN_of:∀ {l:List PN},(∀ x∈l,checkN x=0)→firstN l=0
 |[],_=>rfl
 |y :: l,h=>by
  simp only [firstN]
  rw [if_neg (by simp [h y (by simp)])]
  exact firstN_of (fun x hx=>h x (by simp [hx]))
theorem checkW_mk {x:PW} (h1:x.n.length=3) (h2:x.m.length≤30) (h3:∀ m∈x.m,checkM m=0) (h4:checkK x.d=0) (h5:x.u=true→x.d.w=[]) (h6:replayH (logW x)=(x.h,0)) (h7:∀ n∈x.n,checkN n=0):checkW x=0:=by
 unfold checkW
 rw [if_neg (by simp [h1]),if_neg (by omega),if_neg (by simp [firstM_of h3]),if_neg (by simp [h4]),if_neg (fun c=>c.2 (h5 c.1)),if_neg (by simp [h6]),if_neg (by simp [h6,(sameH_iff _ _).2 rfl])]
 exact firstN_of h7
theorem up_log {x:PW} (k:checkW x=0) (hu:x.u=true):∃ A,x.d=⟨textL A,[]⟩∧(∀ r∈A,checkR r=0)∧A.length≤80∧recK x.d=(x.d,A,0)∧replayF freshH A=(x.h,0):=by
 obtain ⟨-,-,-,h4,h5,h6,-⟩:=checkW_ok k
 obtain ⟨L,g1,g2,g3,g4⟩:=recK_facts h4
 have e:=g4 (h5 hu)
 refine ⟨L,e,g2,g3,by rw [g1,← e],?_⟩
 rw [logW,hu,if_pos rfl,g1] at h6
 simpa [replayH,if_neg (show ¬ 80 < L.length by omega)] using h6
end Go.Proofs.YtabafikicbkkdaaGreatDoor
