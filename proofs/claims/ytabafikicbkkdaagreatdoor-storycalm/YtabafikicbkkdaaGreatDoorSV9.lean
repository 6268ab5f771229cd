/- The contracts of slices.Clone at zones and of the document's own shut; no condition but that the slice reads as the zones. -/
import Derived.Test.YtabafikicbkkdaaGreatDoorSV8
import Derived.Test.YtabafikicbkkdaaGreatDoorSV6
import Derived.Test.YtabafikicbkkdaaGreatDoorSV1
import Derived.Deep.Strs
namespace Go.Proofs.YtabafikicbkkdaaGreatDoor
open Go.RowKit
set_option linter.unusedVariables false
set_option maxRecDepth 100000
set_option linter.unusedSimpArgs false
def shutP (z:Int×List Int):Int×List Int:=if z.2=[] then (0,[]) else (3,z.2)
def ZV.shut (z:ZV):ZV:=if z.l=[] then ⟨0,none,0,0,[]⟩ else ⟨3,z.a,z.n,z.c,z.l⟩
theorem ZV.shut_p (z:ZV):z.shut.p=shutP z.p:=by unfold ZV.shut shutP ZV.p;split<;>rfl
end Go.Proofs.YtabafikicbkkdaaGreatDoor
namespace Go.Proofs.YtabafikicbkkdaaGreatDoor
open Go.RowKit
set_option linter.unusedVariables false
set_option maxRecDepth 100000
set_option linter.unusedSimpArgs false
def fopen (Z:List ZV):Option Nat:=Z.findIdx? fun z=>z.s==1
def roomZ (Z:List ZV) (s:Int):Option (List ZV):=
 if isO s then some Z
 else if s=4∨s=0∧3≤cnt isA Z then none
 else if cnt isO Z < 2 then some Z
 else match fopen Z with
  |none=>none
  |some i=>some (Z.modify i ZV.shut)
theorem modify_set {Z:List ZV} {i:Nat} {z:ZV} (h:Z[i]?=some z):Z.modify i ZV.shut=Z.set i z.shut:=by
 obtain ⟨hi,rfl⟩:=List.getElem?_eq_some_iff.1 h
 apply List.ext_getElem?
 intro j
 by_cases e:i=j
 ·subst e;simp [List.getElem?_modify,hi]
 ·simp [List.getElem?_modify,List.getElem?_set,e]
theorem roomZ_1 {Z:List ZV} {s:Int} (h:s=1∨s=2):roomZ Z s=some Z:=by
 have:isO s=true:=by rcases h with rfl|rfl<;>rfl
 simp [roomZ,this]
theorem roomZ_2 {Z:List ZV} {s:Int} (h:¬ (s=1∨s=2)) (h2:s=4∨s=0∧3≤cnt isA Z):roomZ Z s=none:=by
 have:isO s=false:=by simp [isO];omega
 simp [roomZ,this,h2]
theorem roomZ_3 {Z:List ZV} {s:Int} (h:¬ (s=1∨s=2)) (h2:¬ (s=4∨s=0∧3≤cnt isA Z)) (h3:cnt isO Z < 2):roomZ Z s=some Z:=by
 have:isO s=false:=by simp [isO];omega
 simp [roomZ,this,h2,h3]
theorem roomZ_4 {Z:List ZV} {s:Int} (h:¬ (s=1∨s=2)) (h2:¬ (s=4∨s=0∧3≤cnt isA Z)) (h3:¬ cnt isO Z < 2) (hf:fopen Z=none):roomZ Z s=none:=by
 have:isO s=false:=by simp [isO];omega
 simp [roomZ,this,h2,h3,hf]
theorem roomZ_5 {Z:List ZV} {s:Int} (h:¬ (s=1∨s=2)) (h2:¬ (s=4∨s=0∧3≤cnt isA Z)) (h3:¬ cnt isO Z < 2) {i:Nat} {z:ZV} (hf:fopen Z=some i) (hz:Z[i]?=some z):roomZ Z s=some (Z.set i z.shut):=by
 have:isO s=false:=by simp [isO];omega
 simp [roomZ,this,h2,h3,hf,modify_set hz]
end Go.Proofs.YtabafikicbkkdaaGreatDoor
namespace Go.Proofs.YtabafikicbkkdaaGreatDoor
open Go.RowKit
set_option linter.unusedVariables false
set_option maxRecDepth 100000
set_option linter.unusedSimpArgs false
theorem zs_four {w:World} {a:Option Addr} {n c:Nat} {Z:List ZV} (h:Zones w a n c Z) (hok:checkZs (Z.map ZV.p)=0) :
  n=4∧∃ b off,a=some ⟨b,off,none⟩∧∀ i z,Z[i]?=some z→w.cell? ⟨b,off + i * 2,none⟩=some (.int .i64 z.s)∧w.cell? ⟨b,off + i * 2 + 1,none⟩=some (.slice z.a z.n z.c):=by
 have h4:n=4:=by
  apply Decidable.byContradiction
  intro hn
  rw [← checkZs_1 (Z:=Z) (by rw [h.len];exact hn)] at hok
  omega
 refine ⟨h4,?_⟩
 rcases h.row with h0|⟨b,off,ha,_,hr⟩
 ·omega
 ·exact ⟨b,off,ha,hr⟩
end Go.Proofs.YtabafikicbkkdaaGreatDoor
namespace Go.Proofs.YtabafikicbkkdaaGreatDoor
open Go.RowKit
set_option linter.unusedVariables false
set_option maxRecDepth 100000
set_option linter.unusedSimpArgs false
end Go.Proofs.YtabafikicbkkdaaGreatDoor
namespace Go.Proofs.YtabafikicbkkdaaGreatDoor
open Go.RowKit
set_option linter.unusedVariables false
set_option maxRecDepth 100000
set_option linter.unusedSimpArgs false
end Go.Proofs.YtabafikicbkkdaaGreatDoor
namespace Go.Proofs.YtabafikicbkkdaaGreatDoor
open Go.RowKit
set_option linter.unusedVariables false
set_option maxRecDepth 100000
set_option linter.unusedSimpArgs false
def wS (s:Int) (l k:List Int):Int:=if writeE s l k=0 then writeS s (l.length + k.length) else 0
def wL (s:Int) (l k:List Int):List Int:=if writeE s l k=0 then l++k else []
theorem Write_u (s:Int) (a:Option Addr) (n c:Nat) (l:List Int) (b:Option Addr) (m d:Nat) (k:List Int) (w:World) (h1:Ints w a n c l) (h2:Ints w b m d k) :
  Calls Tryz.prog 180 #[.agg #[.int .i64 s,.slice a n c],.slice b m d] w fun e w'=>(∃ a' n' c',e=.returned (.tuple #[.agg #[.int .i64 (wS s l k),.slice a' n' c'],.int .i64 (writeE s l k)])∧Ints w' a' n' c' (wL s l k)∧∀ x,a'=some x→w.heap.size≤x.block)∧Below w.heap.size w w':=by
 by_cases h:writeE s l k=0
 ·refine (Write_ok s a n c l b m d k w h1 h2 h).mono ?_
  rintro e w' ⟨⟨q,rfl,i,hq⟩,hb⟩
  rw [show wS s l k=writeS s (n + m) by simp [wS,h,h1.len,h2.len],show wL s l k=l++k by simp [wL,h],h]
  exact ⟨⟨_,_,_,rfl,i,fun x e=>by cases e;exact hq⟩,hb⟩
 ·refine (Write_bad s a n c l b m d k w h1 h2 h).mono ?_
  rintro e w' ⟨rfl,hb⟩
  rw [show wS s l k=0 by simp [wS,h],show wL s l k=[] by simp [wL,h]]
  exact ⟨⟨_,_,_,rfl,Ints.nilSlice _,fun x e=>by cases e⟩,hb⟩
end Go.Proofs.YtabafikicbkkdaaGreatDoor
namespace Go.Proofs.YtabafikicbkkdaaGreatDoor
open Go.RowKit
set_option linter.unusedVariables false
set_option maxRecDepth 100000
set_option linter.unusedSimpArgs false
end Go.Proofs.YtabafikicbkkdaaGreatDoor
namespace Go.Proofs.YtabafikicbkkdaaGreatDoor
open Go.RowKit
set_option linter.unusedVariables false
set_option maxRecDepth 100000
set_option linter.unusedSimpArgs false
abbrev PZ:=Int×List Int
def fopenP (P:List PZ):Option Nat:=P.findIdx? fun z=>z.1==1
def roomP (P:List PZ) (s:Int):Option (List PZ):=
 if isO s then some P
 else if s=4∨s=0∧3≤cntP isA P then none
 else if cntP isO P < 2 then some P
 else match fopenP P with
  |none=>none
  |some i=>some (P.modify i shutP)
def pre (P:List PZ) (k:Int):Int:=if checkZs P≠0 then checkZs P else if inB k 0 3 then 0 else 5
def at' (P:List PZ) (k:Int):PZ:=P.getD k.toNat (0,[])
def holdP (P:List PZ) (k:Int):List PZ×Int:=
 if pre P k≠0 then ([],pre P k) else match roomP P (at' P k).1 with
  |none=>([],7)
  |some Q=>(Q.set k.toNat (2,(at' P k).2),0)
def closeP (P:List PZ) (k:Int):List PZ×Int:=
 if pre P k≠0 then ([],pre P k) else if isO (at' P k).1 then (P.set k.toNat (shutP (at' P k)),0) else ([],6)
def finishP (P:List PZ) (k:Int):List PZ×Int:=
 if pre P k≠0 then ([],pre P k) else (P.set k.toNat (4,(at' P k).2),0)
def resetP (P:List PZ) (k:Int):List PZ×Int:=
 if pre P k≠0 then ([],pre P k) else (P.set k.toNat (0,[]),0)
def writeP (P:List PZ) (k:Int) (data:List Int):List PZ×Int×Int:=
 if pre P k≠0 then ([],0,pre P k)
 else if writeE (at' P k).1 (at' P k).2 data≠0 then ([],0,writeE (at' P k).1 (at' P k).2 data)
 else match roomP P (at' P k).1 with
  |none=>([],0,7)
  |some Q=>(Q.set k.toNat (wS (at' P k).1 (at' P k).2 data,wL (at' P k).1 (at' P k).2 data),((at' P k).2.length:Int),0)
theorem fopen_p (Z:List ZV):fopen Z=fopenP (Z.map ZV.p):=by
 unfold fopen fopenP
 rw [List.findIdx?_map]
 rfl
theorem modify_p (Z:List ZV) (i:Nat):(Z.modify i ZV.shut).map ZV.p=(Z.map ZV.p).modify i shutP:=by
 apply List.ext_getElem?
 intro j
 simp only [List.getElem?_map,List.getElem?_modify]
 cases Z[j]? with
 |none=>simp
 |some z=>
  by_cases e:i=j
  ·simp [e,ZV.shut_p]
  ·simp [e]
theorem room_p (Z:List ZV) (s:Int):(roomZ Z s).map (List.map ZV.p)=roomP (Z.map ZV.p) s:=by
 unfold roomZ roomP
 rw [← cnt_map,← cnt_map,← fopen_p]
 split
 ·rfl
 ·split
  ·rfl
  ·split
   ·rfl
   ·cases fopen Z with
    |none=>rfl
    |some i=>simp [modify_p]
theorem room_none {Z:List ZV} {s:Int} (h:roomZ Z s=none):roomP (Z.map ZV.p) s=none:=by rw [← room_p,h];rfl
theorem room_some {Z Z':List ZV} {s:Int} (h:roomZ Z s=some Z'):roomP (Z.map ZV.p) s=some (Z'.map ZV.p):=by rw [← room_p,h];rfl
theorem pre_ok {w:World} {a:Option Addr} {n c:Nat} {Z:List ZV} (h:Zones w a n c Z) {k:Int} (hp:pre (Z.map ZV.p) k=0) :
  checkZs (Z.map ZV.p)=0∧∃ (j b off:Nat) (z:ZV),k=j∧j < 4∧n=4∧a=some ⟨b,off,none⟩∧Z[j]?=some z∧at' (Z.map ZV.p) k=z.p∧
   ∀ i z,Z[i]?=some z→w.cell? ⟨b,off + i * 2,none⟩=some (.int .i64 z.s)∧w.cell? ⟨b,off + i * 2 + 1,none⟩=some (.slice z.a z.n z.c):=by
 unfold pre at hp
 by_cases hc:checkZs (Z.map ZV.p)=0
 ·simp [hc] at hp
  obtain ⟨h4,b,off,ha,hr⟩:=zs_four h hc
  have hk:0≤k∧k≤3:=by simp [inB] at hp;omega
  obtain ⟨j,rfl⟩:=Int.eq_ofNat_of_zero_le hk.1
  have hj:j < Z.length:=by rw [h.len];omega
  refine ⟨hc,j,b,off,Z[j],rfl,by omega,h4,ha,by simp,?_,hr⟩
  simp [at',List.getD,hj]
 ·simp [hc] at hp
theorem set_p (Z:List ZV) (j:Nat) (u:ZV):(Z.set j u).map ZV.p=(Z.map ZV.p).set j u.p:=by rw [List.map_set]
theorem zs_nil (w:World):Zones w none 0 0 []:=⟨rfl,Nat.le_refl _,by omega,fun _=>rfl,.inl rfl,by simp⟩
def Avoid (w:World) (Z:List ZV) (a':Option Addr) (Z':List ZV):Prop:=∀ R,R < w.heap.size→(∀ z∈Z,z.off R)→(∀ x,a'=some x→x.block≠R)∧∀ z∈Z',z.off R
theorem Avoid.none (w:World) (Z:List ZV):Avoid w Z none []:=fun R _ _=>⟨fun x e=>(by cases e),fun z hz=>by cases hz⟩
theorem Avoid.mk {w:World} {Z Z':List ZV} {g:Nat} (hg:w.heap.size≤g) (h:∀ R,R < w.heap.size→(∀ z∈Z,z.off R)→∀ z∈Z',z.off R):Avoid w Z (some ⟨g,0,Option.none⟩) Z':=
 fun R hR ho=>⟨fun x e=>by cases e;simp;omega,h R hR ho⟩
end Go.Proofs.YtabafikicbkkdaaGreatDoor
namespace Go.Proofs.YtabafikicbkkdaaGreatDoor
open Go.RowKit
set_option linter.unusedVariables false
set_option maxRecDepth 100000
set_option linter.unusedSimpArgs false
def rL (s:Int) (l:List Int) (p k:Int):List Int:=if readE s l p k=0 then (l.drop p.toNat).take k.toNat else []
theorem Read_f (s:Int) (a:Option Addr) (n c:Nat) (l:List Int) (p k:Int) (w:World) (h1:Ints w a n c l) :
  Calls Tryz.prog 155 #[.agg #[.int .i64 s,.slice a n c],.int .i64 p,.int .i64 k] w fun e w'=>(∃ a' n' c',e=.returned (.tuple #[.slice a' n' c',.int .i64 (readE s l p k)])∧Ints w' a' n' c' (rL s l p k)∧∀ x,a'=some x→w.heap.size≤x.block)∧Below w.heap.size w w':=by
 by_cases h:readE s l p k=0
 ·refine (Read_ok s a n c l p k w h1 h).mono ?_
  rintro e w' ⟨⟨q,rfl,i,hq⟩,hb⟩
  rw [show rL s l p k=(l.drop p.toNat).take k.toNat by simp [rL,h],h]
  exact ⟨⟨_,_,_,rfl,i,fun x e=>by cases e;exact hq⟩,hb⟩
 ·refine (Read_bad s a n c l p k w h1 h).mono ?_
  rintro e w' ⟨rfl,hb⟩
  rw [show rL s l p k=[] by simp [rL,h]]
  exact ⟨⟨_,_,_,rfl,Ints.nilSlice _,fun x e=>by cases e⟩,hb⟩
end Go.Proofs.YtabafikicbkkdaaGreatDoor
namespace Go.Proofs.YtabafikicbkkdaaGreatDoor
open Go.RowKit
set_option linter.unusedVariables false
set_option maxRecDepth 100000
set_option linter.unusedSimpArgs false
structure PD where
 P:List PZ
 b:PB
structure PA where
 e:Int
 t:Int
 d:List Int
def zeroD:PD:=⟨[],zeroB⟩
def freshD:PD:=⟨[(0,[]),(0,[]),(0,[]),(0,[])],freshB⟩
def zeroA:PA:=⟨0,0,[]⟩
def errA (e:Int):PA:=⟨e,0,[]⟩
def checkD (d:PD):Int:=if checkZs d.P≠0 then checkZs d.P else checkB d.b
def sameD (a b:PD):Bool:=decide (a.P=b.P)&&sameB a.b b.b
def checkA (a:PA):Int:=
 if outB 0 9 a.e∨outB 0 7 a.t then 3
 else if 8 < a.d.length then 2
 else if a.d.any (outB 0 999) then 3
 else if a.e≠0∧(a.t≠0∨a.d≠[]) then 4 else 0
def sameA (a b:PA):Bool:=decide (a.e=b.e∧a.t=b.t∧a.d=b.d)
def bookDo (b:PB) (who:Int) (c:PC):PB×Int:=
 if c.k=8 then registerB b who c.n else if c.k=9 then reserveB b who c.n else if c.k=10 then releaseB b who else if c.k=11 then preemptB b who c.n else clearB b who
def zoneDo (P:List PZ) (c:PC):List PZ×Int:=
 if c.k=1 then holdP P c.z else if c.k=2 then closeP P c.z else if c.k=3 then finishP P c.z else resetP P c.z
def readD (P:List PZ) (c:PC):PA:=
 if inB c.z 0 3=false then errA 5 else ⟨readE (at' P c.z).1 (at' P c.z).2 c.at' c.n,0,rL (at' P c.z).1 (at' P c.z).2 c.at' c.n⟩
def writeD (d:PD) (c:PC):PD×PA:=
 if c.k=6∧inB c.z 0 3=true∧c.at'≠(at' d.P c.z).2.length then (d,errA 6)
 else if (writeP d.P c.z c.d).2.2≠0 then (d,errA (writeP d.P c.z c.d).2.2)
 else (⟨(writeP d.P c.z c.d).1,d.b⟩,⟨0,(writeP d.P c.z c.d).2.1,[]⟩)
def doneD (d:PD) (who:Int) (c:PC):PD×PA:=
 if 8≤c.k then (if (bookDo d.b who c).2≠0 then (d,errA (bookDo d.b who c).2) else (⟨d.P,(bookDo d.b who c).1⟩,zeroA))
 else if mightB d.b who (c.k !=7)=false then (d,errA 8)
 else if c.k=7 then (d,readD d.P c)
 else if c.k=5∨c.k=6 then writeD d c
 else if (zoneDo d.P c).2≠0 then (d,errA (zoneDo d.P c).2) else (⟨(zoneDo d.P c).1,d.b⟩,zeroA)
def doE (d:PD) (who:Int) (c:PC):Int:=if checkD d≠0 then checkD d else if inB who 0 2=false then 5 else checkC c
def doD (d:PD) (who:Int) (c:PC):PD×PA×Int:=
 if doE d who c≠0 then (zeroD,zeroA,doE d who c) else ((doneD d who c).1,(doneD d who c).2,0)
structure DV where
 za:Option Addr
 zn:Nat
 zc:Nat
 Z:List ZV
 ka:Option Addr
 kn:Nat
 kc:Nat
 b:PB
def DV.p (d:DV):PD:=⟨d.Z.map ZV.p,d.b⟩
def DV.v (d:DV):Value:=.agg #[.slice d.za d.zn d.zc,.slice d.ka d.kn d.kc,.int .i64 d.b.h,.int .i64 d.b.t]
def DV.zero:DV:=⟨none,0,0,[],none,0,0,zeroB⟩
structure DV.ok (w:World) (d:DV):Prop where
 z:Zones w d.za d.zn d.zc d.Z
 k:Ints w d.ka d.kn d.kc d.b.k
theorem DV.ok.below {w w':World} {d:DV} (h:d.ok w) {B:Nat} (hb:Below B w w') (hB:w.heap.size≤B):d.ok w':=⟨h.z.below hb hB,h.k.below hb hB⟩
theorem DV.zero_ok (w:World):DV.zero.ok w:=⟨zs_nil w,Ints.nilSlice w⟩
theorem DV.zero_p:DV.zero.p=zeroD:=rfl
structure AV where
 e:Int
 t:Int
 a:Option Addr
 n:Nat
 c:Nat
 d:List Int
def AV.p (x:AV):PA:=⟨x.e,x.t,x.d⟩
def AV.v (x:AV):Value:=.agg #[.int .i64 x.e,.int .i64 x.t,.slice x.a x.n x.c]
def AV.ok (w:World) (x:AV):Prop:=Ints w x.a x.n x.c x.d
def AV.err (e:Int):AV:=⟨e,0,none,0,0,[]⟩
theorem AV.ok.below {w w':World} {x:AV} (h:x.ok w) {B:Nat} (hb:Below B w w') (hB:w.heap.size≤B):x.ok w':=Ints.below h hb hB
theorem AV.err_ok (w:World) (e:Int):(AV.err e).ok w:=Ints.nilSlice w
theorem AV.err_p (e:Int):(AV.err e).p=errA e:=rfl
theorem sameB_iff (a b:PB):sameB a b=true↔a=b:=by
 obtain ⟨k,h,t⟩:=a
 obtain ⟨k',h',t'⟩:=b
 simp [sameB]
theorem sameD_iff (a b:PD):sameD a b=true↔a=b:=by
 obtain ⟨P,b1⟩:=a
 obtain ⟨Q,b2⟩:=b
 simp [sameD,sameB_iff]
theorem sameA_iff (a b:PA):sameA a b=true↔a=b:=by
 obtain ⟨e,t,d⟩:=a
 obtain ⟨e',t',d'⟩:=b
 simp [sameA]
end Go.Proofs.YtabafikicbkkdaaGreatDoor
namespace Go.Proofs.YtabafikicbkkdaaGreatDoor
open Go.ChangeShapes Go.WideShapes Go.ChangeAt Go.RowKit Go.Joins Go.ChangeMaps
set_option linter.unusedVariables false
set_option maxRecDepth 100000
set_option linter.unusedSimpArgs false
end Go.Proofs.YtabafikicbkkdaaGreatDoor
namespace Go.Proofs.YtabafikicbkkdaaGreatDoor
open Go.RowKit
set_option linter.unusedVariables false
set_option maxRecDepth 100000
set_option linter.unusedSimpArgs false
theorem checkZ_mk {s:Int} {l:List Int} (h0:0≤s) (h4:s≤4) (hl:l.length≤8) (ha:l.any (outB 0 999)=false) (hf:fitsB s l.length=true):checkZ s l=0:=
 (checkZ_0 (by simp [outB];omega) (by omega) ha hf).symm
theorem check_write {s:Int} {l k:List Int} (h:writeE s l k=0):checkZ (writeS s (l.length + k.length)) (l++k)=0:=by
 obtain ⟨h1,h2,h3,h4,h5⟩:=writeE_ok h
 obtain ⟨z1,z2,z3,z4,z5⟩:=checkZ_len h1
 have hs:writeS s (l.length + k.length)=4∧l.length + k.length=8∨(writeS s (l.length + k.length)=2∨writeS s (l.length + k.length)=1)∧l.length + k.length < 8:=by
  unfold writeS
  split
  ·exact .inl ⟨rfl,by assumption⟩
  ·refine .inr ⟨?_,by omega⟩
   split
   ·exact .inl rfl
   ·exact .inr rfl
 refine checkZ_mk ?_ ?_ (by simp;omega) (by simp only [List.any_append,z4,h4];rfl) ?_
 ·omega
 ·omega
 ·rw [List.length_append]
  rcases hs with ⟨e,_⟩|⟨e|e,hlt⟩<;>rw [e]<;>simp [fitsB]<;>omega
theorem any_take_false (l:List Int) (p:Nat) (f:Int→Bool) (h:l.any f=false):(l.take p).any f=false:=by
 rw [List.any_eq_false] at *
 exact fun x hx=>h x (List.mem_of_mem_take hx)
theorem any_drop_false (l:List Int) (p:Nat) (f:Int→Bool) (h:l.any f=false):(l.drop p).any f=false:=by
 rw [List.any_eq_false] at *
 exact fun x hx=>h x (List.mem_of_mem_drop hx)
theorem Ints.head {w:World} {a:Option Addr} {n c:Nat} {l:List Int} (h:Ints w a n c l) (p:Nat) (hp:p≤n):Ints w a p c (l.take p):=by
 have:=h.cut 0 p (by omega) a (fun _=>by cases a<;>simp [Addr.add])
 simpa using this
end Go.Proofs.YtabafikicbkkdaaGreatDoor
namespace Go.Proofs.YtabafikicbkkdaaGreatDoor
open Go.RowKit
set_option linter.unusedVariables false
set_option maxRecDepth 100000
set_option linter.unusedSimpArgs false
theorem checkZs_ok {P:List PZ} (h:checkZs P=0):P.length=4∧(∀ z∈P,checkZ z.1 z.2=0)∧cntP isO P≤2∧cntP isA P≤3:=by
 unfold checkZs at h
 by_cases h4:P.length=4
 ·by_cases hf:firstE P=0
  ·by_cases hc:2 < cntP isO P∨3 < cntP isA P
   ·simp [h4,hf,hc] at h
   ·exact ⟨h4,firstE_all P hf,by omega,by omega⟩
  ·simp [h4,hf] at h
 ·simp [h4] at h
theorem firstE_mk:∀ (P:List PZ),(∀ z∈P,checkZ z.1 z.2=0)→firstE P=0
 |[],_=>rfl
 |z :: r,h=>by
  simp only [firstE,h z (List.mem_cons_self ..)]
  simpa using firstE_mk r fun y hy=>h y (List.mem_cons_of_mem _ hy)
theorem checkZs_mk {P:List PZ} (h4:P.length=4) (hz:∀ z∈P,checkZ z.1 z.2=0) (ho:cntP isO P≤2) (ha:cntP isA P≤3):checkZs P=0:=by
 have hc:¬ (2 < cntP isO P∨3 < cntP isA P):=by omega
 simp only [checkZs,h4,firstE_mk P hz,hc]
 simp
theorem cntP_cons (f:Int→Bool) (z:PZ) (r:List PZ):cntP f (z :: r)=(if f z.1 then 1 else 0) + cntP f r:=by
 unfold cntP
 cases h:f z.1<;>simp [List.filter_cons,h]
 omega
theorem cnt_set (f:Int→Bool):∀ (P:List PZ) (k:Nat) (y z:PZ),P[k]?=some y→cntP f (P.set k z) + (if f y.1 then 1 else 0)=cntP f P + (if f z.1 then 1 else 0)
 |[],k,y,z,h=>by simp at h
 |x :: r,0,y,z,h=>by
  simp at h
  subst h
  rw [List.set_cons_zero,cntP_cons,cntP_cons]
  omega
 |x :: r,k + 1,y,z,h=>by
  simp at h
  have:=cnt_set f r k y z h
  rw [List.set_cons_succ,cntP_cons,cntP_cons]
  omega
theorem mem_set_check {P:List PZ} {k:Nat} {z:PZ} (h:∀ y∈P,checkZ y.1 y.2=0) (hz:checkZ z.1 z.2=0):∀ y∈P.set k z,checkZ y.1 y.2=0:=by
 intro y hy
 rcases List.mem_or_eq_of_mem_set hy with hy|rfl
 ·exact h y hy
 ·exact hz
theorem set_check {P:List PZ} (h:checkZs P=0) {k:Nat} {y z:PZ} (hy:P[k]?=some y) (hz:checkZ z.1 z.2=0)
  (ho:cntP isO P + (if isO z.1 then 1 else 0)≤2 + (if isO y.1 then 1 else 0)) (ha:cntP isA P + (if isA z.1 then 1 else 0)≤3 + (if isA y.1 then 1 else 0)):checkZs (P.set k z)=0:=by
 obtain ⟨h4,hc,_,_⟩:=checkZs_ok h
 have e1:=cnt_set isO P k y z hy
 have e2:=cnt_set isA P k y z hy
 exact checkZs_mk (by simp [h4]) (mem_set_check hc hz) (by omega) (by omega)
theorem check_shut {z:PZ} (h:checkZ z.1 z.2=0) (hs:isO z.1=true):checkZ (shutP z).1 (shutP z).2=0:=by
 obtain ⟨s,l⟩:=z
 obtain ⟨z1,z2,z3,z4,z5⟩:=checkZ_len h
 unfold shutP
 split
 ·rfl
 ·rename_i hne
  have hlen:l.length≠0:=fun e=>hne (List.length_eq_zero_iff.1 e)
  have hs':s=1∨s=2:=by simpa [isO] using hs
  refine checkZ_mk (by omega) (by omega) z3 z4 ?_
  simp only [fitsB] at z5 ⊢
  rcases hs' with rfl|rfl<;>simp at z5 ⊢<;>omega
theorem shut_state (z:PZ):(shutP z).1=0∨(shutP z).1=3:=by
 unfold shutP
 split
 ·exact .inl rfl
 ·exact .inr rfl
theorem shut_data (z:PZ):(shutP z).2=z.2:=by
 unfold shutP
 split
 ·rename_i h;exact h.symm
 ·rfl
theorem check_finish {z:PZ} (h:checkZ z.1 z.2=0):checkZ 4 z.2=0:=by
 obtain ⟨z1,z2,z3,z4,z5⟩:=checkZ_len h
 exact checkZ_mk (by omega) (by omega) z3 z4 rfl
theorem check_held {z:PZ} (h:checkZ z.1 z.2=0) (h4:z.1≠4):checkZ 2 z.2=0:=by
 obtain ⟨s,l⟩:=z
 obtain ⟨z1,z2,z3,z4,z5⟩:=checkZ_len h
 refine checkZ_mk (by omega) (by omega) z3 z4 ?_
 simp only [fitsB] at z5 ⊢
 have:s=0∨s=1∨s=2∨s=3:=by simp at h4;omega
 rcases this with rfl|rfl|rfl|rfl
 ·simp at z5;subst z5;rfl
 all_goals simp at z5 ⊢;omega
theorem isA_of_isO {s:Int} (h:isO s=true):isA s=true:=by simp [isA,h]
theorem room_ok {P Q:List PZ} (h:checkZs P=0) {k:Nat} {z:PZ} (hz:P[k]?=some z) (hr:roomP P z.1=some Q) :
  checkZs Q=0∧z.1≠4∧Q[k]?=some z∧(isO z.1=false→cntP isO Q≤1∧(z.1=0→cntP isA Q≤2))∧
  (Q=P∨∃ (i:Nat) (y:PZ),i≠k∧P[i]?=some y∧y.1=1∧Q=P.set i (shutP y)):=by
 obtain ⟨h4,hc,hO,hA⟩:=checkZs_ok h
 unfold roomP at hr
 by_cases h1:isO z.1=true
 ·rw [if_pos h1] at hr
  cases hr
  refine ⟨h,?_,hz,fun e=>absurd h1 (by simp [e]),.inl rfl⟩
  intro e
  rw [e] at h1
  simp [isO] at h1
 ·rw [if_neg h1] at hr
  by_cases h2:z.1=4∨z.1=0∧3≤cntP isA P
  ·rw [if_pos h2] at hr;cases hr
  ·rw [if_neg h2] at hr
   by_cases h3:cntP isO P < 2
   ·rw [if_pos h3] at hr
    cases hr
    exact ⟨h,by omega,hz,fun _=>⟨by omega,fun e=>by omega⟩,.inl rfl⟩
   ·rw [if_neg h3] at hr
    cases hf:fopenP P with
    |none=>rw [hf] at hr;cases hr
    |some i=>
     rw [hf] at hr
     simp at hr
     unfold fopenP at hf
     rw [List.findIdx?_eq_some_iff_getElem] at hf
     obtain ⟨hi,hy1,_⟩:=hf
     have hy:P[i]?=some P[i]:=by simp
     have hy1':P[i].1=1:=by simpa using hy1
     have hQ:Q=P.set i (shutP P[i]):=by
      rw [← hr]
      apply List.ext_getElem?
      intro j
      by_cases e:i=j
      ·subst e;simp [List.getElem?_modify,hi]
      ·simp [List.getElem?_modify,List.getElem?_set,e]
     have hik:i≠k:=by
      intro e
      subst e
      rw [hz] at hy
      cases hy
      exact h1 (by simp [isO,hy1'])
     have hO1:isO P[i].1=true:=by simp [isO,hy1']
     have hA1:isA P[i].1=true:=isA_of_isO hO1
     have e1:=cnt_set isO P i P[i] (shutP P[i]) hy
     have e2:=cnt_set isA P i P[i] (shutP P[i]) hy
     have hs0:isO (shutP P[i]).1=false:=by rcases shut_state P[i] with e|e<;>rw [e]<;>rfl
     rw [hO1,hs0] at e1
     rw [hA1] at e2
     simp at e1 e2
     have hA2:cntP isA (P.set i (shutP P[i]))≤cntP isA P:=by split at e2<;>omega
     subst hQ
     refine ⟨checkZs_mk (by simp [h4]) (mem_set_check hc (check_shut (hc _ (List.getElem_mem hi)) hO1)) (by omega) (by omega),by omega,?_,fun _=>⟨by omega,fun e=>by omega⟩,.inr ⟨i,P[i],hik,hy,hy1',rfl⟩⟩
     rw [List.getElem?_set_ne hik]
     exact hz
theorem pre_plain {P:List PZ} {k:Int} (hp:pre P k=0):checkZs P=0∧∃ j:Nat,k=j∧j < 4∧P[j]?=some (at' P k):=by
 unfold pre at hp
 by_cases hc:checkZs P=0
 ·simp [hc] at hp
  have hk:0≤k∧k≤3:=by simp [inB] at hp;omega
  obtain ⟨j,rfl⟩:=Int.eq_ofNat_of_zero_le hk.1
  have hj:j < P.length:=by rw [(checkZs_ok hc).1];omega
  exact ⟨hc,j,rfl,by omega,by simp [at',List.getD,hj]⟩
 ·simp [hc] at hp
def Keeps (P Q:List PZ) (j:Nat) (more:Bool):Prop:=
 Q.length=P.length∧∀ (i:Nat) (y z:PZ),P[i]?=some y→Q[i]?=some z→(∃ r,z.2=y.2++r∧(r≠[]→i=j∧more=true))
theorem Keeps.set {P Q:List PZ} (hl:Q.length=P.length) (hk:∀ (i:Nat) (y z:PZ),P[i]?=some y→Q[i]?=some z→z.2=y.2) {j:Nat} {y z:PZ} (hy:P[j]?=some y) {more:Bool} {r:List Int} (hz:z.2=y.2++r) (hr:r≠[]→more=true):Keeps P (Q.set j z) j more:=by
 refine ⟨by simp [hl],fun i u v hu hv=>?_⟩
 by_cases e:j=i
 ·subst e
  rw [hy] at hu
  cases hu
  have hj:j < Q.length:=by rw [hl];exact (List.getElem?_eq_some_iff.1 hy).1
  rw [List.getElem?_set_self hj] at hv
  cases hv
  exact ⟨r,hz,fun h=>⟨rfl,hr h⟩⟩
 ·rw [List.getElem?_set_ne e] at hv
  exact ⟨[],by simp [hk i u v hu hv],fun h=>absurd rfl h⟩
theorem room_data {P Q:List PZ} (h:Q=P∨∃ (i:Nat) (y:PZ),P[i]?=some y∧Q=P.set i (shutP y)):Q.length=P.length∧∀ (i:Nat) (y z:PZ),P[i]?=some y→Q[i]?=some z→z.2=y.2:=by
 rcases h with rfl|⟨i,y,hy,rfl⟩
 ·exact ⟨rfl,fun i y z h1 h2=>by rw [h1] at h2;cases h2;rfl⟩
 ·refine ⟨by simp,fun j u v hu hv=>?_⟩
  by_cases e:i=j
  ·subst e
   rw [hy] at hu
   cases hu
   rw [List.getElem?_set_self (List.getElem?_eq_some_iff.1 hy).1] at hv
   cases hv
   exact shut_data y
  ·rw [List.getElem?_set_ne e,hu] at hv
   cases hv
   rfl
theorem hold_law {P Q:List PZ} {j:Nat} (h:holdP P j=(Q,0)):checkZs Q=0∧Keeps P Q j false∧Q[j]?=some (2,(at' P j).2):=by
 unfold holdP at h
 by_cases hp:pre P j=0
 ·obtain ⟨hc,k,hk,hj,hz⟩:=pre_plain hp
  obtain rfl:j=k:=by omega
  simp [hp] at h
  cases hr:roomP P (at' P j).1 with
  |none=>rw [hr] at h;simp at h
  |some R=>
   rw [hr] at h
   simp at h
   subst h
   obtain ⟨h1,h2,h3,h4,h5⟩:=room_ok hc hz hr
   have hzc:=(checkZs_ok hc).2.1 _ (List.mem_of_getElem? hz)
   obtain ⟨d1,d2⟩:=room_data (h5.imp id fun ⟨i,y,_,hy,_,e⟩=>⟨i,y,hy,e⟩)
   have hR:=checkZs_ok h1
   refine ⟨set_check h1 h3 (check_held (z:=at' P j) hzc h2) ?_ ?_,Keeps.set d1 d2 hz (r:=[]) (by simp) (fun h=>absurd rfl h),by simp [hR.1,hj]⟩
   ·cases ho:isO (at' P j).1
    ·have:=(h4 ho).1
     simp [isO];omega
    ·simp [isO];omega
   ·cases ha:isA (at' P j).1
    ·have ho:isO (at' P j).1=false:=by simp [isA] at ha;exact ha.1
     have hs0:(at' P j).1=0:=by
      have q:=checkZ_len hzc
      simp [isA,isO] at ha
      omega
     have:=(h4 ho).2 hs0
     simp [isA,isO];omega
    ·simp [isA,isO];omega
 ·simp [hp] at h
theorem same_data (P:List PZ):P.length=P.length∧∀ (i:Nat) (y z:PZ),P[i]?=some y→P[i]?=some z→z.2=y.2:=⟨rfl,fun i y z h1 h2=>by rw [h1] at h2;cases h2;rfl⟩
theorem close_law {P Q:List PZ} {j:Nat} (h:closeP P j=(Q,0)):checkZs Q=0∧Keeps P Q j false:=by
 unfold closeP at h
 by_cases hp:pre P j=0
 ·obtain ⟨hc,k,hk,hj,hz⟩:=pre_plain hp
  obtain rfl:j=k:=by omega
  cases ho:isO (at' P j).1
  ·simp [hp,ho] at h
  ·simp [hp,ho] at h
   subst h
   have hzc:=(checkZs_ok hc).2.1 _ (List.mem_of_getElem? hz)
   have hP:=checkZs_ok hc
   have hs0:isO (shutP (at' P j)).1=false:=by rcases shut_state (at' P j) with e|e<;>rw [e]<;>rfl
   refine ⟨set_check hc hz (check_shut hzc ho) ?_ ?_,Keeps.set (same_data P).1 (same_data P).2 hz (r:=[]) (by simp [shut_data]) (fun h=>absurd rfl h)⟩
   ·rw [hs0,ho];simp;omega
   ·rw [isA_of_isO ho];split<;>simp<;>omega
 ·simp [hp] at h
theorem finish_law {P Q:List PZ} {j:Nat} (h:finishP P j=(Q,0)):checkZs Q=0∧Keeps P Q j false∧Q[j]?=some (4,(at' P j).2):=by
 unfold finishP at h
 by_cases hp:pre P j=0
 ·obtain ⟨hc,k,hk,hj,hz⟩:=pre_plain hp
  obtain rfl:j=k:=by omega
  simp [hp] at h
  subst h
  have hzc:=(checkZs_ok hc).2.1 _ (List.mem_of_getElem? hz)
  have hP:=checkZs_ok hc
  refine ⟨set_check hc hz (check_finish (z:=at' P j) hzc) ?_ ?_,Keeps.set (same_data P).1 (same_data P).2 hz (r:=[]) (by simp) (fun h=>absurd rfl h),by simp [hP.1,hj]⟩
  ·simp [isO];split<;>omega
  ·simp [isA,isO];split<;>omega
 ·simp [hp] at h
theorem reset_law {P Q:List PZ} {j:Nat} (h:resetP P j=(Q,0)):checkZs Q=0∧Q=P.set j (0,[])∧j < 4∧P.length=4:=by
 unfold resetP at h
 by_cases hp:pre P j=0
 ·obtain ⟨hc,k,hk,hj,hz⟩:=pre_plain hp
  obtain rfl:j=k:=by omega
  simp [hp] at h
  subst h
  have hP:=checkZs_ok hc
  refine ⟨set_check hc hz rfl ?_ ?_,rfl,hj,hP.1⟩
  ·simp [isO];split<;>omega
  ·simp [isA,isO];split<;>omega
 ·simp [hp] at h
theorem write_law {P Q:List PZ} {j:Nat} {data:List Int} {n:Int} (h:writeP P j data=(Q,n,0)) :
  checkZs Q=0∧Keeps P Q j true∧n=(at' P j).2.length∧Q[j]?=some (writeS (at' P j).1 ((at' P j).2.length + data.length),(at' P j).2++data)∧writeE (at' P j).1 (at' P j).2 data=0:=by
 unfold writeP at h
 by_cases hp:pre P j=0
 ·obtain ⟨hc,k,hk,hj,hz⟩:=pre_plain hp
  obtain rfl:j=k:=by omega
  by_cases hw:writeE (at' P j).1 (at' P j).2 data=0
  ·simp [hp,hw] at h
   cases hr:roomP P (at' P j).1 with
   |none=>rw [hr] at h;simp at h
   |some R=>
    rw [hr] at h
    simp at h
    obtain ⟨rfl,rfl⟩:=h
    obtain ⟨h1,h2,h3,h4,h5⟩:=room_ok hc hz hr
    have hzc:=(checkZs_ok hc).2.1 _ (List.mem_of_getElem? hz)
    obtain ⟨d1,d2⟩:=room_data (h5.imp id fun ⟨i,y,_,hy,_,e⟩=>⟨i,y,hy,e⟩)
    have hR:=checkZs_ok h1
    have eS:wS (at' P j).1 (at' P j).2 data=writeS (at' P j).1 ((at' P j).2.length + data.length):=by simp [wS,hw]
    have eL:wL (at' P j).1 (at' P j).2 data=(at' P j).2++data:=by simp [wL,hw]
    rw [eS,eL]
    have hst:writeS (at' P j).1 ((at' P j).2.length + data.length)=4∨isO (writeS (at' P j).1 ((at' P j).2.length + data.length))=true:=by
     unfold writeS
     split
     ·exact .inl rfl
     ·right;split<;>rfl
    refine ⟨set_check h1 h3 (check_write hw) ?_ ?_,Keeps.set d1 d2 hz (r:=data) rfl (fun _=>rfl),rfl,by simp [hR.1,hj],hw⟩
    ·cases ho:isO (at' P j).1
     ·have:=(h4 ho).1
      split<;>simp<;>omega
     ·split<;>simp<;>omega
    ·cases ha:isA (at' P j).1
     ·have ho:isO (at' P j).1=false:=by simp [isA] at ha;exact ha.1
      have hs0:(at' P j).1=0:=by
       have q:=checkZ_len hzc
       simp [isA,isO] at ha
       omega
      have:=(h4 ho).2 hs0
      split<;>simp<;>omega
     ·split<;>simp<;>omega
  ·simp [hp,hw] at h
 ·simp [hp] at h
end Go.Proofs.YtabafikicbkkdaaGreatDoor
namespace Go.Proofs.YtabafikicbkkdaaGreatDoor
open Go.RowKit
set_option linter.unusedVariables false
set_option maxRecDepth 100000
set_option linter.unusedSimpArgs false
theorem checkB_mk {x y z h t:Int} (hx:0≤x∧x≤9) (hy:0≤y∧y≤9) (hz:0≤z∧z≤9) (hs:h=-1∧t=0∨(h=0∨h=1∨h=2)∧(1≤t∧t≤4)∧keyOf ⟨[x,y,z],h,t⟩ h≠0):checkB ⟨[x,y,z],h,t⟩=0:=by
 refine checkB_0 rfl ?_ ?_
 ·simp [outB]
  omega
 ·rcases hs with ⟨rfl,rfl⟩|⟨h1,h2,h3⟩
  ·simp
  ·dsimp only
   have:¬ h=-1:=by omega
   have:¬ t=0:=by omega
   simp [*]
theorem pre0 {b:PB} {who:Int} (h:preB b who=0):checkB b=0∧∃ j:Nat,who=j∧j < 3:=by
 unfold preB at h
 by_cases hc:checkB b=0
 ·simp [hc] at h
  refine ⟨hc,who.toNat,?_,?_⟩<;>simp [inB] at h<;>omega
 ·simp [hc] at h
theorem preB_mk {b:PB} {j:Nat} (h:checkB b=0) (hj:j < 3):preB b j=0:=by
 simp [preB,h,inB]
 omega
theorem reserve_ok {b:PB} {j:Nat} {kd:Int} (h:(reserveB b j kd).2=0) :
  ∃ x y z,reserveB b j kd=(⟨[x,y,z],j,kd⟩,0)∧checkB ⟨[x,y,z],j,kd⟩=0∧(1≤kd∧kd≤4)∧j < 3∧[x,y,z].getD j 0≠0:=by
 by_cases hp:preB b j=0
 ·obtain ⟨hc,j',ej,hj⟩:=pre0 hp
  obtain rfl:j=j':=by omega
  obtain ⟨x,y,z,e,hx,hy,hz,_⟩:=checkB_ok hc
  cases hk:inB kd 1 4
  ·simp [reserveB,hp,hk] at h
  ·by_cases hno:keyOf b j=0∨b.h≠-1∧¬ (b.h=j∧b.t=kd)
   ·unfold reserveB at h
    rw [hp,hk] at h
    simp only [ne_eq,not_true_eq_false,if_false,Bool.true_eq_false] at h
    rw [if_pos hno] at h
    simp at h
   ·have hr:reserveB b j kd=(⟨[x,y,z],j,kd⟩,0):=by
     unfold reserveB
     rw [hp,hk]
     simp only [ne_eq,not_true_eq_false,if_false,Bool.true_eq_false]
     rw [if_neg hno,e]
    have hkey:[x,y,z].getD j 0≠0:=fun e2=>hno (.inl (by unfold keyOf;rw [e];exact e2))
    have hkd:1≤kd∧kd≤4:=by simp [inB] at hk;omega
    refine ⟨x,y,z,hr,checkB_mk hx hy hz (.inr ⟨by omega,hkd,?_⟩),hkd,hj,hkey⟩
    unfold keyOf
    simpa using hkey
 ·simp [reserveB,hp] at h
theorem may_ok {b:PB} {k:Nat} (h:checkB b=0) (hk:k < 3) (wt:Bool):mayB b k wt=(mightB b k wt,0):=by
 simp [mayB,preB_mk h hk]
end Go.Proofs.YtabafikicbkkdaaGreatDoor
