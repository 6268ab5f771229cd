/- Halls as plain data, and what the document's calls make of them; plain mathematics, no condition. -/
import Derived.Test.YtabafikicbkkdaaGreatDoorSU10
import Derived.Test.YtabafikicbkkdaaGreatDoorSU1
import Derived.Test.YtabafikicbkkdaaGreatDoorSU9
import Derived.Test.YtabafikicbkkdaaGreatDoorSU2
import Derived.Test.YtabafikicbkkdaaGreatDoorSU3
namespace Go.Proofs.YtabafikicbkkdaaGreatDoor
open Go.RowKit
set_option linter.unusedVariables false
set_option maxRecDepth 100000
set_option linter.unusedSimpArgs false
structure PL where
 s:Int
 a:PA
structure PH where
 d:PD
 l:List PL
def zeroL:PL:=⟨0,zeroA⟩
def zeroH:PH:=⟨zeroD,[]⟩
def freshH:PH:=⟨freshD,[zeroL,zeroL,zeroL]⟩
def checkL (x:PL):Int:=if inB x.s 0 40=false then 3 else if checkA x.a≠0 then checkA x.a else if x.s=0∧sameA x.a zeroA=false then 4 else 0
def firstL:List PL→Int
 |[]=>0
 |x :: l=>if checkL x≠0 then checkL x else firstL l
def checkH (h:PH):Int:=if checkD h.d≠0 then checkD h.d else if h.l.length≠3 then 4 else firstL h.l
def sameL (x y:PL):Bool:=decide (x.s=y.s)&&sameA x.a y.a
def sameLs:List PL→List PL→Bool
 |[],[]=>true
 |x :: l,y :: m=>sameL x y&&sameLs l m
 |[],_ :: _=>false
 |_ :: _,[]=>false
def sameH (a b:PH):Bool:=sameD a.d b.d&&sameLs a.l b.l
def lastH (h:PH) (who:Int):PL:=h.l.getD who.toNat zeroL
def nextH (h:PH) (r:PR):PH×PA×Int:=
 if checkH h≠0 then (zeroH,zeroA,checkH h) else if checkR r≠0 then (zeroH,zeroA,checkR r)
 else if r.s=(lastH h r.w).s then (h,(lastH h r.w).a,0)
 else if r.s≠(lastH h r.w).s + 1 then (zeroH,zeroA,6)
 else (⟨(doneD h.d r.w r.c).1,h.l.set r.w.toNat ⟨r.s,(doneD h.d r.w r.c).2⟩⟩,(doneD h.d r.w r.c).2,0)
def replayF:PH→List PR→PH×Int
 |h,[]=>(h,0)
 |h,r :: rs=>if (nextH h r).2.2≠0 then (zeroH,(nextH h r).2.2) else replayF (nextH h r).1 rs
def replayH (l:List PR):PH×Int:=if 80 < l.length then (zeroH,2) else replayF freshH l
theorem sameL_iff (x y:PL):sameL x y=true↔x=y:=by
 obtain ⟨s,a⟩:=x
 obtain ⟨s',a'⟩:=y
 simp [sameL,sameA_iff]
theorem sameLs_iff:∀ l m:List PL,sameLs l m=true↔l=m
 |[],[]=>by simp [sameLs]
 |x :: l,y :: m=>by simp [sameLs,sameL_iff,sameLs_iff l m]
 |[],y :: m=>by simp [sameLs]
 |x :: l,[]=>by simp [sameLs]
theorem sameLs_t {A B:List PL} (h:A=B):sameLs A B=true:=(sameLs_iff A B).2 h
theorem sameLs_f {A B:List PL} (h:A≠B):sameLs A B=false:=by
 cases e:sameLs A B with
 |false=>rfl
 |true=>exact absurd ((sameLs_iff A B).1 e) h
theorem sameH_iff (a b:PH):sameH a b=true↔a=b:=by
 obtain ⟨d,l⟩:=a
 obtain ⟨d',l'⟩:=b
 simp [sameH,sameD_iff,sameLs_iff]
theorem firstL_all:∀ {l:List PL},firstL l=0→∀ x∈l,checkL x=0
 |[],_,x,hx=>by cases hx
 |y :: l,h,x,hx=>by
  simp only [firstL] at h
  split at h
  ·rename_i q;exact absurd h q
  ·rename_i q
   rcases List.mem_cons.1 hx with rfl|hx
   ·simpa using q
   ·exact firstL_all h x hx
theorem firstL_of:∀ {l:List PL},(∀ x∈l,checkL x=0)→firstL l=0
 |[],_=>rfl
 |y :: l,h=>by
  simp only [firstL]
  rw [if_neg (by simp [h y (by simp)])]
  exact firstL_of (fun x hx=>h x (by simp [hx]))
theorem firstL_step:∀ {l:List PL} {k:Nat} {y:PL},l[k]?=some y→firstL (l.take k)=0→checkL y=0→firstL (l.take (k + 1))=0
 |[],k,y,h,_,_=>by simp at h
 |z :: l,0,y,h,_,hy=>by
  simp at h
  subst h
  simp [firstL,hy]
 |z :: l,k + 1,y,h,h0,hy=>by
  simp only [List.take_succ_cons,firstL] at h0 ⊢
  split at h0
  ·rename_i q;exact absurd h0 q
  ·rename_i q
   rw [if_neg q]
   exact firstL_step (by simpa using h) h0 hy
theorem firstL_at:∀ {l:List PL} {k:Nat} {y:PL},l[k]?=some y→firstL (l.take k)=0→checkL y≠0→firstL l=checkL y
 |[],k,y,h,_,_=>by simp at h
 |z :: l,0,y,h,_,hy=>by
  simp at h
  subst h
  simp only [firstL]
  rw [if_pos hy]
 |z :: l,k + 1,y,h,h0,hy=>by
  simp only [List.take_succ_cons,firstL] at h0 ⊢
  split at h0
  ·rename_i q;exact absurd h0 q
  ·rename_i q
   rw [if_neg q]
   exact firstL_at (by simpa using h) h0 hy
theorem checkH_ok {h:PH} (k:checkH h=0):checkD h.d=0∧h.l.length=3∧∀ x∈h.l,checkL x=0:=by
 unfold checkH at k
 split at k
 ·rename_i q;exact absurd k q
 ·rename_i q
  split at k
  ·cases k
  ·rename_i p
   exact ⟨by simpa using q,by simpa using p,firstL_all k⟩
theorem checkH_mk {h:PH} (h1:checkD h.d=0) (h2:h.l.length=3) (h3:∀ x∈h.l,checkL x=0):checkH h=0:=by
 unfold checkH
 rw [if_neg (by simp [h1]),if_neg (by simp [h2])]
 exact firstL_of h3
theorem checkA_few {a:PA} (h:checkA a=0):a.d.length≤8:=by
 unfold checkA at h
 split at h
 ·omega
 ·split at h
  ·omega
  ·omega
theorem checkL_facts {x:PL} (h:checkL x=0):(0≤x.s∧x.s≤40)∧checkA x.a=0∧x.a.d.length≤8∧(x.s=0→x.a=zeroA):=by
 unfold checkL at h
 split at h
 ·omega
 ·rename_i h1
  split at h
  ·rename_i h2;exact absurd h h2
  ·rename_i h2
   split at h
   ·omega
   ·rename_i h3
    have h2':checkA x.a=0:=by simpa using h2
    refine ⟨by simp [inB] at h1;omega,h2',checkA_few h2',fun e=>?_⟩
    cases q:sameA x.a zeroA with
    |false=>exact absurd ⟨e,q⟩ h3
    |true=>exact (sameA_iff _ _).1 q
theorem checkH_fresh:checkH freshH=0:=by decide +kernel
theorem rec_who {r:PR} (h:checkR r=0):∃ j:Nat,r.w=j∧j < 3:=⟨r.w.toNat,by have:=(checkR_facts h).1;omega,by have:=(checkR_facts h).1;omega⟩
theorem nextH_ok {h:PH} {r:PR} (k:(nextH h r).2.2=0):checkH h=0∧checkR r=0∧((r.s=(lastH h r.w).s∧nextH h r=(h,(lastH h r.w).a,0))∨(r.s=(lastH h r.w).s + 1∧nextH h r=(⟨(doneD h.d r.w r.c).1,h.l.set r.w.toNat ⟨r.s,(doneD h.d r.w r.c).2⟩⟩,(doneD h.d r.w r.c).2,0))):=by
 unfold nextH at k
 split at k
 ·rename_i q;exact absurd k q
 ·rename_i q1
  split at k
  ·rename_i q;exact absurd k q
  ·rename_i q2
   refine ⟨by simpa using q1,by simpa using q2,?_⟩
   split at k
   ·rename_i q3
    left
    refine ⟨q3,?_⟩
    unfold nextH
    rw [if_neg q1,if_neg q2,if_pos q3]
   ·rename_i q3
    split at k
    ·cases k
    ·rename_i q4
     right
     refine ⟨by simpa using q4,?_⟩
     unfold nextH
     rw [if_neg q1,if_neg q2,if_neg q3,if_neg q4]
theorem lastH_set {h:PH} {d:PD} {x:PL} {i j:Nat} (hl:h.l.length=3) (hi:i < 3):lastH ⟨d,h.l.set i x⟩ (j:Int)=if i=j then x else lastH h (j:Int):=by
 unfold lastH
 rw [Int.toNat_natCast]
 by_cases e:i=j
 ·subst e
  rw [if_pos rfl]
  simp [List.getD,hl,hi]
 ·rw [if_neg e]
  simp [List.getD,List.getElem?_set_ne e]
theorem lastH_mem {h:PH} {j:Nat} (hl:h.l.length=3) (hj:j < 3):lastH h (j:Int)∈h.l:=by
 unfold lastH
 rw [Int.toNat_natCast]
 simp only [List.getD,List.getElem?_eq_getElem (show j < h.l.length by omega),Option.getD_some]
 exact List.getElem_mem _
theorem next_last {h:PH} {r:PR} (k:(nextH h r).2.2=0) {j:Nat} (hj:j < 3):lastH (nextH h r).1 (j:Int)=if r.w=(j:Int) then ⟨r.s,(nextH h r).2.1⟩ else lastH h (j:Int):=by
 obtain ⟨h1,h2,h3⟩:=nextH_ok k
 obtain ⟨_,hl,_⟩:=checkH_ok h1
 obtain ⟨i,hi,hi3⟩:=rec_who h2
 rcases h3 with ⟨e,q⟩|⟨e,q⟩
 ·rw [q]
  by_cases c:r.w=(j:Int)
  ·rw [if_pos c]
   rw [c] at e
   simp only [c,e]
  ·rw [if_neg c]
 ·rw [q]
  simp only
  rw [hi,Int.toNat_natCast,lastH_set hl hi3]
  by_cases c:i=j
  ·subst c;simp
  ·rw [if_neg c,if_neg (by omega)]
end Go.Proofs.YtabafikicbkkdaaGreatDoor
namespace Go.Proofs.YtabafikicbkkdaaGreatDoor
open Go.RowKit
set_option linter.unusedVariables false
set_option maxRecDepth 100000
set_option linter.unusedSimpArgs false
def ZV.to (s:Int) (z:ZV):ZV:=⟨s,z.a,z.n,z.c,z.l⟩
def NewL (B:Nat) (Z:List ZV):Prop:=∀ z∈Z,∀ x,z.a=some x→B≤x.block
theorem NewL.set {B:Nat} {Z:List ZV} (h:NewL B Z) (i:Nat) {u:ZV} (hu:∀ x,u.a=some x→B≤x.block):NewL B (Z.set i u):=fun z hz=>by
 rcases List.mem_or_eq_of_mem_set hz with hz|rfl
 ·exact h z hz
 ·exact hu
theorem NewL.at {B:Nat} {Z:List ZV} (h:NewL B Z) {i:Nat} {z:ZV} (hz:Z[i]?=some z):∀ x,z.a=some x→B≤x.block:=h z (List.mem_of_getElem? hz)
theorem NewL.to {B:Nat} {Z:List ZV} (h:NewL B Z) {i:Nat} {z:ZV} (hz:Z[i]?=some z) (s:Int):NewL B (Z.set i (z.to s)):=h.set i (u:=z.to s) (fun x e=>h.at hz x e)
theorem NewL.mono {B B':Nat} {Z:List ZV} (h:NewL B Z) (hb:B'≤B):NewL B' Z:=fun z hz x e=>Nat.le_trans hb (h z hz x e)
theorem NewL.nil (B:Nat):NewL B []:=fun z hz=>by cases hz
theorem Mine.put {w w':World} {base g n c:Nat} {Z:List ZV} (h:Mine w base g n c Z) {i:Nat} {z:ZV} (hz:Z[i]?=some z) {s:Int} (hp:Put w w' ⟨g,i * 2,none⟩ (.int .i64 s)) :
  Mine w' base g n c (Z.set i (z.to s)):=by
 have hlen:=h.zs.len
 have hi:i < Z.length:=(List.getElem?_eq_some_iff.1 hz).1
 obtain ⟨y0,y1⟩:=h.cells i z hz
 have hc:∀ j u,(Z.set i (z.to s))[j]?=some u→w'.cell? ⟨g,j * 2,none⟩=some (.int .i64 u.s)∧w'.cell? ⟨g,j * 2 + 1,none⟩=some (.slice u.a u.n u.c):=by
  intro j u hu
  by_cases hij:i=j
  ·subst hij
   rw [List.getElem?_set_self hi] at hu
   cases hu
   exact ⟨hp.here,by rw [hp.other _ (by simp)];exact y1⟩
  ·rw [List.getElem?_set_ne hij] at hu
   obtain ⟨u0,u1⟩:=h.cells j u hu
   refine ⟨?_,?_⟩
   ·rw [hp.other _ (by (first|(simp;done)|(simp;omega)))];exact u0
   ·rw [hp.other _ (by (first|(simp;done)|(simp;omega)))];exact u1
 have hoff:∀ u∈Z.set i (z.to s),u.off g:=fun u hu=>by
  rcases List.mem_or_eq_of_mem_set hu with hu|rfl
  ·exact h.off u hu
  ·exact h.off z (List.mem_of_getElem? hz)
 have hok:∀ u∈Z.set i (z.to s),u.ok w':=fun u hu=>by
  have hw:u.ok w:=by
   rcases List.mem_or_eq_of_mem_set hu with hu|rfl
   ·exact h.zs.ok u hu
   ·exact h.zs.ok z (List.mem_of_getElem? hz)
  exact Ints.but hw (But.of_put hp) (hoff u hu)
 refine ⟨⟨by simp [hlen],h.zs.le,h.zs.max,fun e=>(by cases e),.inr ⟨g,0,rfl,by rw [hp.size];exact h.lt,fun j u hu=>by simpa using hc j u hu⟩,hok⟩,h.base,by rw [hp.size];exact h.lt,hc,fun j hj=>?_,hoff⟩
 rw [hp.ice]
 exact h.soft j hj
theorem Mine.but {w:World} {base g n c:Nat} {Z:List ZV} (h:Mine w base g n c Z) {w':World} (hb:Below w.heap.size w w'):But g w w':=But.of_below hb (Nat.le_of_lt h.lt)
theorem set_to_p (Z:List ZV) (i:Nat) (z:ZV) (s:Int):(Z.set i (z.to s)).map ZV.p=(Z.map ZV.p).set i (s,z.l):=by rw [set_p];rfl
def shutS (l:List Int):Int:=if l=[] then 0 else 3
theorem shutS_p (z:ZV):(shutS z.l,z.l)=shutP z.p:=by
 unfold shutS shutP ZV.p
 split
 ·rename_i h;simp [h]
 ·rfl
end Go.Proofs.YtabafikicbkkdaaGreatDoor
namespace Go.Proofs.YtabafikicbkkdaaGreatDoor
open Go.RowKit
set_option linter.unusedVariables false
set_option maxRecDepth 100000
set_option linter.unusedSimpArgs false
theorem Zones.but {w w':World} {g:Nat} {a:Option Addr} {n c:Nat} {Z:List ZV} (h:Zones w a n c Z) (hb:But g w w') (hne:n=0∨∀ x,a=some x→x.block≠g) (hl:∀ z∈Z,z.off g):Zones w' a n c Z:=by
 refine ⟨h.len,h.le,h.max,h.nil,?_,fun z hz=>Ints.but (h.ok z hz) hb (hl z hz)⟩
 rcases hne with h0|hne
 ·exact .inl h0
 ·rcases h.row with h0|⟨b,off,ha,hlt,hc⟩
  ·exact .inl h0
  ·have hg:b≠g:=hne _ ha
   refine .inr ⟨b,off,ha,Nat.lt_of_lt_of_le hlt hb.size,fun i z hz=>?_⟩
   obtain ⟨h1,h2⟩:=hc i z hz
   exact ⟨keepb hb h1 hg,keepb hb h2 hg⟩
structure DV.off (R:Nat) (d:DV):Prop where
 z:d.zn=0∨∀ x,d.za=some x→x.block≠R
 l:∀ z∈d.Z,z.off R
 k:d.kn=0∨∀ x,d.ka=some x→x.block≠R
def DV.new (B:Nat) (d:DV):Prop:=∀ R,R < B→d.off R
theorem DV.ok.but {w w':World} {g:Nat} {d:DV} (h:d.ok w) (hb:But g w w') (ho:d.off g):d.ok w':=⟨h.z.but hb ho.z ho.l,h.k.but hb ho.k⟩
theorem DV.ok.off {w:World} {d:DV} (h:d.ok w) {R:Nat} (hR:w.heap.size≤R):d.off R:=by
 refine ⟨?_,fun z hz=>Ints.offs (h.z.ok z hz) hR,h.k.offs hR⟩
 rcases h.z.row with h0|⟨b,off,ha,hlt,_⟩
 ·exact .inl h0
 ·exact .inr fun x e=>by rw [ha] at e;cases e;simp;omega
theorem DV.new.mono {B B':Nat} {d:DV} (h:d.new B) (hb:B'≤B):d.new B':=fun R hR=>h R (by omega)
theorem DV.zero_new (B:Nat):DV.zero.new B:=fun R _=>⟨.inl rfl,fun z hz=>(by cases hz),.inl rfl⟩
theorem DV.zero_off (R:Nat):DV.zero.off R:=⟨.inl rfl,fun z hz=>(by cases hz),.inl rfl⟩
def AV.off (R:Nat) (x:AV):Prop:=x.n=0∨∀ y,x.a=some y→y.block≠R
def AV.new (B:Nat) (x:AV):Prop:=∀ R,R < B→x.off R
theorem AV.ok.but {w w':World} {g:Nat} {x:AV} (h:x.ok w) (hb:But g w w') (ho:x.off g):x.ok w':=Ints.but h hb ho
theorem AV.ok.off {w:World} {x:AV} (h:x.ok w) {R:Nat} (hR:w.heap.size≤R):x.off R:=Ints.offs h hR
theorem AV.new.mono {B B':Nat} {x:AV} (h:x.new B) (hb:B'≤B):x.new B':=fun R hR=>h R (by omega)
theorem AV.err_new (B:Nat) (e:Int):(AV.err e).new B:=fun R _=>.inl rfl
def DV.cells (d:DV):List Value:=[.slice d.za d.zn d.zc,.slice d.ka d.kn d.kc,.int .i64 d.b.h,.int .i64 d.b.t]
end Go.Proofs.YtabafikicbkkdaaGreatDoor
namespace Go.Proofs.YtabafikicbkkdaaGreatDoor
open Go.RowKit
set_option linter.unusedVariables false
set_option maxRecDepth 100000
set_option linter.unusedSimpArgs false
structure LV where
 s:Int
 x:AV
def LV.p (y:LV):PL:=⟨y.s,y.x.p⟩
def LV.v (y:LV):Value:=.agg #[.int .i64 y.s,.int .i64 y.x.e,.int .i64 y.x.t,.slice y.x.a y.x.n y.x.c]
def LV.cells (y:LV):List Value:=[.int .i64 y.s,.int .i64 y.x.e,.int .i64 y.x.t,.slice y.x.a y.x.n y.x.c]
def LV.ok (w:World) (y:LV):Prop:=y.x.ok w
def LV.off (g:Nat) (y:LV):Prop:=y.x.n=0∨∀ z,y.x.a=some z→z.block≠g
def LV.zero:LV:=⟨0,AV.err 0⟩
theorem LV.zero_ok (w:World):LV.zero.ok w:=AV.err_ok w 0
theorem LV.ok.below {w w':World} {y:LV} (h:y.ok w) {B:Nat} (hb:Below B w w') (hB:w.heap.size≤B):y.ok w':=Ints.below h hb hB
theorem LV.ok.but {w w':World} {g:Nat} {y:LV} (h:y.ok w) (hb:But g w w') (ho:y.off g):y.ok w':=Ints.but h hb ho
theorem LV.ok.off {w:World} {y:LV} (h:y.ok w) {R:Nat} (hR:w.heap.size≤R):y.off R:=Ints.offs h hR
theorem LV.cells_len (y:LV):y.cells.length=4:=rfl
theorem LV.cells_one (y:LV):∀ v∈y.cells,v.oneCell'=true:=by
 intro v hx
 simp only [LV.cells,List.mem_cons,List.not_mem_nil,or_false] at hx
 rcases hx with rfl|rfl|rfl|rfl<;>rfl
def lcells (L:List LV):List Value:=L.flatMap LV.cells
theorem lcells_cons (y:LV) (L:List LV):lcells (y :: L)=y.cells++lcells L:=by simp [lcells]
theorem lcells_get:∀ (L:List LV) (i:Nat) (y:LV),L[i]?=some y→∀ j v,y.cells[j]?=some v→(lcells L)[i * 4 + j]?=some v
 |[],i,y,h,_,_,_=>by simp at h
 |z :: L,0,y,h,j,v,hv=>by
  have hj:j < 4:=(List.getElem?_eq_some_iff.1 hv).1
  simp at h
  subst h
  rw [lcells_cons,List.getElem?_append_left (by rw [LV.cells_len];omega)]
  simpa using hv
 |z :: L,i + 1,y,h,j,v,hv=>by
  rw [lcells_cons,List.getElem?_append_right (by rw [LV.cells_len];omega),LV.cells_len,show (i + 1) * 4 + j - 4=i * 4 + j by omega]
  exact lcells_get L i y (by simpa using h) j v hv
structure Lasts (w:World) (a:Option Addr) (n c:Nat) (L:List LV):Prop where
 len:L.length=n
 le:n≤c
 max:c≤9223372036854775807
 nil:a=none→c=0
 row:n=0∨∃ b off,a=some ⟨b,off,none⟩∧b < w.heap.size∧∀ i y,L[i]?=some y→∀ j v,y.cells[j]?=some v→w.cell? ⟨b,off + i * 4 + j,none⟩=some v
 ok:∀ y∈L,y.ok w
theorem Lasts.below {w w':World} {a:Option Addr} {n c:Nat} {L:List LV} (h:Lasts w a n c L) {B:Nat} (hb:Below B w w') (hB:w.heap.size≤B):Lasts w' a n c L:=by
 refine ⟨h.len,h.le,h.max,h.nil,?_,fun y hy=>LV.ok.below (h.ok y hy) hb hB⟩
 rcases h.row with h0|⟨b,off,ha,hlt,hc⟩
 ·exact .inl h0
 ·refine .inr ⟨b,off,ha,Nat.lt_of_lt_of_le hlt hb.size,fun i y hy j v hv=>?_⟩
  rw [hb.cell (p:=⟨b,off + i * 4 + j,none⟩) (Nat.lt_of_lt_of_le hlt hB)]
  exact hc i y hy j v hv
theorem Lasts.nilSlice (w:World):Lasts w none 0 0 []:=⟨rfl,Nat.le_refl _,by omega,fun _=>rfl,.inl rfl,by simp⟩
structure OffL (g:Nat) (a:Option Addr) (n:Nat) (L:List LV):Prop where
 a:n=0∨∀ y,a=some y→y.block≠g
 d:∀ y∈L,y.off g
theorem Lasts.but {w w':World} {g:Nat} {a:Option Addr} {n c:Nat} {L:List LV} (h:Lasts w a n c L) (hb:But g w w') (hn:OffL g a n L):Lasts w' a n c L:=by
 refine ⟨h.len,h.le,h.max,h.nil,?_,fun y hy=>LV.ok.but (h.ok y hy) hb (hn.d y hy)⟩
 rcases hn.a with h0|hne
 ·exact .inl h0
 ·rcases h.row with h0|⟨b,off,ha,hlt,hc⟩
  ·exact .inl h0
  ·refine .inr ⟨b,off,ha,Nat.lt_of_lt_of_le hlt hb.size,fun i y hy j v hv=>?_⟩
   have:=hne _ ha
   rw [hb.cell ⟨b,off + i * 4 + j,none⟩ hlt this]
   exact hc i y hy j v hv
theorem Lasts.off {w:World} {a:Option Addr} {n c:Nat} {L:List LV} (h:Lasts w a n c L) {R:Nat} (hR:w.heap.size≤R):OffL R a n L:=by
 refine ⟨?_,fun y hy=>LV.ok.off (h.ok y hy) hR⟩
 rcases h.row with h0|⟨b,off,ha,hlt,_⟩
 ·exact .inl h0
 ·exact .inr fun x e=>by rw [ha] at e;cases e;simp;omega
theorem Lasts.of_lay {w:World} {g:Nat} {L:List LV} (h:Lay w g (lcells L)) (hok:∀ y∈L,y.ok w) {n:Nat} (hn:L.length=n) (hm:n≤9223372036854775807):Lasts w (some ⟨g,0,none⟩) n n L:=by
 subst hn
 refine ⟨rfl,Nat.le_refl _,hm,fun e=>(by cases e),.inr ⟨g,0,rfl,h.lt,fun i y hy j v hv=>?_⟩,hok⟩
 have:=h.cell _ _ (lcells_get L i y hy j v hv)
 simpa using this
theorem lcells_set:∀ (L:List LV) (i:Nat) (y:LV),i < L.length→((((lcells L).set (i * 4) (.int .i64 y.s)).set (i * 4 + 1) (.int .i64 y.x.e)).set (i * 4 + 2) (.int .i64 y.x.t)).set (i * 4 + 3) (.slice y.x.a y.x.n y.x.c)=lcells (L.set i y)
 |[],i,y,h=>by simp at h
 |z :: L,0,y,_=>by simp [lcells_cons,LV.cells]
 |z :: L,i + 1,y,h=>by
  have ih:=lcells_set L i y (by simpa using h)
  rw [List.set_cons_succ,lcells_cons,lcells_cons,← ih]
  simp only [LV.cells,List.cons_append,List.nil_append,show (i + 1) * 4=i * 4 + 1 + 1 + 1 + 1 by omega,show i * 4 + 1 + 1 + 1 + 1 + 1=(i * 4 + 1) + 1 + 1 + 1 + 1 by omega,show i * 4 + 1 + 1 + 1 + 1 + 2=(i * 4 + 2) + 1 + 1 + 1 + 1 by omega,show i * 4 + 1 + 1 + 1 + 1 + 3=(i * 4 + 3) + 1 + 1 + 1 + 1 by omega,List.set_cons_succ]
theorem Lasts.of_row {w:World} {g:Nat} {L:List LV} {t:TypeId} {fr:Nat×Nat} (hg:w.heap[g]?=some (.cells (lcells L).toArray t fr)) (hok:∀ y∈L,y.ok w) {n:Nat} (hn:L.length=n) (hm:n≤9223372036854775807):Lasts w (some ⟨g,0,none⟩) n n L:=by
 subst hn
 refine ⟨rfl,Nat.le_refl _,hm,fun e=>(by cases e),.inr ⟨g,0,rfl,(Array.getElem?_eq_some_iff.1 hg).1,fun i y hy j v hv=>?_⟩,hok⟩
 rw [cell_of_row w g _ _ t fr hg,Nat.zero_add]
 simpa using lcells_get L i y hy j v hv
theorem Lasts.at {w:World} {a:Option Addr} {n c:Nat} {L:List LV} (h:Lasts w a n c L) {i:Nat} (hi:i < n):∃ b off y,a=some ⟨b,off,none⟩∧L[i]?=some y∧y.ok w∧∀ j v,y.cells[j]?=some v→w.cell? ⟨b,off + i * 4 + j,none⟩=some v:=by
 obtain ⟨y,hy⟩:∃ y,L[i]?=some y:=⟨L[i]'(by rw [h.len];exact hi),by simp⟩
 rcases h.row with h0|⟨b,off,ha,hlt,hc⟩
 ·omega
 ·exact ⟨b,off,y,ha,hy,h.ok y (List.mem_of_getElem? hy),hc i y hy⟩
structure HV where
 d:DV
 a:Option Addr
 n:Nat
 c:Nat
 L:List LV
def HV.p (h:HV):PH:=⟨h.d.p,h.L.map LV.p⟩
def HV.v (h:HV):Value:=.agg #[.slice h.d.za h.d.zn h.d.zc,.slice h.d.ka h.d.kn h.d.kc,.int .i64 h.d.b.h,.int .i64 h.d.b.t,.slice h.a h.n h.c]
def HV.cells (h:HV):List Value:=[.slice h.d.za h.d.zn h.d.zc,.slice h.d.ka h.d.kn h.d.kc,.int .i64 h.d.b.h,.int .i64 h.d.b.t,.slice h.a h.n h.c]
structure HV.ok (w:World) (h:HV):Prop where
 d:h.d.ok w
 l:Lasts w h.a h.n h.c h.L
def HV.zero:HV:=⟨DV.zero,none,0,0,[]⟩
theorem HV.zero_ok (w:World):HV.zero.ok w:=⟨DV.zero_ok w,Lasts.nilSlice w⟩
theorem HV.zero_p:HV.zero.p=zeroH:=rfl
theorem HV.ok.below {w w':World} {h:HV} (k:h.ok w) {B:Nat} (hb:Below B w w') (hB:w.heap.size≤B):h.ok w':=⟨k.d.below hb hB,k.l.below hb hB⟩
structure HV.off (R:Nat) (h:HV):Prop where
 d:h.d.off R
 l:OffL R h.a h.n h.L
def HV.new (B:Nat) (h:HV):Prop:=∀ R,R < B→h.off R
theorem HV.ok.but {w w':World} {g:Nat} {h:HV} (k:h.ok w) (hb:But g w w') (ho:h.off g):h.ok w':=⟨k.d.but hb ho.d,k.l.but hb ho.l⟩
theorem HV.ok.off {w:World} {h:HV} (k:h.ok w) {R:Nat} (hR:w.heap.size≤R):h.off R:=⟨k.d.off hR,k.l.off hR⟩
theorem HV.new.mono {B B':Nat} {h:HV} (k:h.new B) (hb:B'≤B):h.new B':=fun R hR=>k R (by omega)
theorem HV.zero_off (R:Nat):HV.zero.off R:=⟨DV.zero_off R,.inl rfl,fun y hy=>(by cases hy)⟩
theorem HV.zero_new (B:Nat):HV.zero.new B:=fun R _=>HV.zero_off R
end Go.Proofs.YtabafikicbkkdaaGreatDoor
namespace Go.Proofs.YtabafikicbkkdaaGreatDoor
open Go.ChangeShapes Go.WideShapes Go.ChangeAt Go.RowKit Go.Joins Go.ChangeMaps
set_option linter.unusedVariables false
set_option maxRecDepth 100000
set_option linter.unusedSimpArgs false
end Go.Proofs.YtabafikicbkkdaaGreatDoor
namespace Go.Proofs.YtabafikicbkkdaaGreatDoor
open Go.RowKit
set_option linter.unusedVariables false
set_option maxRecDepth 100000
set_option linter.unusedSimpArgs false
structure BV where
 p:PC
 a:Option Addr
 n:Nat
 c:Nat
def BV.cells (x:BV):List Value:=[.int .i64 x.p.k,.int .i64 x.p.z,.int .i64 x.p.n,.int .i64 x.p.at',.slice x.a x.n x.c]
def BV.ok (w:World) (x:BV):Prop:=Ints w x.a x.n x.c x.p.d
def BV.zero:BV:=⟨zeroC,none,0,0⟩
theorem BV.ok.below {w w':World} {x:BV} (h:x.ok w) {B:Nat} (hb:Below B w w') (hB:w.heap.size≤B):x.ok w':=Ints.below h hb hB
structure Cmds (w:World) (a:Option Addr) (n c:Nat) (X:List BV):Prop where
 len:X.length=n
 le:n≤c
 max:c≤9223372036854775807
 nil:a=none→c=0
 row:n=0∨∃ b off,a=some ⟨b,off,none⟩∧b < w.heap.size∧∀ i x,X[i]?=some x→∀ j v,x.cells[j]?=some v→w.cell? ⟨b,off + i * 5 + j,none⟩=some v
 ok:∀ x∈X,x.ok w
theorem Cmds.nilSlice (w:World):Cmds w none 0 0 []:=⟨rfl,Nat.le_refl _,by omega,fun _=>rfl,.inl rfl,by simp⟩
theorem Cmds.at {w:World} {a:Option Addr} {n c:Nat} {X:List BV} (h:Cmds w a n c X) {i:Nat} (hi:i < n):∃ b off x,a=some ⟨b,off,none⟩∧X[i]?=some x∧x.ok w∧b < w.heap.size∧∀ j v,x.cells[j]?=some v→w.cell? ⟨b,off + i * 5 + j,none⟩=some v:=by
 obtain ⟨b,off,e,hlt,hc⟩:=h.row.resolve_left (by omega)
 obtain ⟨x,hx⟩:∃ x,X[i]?=some x:=⟨_,List.getElem?_eq_getElem (by rw [h.len];exact hi)⟩
 exact ⟨b,off,x,e,hx,h.ok x (List.mem_of_getElem? hx),hlt,hc i x hx⟩
end Go.Proofs.YtabafikicbkkdaaGreatDoor
namespace Go.Proofs.YtabafikicbkkdaaGreatDoor
open Go.RowKit
set_option linter.unusedVariables false
set_option maxRecDepth 100000
set_option linter.unusedSimpArgs false
structure PN where
 s:Int
 w:Bool
 c:PC
 g:List PA
def zeroN:PN:=⟨0,false,zeroC,[]⟩
def firstA:List PA→Int
 |[]=>0
 |a :: l=>if checkA a≠0 then checkA a else firstA l
def formN (h:PN):Bool:=if h.w then decide (h.s=h.g.length + 1) else decide (h.s=h.g.length)&&sameC h.c zeroC
def checkN (h:PN):Int:=if inB h.s 0 40=false then 3 else if firstA h.g≠0 then firstA h.g else if formN h=false then 4 else if h.w then checkC h.c else 0
def sameAs:List PA→List PA→Bool
 |[],[]=>true
 |a :: l,b :: m=>sameA a b&&sameAs l m
 |[],_ :: _=>false
 |_ :: _,[]=>false
def askN (h:PN) (c:PC):PN×Int:=
 if checkN h≠0 then (zeroN,checkN h) else if checkC c≠0 then (zeroN,checkC c) else if h.w then (zeroN,6) else if 40≤h.s then (zeroN,2) else (⟨h.s + 1,true,c,h.g⟩,0)
def hearN (h:PN) (q:Int) (a:PA):PN×Int:=
 if checkN h≠0 then (zeroN,checkN h) else if checkA a≠0 then (zeroN,checkA a) else if h.w=false∨h.s≠q then (h,0) else (⟨q,false,zeroC,h.g++[a]⟩,0)
theorem sameAs_iff:∀ l m:List PA,sameAs l m=true↔l=m
 |[],[]=>by simp [sameAs]
 |x :: l,y :: m=>by simp [sameAs,sameA_iff,sameAs_iff l m]
 |[],y :: m=>by simp [sameAs]
 |x :: l,[]=>by simp [sameAs]
theorem sameAs_t {A B:List PA} (h:A=B):sameAs A B=true:=(sameAs_iff A B).2 h
theorem sameAs_f {A B:List PA} (h:A≠B):sameAs A B=false:=by
 cases e:sameAs A B with
 |false=>rfl
 |true=>exact absurd ((sameAs_iff A B).1 e) h
theorem firstA_step:∀ {l:List PA} {k:Nat} {y:PA},l[k]?=some y→firstA (l.take k)=0→checkA y=0→firstA (l.take (k + 1))=0
 |[],k,y,h,_,_=>by simp at h
 |z :: l,0,y,h,_,hy=>by
  simp at h
  subst h
  simp [firstA,hy]
 |z :: l,k + 1,y,h,h0,hy=>by
  simp only [List.take_succ_cons,firstA] at h0 ⊢
  split at h0
  ·rename_i q;exact absurd h0 q
  ·rename_i q
   rw [if_neg q]
   exact firstA_step (by simpa using h) h0 hy
theorem firstA_at:∀ {l:List PA} {k:Nat} {y:PA},l[k]?=some y→firstA (l.take k)=0→checkA y≠0→firstA l=checkA y
 |[],k,y,h,_,_=>by simp at h
 |z :: l,0,y,h,_,hy=>by
  simp at h
  subst h
  simp only [firstA]
  rw [if_pos hy]
 |z :: l,k + 1,y,h,h0,hy=>by
  simp only [List.take_succ_cons,firstA] at h0 ⊢
  split at h0
  ·rename_i q;exact absurd h0 q
  ·rename_i q
   rw [if_neg q]
   exact firstA_at (by simpa using h) h0 hy
theorem firstA_all:∀ {l:List PA},firstA l=0→∀ x∈l,checkA x=0
 |[],_,x,hx=>by cases hx
 |y :: l,h,x,hx=>by
  simp only [firstA] at h
  split at h
  ·rename_i q;exact absurd h q
  ·rename_i q
   rcases List.mem_cons.1 hx with rfl|hx
   ·simpa using q
   ·exact firstA_all h x hx
theorem firstA_of:∀ {l:List PA},(∀ x∈l,checkA x=0)→firstA l=0
 |[],_=>rfl
 |y :: l,h=>by
  simp only [firstA]
  rw [if_neg (by simp [h y (by simp)])]
  exact firstA_of (fun x hx=>h x (by simp [hx]))
theorem firstA_snoc {l:List PA} {a:PA} (h:firstA l=0) (ha:checkA a=0):firstA (l++[a])=0:=
 firstA_of fun x hx=>(List.mem_append.1 hx).elim (firstA_all h x) (fun m=>by simp at m;rw [m];exact ha)
theorem checkN_ok {h:PN} (k:checkN h=0):(0≤h.s∧h.s≤40)∧firstA h.g=0∧formN h=true∧(h.w=true→checkC h.c=0):=by
 unfold checkN at k
 split at k
 ·cases k
 ·rename_i q1
  split at k
  ·rename_i q;exact absurd k q
  ·rename_i q2
   split at k
   ·cases k
   ·rename_i q3
    refine ⟨by simp [inB] at q1;omega,by simpa using q2,by simpa using q3,fun hw=>?_⟩
    rw [if_pos hw] at k
    exact k
theorem checkN_mk {h:PN} (h1:0≤h.s∧h.s≤40) (h2:firstA h.g=0) (h3:formN h=true) (h4:h.w=true→checkC h.c=0):checkN h=0:=by
 unfold checkN
 rw [if_neg (by simp [inB];omega),if_neg (by simp [h2]),if_neg (by simp [h3])]
 split
 ·rename_i q;exact h4 q
 ·rfl
theorem ask_ok {h:PN} {c:PC} (hk:checkN h=0) (hw:h.w=false) (hc:checkC c=0) (hs:h.s < 40):askN h c=(⟨h.s + 1,true,c,h.g⟩,0)∧checkN ⟨h.s + 1,true,c,h.g⟩=0:=by
 obtain ⟨h1,h2,h3,_⟩:=checkN_ok hk
 refine ⟨?_,checkN_mk (by simp only;omega) h2 ?_ (fun _=>hc)⟩
 ·unfold askN
  rw [if_neg (by simp [hk]),if_neg (by simp [hc]),if_neg (by simp [hw]),if_neg (by omega)]
 ·simp only [formN,hw,Bool.false_eq_true,if_false,Bool.and_eq_true,decide_eq_true_eq] at h3
  simp only [formN,if_true,decide_eq_true_eq]
  omega
theorem ask_some {h:PN} {c:PC} (k:(askN h c).2=0):checkN h=0∧checkC c=0∧h.w=false∧h.s < 40:=by
 unfold askN at k
 split at k
 ·rename_i q;exact absurd k q
 ·rename_i q1
  split at k
  ·rename_i q;exact absurd k q
  ·rename_i q2
   split at k
   ·cases k
   ·rename_i q3
    split at k
    ·cases k
    ·rename_i q4
     exact ⟨by simpa using q1,by simpa using q2,by simpa using q3,by omega⟩
theorem hear_ok {h:PN} {a:PA} (hk:checkN h=0) (hw:h.w=true) (ha:checkA a=0):hearN h h.s a=(⟨h.s,false,zeroC,h.g++[a]⟩,0)∧checkN ⟨h.s,false,zeroC,h.g++[a]⟩=0:=by
 obtain ⟨h1,h2,h3,_⟩:=checkN_ok hk
 refine ⟨?_,checkN_mk h1 (firstA_snoc h2 ha) ?_ (fun e=>by cases e)⟩
 ·unfold hearN
  rw [if_neg (by simp [hk]),if_neg (by simp [ha]),if_neg (by simp [hw])]
 ·simp only [formN,hw,if_true,decide_eq_true_eq] at h3
  simp only [formN,Bool.false_eq_true,if_false,Bool.and_eq_true,decide_eq_true_eq,List.length_append,List.length_singleton]
  exact ⟨by omega,(sameC_iff _ _).2 rfl⟩
theorem hear_deaf {h:PN} {q:Int} {a:PA} (hk:checkN h=0) (ha:checkA a=0) (hn:h.w=false∨h.s≠q):hearN h q a=(h,0):=by
 unfold hearN
 rw [if_neg (by simp [hk]),if_neg (by simp [ha]),if_pos hn]
end Go.Proofs.YtabafikicbkkdaaGreatDoor
namespace Go.Proofs.YtabafikicbkkdaaGreatDoor
open Go.RowKit
set_option linter.unusedVariables false
set_option maxRecDepth 100000
set_option linter.unusedSimpArgs false
def AV.cells (x:AV):List Value:=[.int .i64 x.e,.int .i64 x.t,.slice x.a x.n x.c]
theorem ansInfo:∃ i,Tryz.prog.info? 56=some i∧i.zero=some (.agg #[.int .i64 0,.int .i64 0,.slice none 0 0])∧i.size=3∧i.bytes=40:=by
 have h:(Tryz.prog.info? 56).map (fun i=>(i.zero,i.size,i.bytes))=some (some (.agg #[.int .i64 0,.int .i64 0,.slice none 0 0]),3,40):=by kernel_rfl
 obtain ⟨i,hi,h⟩:=Option.map_eq_some_iff.1 h
 simp only [Prod.mk.injEq] at h
 exact ⟨i,hi,h.1,h.2.1,h.2.2⟩
def acells (X:List AV):List Value:=X.flatMap AV.cells
theorem acells_cons (x:AV) (X:List AV):acells (x :: X)=x.cells++acells X:=by simp [acells]
theorem acells_snoc (X:List AV) (x:AV):acells (X++[x])=acells X++x.cells:=by simp [acells]
theorem AV.cells_len (x:AV):x.cells.length=3:=rfl
theorem acells_len:∀ X:List AV,(acells X).length=X.length * 3
 |[]=>rfl
 |x :: X=>by rw [acells_cons,List.length_append,acells_len X,x.cells_len,List.length_cons];omega
theorem acells_get:∀ (X:List AV) (i:Nat) (x:AV),X[i]?=some x→∀ j v,x.cells[j]?=some v→(acells X)[i * 3 + j]?=some v
 |[],i,x,h,_,_,_=>by simp at h
 |y :: X,0,x,h,j,v,hv=>by
  have hj:j < 3:=(List.getElem?_eq_some_iff.1 hv).1
  simp at h
  subst h
  rw [acells_cons,List.getElem?_append_left (by rw [AV.cells_len];omega)]
  simpa using hv
 |y :: X,i + 1,x,h,j,v,hv=>by
  rw [acells_cons,List.getElem?_append_right (by rw [AV.cells_len];omega),AV.cells_len,show (i + 1) * 3 + j - 3=i * 3 + j by omega]
  exact acells_get X i x (by simpa using h) j v hv
theorem AV.cells_one (x:AV):∀ v∈x.cells,v.oneCell'=true:=by
 intro v hx
 simp only [AV.cells,List.mem_cons,List.not_mem_nil,or_false] at hx
 rcases hx with rfl|rfl|rfl<;>rfl
structure Answers (w:World) (a:Option Addr) (n c:Nat) (X:List AV):Prop where
 len:X.length=n
 le:n≤c
 max:c≤9223372036854775807
 nil:a=none→c=0
 row:n=0∨∃ b off,a=some ⟨b,off,none⟩∧b < w.heap.size∧∀ i x,X[i]?=some x→∀ j v,x.cells[j]?=some v→w.cell? ⟨b,off + i * 3 + j,none⟩=some v
 ok:∀ x∈X,x.ok w
theorem Answers.below {w w':World} {a:Option Addr} {n c:Nat} {X:List AV} (h:Answers w a n c X) {B:Nat} (hb:Below B w w') (hB:w.heap.size≤B):Answers w' a n c X:=by
 refine ⟨h.len,h.le,h.max,h.nil,?_,fun x hx=>AV.ok.below (h.ok x hx) hb hB⟩
 rcases h.row with h0|⟨b,off,ha,hlt,hc⟩
 ·exact .inl h0
 ·refine .inr ⟨b,off,ha,Nat.lt_of_lt_of_le hlt hb.size,fun i x hx j v hv=>?_⟩
  rw [hb.cell (p:=⟨b,off + i * 3 + j,none⟩) (Nat.lt_of_lt_of_le hlt hB)]
  exact hc i x hx j v hv
theorem Answers.nilSlice (w:World):Answers w none 0 0 []:=⟨rfl,Nat.le_refl _,by omega,fun _=>rfl,.inl rfl,by simp⟩
theorem Answers.take {w:World} {a:Option Addr} {n c:Nat} {X:List AV} (h:Answers w a n c X) {k:Nat} (hk:k≤n):Answers w a k c (X.take k):=by
 refine ⟨by rw [List.length_take,h.len];omega,Nat.le_trans hk h.le,h.max,h.nil,?_,fun x hx=>h.ok x (List.mem_of_mem_take hx)⟩
 rcases h.row with h0|⟨b,off,ha,hlt,hc⟩
 ·exact .inl (by omega)
 ·refine .inr ⟨b,off,ha,hlt,fun i x hx=>hc i x ?_⟩
  have hi:=(List.getElem?_eq_some_iff.1 hx).1
  rw [List.length_take] at hi
  rwa [List.getElem?_take_of_lt (by omega)] at hx
structure FreshA (B:Nat) (a:Option Addr) (X:List AV):Prop where
 a:∀ y,a=some y→B≤y.block
 d:∀ x∈X,x.new B
theorem FreshA.mono {B B':Nat} {a:Option Addr} {X:List AV} (h:FreshA B a X) (hB:B'≤B):FreshA B' a X:=⟨fun y e=>Nat.le_trans hB (h.a y e),fun x hx=>AV.new.mono (h.d x hx) hB⟩
theorem FreshA.nil (B:Nat):FreshA B none []:=⟨fun y e=>(by cases e),fun x hx=>(by cases hx)⟩
theorem Answers.but {w w':World} {g:Nat} {a:Option Addr} {n c:Nat} {X:List AV} (h:Answers w a n c X) (hb:But g w w') (ha:n=0∨∀ y,a=some y→y.block≠g) (hd:∀ x∈X,x.off g):Answers w' a n c X:=by
 refine ⟨h.len,h.le,h.max,h.nil,?_,fun x hx=>AV.ok.but (h.ok x hx) hb (hd x hx)⟩
 rcases ha with h0|hne
 ·exact .inl h0
 ·rcases h.row with h0|⟨b,off,ha,hlt,hc⟩
  ·exact .inl h0
  ·refine .inr ⟨b,off,ha,Nat.lt_of_lt_of_le hlt hb.size,fun i x hx j v hv=>?_⟩
   have:=hne _ ha
   rw [hb.cell ⟨b,off + i * 3 + j,none⟩ hlt this]
   exact hc i x hx j v hv
theorem grown_but {w w':World} {g:Nat} (h:w.grownBy w' (some g)) (hg:g≤w.heap.size):But g w w':=
 ⟨⟨h.os,h.tape,h.output,h.size,fun k hk=>h.block k (by omega) (fun e=>by cases e;omega)⟩,h.size,fun q hq hne=>h.cell_far q hq (fun e=>hne (by cases e;rfl))⟩
theorem grown_none {w w':World} (h:w.grownBy w' none):Below w.heap.size w w':=⟨h.os,h.tape,h.output,h.size,fun k hk=>h.block k hk (by simp)⟩
theorem HV.ok.grown {w w':World} {row:Option Nat} {h:HV} (k:h.ok w) (hg:w.grownBy w' row) (hr:∀ g,row=some g→g≤w.heap.size∧h.off g):h.ok w':=by
 cases row with
 |none=>exact k.below (grown_none hg) (Nat.le_refl _)
 |some g=>exact k.but (grown_but hg (hr g rfl).1) (hr g rfl).2
theorem AV.ok.grown {w w':World} {row:Option Nat} {x:AV} (k:x.ok w) (hg:w.grownBy w' row) (hr:∀ g,row=some g→g≤w.heap.size∧x.off g):x.ok w':=by
 cases row with
 |none=>exact AV.ok.below k (grown_none hg) (Nat.le_refl _)
 |some g=>exact AV.ok.but k (grown_but hg (hr g rfl).1) (hr g rfl).2
theorem Lay.grownA {w w':World} {B:Nat} {vs:List Value} {row:Option Nat} (h:Lay w B vs) (hg:w.grownBy w' row) (hne:some B≠row):Lay w' B vs:=
 ⟨fun i v hv=>hg.cell (h.cell i v hv) hne,fun i=>by rw [hg.frozen_far ⟨B,i,none⟩ h.lt hne];exact h.ice i,Nat.lt_of_lt_of_le h.lt hg.size⟩
theorem Ints.setOffA {w:World} {a:Option Addr} {n c:Nat} {l:List Int} (h:Ints w a n c l) (p:Addr) (v:Value) (hne:n=0∨∀ x,a=some x→x.block≠p.block):Ints (w.setCell p v) a n c l:=by
 rcases hne with h0|hne
 ·exact ⟨h.len,h.le,h.max,h.nil,.inl h0,h.wf⟩
 ·exact h.setCell p v hne
structure OwnA (w:World) (base:Nat) (v:Value) (X:List AV):Prop where
 own:w.ownsRow base 56 3 v X.length (acells X)
 ok:∀ x∈X,x.ok w
 off:∀ x∈X,∀ g,v.ownBlock=some g→x.off g
theorem OwnA.nil (w:World) (base:Nat):OwnA w base (.slice none 0 0) []:=⟨World.ownsRow_nil w base _ 3,by simp,by simp⟩
theorem OwnA.below {w w':World} {base:Nat} {v:Value} {X:List AV} (h:OwnA w base v X) (hb:Below w.heap.size w w'):OwnA w' base v X:=
 ⟨h.own.kept (grown_below hb) (by cases v.ownBlock<;>simp),fun x hx=>AV.ok.below (h.ok x hx) hb (Nat.le_refl _),h.off⟩
theorem OwnA.mono {w:World} {base base':Nat} {v:Value} {X:List AV} (h:OwnA w base v X) (hb:base'≤base):OwnA w base' v X:=by
 refine ⟨⟨h.own.1,?_⟩,h.ok,h.off⟩
 rcases h.own.2 with h|⟨g,cap,cur,e,hg,r⟩
 ·exact .inl h
 ·exact .inr ⟨g,cap,cur,e,Nat.le_trans hb hg,r⟩
theorem OwnA.recs {w:World} {base:Nat} {v:Value} {X:List AV} (h:OwnA w base v X):∃ a c,v=.slice a X.length c∧Answers w a X.length c X∧∀ y,a=some y→base≤y.block:=by
 rcases h.own.2 with ⟨rfl,h0⟩|⟨g,cap,cur,rfl,hb,hg,hn,hm,hs,hc⟩
 ·rw [List.length_eq_zero_iff] at h0
  subst h0
  exact ⟨none,0,rfl,Answers.nilSlice w,fun y e=>by cases e⟩
 ·refine ⟨_,cap,rfl,?_,fun x e=>by cases e;exact hb⟩
  refine ⟨rfl,hn,by simp [maxLen] at hm;omega,fun e=>(by cases e),.inr ⟨g,0,rfl,(Array.getElem?_eq_some_iff.1 hg).1,fun i x hx j v hv=>?_⟩,h.ok⟩
  have hj:j < 3:=(List.getElem?_eq_some_iff.1 hv).1
  have hi:=(List.getElem?_eq_some_iff.1 hx).1
  have hr:=acells_get X i x hx j v hv
  rw [← hc,List.getElem?_take,if_pos (by omega)] at hr
  rw [cell_of_row w g _ _ _ _ hg,Nat.zero_add]
  simpa using hr
theorem OwnA.snoc {w w':World} {base:Nat} {v:Value} {X:List AV} {x:AV} {g cap:Nat} (h:OwnA w base v X) (hx:x.ok w) (ho:∀ g,v.ownBlock=some g→x.off g)
  (hown:w'.ownsRow base 56 3 (.slice (some ⟨g,0,none⟩) (X.length + 1) cap) (X.length + 1) (acells X++x.cells)) (hg:w.grownBy w' v.ownBlock) (hat:v.ownBlock=some g∨g=w.heap.size) :
  OwnA w' base (.slice (some ⟨g,0,none⟩) (X.length + 1) cap) (X++[x]):=by
 have all:∀ y∈X++[x],y.ok w∧(∀ k,v.ownBlock=some k→y.off k):=by
  intro y hy
  rcases List.mem_append.1 hy with hy|hy
  ·exact ⟨h.ok y hy,h.off y hy⟩
  ·obtain rfl:y=x:=by simpa using hy
   exact ⟨hx,ho⟩
 refine ⟨by rw [List.length_append,acells_snoc];exact hown,fun y hy=>?_,fun y hy k e=>?_⟩
 ·obtain ⟨h1,h2⟩:=all y hy
  refine Ints.grown h1 hg ?_
  cases e:v.ownBlock with
  |none=>exact .inr fun z _ q=>by cases q
  |some k=>
   rcases h2 k e with h0|h0
   ·exact .inl h0
   ·exact .inr fun z hz q=>h0 z hz (by cases q;rfl)
 ·obtain ⟨h1,h2⟩:=all y hy
  obtain rfl:g=k:=by simpa [Value.ownBlock] using e
  rcases hat with hat|rfl
  ·exact h2 _ hat
  ·exact AV.ok.off h1 (Nat.le_refl _)
theorem OwnA.far {w:World} {base:Nat} {v:Value} {X:List AV} (h:OwnA w base v X) (p:Addr) (u:Value) (hp:p.block < base) (hX:∀ x∈X,x.off p.block):OwnA (w.setCell p u) base v X:=
 ⟨ownsRow_setCell_below h.own hp u,fun x hx=>Ints.setOffA (h.ok x hx) p u (hX x hx),h.off⟩
end Go.Proofs.YtabafikicbkkdaaGreatDoor
