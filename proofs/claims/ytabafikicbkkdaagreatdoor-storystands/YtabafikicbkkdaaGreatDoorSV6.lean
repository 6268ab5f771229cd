/- The contract of cmd.Parse; no condition but that the text is no longer than any that can be, and the package-level variables are as their texts lay them. -/
import Derived.Test.YtabafikicbkkdaaGreatDoorSV5
import Derived.Test.YtabafikicbkkdaaGreatDoorSV3
import Derived.Deep.DeepCutAuto
namespace Go.Proofs.YtabafikicbkkdaaGreatDoor
open Go.RowKit
set_option linter.unusedVariables false
set_option maxHeartbeats 1000000
set_option maxRecDepth 100000
set_option linter.unusedSimpArgs false
def pieces (s:ByteArray):List ByteArray:=Lib.splitB ⟨#[32]⟩ 0 (Lib.countB s ⟨#[32]⟩) s
def parseC (s:ByteArray):PC×Int:=if 60000 < s.size then (zeroC,2) else match readC (pieces s) with
 |none=>(zeroC,1)
 |some b=>if checkC b=0 then (b,0) else (zeroC,checkC b)
theorem splitB_size (sep:ByteArray):∀ (k:Nat) (s:ByteArray),∀ t∈Lib.splitB sep 0 k s,t.size≤s.size
 |0,s,t,h=>by
  simp [Lib.splitB] at h
  subst h
  exact Nat.le_refl _
 |k + 1,s,t,h=>by
  unfold Lib.splitB at h
  split at h
  ·simp at h
   subst h
   exact Nat.le_refl _
  ·rcases List.mem_cons.1 h with rfl|h
   ·rw [ByteArray.size_extract]
    omega
   ·have:=splitB_size sep k _ t h
    rw [ByteArray.size_extract] at this
    omega
def ParseRes (B:Nat) (w':World) (e:Ending) (r:PC×Int):Prop:=∃ a n,e=.returned (.tuple #[cmdV a n n r.1,.int .i64 r.2])∧Ints w' a n n r.1.d∧∀ x,a=some x→B≤x.block
theorem ParseRes.zero {B:Nat} {w':World} {e:Ending} {x:Int} (h:e=.returned (.tuple #[cmdV none 0 0 zeroC,.int .i64 x])):ParseRes B w' e (zeroC,x):=
 ⟨none,0,h,Ints.nilSlice _,fun x e=>by cases e⟩
theorem Parse_c (s:ByteArray) (w:World) (hE:Env w) (hs:s.size≤9223372036854775807) :
  Calls Tryz.prog 104 #[.string s] w fun e w'=>ParseRes w.heap.size w' e (parseC s)∧Below w.heap.size w w':=by
 by_cases hlong:60000 < s.size
 ·have HR:Hid (parseC s=(zeroC,2)):=hide (by unfold parseC;rw [if_pos hlong])
  have h1:(60000:Int) < (s.size:Int):=by omega
  go_enter Tryz.func104,Tryz.ntmps104
  go_wp2
  refine bodyPost_ret (v:=.tuple #[cmdV none 0 0 zeroC,.int .i64 2]) (by simp [results,Tryz.results104,go_sem,cmdV,zeroC]) rfl ⟨?_,?_⟩
  ·rw [HR.out]
   exact .zero rfl
  ·(repeat first|exact bel0|assumption|refine bel1 ?_|refine bel2 ?_|refine bel3 ?_|refine belowT ?_ (by assumption)|refine bel5 ?_ (by simp;try omega))
 ·have HR:Hid (parseC s=match readC (pieces s) with
   |none=>(zeroC,1)
   |some b=>if checkC b=0 then (b,0) else (zeroC,checkC b)):=hide (by unfold parseC;rw [if_neg hlong])
  have h1:¬ (60000:Int) < (s.size:Int):=by omega
  have hcnt:=Lib.countB_le ⟨#[32]⟩ (by decide) _ s (Nat.le_refl _)
  have hlen:=splitB_len s
  have hsz:=splitB_size ⟨#[32]⟩ (Lib.countB s ⟨#[32]⟩) s
  have hE1:=fun o=>hE.below (belowA (Below.refl w.heap.size w) o)
  obtain ⟨m,hm⟩:=hE.max
  replace hm:=fun o=>past1 hm o
  unfold pieces at HR
  generalize hp:Lib.splitB ⟨#[32]⟩ 0 (Lib.countB s ⟨#[32]⟩) s=ps at *
  have HP:=hide hp
  clear hp
  go_enter Tryz.func104,Tryz.ntmps104
  go_wp2_with fail
  refine (Tryz.strings_Split s ⟨#[32]⟩ m _ (by omega) (hm _) (by decide)).mono ?_
  rw [HP.out]
  rintro e w1 ⟨rfl,rfl⟩
  generalize Lib.countB s ⟨#[32]⟩=cn at *
  go_wp2_with fail
  have q0:((w.alloc (.cells #[.int .i64 0,.int .i64 0,.int .i64 0,.int .i64 0,.slice none 0 0] 50)).alloc (.cells (List.map Value.string ps).toArray 9)).heap[w.heap.size]?=some (.cells #[.int .i64 0,.int .i64 0,.int .i64 0,.int .i64 0,.slice none 0 0] 50 (0,0)):=by
   rw [Below.heap_alloc _ _ _ (by simp)]
   exact heap_new _ _
  have q1:((w.alloc (.cells #[.int .i64 0,.int .i64 0,.int .i64 0,.int .i64 0,.slice none 0 0] 50)).alloc (.cells (List.map Value.string ps).toArray 9)).heap[w.heap.size + 1]?=some (.cells (List.map Value.string ps).toArray 9 (0,0)):=heap_new2 _ _ _
  have b2:Below w.heap.size w ((w.alloc (.cells #[.int .i64 0,.int .i64 0,.int .i64 0,.int .i64 0,.slice none 0 0] 50)).alloc (.cells (List.map Value.string ps).toArray 9)):=by (repeat first|exact bel0|assumption|refine bel1 ?_|refine bel2 ?_|refine bel3 ?_|refine belowT ?_ (by assumption)|refine bel5 ?_ (by simp;try omega))
  have E2:=hE.below b2
  have z2:((w.alloc (.cells #[.int .i64 0,.int .i64 0,.int .i64 0,.int .i64 0,.slice none 0 0] 50)).alloc (.cells (List.map Value.string ps).toArray 9)).heap.size=w.heap.size + 2:=by simp
  generalize ((w.alloc (.cells #[.int .i64 0,.int .i64 0,.int .i64 0,.int .i64 0,.slice none 0 0] 50)).alloc (.cells (List.map Value.string ps).toArray 9))=w2 at *
  obtain ⟨u,us,rfl⟩:∃ u us,ps=u :: us:=by
   cases ps with
   |nil=>simp at hlen
   |cons u us=>exact ⟨u,us,rfl⟩
  have hul:us.length=cn:=by simpa using hlen
  have Q0:=hide q0
  have Q1:=hide q1
  have Z2:=hide z2
  clear q0 q1 z2 hE1 hm
  refine (read_c (w.heap.size + 1) cn u us w2 E2 hul (by omega) (fun t ht=>by have:=hsz t (by simp [ht]);omega) (by rw [cell_of_row _ _ _ _ _ _ Q1.out];rfl) (fun i hi=>by
   rw [cell_of_row _ _ _ _ _ _ Q1.out]
   simp [Nat.add_comm 1 i,List.getD]
   rw [List.getElem?_eq_getElem (by omega)]
   simp)).mono ?_
  cases hrd:readC (u :: us) with
  |none=>
   rw [hrd] at HR
   rintro e w3 ⟨rfl,hb3⟩
   have c0:∀ i,w3.cell? ⟨w.heap.size,i,none⟩=_:=fun i=>(hb3.cell (p:=⟨w.heap.size,i,none⟩) (by have:=Z2.out;simp;omega)).trans (cell_of_row _ _ _ _ _ _ Q0.out)
   have f0:∀ i,w3.frozen? ⟨w.heap.size,i,none⟩=false:=fun i=>(hb3.frozen (p:=⟨w.heap.size,i,none⟩) (by have:=Z2.out;simp;omega)).trans (frozen_rowQ Q0.out)
   have hlt3:w.heap.size < w3.heap.size:=by have:=hb3.size;have:=Z2.out;omega
   have c1:∀ i,(w3.alloc (.cells #[.int .i64 0,.int .i64 0,.int .i64 0,.int .i64 0,.slice none 0 0] 50)).cell? ⟨w.heap.size,i,none⟩=_:=fun i=>(World.cell?_alloc_lt w3 _ ⟨w.heap.size,i,none⟩ hlt3).trans (c0 i)
   have f1:∀ i,(w3.alloc (.cells #[.int .i64 0,.int .i64 0,.int .i64 0,.int .i64 0,.slice none 0 0] 50)).frozen? ⟨w.heap.size,i,none⟩=false:=fun i=>(World.frozen?_alloc_old w3 _ ⟨w.heap.size,i,none⟩ (Nat.ne_of_lt hlt3)).trans (f0 i)
   have b4:Below w.heap.size w (w3.alloc (.cells #[.int .i64 0,.int .i64 0,.int .i64 0,.int .i64 0,.slice none 0 0] 50)):=by (repeat first|exact bel0|assumption|refine bel1 ?_|refine bel2 ?_|refine bel3 ?_|refine belowT ?_ (by assumption)|refine bel5 ?_ (by simp;try omega))
   clear c0 f0
   unfold cmdV zeroC
   go_upto_region 4 with fail
   generalize w3.alloc (.cells #[.int .i64 0,.int .i64 0,.int .i64 0,.int .i64 0,.slice none 0 0] 50)=w4 at *
   go_wp2
   refine bodyPost_ret (v:=.tuple #[cmdV none 0 0 zeroC,.int .i64 1]) (by simp [results,Tryz.results104,go_sem,cmdV,zeroC,c1]) rfl ⟨?_,?_⟩
   ·rw [HR.out]
    exact .zero rfl
   ·exact five_below b4 _ _ _ _ _
  |some b=>
   rw [hrd] at HR
   rintro e w3 ⟨⟨a3,n3,rfl,i3,x3⟩,hb3⟩
   have E3:=E2.below hb3
   have c0:∀ i,w3.cell? ⟨w.heap.size,i,none⟩=_:=fun i=>(hb3.cell (p:=⟨w.heap.size,i,none⟩) (by have:=Z2.out;simp;omega)).trans (cell_of_row _ _ _ _ _ _ Q0.out)
   have f0:∀ i,w3.frozen? ⟨w.heap.size,i,none⟩=false:=fun i=>(hb3.frozen (p:=⟨w.heap.size,i,none⟩) (by have:=Z2.out;simp;omega)).trans (frozen_rowQ Q0.out)
   have hlt3:w.heap.size < w3.heap.size:=by have:=hb3.size;have:=Z2.out;omega
   have c1:∀ i,(w3.alloc (.cells #[.int .i64 b.k,.int .i64 b.z,.int .i64 b.n,.int .i64 b.at',.slice a3 n3 n3] 50)).cell? ⟨w.heap.size,i,none⟩=_:=fun i=>(World.cell?_alloc_lt w3 _ ⟨w.heap.size,i,none⟩ hlt3).trans (c0 i)
   have f1:∀ i,(w3.alloc (.cells #[.int .i64 b.k,.int .i64 b.z,.int .i64 b.n,.int .i64 b.at',.slice a3 n3 n3] 50)).frozen? ⟨w.heap.size,i,none⟩=false:=fun i=>(World.frozen?_alloc_old w3 _ ⟨w.heap.size,i,none⟩ (Nat.ne_of_lt hlt3)).trans (f0 i)
   have d1:∀ i,(w3.alloc (.cells #[.int .i64 b.k,.int .i64 b.z,.int .i64 b.n,.int .i64 b.at',.slice a3 n3 n3] 50)).cell? ⟨w3.heap.size,i,none⟩=_:=fun i=>cell_of_row _ _ _ _ _ _ (heap_new w3 (.cells #[.int .i64 b.k,.int .i64 b.z,.int .i64 b.n,.int .i64 b.at',.slice a3 n3 n3] 50))
   have b4:Below w.heap.size w (w3.alloc (.cells #[.int .i64 b.k,.int .i64 b.z,.int .i64 b.n,.int .i64 b.at',.slice a3 n3 n3] 50)):=by (repeat first|exact bel0|assumption|refine bel1 ?_|refine bel2 ?_|refine bel3 ?_|refine belowT ?_ (by assumption)|refine bel5 ?_ (by simp;try omega))
   have i4:Ints (w3.alloc (.cells #[.int .i64 b.k,.int .i64 b.z,.int .i64 b.n,.int .i64 b.at',.slice a3 n3 n3] 50)) a3 n3 n3 b.d:=i3.below (B:=w3.heap.size) (by (repeat first|exact bel0|assumption|refine bel1 ?_|refine bel2 ?_|refine bel3 ?_|refine belowT ?_ (by assumption)|refine bel5 ?_ (by simp;try omega))) (Nat.le_refl _)
   have E4:Env (w3.alloc (.cells #[.int .i64 b.k,.int .i64 b.z,.int .i64 b.n,.int .i64 b.at',.slice a3 n3 n3] 50)):=E3.below (by (repeat first|exact bel0|assumption|refine bel1 ?_|refine bel2 ?_|refine bel3 ?_|refine belowT ?_ (by assumption)|refine bel5 ?_ (by simp;try omega)))
   have hlt4:w3.heap.size < (w3.alloc (.cells #[.int .i64 b.k,.int .i64 b.z,.int .i64 b.n,.int .i64 b.at',.slice a3 n3 n3] 50)).heap.size:=by simp
   clear c0 f0 i3 E3
   unfold cmdV
   go_upto_region 4 with fail
   generalize w3.alloc (.cells #[.int .i64 b.k,.int .i64 b.z,.int .i64 b.n,.int .i64 b.at',.slice a3 n3 n3] 50)=w4 at *
   go_wp2_with fail
   have HC:=cmdCheck_c a3 n3 n3 b w4 E4.shp i4
   unfold cmdV at HC
   refine HC.mono ?_
   clear HC
   rintro e w5 ⟨rfl,hb5⟩
   have c2:∀ i,w5.cell? ⟨w.heap.size,i,none⟩=_:=fun i=>(hb5.cell (p:=⟨w.heap.size,i,none⟩) (Nat.lt_trans hlt3 hlt4)).trans (c1 i)
   have f2:∀ i,w5.frozen? ⟨w.heap.size,i,none⟩=false:=fun i=>(hb5.frozen (p:=⟨w.heap.size,i,none⟩) (Nat.lt_trans hlt3 hlt4)).trans (f1 i)
   have d2:∀ i,w5.cell? ⟨w3.heap.size,i,none⟩=_:=fun i=>(hb5.cell (p:=⟨w3.heap.size,i,none⟩) hlt4).trans (d1 i)
   have b5:Below w.heap.size w w5:=by (repeat first|exact bel0|assumption|refine bel1 ?_|refine bel2 ?_|refine bel3 ?_|refine belowT ?_ (by assumption)|refine bel5 ?_ (by simp;try omega))
   have i5:=i4.below hb5 (Nat.le_refl _)
   have hne:∀ x,a3=some x→x.block≠w.heap.size:=fun x e=>by
    have:=x3 x e
    have:=Z2.out
    omega
   clear c1 f1 d1 i4 hb5
   by_cases hck:checkC b=0
   ·have HR2:Hid (parseC s=(b,0)):=hide (by rw [HR.out];simp [hck])
    rw [hck]
    go_wp2
    refine bodyPost_ret (v:=.tuple #[cmdV a3 n3 n3 b,.int .i64 0]) (by simp [results,Tryz.results104,go_sem,cmdV,c2]) rfl ⟨?_,five_below b5 _ _ _ _ _⟩
    rw [HR2.out]
    refine ⟨_,_,rfl,i5.five _ hne _ _ _ _ _,fun x e=>?_⟩
    have:=x3 x e
    have:=Z2.out
    omega
   ·have HR2:Hid (parseC s=(zeroC,checkC b)):=hide (by rw [HR.out];simp [hck])
    have hcb:(checkC b !=0)=true:=by simpa using hck
    generalize checkC b=cb at *
    go_wp2
    refine bodyPost_ret (v:=.tuple #[cmdV none 0 0 zeroC,.int .i64 cb]) (by simp [results,Tryz.results104,go_sem,cmdV,zeroC,c2]) rfl ⟨?_,five_below b5 _ _ _ _ _⟩
    rw [HR2.out]
    exact .zero rfl
end Go.Proofs.YtabafikicbkkdaaGreatDoor
namespace Go.Proofs.YtabafikicbkkdaaGreatDoor
open Go.RowKit
set_option linter.unusedVariables false
set_option maxHeartbeats 1000000
set_option maxRecDepth 100000
set_option linter.unusedSimpArgs false
def writeS (s:Int) (n:Nat):Int:=if n=8 then 4 else if s=2 then 2 else 1
theorem writeS_1 {s:Int} {n:Nat} (h:((n:Int)==8)=true):writeS s n=4:=by simp at h;simp [writeS];omega
theorem writeS_2 {s:Int} {n:Nat} (h:((n:Int)==8)=false) (hs:(s !=2)=true):writeS s n=1:=by simp at h hs;simp [writeS,hs];omega
theorem writeS_3 {s:Int} {n:Nat} (h:((n:Int)==8)=false) (hs:(s !=2)=false):writeS s n=s:=by simp at h hs;simp [writeS,hs];omega
theorem wake_c (g:Nat) (s:Int) (a:Option Addr) (n c:Nat) (w:World) (h0:w.cell? ⟨g,0,none⟩=some (.int .i64 s)) (h1:w.cell? ⟨g,1,none⟩=some (.slice a n c)) (f0:w.frozen? ⟨g,0,none⟩=false) (hn:n≤9223372036854775807) :
  Calls Tryz.prog 207 #[.pointer (some ⟨g,0,none⟩)] w fun e w'=>(∃ v,e=.returned v)∧Put w w' ⟨g,0,none⟩ (.int .i64 (writeS s n)):=by
 have hp:=Put.refl h0
 go_enter Tryz.func207,Tryz.ntmps207
 go_wp2
 ·go_end0
  exact ⟨⟨_,rfl⟩,by rw [writeS_1 ‹_›];exact (hp.set _).set _⟩
 ·go_end0
  exact ⟨⟨_,rfl⟩,by rw [writeS_2 ‹_› ‹_›];exact hp.set _⟩
 ·go_end0
  exact ⟨⟨_,rfl⟩,by rw [writeS_1 ‹_›];exact hp.set _⟩
 ·go_end0
  exact ⟨⟨_,rfl⟩,by rw [writeS_3 ‹_› ‹_›];exact hp⟩
end Go.Proofs.YtabafikicbkkdaaGreatDoor
namespace Go.Proofs.YtabafikicbkkdaaGreatDoor
open Go.RowKit
set_option linter.unusedVariables false
set_option maxHeartbeats 1000000
set_option maxRecDepth 100000
set_option linter.unusedSimpArgs false
theorem Write_bad (s:Int) (a:Option Addr) (n c:Nat) (l:List Int) (b:Option Addr) (m d:Nat) (k:List Int) (w:World) (h1:Ints w a n c l) (h2:Ints w b m d k) (hbad:writeE s l k≠0) :
  Calls Tryz.prog 180 #[.agg #[.int .i64 s,.slice a n c],.slice b m d] w fun e w'=>e=.returned (.tuple #[.agg #[.int .i64 0,.slice none 0 0],.int .i64 (writeE s l k)])∧Below w.heap.size w w':=by
 go_enter Tryz.func180,Tryz.ntmps180
 go_wp2_with fail
 refine (checkWrite_c s a n c l b m d k _ ?hi ?hj).mono ?hm
 case hi=>refine h1.below (B:=w.heap.size) ?_ (Nat.le_refl _);(repeat first|exact bel0|assumption|refine bel1 ?_|refine bel2 ?_|refine bel3 ?_|refine belowT ?_ (by assumption)|refine bel5 ?_ (by simp;try omega))
 case hj=>refine h2.below (B:=w.heap.size) ?_ (Nat.le_refl _);(repeat first|exact bel0|assumption|refine bel1 ?_|refine bel2 ?_|refine bel3 ?_|refine belowT ?_ (by assumption)|refine bel5 ?_ (by simp;try omega))
 rintro e w1 ⟨rfl,hb1⟩
 generalize hx:writeE s l k=x at *
 have HX:=hide hx
 clear hx
 have hx:(x !=0)=true:=by simpa using hbad
 clear hbad
 obtain ⟨hcl,hfr⟩:=bcell hb1
 have z1:w.heap.size + 1 < w1.heap.size:=by have:=hb1.size;simp at this;omega
 go_wp2
 refine bodyPost_ret (v:=.tuple #[.agg #[.int .i64 0,.slice none 0 0],.int .i64 x]) (by simp [results,Tryz.results180,go_sem,hcl,hfr]) rfl ⟨by rw [HX.out],?_⟩
 (repeat first|exact bel0|assumption|refine bel1 ?_|refine bel2 ?_|refine bel3 ?_|refine belowT ?_ (by assumption)|refine bel5 ?_ (by simp;try omega))
theorem writeE_ok {s:Int} {l k:List Int} (h:writeE s l k=0):checkZ s l=0∧1≤k.length∧l.length + k.length≤8∧k.any (outB 0 999)=false∧s≠4:=by
 unfold writeE at h
 by_cases h1:checkZ s l=0
 ·by_cases h2:outB 1 8 k.length=true
  ·simp [h1,h2] at h
  ·by_cases h3:k.any (outB 0 999)=true
   ·simp only [h1,h2,h3] at h;simp at h
   ·by_cases h4:s=4∨8 < l.length + k.length
    ·simp only [h1,h2,h3,h4] at h;simp at h
    ·have h5:1≤k.length:=by simp [outB] at h2;omega
     exact ⟨h1,h5,by omega,by simpa using h3,by omega⟩
 ·simp [h1] at h
theorem Write_ok (s:Int) (a:Option Addr) (n c:Nat) (l:List Int) (b:Option Addr) (m d:Nat) (k:List Int) (w:World) (h1:Ints w a n c l) (h2:Ints w b m d k) (hok:writeE s l k=0) :
  Calls Tryz.prog 180 #[.agg #[.int .i64 s,.slice a n c],.slice b m d] w fun e w'=>(∃ q,e=.returned (.tuple #[.agg #[.int .i64 (writeS s (n + m)),.slice (some ⟨q,0,none⟩) (n + m) (n + m)],.int .i64 0])∧Ints w' (some ⟨q,0,none⟩) (n + m) (n + m) (l++k)∧w.heap.size≤q)∧Below w.heap.size w w':=by
 have hw:=writeE_ok hok
 rw [h1.len,h2.len] at hw
 have hnm:n + m≤8:=hw.2.2.1
 have hm1:1≤m:=hw.2.1
 clear hw
 have HOK:=hide hok
 clear hok
 go_enter Tryz.func180,Tryz.ntmps180
 go_wp2_with fail
 refine (checkWrite_c s a n c l b m d k _ ?hi ?hj).mono ?hm
 case hi=>refine h1.below (B:=w.heap.size) ?_ (Nat.le_refl _);(repeat first|exact bel0|assumption|refine bel1 ?_|refine bel2 ?_|refine bel3 ?_|refine belowT ?_ (by assumption)|refine bel5 ?_ (by simp;try omega))
 case hj=>refine h2.below (B:=w.heap.size) ?_ (Nat.le_refl _);(repeat first|exact bel0|assumption|refine bel1 ?_|refine bel2 ?_|refine bel3 ?_|refine belowT ?_ (by assumption)|refine bel5 ?_ (by simp;try omega))
 rintro e w1 ⟨rfl,hb1⟩
 rw [HOK.out]
 have c0:w1.cell? ⟨w.heap.size,0,none⟩=some (.int .i64 s):=by rw [hb1.cell (by (first|(simp;done)|(simp;omega)))];go_simp
 have c1:w1.cell? ⟨w.heap.size,1,none⟩=some (.slice a n c):=by rw [hb1.cell (by (first|(simp;done)|(simp;omega)))];go_simp
 have r0:w1.cell? ⟨w.heap.size + 1,0,none⟩=some (.int .i64 0):=by rw [hb1.cell (by (first|(simp;done)|(simp;omega)))];go_simp
 have r1:w1.cell? ⟨w.heap.size + 1,1,none⟩=some (.slice none 0 0):=by rw [hb1.cell (by (first|(simp;done)|(simp;omega)))];go_simp
 have f0:w1.frozen? ⟨w.heap.size + 1,0,none⟩=false:=by rw [hb1.frozen (by (first|(simp;done)|(simp;omega)))];go_simp
 have f1:w1.frozen? ⟨w.heap.size + 1,1,none⟩=false:=by rw [hb1.frozen (by (first|(simp;done)|(simp;omega)))];go_simp
 have z1:w.heap.size + 1 < w1.heap.size:=by have:=hb1.size;simp at this;omega
 have z0:w.heap.size < w1.heap.size:=by omega
 have z00:w.heap.size < w1.heap.size + 1:=by omega
 have bw1:Below w.heap.size w w1:=by (repeat first|exact bel0|assumption|refine bel1 ?_|refine bel2 ?_|refine bel3 ?_|refine belowT ?_ (by assumption)|refine bel5 ?_ (by simp;try omega))
 have i1:=h1.below bw1 (Nat.le_refl _)
 have i2:=h2.below bw1 (Nat.le_refl _)
 clear h1 h2 hb1
 go_upto_region 4 with fail
 go_cut [7] (fun v7 wx=>∃ g q,v7=.pointer (some ⟨g,0,none⟩)∧q≠g∧w.heap.size + 1 < q∧Ints wx (some ⟨q,0,none⟩) (n + m) (n + m) (l++k)∧wx.cell? ⟨g,0,none⟩=some (.int .i64 s)∧wx.cell? ⟨g,1,none⟩=some (.slice (some ⟨q,0,none⟩) (n + m) (n + m))∧wx.frozen? ⟨g,0,none⟩=false∧w.heap.size + 1 < g∧Below w1.heap.size w1 wx)
 case first=>
  go_region_held3 (fun w'=>w'.cell? ⟨w.heap.size,0,none⟩=some (.int .i64 s)∧w'.cell? ⟨w.heap.size,1,none⟩=some (.slice a n c)) ((first|(go_simp;done)|(simp [*,World.cell?_alloc_at,World.cell?_alloc_past,World.cell?_alloc_some,World.cell?_setCell_far];done)))
   (first|(go_at_call 178;refine (join_c a n c l b m d k _ (by refine i1.below (B:=w1.heap.size) ?_ (Nat.le_refl _);(repeat first|exact bel0|assumption|refine bel1 ?_|refine bel2 ?_|refine bel3 ?_|refine belowT ?_ (by assumption)|refine bel5 ?_ (by simp;try omega))) (by refine i2.below (B:=w1.heap.size) ?_ (Nat.le_refl _);(repeat first|exact bel0|assumption|refine bel1 ?_|refine bel2 ?_|refine bel3 ?_|refine belowT ?_ (by assumption)|refine bel5 ?_ (by simp;try omega))) (by omega)).mono ?_;rintro e w2 ⟨⟨rfl,i3⟩,hb2⟩;(have e0:=hb2.cell (p:=⟨w.heap.size,0,none⟩) (by (first|(simp;done)|(simp;omega))));(have e1:=hb2.cell (p:=⟨w.heap.size,1,none⟩) (by (first|(simp;done)|(simp;omega))));(have e2:=hb2.cell (p:=⟨w1.heap.size,0,none⟩));(have e3:=hb2.cell (p:=⟨w1.heap.size,1,none⟩));(have e4:=hb2.frozen (p:=⟨w1.heap.size,0,none⟩));(have e5:=hb2.frozen (p:=⟨w1.heap.size,1,none⟩))))
  ·go_wp2_with fail
   go_meet
   case rel=>
    have hsz:=hb2.size
    have hlt:w1.heap.size < w2.heap.size:=by
     rcases i3.row with h|⟨b',o',e',hl',_⟩
     ·omega
     ·simp at e';omega
    exact ⟨_,_,rfl,by simp;omega,by simp;omega,i3.below (B:=w2.heap.size) (by (repeat first|exact bel0|assumption|refine bel1 ?_|refine bel2 ?_|refine bel3 ?_|refine belowT ?_ (by assumption)|refine bel5 ?_ (by simp;try omega))) (Nat.le_refl _),by go_simp,by go_simp,by go_simp,by omega,by (repeat first|exact bel0|assumption|refine bel1 ?_|refine bel2 ?_|refine bel3 ?_|refine belowT ?_ (by assumption)|refine bel5 ?_ (by simp;try omega))⟩
  ·go_wp2_with fail
   go_meet
   case rel=>
    have hsz:=hb2.size
    simp at hsz
    exact ⟨_,_,rfl,by simp,by simp;omega,(i3.setCell _ _ (by intro x hx;cases hx;simp)).setCell _ _ (by intro x hx;cases hx;simp),by go_simp,by go_simp,by go_simp,by omega,by (repeat first|exact bel0|assumption|refine bel1 ?_|refine bel2 ?_|refine bel3 ?_|refine belowT ?_ (by assumption)|refine bel5 ?_ (by simp;try omega))⟩
 case rest=>
  obtain ⟨g,q,rfl,hqg,hq,i3,d0,d1,df,hg,hb2⟩:=hcut
  have r02:wc.cell? ⟨w.heap.size + 1,0,none⟩=some (.int .i64 0):=by rw [hb2.cell (by (first|(simp;done)|(simp;omega)))];exact r0
  have r12:wc.cell? ⟨w.heap.size + 1,1,none⟩=some (.slice none 0 0):=by rw [hb2.cell (by (first|(simp;done)|(simp;omega)))];exact r1
  have f02:wc.frozen? ⟨w.heap.size + 1,0,none⟩=false:=by rw [hb2.frozen (by (first|(simp;done)|(simp;omega)))];exact f0
  have f12:wc.frozen? ⟨w.heap.size + 1,1,none⟩=false:=by rw [hb2.frozen (by (first|(simp;done)|(simp;omega)))];exact f1
  have bwc:Below w.heap.size w wc:=by (repeat first|exact bel0|assumption|refine bel1 ?_|refine bel2 ?_|refine bel3 ?_|refine belowT ?_ (by assumption)|refine bel5 ?_ (by simp;try omega))
  go_wp2_with fail
  refine (wake_c g s _ (n + m) (n + m) _ d0 d1 df (by omega)).mono ?_
  rintro e w3 ⟨⟨v,rfl⟩,hp⟩
  have p0:=hp.here
  have p1:w3.cell? ⟨g,1,none⟩=some (.slice (some ⟨q,0,none⟩) (n + m) (n + m)):=by rw [hp.other _ (by simp)];exact d1
  have r03:w3.cell? ⟨w.heap.size + 1,0,none⟩=some (.int .i64 0):=by rw [hp.other _ (by (first|(simp;done)|(simp;omega)))];exact r02
  have r13:w3.cell? ⟨w.heap.size + 1,1,none⟩=some (.slice none 0 0):=by rw [hp.other _ (by simp)];exact r12
  have f03:w3.frozen? ⟨w.heap.size + 1,0,none⟩=false:=by rw [hp.ice];exact f02
  have f13:w3.frozen? ⟨w.heap.size + 1,1,none⟩=false:=by rw [hp.ice];exact f12
  have i4:=i3.put hp (by intro x hx;cases hx;exact hqg)
  have bw3:Below w.heap.size w w3:=bwc.trans (hp.below.mono (by (first|(simp;done)|(simp;omega))))
  clear hp hb2 i1 i2 i3
  generalize hy:writeS s (n + m)=y at *
  have HY:=hide hy
  clear hy
  go_wp2
  refine bodyPost_ret (v:=.tuple #[.agg #[.int .i64 y,.slice (some ⟨q,0,none⟩) (n + m) (n + m)],.int .i64 0]) (by simp [results,Tryz.results180,go_sem,r03,r13,f03,f13]) rfl ⟨⟨_,by rw [HY.out],?_,by omega⟩,?_⟩
  ·exact (i4.setCell _ _ (by intro x hx;cases hx;simp;omega)).setCell _ _ (by intro x hx;cases hx;simp;omega)
  ·(repeat first|exact bel0|assumption|refine bel1 ?_|refine bel2 ?_|refine bel3 ?_|refine belowT ?_ (by assumption)|refine bel5 ?_ (by simp;try omega))
end Go.Proofs.YtabafikicbkkdaaGreatDoor
namespace Go.Proofs.YtabafikicbkkdaaGreatDoor
open Go.RowKit
set_option linter.unusedVariables false
set_option maxHeartbeats 1000000
set_option maxRecDepth 100000
set_option linter.unusedSimpArgs false
def readE (s:Int) (l:List Int) (p n:Int):Int:=
 if checkZ s l≠0 then checkZ s l else if outB 0 8 p || outB 0 (8 - p) n then 3 else if (l.length:Int) < p + n then 6 else 0
theorem checkRead_c (s:Int) (a:Option Addr) (n c:Nat) (l:List Int) (p k:Int) (w:World) (h1:Ints w a n c l) :
  Calls Tryz.prog 177 #[.agg #[.int .i64 s,.slice a n c],.int .i64 p,.int .i64 k] w fun e w'=>e=.returned (.int .i64 (readE s l p k))∧Below w.heap.size w w':=by
 have hl1:=hide h1.len
 have hm1:=h1.max
 have hc1:=h1.le
 go_enter Tryz.func177,Tryz.ntmps177
 go_wp2_with fail
 refine (Check_c s a n c l _ ?hi).mono ?hm
 case hi=>refine h1.below (B:=w.heap.size) ?_ (Nat.le_refl _);(repeat first|exact bel0|assumption|refine bel1 ?_|refine bel2 ?_|refine bel3 ?_|refine belowT ?_ (by assumption)|refine bel5 ?_ (by simp;try omega))
 rintro e w1 ⟨rfl,hb1⟩
 have c1:w1.cell? ⟨w.heap.size,1,none⟩=some (.slice a n c):=by rw [hb1.cell (by (first|(simp;done)|(simp;omega)))];go_simp
 have z1:w.heap.size < w1.heap.size:=by have:=hb1.size;simp at this;omega
 have c14:=past4 c1
 have c12:=past2 c1
 generalize hchk:checkZ s l=x
 have HCHK:=hide hchk
 clear hchk
 by_cases hx:(x !=0)=true
 ·go_wp2
  go_ret
  exact ⟨ret_int (by have:=HCHK.out;simp at hx;simp [readE,this,hx]),by (repeat first|exact bel0|assumption|refine bel1 ?_|refine bel2 ?_|refine bel3 ?_|refine belowT ?_ (by assumption)|refine bel5 ?_ (by simp;try omega))⟩
 ·have hx0:(x !=0)=false:=by simpa using hx
  clear hx
  cases hq:outB 0 8 p
  ·have hpp:0≤p∧p≤8:=by simp [outB] at hq;omega
   obtain ⟨hp1,hp2⟩:=hpp
   go_wp2_with (first|(go_at_call 168;refine (outside_c _ _ _).mono ?_;rintro e w' ⟨rfl,rfl⟩)|(go_at_call_of 200 p;refine (outside1_c p 0 8 _ _ _ (by (first|(go_simp;done)|(simp [*,World.cell?_alloc_at,World.cell?_alloc_past,World.cell?_alloc_some,World.cell?_setCell_far];done))) (by (first|(go_simp;done)|(simp [*,World.cell?_alloc_at,World.cell?_alloc_past,World.cell?_alloc_some,World.cell?_setCell_far];done)))).mono ?_;rintro e w' ⟨rfl,rfl⟩))
   refine (outside1_c k 0 (8 - p) _ _ _ (by (first|(go_simp;done)|(simp [*,World.cell?_alloc_at,World.cell?_alloc_past,World.cell?_alloc_some,World.cell?_setCell_far];done))) (by (first|(go_simp;done)|(simp [*,World.cell?_alloc_at,World.cell?_alloc_past,World.cell?_alloc_some,World.cell?_setCell_far];done)))).mono ?_
   rintro e w' ⟨rfl,rfl⟩
   cases hr:outB 0 (8 - p) k
   ·have hkk:0≤k∧k≤8 - p:=by simp [outB] at hr;omega
    obtain ⟨hk1,hk2⟩:=hkk
    go_wp2
    ·go_ret
     exact ⟨ret_int (by have e1:=HCHK.out;have e2:=hl1.out;simp at hx0;simp [readE,e1,hx0,hq,hr];omega),by (repeat first|exact bel0|assumption|refine bel1 ?_|refine bel2 ?_|refine bel3 ?_|refine belowT ?_ (by assumption)|refine bel5 ?_ (by simp;try omega))⟩
    ·go_ret
     exact ⟨ret_int (by have e1:=HCHK.out;have e2:=hl1.out;simp at hx0;simp [readE,e1,hx0,hq,hr];omega),by (repeat first|exact bel0|assumption|refine bel1 ?_|refine bel2 ?_|refine bel3 ?_|refine belowT ?_ (by assumption)|refine bel5 ?_ (by simp;try omega))⟩
   ·go_wp2
    go_ret
    exact ⟨ret_int (by have e1:=HCHK.out;simp at hx0;simp [readE,e1,hx0,hq,hr]),by (repeat first|exact bel0|assumption|refine bel1 ?_|refine bel2 ?_|refine bel3 ?_|refine belowT ?_ (by assumption)|refine bel5 ?_ (by simp;try omega))⟩
  ·go_wp2_with (first|(go_at_call 168;refine (outside_c _ _ _).mono ?_;rintro e w' ⟨rfl,rfl⟩)|(go_at_call 200;refine (outside1_c p 0 8 _ _ _ (by (first|(go_simp;done)|(simp [*,World.cell?_alloc_at,World.cell?_alloc_past,World.cell?_alloc_some,World.cell?_setCell_far];done))) (by (first|(go_simp;done)|(simp [*,World.cell?_alloc_at,World.cell?_alloc_past,World.cell?_alloc_some,World.cell?_setCell_far];done)))).mono ?_;rintro e w' ⟨rfl,rfl⟩))
   go_ret
   exact ⟨ret_int (by have:=HCHK.out;simp at hx0;simp [readE,this,hx0,hq]),by (repeat first|exact bel0|assumption|refine bel1 ?_|refine bel2 ?_|refine bel3 ?_|refine belowT ?_ (by assumption)|refine bel5 ?_ (by simp;try omega))⟩
theorem readE_ok {s:Int} {l:List Int} {p n:Int} (h:readE s l p n=0):checkZ s l=0∧0≤p∧p≤8∧0≤n∧n≤8 - p∧p + n≤l.length:=by
 unfold readE at h
 by_cases h1:checkZ s l=0
 ·cases h2:outB 0 8 p
  ·cases h3:outB 0 (8 - p) n
   ·by_cases h4:(l.length:Int) < p + n
    ·simp [h1,h2,h3,h4] at h
    ·simp [outB] at h2 h3
     exact ⟨h1,by omega,by omega,by omega,by omega,by omega⟩
   ·simp [h1,h2,h3] at h
  ·simp [h1,h2] at h
 ·simp [h1] at h
theorem Read_bad (s:Int) (a:Option Addr) (n c:Nat) (l:List Int) (p k:Int) (w:World) (h1:Ints w a n c l) (hbad:readE s l p k≠0) :
  Calls Tryz.prog 155 #[.agg #[.int .i64 s,.slice a n c],.int .i64 p,.int .i64 k] w fun e w'=>e=.returned (.tuple #[.slice none 0 0,.int .i64 (readE s l p k)])∧Below w.heap.size w w':=by
 go_enter Tryz.func155,Tryz.ntmps155
 go_wp2_with fail
 refine (checkRead_c s a n c l p k _ ?hi).mono ?hm
 case hi=>refine h1.below (B:=w.heap.size) ?_ (Nat.le_refl _);(repeat first|exact bel0|assumption|refine bel1 ?_|refine bel2 ?_|refine bel3 ?_|refine belowT ?_ (by assumption)|refine bel5 ?_ (by simp;try omega))
 rintro e w1 ⟨rfl,hb1⟩
 generalize hx:readE s l p k=x at *
 have HX:=hide hx
 clear hx
 have hx:(x !=0)=true:=by simpa using hbad
 clear hbad
 go_wp2
 go_ret2
 exact ⟨ret_vi HX.out.symm,by (repeat first|exact bel0|assumption|refine bel1 ?_|refine bel2 ?_|refine bel3 ?_|refine belowT ?_ (by assumption)|refine bel5 ?_ (by simp;try omega))⟩
theorem Ints.cut {w:World} {a:Option Addr} {n c:Nat} {l:List Int} (h:Ints w a n c l) (i j:Nat) (hij:i + j≤n) (a':Option Addr) (ha:c≠i→a'=a.map (·.add i)):Ints w a' j (c - i) ((l.drop i).take j):=by
 have hl:=h.len
 have hle:=h.le
 refine ⟨by simp;omega,by omega,by have:=h.max;omega,fun e=>?_,?_,fun x hx=>h.wf x (List.mem_of_mem_drop (List.mem_of_mem_take hx))⟩
 ·by_cases hci:c=i
  ·omega
  ·have:=ha hci
   rw [e] at this
   cases a with
   |none=>have:=h.nil rfl;omega
   |some x=>simp at this
 ·by_cases hj:j=0
  ·exact .inl hj
  ·rcases h.row with h0|⟨b,off,ea,hlt,hc⟩
   ·omega
   ·refine .inr ⟨b,off + i,?_,hlt,fun q hq=>?_⟩
    ·rw [ha (by omega),ea];simp [addr_add]
    ·rw [Nat.add_assoc,hc (i + q) (by omega)]
     simp [List.getD,List.getElem?_take,hq]
theorem Read_ok (s:Int) (a:Option Addr) (n c:Nat) (l:List Int) (p k:Int) (w:World) (h1:Ints w a n c l) (hok:readE s l p k=0) :
  Calls Tryz.prog 155 #[.agg #[.int .i64 s,.slice a n c],.int .i64 p,.int .i64 k] w fun e w'=>(∃ q,e=.returned (.tuple #[.slice (some ⟨q,0,none⟩) k.toNat k.toNat,.int .i64 0])∧Ints w' (some ⟨q,0,none⟩) k.toNat k.toNat ((l.drop p.toNat).take k.toNat)∧w.heap.size≤q)∧Below w.heap.size w w':=by
 obtain ⟨_,hp1,hp2,hk1,hk2,hpk⟩:=readE_ok hok
 rw [h1.len] at hpk
 have HOK:=hide hok
 have hle:=h1.le
 clear hok
 obtain ⟨i,rfl⟩:=Int.eq_ofNat_of_zero_le hp1
 obtain ⟨j,rfl⟩:=Int.eq_ofNat_of_zero_le hk1
 rw [Int.toNat_natCast,Int.toNat_natCast]
 go_enter Tryz.func155,Tryz.ntmps155
 go_wp2_with fail
 refine (checkRead_c s a n c l i j _ ?hi).mono ?hm
 case hi=>refine h1.below (B:=w.heap.size) ?_ (Nat.le_refl _);(repeat first|exact bel0|assumption|refine bel1 ?_|refine bel2 ?_|refine bel3 ?_|refine belowT ?_ (by assumption)|refine bel5 ?_ (by simp;try omega))
 rintro e w1 ⟨rfl,hb1⟩
 rw [HOK.out]
 have c1:w1.cell? ⟨w.heap.size,1,none⟩=some (.slice a n c):=by rw [hb1.cell (by (first|(simp;done)|(simp;omega)))];go_simp
 have bw1:Below w.heap.size w w1:=by (repeat first|exact bel0|assumption|refine bel1 ?_|refine bel2 ?_|refine bel3 ?_|refine belowT ?_ (by assumption)|refine bel5 ?_ (by simp;try omega))
 have i1:=h1.below bw1 (Nat.le_refl _)
 clear h1 hb1
 go_wp2_with fail
 ·have i2:=i1.cut i j (by omega) a (fun h=>absurd ‹c=i› h)
  rw [show c - i=0 by have:=‹c=i›;omega] at i2
  refine (join_none a j 0 _ none 0 _ i2 (by omega)).mono ?_
  rintro e w2 ⟨⟨rfl,i3⟩,hb2⟩
  go_wp2
  go_ret2
  exact ⟨⟨_,rfl,i3,bw1.size⟩,by (repeat first|exact bel0|assumption|refine bel1 ?_|refine bel2 ?_|refine bel3 ?_|refine belowT ?_ (by assumption)|refine bel5 ?_ (by simp;try omega))⟩
 ·have i2:=i1.cut i j (by omega) (Option.map (fun x=>x.add i) a) (fun _=>rfl)
  refine (join_none _ j (c - i) _ none 0 _ i2 (by omega)).mono ?_
  rintro e w2 ⟨⟨rfl,i3⟩,hb2⟩
  go_wp2
  go_ret2
  exact ⟨⟨_,rfl,i3,bw1.size⟩,by (repeat first|exact bel0|assumption|refine bel1 ?_|refine bel2 ?_|refine bel3 ?_|refine belowT ?_ (by assumption)|refine bel5 ?_ (by simp;try omega))⟩
end Go.Proofs.YtabafikicbkkdaaGreatDoor
namespace Go.Proofs.YtabafikicbkkdaaGreatDoor
open Go.RowKit
set_option linter.unusedVariables false
set_option maxHeartbeats 1000000
set_option maxRecDepth 100000
set_option linter.unusedSimpArgs false
end Go.Proofs.YtabafikicbkkdaaGreatDoor
namespace Go.Proofs.YtabafikicbkkdaaGreatDoor
open Go.RowKit
set_option linter.unusedVariables false
set_option maxHeartbeats 1000000
set_option maxRecDepth 100000
set_option linter.unusedSimpArgs false
theorem OwnI.alloc {w:World} {base:Nat} {v:Value} {l:List Int} (h:OwnI w base v l) (o:Obj):OwnI (w.alloc o) base v l:=World.ownsRow.alloc h o
theorem OwnI.own {w:World} {base:Nat} {v:Value} {l:List Int} (h:OwnI w base v l):∀ k,v.ownBlock=some k→base≤k:=by
 intro k e
 obtain ⟨_,h⟩:=h
 rcases h with ⟨rfl,_⟩|⟨g,cap,cur,rfl,hb,_⟩
 ·cases e
 ·simp [Value.ownBlock] at e;omega
theorem OwnI.snoc {w:World} {base:Nat} {v:Value} {l:List Int} {x:Int} (h:w.ownsRow base 3 1 v (l.length + 1) (cellsOf l++[.int .i64 x])):OwnI w base v (l++[x]):=by
 unfold OwnI
 rw [List.length_append,← cellsOf_app]
 exact h
theorem OwnI.mono {w:World} {base base':Nat} {v:Value} {l:List Int} (h:OwnI w base v l) (hb:base'≤base):OwnI w base' v l:=by
 obtain ⟨h1,h⟩:=h
 refine ⟨h1,?_⟩
 rcases h with h|⟨g,cap,cur,e,hg,r⟩
 ·exact .inl h
 ·exact .inr ⟨g,cap,cur,e,Nat.le_trans hb hg,r⟩
end Go.Proofs.YtabafikicbkkdaaGreatDoor
