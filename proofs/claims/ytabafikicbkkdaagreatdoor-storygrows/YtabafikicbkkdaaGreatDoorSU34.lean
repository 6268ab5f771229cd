/- The contract of disk.Recover; no condition but that the disk is read, and that the package-level variables are as their texts lay them. -/
import Derived.Test.YtabafikicbkkdaaGreatDoorSU33
import Derived.Test.YtabafikicbkkdaaGreatDoorSU20
import Derived.Test.YtabafikicbkkdaaGreatDoorSU21
import Derived.Test.YtabafikicbkkdaaGreatDoorSU26
import Derived.Test.YtabafikicbkkdaaGreatDoorSU27
import Derived.Test.YtabafikicbkkdaaGreatDoorSU31
import Derived.Test.YtabafikicbkkdaaGreatDoorSU13
import Derived.Test.YtabafikicbkkdaaGreatDoorSU14
namespace Go.Proofs.YtabafikicbkkdaaGreatDoor
open Go.RowKit
set_option linter.unusedVariables false
set_option maxHeartbeats 8000000
set_option maxRecDepth 100000
set_option linter.unusedSimpArgs false
def RecRes (B:Nat) (w':World) (r:PK×List PR×Int) (e:Ending):Prop:=
 ∃ x:KV,∃ la ln lc X,e=.returned (.tuple #[x.v,.slice la ln lc,.int .i64 r.2.2])∧x.p=r.1∧x.ok w'∧x.fresh B∧Recs w' la ln lc X∧FreshR B la X∧X.map RV.p=r.2.1
theorem recK_bad {d:PK} (h:checkK d≠0):recK d=(zeroK,[],checkK d):=by unfold recK;rw [if_pos h]
theorem recK_good {s t:List UInt8} {D r:List PR} {b:List UInt8} (h:checkK ⟨s,t⟩=0) (hD:D=(linesP 80 s).1) (hA:Ahd (80 - D.length) t r b) (hs:r.length=80 - D.length∨(firstP b).2.2≠0) :
  recK ⟨s,t⟩=(⟨s++t.take (t.length - b.length),[]⟩,D++r,0):=by
 unfold recK
 obtain ⟨h1,h2⟩:=hA.stop hs
 rw [if_neg (by simp [h])]
 simp only [← hD,h1,h2]
theorem Lay.low {w w':World} {B L:Nat} {vs:List Value} (h:Lay w B vs) (hb:Below L w w') (hL:B < L):Lay w' B vs:=
 ⟨fun i v hv=>by rw [hb.cell (p:=⟨B,i,none⟩) hL];exact h.cell i v hv,fun i=>by rw [hb.frozen (p:=⟨B,i,none⟩) hL];exact h.ice i,Nat.lt_of_lt_of_le h.lt hb.size⟩
theorem keepl {w w':World} {L:Nat} (hb:Below L w w') {p:Addr} {u:Value} (h:w.cell? p=some u) (hL:p.block < L):w'.cell? p=some u:=by rw [hb.cell hL];exact h
theorem Recover_c (x:KV) (w:World) (hE:Env w) (h:x.ok w) (hn:x.n≤140737488355328) (hm:x.m≤140737488355328) :
  Calls Tryz.prog 34 #[x.v] w fun e w'=>RecRes w.heap.size w' (recK x.p) e∧Below w.heap.size w w':=by
 have HS:=hide (fun w' hE h=>safe_c x w' hE h hn hm)
 have hl1:=h.s.len
 have hl2:=h.w.len
 obtain ⟨⟨s,t⟩,a,n,c,b,m,d⟩:=x
 have hs:Byts w a n c s:=h.s
 have ht:Byts w b m d t:=h.w
 dsimp only [KV.v] at *
 have HL:Hid (checkK ⟨s,t⟩=0→n + m≤60000):=hide (by
  unfold checkK
  intro e
  split at e
  ·cases e
  ·simp only at *;omega)
 obtain ⟨i,hi,hz,hsz,hby⟩:=recInfo
 have xR:=Lay.made1 w (.cells #[.slice a n c,.slice b m d] 36) [.slice none 0 0,.slice none 0 0] 36
 go_enter Tryz.func34,Tryz.ntmps34
 go_wp2_with fail
 refine (HS.out _ (hE.below (by (repeat first|exact bel0|assumption|refine bel1 ?_|refine bel2 ?_|refine bel3 ?_|refine belowT ?_ (by assumption)|refine bel5 ?_ (by simp;try omega)))) (h.below (by (repeat first|exact bel0|assumption|refine bel1 ?_|refine bel2 ?_|refine bel3 ?_|refine belowT ?_ (by assumption)|refine bel5 ?_ (by simp;try omega))))).mono ?_
 rintro e w1 ⟨⟨v,X0,rfl,hX0,hD0,eX0⟩,hb1⟩
 have bw:Below w.heap.size w w1:=by (repeat first|exact bel0|assumption|refine bel1 ?_|refine bel2 ?_|refine bel3 ?_|refine belowT ?_ (by assumption)|refine bel5 ?_ (by simp;try omega))
 have k0:=keepc hb1 (p:=⟨w.heap.size,0,none⟩) (u:=.slice a n c) (by (first|(go_simp;done)|(simp [*,World.cell?_alloc_at,World.cell?_alloc_past,World.cell?_alloc_some,World.cell?_setCell_far];done)))
 have k1:=keepc hb1 (p:=⟨w.heap.size,1,none⟩) (u:=.slice b m d) (by (first|(go_simp;done)|(simp [*,World.cell?_alloc_at,World.cell?_alloc_past,World.cell?_alloc_some,World.cell?_setCell_far];done)))
 replace xR:=xR.below hb1
 have hlt:=xR.lt
 simp only [World.size_alloc] at hX0 hD0
 clear hb1 h HS
 have HC:Hid (∀ y,checkK ⟨s,t⟩=y→y=checkK ⟨s,t⟩):=hide (fun y e=>e.symm)
 generalize hck:checkK ⟨s,t⟩=ck at *
 by_cases h0:ck=0
 ·subst h0
  have hnm:=HL.out rfl
  rw [if_pos rfl] at eX0
  have HCK:=hide hck
  have HX0:=hide eX0
  clear hck eX0 HC
  have hX8:X0.length≤80:=by
   have:=(lines_facts _ 80 s (Nat.le_refl _)).1
   rw [← HX0.out,List.length_map] at this
   exact this
  go_wp2_with fail
  go_loopw [5,7] (fun v u wr=>∃ X a' n' c' r,u=.slice a' n' c'∧OwnR wr (w.heap.size + 2) v (X0++X)∧FromD (w.heap.size + 2) (X0++X)∧Byts w a' n' c' r∧Ahd (80 - X0.length) t (X.map RV.p) r∧Below (w.heap.size + 2) w1 wr) (fun _ u _=>slen u)
  case atStart=>exact ⟨[],b,m,d,t,rfl,by simpa using hX0,by simpa using hD0,ht,Ahd.start _ _,Below.refl _ _⟩
  case round=>
   obtain ⟨X,a',n',c',r,rfl,hX,hD,hr,hA,hbr⟩:=hrel
   rename_i wr
   have HY:Hid (∃ Y,Y=X0++X):=hide ⟨_,rfl⟩
   have hYL:(X0++X).length=X0.length + X.length:=List.length_append
   generalize hY:X0++X=Y at *
   replace HY:=hide hY
   have HYL:=hide hYL
   clear hY hYL
   have hrl:=hr.len
   have hAl:=hA.len
   have hAm:=hA.le
   rw [List.length_map] at hAm
   have hX80:Y.length≤80:=by have:=HYL.out;omega
   have hbrw:Below w.heap.size w wr:=bw.trans (hbr.mono (by omega))
   have HA:=hide hA
   clear hA
   by_cases h80:Y.length=80
   ·have hne:¬ ((Y.length:Nat):Int) < 80:=by omega
    have hst:(X.map RV.p).length=80 - (X0.map RV.p).length∨(firstP r).2.2≠0:=.inl (by rw [List.length_map,List.length_map];have:=HYL.out;omega)
    clear h80 hX80
    have bW:Below (w.heap.size + 2) w1 wr:=hbr
    have bWw:Below w.heap.size w wr:=bw.trans (bW.mono (by omega))
    have xW:=xR.low bW (by omega)
    have kk0:=keepl bW k0 (by simp)
    have kk1:=keepl bW k1 (by simp)
    obtain ⟨la,lc,hlv,hRecs,hla⟩:=OwnR.recs hX
    have HR:=hide (recK_good HCK.out HX0.out (by rw [List.length_map];exact HA.out) hst)
    rw [hl2,hrl,← List.map_append,HY.out] at HR
    obtain ⟨j,hj⟩:∃ j,m - n'=j:=⟨_,rfl⟩
    rw [hj] at HR
    have hjn:(m:Int) - (n':Int)=(j:Int):=by omega
    have hmd:=Cel.le ht
    have hdm:=Cel.max ht
    have hj0:(0:Int)≤(j:Int):=by omega
    have hj1:(j:Int)≤(d:Int):=by omega
    have hj2:j≤d:=by omega
    have hj3:¬ ((j:Int) < 0):=by omega
    have hj4:¬ ((d:Int) < (j:Int)):=by omega
    have tt:=(ht.take (k:=j) (by omega)).below bWw (Nat.le_refl _)
    have ss:=hs.below bWw (Nat.le_refl _)
    have HJ:=hide (fun w' h1 h2=>jboth_c a n c s b j d (t.take j) w' h1 h2 (by omega))
    have HYN:Hid (Y.length=Y.length):=hide rfl
    clear HYL
    generalize Y.length=ln at *
    cases hlv
    have e0:=xW.cell 0 _ rfl
    have e1:=xW.cell 1 _ rfl
    have f0:=xW.ice 0
    have f1:=xW.ice 1
    go_upto_region 10 with fail
    go_region_held3 (fun w'=>w'.cell? ⟨w.heap.size,0,none⟩=some (.slice a n c)∧w'.cell? ⟨w.heap.size,1,none⟩=some (.slice b m d)) ((first|(go_simp;done)|(simp [*,World.cell?_alloc_at,World.cell?_alloc_past,World.cell?_alloc_some,World.cell?_setCell_far];done))) (first|(go_at_call 55;refine (HJ.out _ (by refine Byts.below ss (B:=(wr).heap.size) ?_ (Nat.le_refl _);(repeat first|exact bel0|assumption|refine bel1 ?_|refine bel2 ?_|refine bel3 ?_|refine belowT ?_ (by assumption)|refine bel5 ?_ (by simp;try omega))) (by refine Byts.below tt (B:=(wr).heap.size) ?_ (Nat.le_refl _);(repeat first|exact bel0|assumption|refine bel1 ?_|refine bel2 ?_|refine bel3 ?_|refine belowT ?_ (by assumption)|refine bel5 ?_ (by simp;try omega)))).mono ?_;rintro e w8 ⟨⟨g8,rfl,hg8,i8⟩,hb8⟩;(have r0:=keepc hb8 (p:=⟨w.heap.size,0,none⟩) (u:=.slice a n c) (by (first|(go_simp;done)|(simp [*,World.cell?_alloc_at,World.cell?_alloc_past,World.cell?_alloc_some,World.cell?_setCell_far];done))));(have r1:=keepc hb8 (p:=⟨w.heap.size,1,none⟩) (u:=.slice b m d) (by (first|(go_simp;done)|(simp [*,World.cell?_alloc_at,World.cell?_alloc_past,World.cell?_alloc_some,World.cell?_setCell_far];done))));(have b8:Below (wr).heap.size (wr) w8:=by (repeat first|exact bel0|assumption|refine bel1 ?_|refine bel2 ?_|refine bel3 ?_|refine belowT ?_ (by assumption)|refine bel5 ?_ (by simp;try omega)));(have xR8:=xW.below b8);(have o0:=xR8.cell 0 _ rfl);(have o1:=xR8.cell 1 _ rfl);(have v2:=xR8.ice 0);(have v3:=xR8.ice 1)))
    all_goals
     go_wp2
     have hWs:=xW.lt
     simp at hg8
     have hR8:=hRecs.below b8 (Nat.le_refl _)
     have zB:=(xR8.set 0 (.slice (some ⟨g8,0,none⟩) (n + j) (n + j))).set 1 (.slice none 0 0)
     have hbut:=((ButI.refl (w.heap.size + 1) (w8)).step 0 (.slice (some ⟨g8,0,none⟩) (n + j) (n + j))).step 1 (.slice none 0 0)
     generalize ((w8).setCell ⟨w.heap.size + 1,0,none⟩ (.slice (some ⟨g8,0,none⟩) (n + j) (n + j))).setCell ⟨w.heap.size + 1,1,none⟩ (.slice none 0 0)=w99 at *
     have y0:=zB.cell 0 _ rfl
     have y1:=zB.cell 1 _ rfl
     refine bodyPost_ret (v:=.tuple #[.agg #[.slice (some ⟨g8,0,none⟩) (n + j) (n + j),.slice none 0 0],.slice la ln lc,.int .i64 0]) (by simp [results,Tryz.results34,go_sem,y0,y1]) rfl ⟨?_,(bWw.trans (b8.mono bWw.size)).trans (hbut.below (by omega))⟩
     rw [HR.out]
     have hf:KV.fresh (w.heap.size + 2) ⟨⟨s++t.take j,[]⟩,some ⟨g8,0,none⟩,n + j,n + j,none,0,0⟩:=⟨fun y e=>(by cases e;simp;omega),fun y e=>(by cases e)⟩
     have hfr:FreshR (w.heap.size + 2) la (Y):=⟨hla,hD⟩
     exact ⟨_,la,ln,lc,Y,rfl,rfl,KV.ok.but ⟨i8,Byts.nilSlice _⟩ hbut.but hf (by omega),hf.mono (by omega),hR8.but hbut.but hfr (by omega),hfr.mono (by omega),rfl⟩
   ·have hlt80:((Y.length:Nat):Int) < 80:=by omega
    obtain ⟨av,cv,hv,_,_⟩:=hX.recs
    subst hv
    go_wp2_with fail
    refine (first_c a' n' c' r _ (hE.below hbrw) (hr.below hbrw (Nat.le_refl _)) (by omega)).mono ?_
    rintro e w2 ⟨⟨⟨pX,aX,nX,cX⟩,a2,n2,c2,rfl,ePX,iX,nwX,hr2⟩,hb2⟩
    have hX2:=hX.below hb2
    have hap:=hX.apart (x:=⟨pX,aX,nX,cX⟩) (Nat.le_refl _) nwX
    have hsz2:=hbr.size
    have bw2:Below (w.heap.size + 2) w1 w2:=hbr.trans (hb2.mono (by omega))
    replace hr2:=hr2 w hr
    have HR2:Hid ((firstP r).2.1.length=n2):=hide hr2.len
    have hD2:∀ y,aX=some y→w.heap.size + 2≤y.block:=fun y e=>by have:=nwX y e;omega
    have HPX:Hid (pX=(firstP r).1):=hide ePX
    have hz2:=hb2.size
    clear hb2 nwX ePX
    obtain ⟨q',s',⟨k',z',m',t',d'⟩⟩:=pX
    dsimp only [RV.v] at iX ⊢
    generalize hfe:(firstP r).2.2=er at *
    go_upto_region 7 with fail
    have xV:=Lay.made w2 [.int .i64 q',.int .i64 s',.int .i64 k',.int .i64 z',.int .i64 m',.int .i64 t',.slice aX nX cX] 52
    have hb3:Below w2.heap.size w2 (w2.alloc (.cells [.int .i64 q',.int .i64 s',.int .i64 k',.int .i64 z',.int .i64 m',.int .i64 t',.slice aX nX cX].toArray 52)):=by clear bw2;(repeat first|exact bel0|assumption|refine bel1 ?_|refine bel2 ?_|refine bel3 ?_|refine belowT ?_ (by assumption)|refine bel5 ?_ (by simp;try omega))
    replace hX2:=hX2.below hb3
    have bw3:=bw2.trans (hb3.mono (by omega))
    replace iX:=RV.ok.below iX hb3 (Nat.le_refl _)
    have hz3:=hb3.size
    clear hb3 bw2
    generalize w2.alloc (.cells [.int .i64 q',.int .i64 s',.int .i64 k',.int .i64 z',.int .i64 m',.int .i64 t',.slice aX nX cX].toArray 52)=w3 at *
    have HFE:=hide hfe
    clear hfe
    by_cases her:er=0
    ·subst her
     have hst:=HA.out.step HFE.out (by rw [List.length_map];have:=HYL.out;omega)
     have HST:=hide hst
     clear hst
     have g0:=xV.cell 0 _ rfl
     have g1:=xV.cell 1 _ rfl
     have g2:=xV.cell 2 _ rfl
     have g3:=xV.cell 3 _ rfl
     have g4:=xV.cell 4 _ rfl
     have g5:=xV.cell 5 _ rfl
     have g6:=xV.cell 6 _ rfl
     have i0:=xV.ice 0
     have i1:=xV.ice 1
     have i2:=xV.ice 2
     have i3:=xV.ice 3
     have i4:=xV.ice 4
     have i5:=xV.ice 5
     have i6:=xV.ice 6
     have HL80:=hide hX80
     clear hX80 h80
     go_wp2_with (at_builtin;refine wpList_append_lies _ rfl _ _ 23 rfl (w.heap.size + 2) 52 i recZ 7 72 Tryz.underlying23 hi hz hsz hby rfl (by decide) _ _ _ rfl (hX2.below (belowA (Below.refl _ _) _)).own ⟨w3.heap.size,0,none⟩ 1 1 (RV.cells ⟨⟨q',s',⟨k',z',m',t',d'⟩⟩,aX,nX,cX⟩) rfl rfl ?hq0 (RV.cells_one _) (by decide) ?hq2 ?hq3 ?hq4 _ rfl ?hq5)
     case hq0=>
      intro j u hu
      rw [addr_add,Nat.zero_add]
      exact (Lay.made w3 _ 52).cell j u hu
     case hq2=>have:=HL80.out;simp only [maxLen];omega
     case hq3=>have:=HL80.out;omega
     case hq4=>simp;omega
     case hq5=>
      intro g4 cap4 w4 hown4 hg4 hat4 hlt4
      have hbA:Below w3.heap.size w3 (w3.alloc (.cells [.int .i64 q',.int .i64 s',.int .i64 k',.int .i64 z',.int .i64 m',.int .i64 t',.slice aX nX cX].toArray 52)):=belowA (Below.refl _ _) _
      have oN:=(hX2.below hbA).snoc (x:=⟨⟨q',s',⟨k',z',m',t',d'⟩⟩,aX,nX,cX⟩) (RV.ok.below iX hbA (Nat.le_refl _)) hap hown4 hg4 (hat4.imp_right fun e=>by rw [e];simp)
      have b4:Below (w.heap.size + 2) w1 w4:=(bw3.trans (hbA.mono (by omega))).grown hg4 (by simp;omega) (fun k e=>(hX2.own.lt k e).1)
      have hs4:=HST.out
      rw [← HPX.out] at hs4
      have hn4:=HR2.out
      have oN2:OwnR w4 (w.heap.size + 2) (.slice (some ⟨g4,0,none⟩) (Y.length + 1) cap4) (X0++(X++[⟨⟨q',s',⟨k',z',m',t',d'⟩⟩,aX,nX,cX⟩])):=by rw [← List.append_assoc,HY.out];exact oN
      have hDN:=hD.snoc (x:=⟨⟨q',s',⟨k',z',m',t',d'⟩⟩,aX,nX,cX⟩) hD2
      rw [← HY.out,List.append_assoc] at hDN
      go_wp2
      exact ⟨⟨X++[⟨⟨q',s',⟨k',z',m',t',d'⟩⟩,aX,nX,cX⟩],a2,n2,c2,_,rfl,oN2,hDN,hr2,by rw [List.map_append];exact hs4.1,b4⟩,by simp [slen];omega⟩
    ·have hcb:(er !=0)=true:=by simpa using her
     have hst:(X.map RV.p).length=80 - (X0.map RV.p).length∨(firstP r).2.2≠0:=.inr (by rw [HFE.out];exact her)
     clear h80 hX80
     have bW:Below (w.heap.size + 2) w1 w3:=bw3
     have bWw:Below w.heap.size w w3:=bw.trans (bW.mono (by omega))
     have xW:=xR.low bW (by omega)
     have kk0:=keepl bW k0 (by simp)
     have kk1:=keepl bW k1 (by simp)
     obtain ⟨la,lc,hlv,hRecs,hla⟩:=OwnR.recs hX2
     have HR:=hide (recK_good HCK.out HX0.out (by rw [List.length_map];exact HA.out) hst)
     rw [hl2,hrl,← List.map_append,HY.out] at HR
     obtain ⟨j,hj⟩:∃ j,m - n'=j:=⟨_,rfl⟩
     rw [hj] at HR
     have hjn:(m:Int) - (n':Int)=(j:Int):=by omega
     have hmd:=Cel.le ht
     have hdm:=Cel.max ht
     have hj0:(0:Int)≤(j:Int):=by omega
     have hj1:(j:Int)≤(d:Int):=by omega
     have hj2:j≤d:=by omega
     have hj3:¬ ((j:Int) < 0):=by omega
     have hj4:¬ ((d:Int) < (j:Int)):=by omega
     have tt:=(ht.take (k:=j) (by omega)).below bWw (Nat.le_refl _)
     have ss:=hs.below bWw (Nat.le_refl _)
     have HJ:=hide (fun w' h1 h2=>jboth_c a n c s b j d (t.take j) w' h1 h2 (by omega))
     have HYN:Hid (Y.length=Y.length):=hide rfl
     clear HYL
     generalize Y.length=ln at *
     cases hlv
     have e0:=xW.cell 0 _ rfl
     have e1:=xW.cell 1 _ rfl
     have f0:=xW.ice 0
     have f1:=xW.ice 1
     go_upto_region 10 with fail
     go_region_held3 (fun w'=>w'.cell? ⟨w.heap.size,0,none⟩=some (.slice a n c)∧w'.cell? ⟨w.heap.size,1,none⟩=some (.slice b m d)) ((first|(go_simp;done)|(simp [*,World.cell?_alloc_at,World.cell?_alloc_past,World.cell?_alloc_some,World.cell?_setCell_far];done))) (first|(go_at_call 55;refine (HJ.out _ (by refine Byts.below ss (B:=(w3).heap.size) ?_ (Nat.le_refl _);(repeat first|exact bel0|assumption|refine bel1 ?_|refine bel2 ?_|refine bel3 ?_|refine belowT ?_ (by assumption)|refine bel5 ?_ (by simp;try omega))) (by refine Byts.below tt (B:=(w3).heap.size) ?_ (Nat.le_refl _);(repeat first|exact bel0|assumption|refine bel1 ?_|refine bel2 ?_|refine bel3 ?_|refine belowT ?_ (by assumption)|refine bel5 ?_ (by simp;try omega)))).mono ?_;rintro e w8 ⟨⟨g8,rfl,hg8,i8⟩,hb8⟩;(have r0:=keepc hb8 (p:=⟨w.heap.size,0,none⟩) (u:=.slice a n c) (by (first|(go_simp;done)|(simp [*,World.cell?_alloc_at,World.cell?_alloc_past,World.cell?_alloc_some,World.cell?_setCell_far];done))));(have r1:=keepc hb8 (p:=⟨w.heap.size,1,none⟩) (u:=.slice b m d) (by (first|(go_simp;done)|(simp [*,World.cell?_alloc_at,World.cell?_alloc_past,World.cell?_alloc_some,World.cell?_setCell_far];done))));(have b8:Below (w3).heap.size (w3) w8:=by (repeat first|exact bel0|assumption|refine bel1 ?_|refine bel2 ?_|refine bel3 ?_|refine belowT ?_ (by assumption)|refine bel5 ?_ (by simp;try omega)));(have xR8:=xW.below b8);(have o0:=xR8.cell 0 _ rfl);(have o1:=xR8.cell 1 _ rfl);(have v2:=xR8.ice 0);(have v3:=xR8.ice 1)))
     all_goals
      go_wp2
      have hWs:=xW.lt
      simp at hg8
      have hR8:=hRecs.below b8 (Nat.le_refl _)
      have zB:=(xR8.set 0 (.slice (some ⟨g8,0,none⟩) (n + j) (n + j))).set 1 (.slice none 0 0)
      have hbut:=((ButI.refl (w.heap.size + 1) (w8)).step 0 (.slice (some ⟨g8,0,none⟩) (n + j) (n + j))).step 1 (.slice none 0 0)
      generalize ((w8).setCell ⟨w.heap.size + 1,0,none⟩ (.slice (some ⟨g8,0,none⟩) (n + j) (n + j))).setCell ⟨w.heap.size + 1,1,none⟩ (.slice none 0 0)=w99 at *
      have y0:=zB.cell 0 _ rfl
      have y1:=zB.cell 1 _ rfl
      refine bodyPost_ret (v:=.tuple #[.agg #[.slice (some ⟨g8,0,none⟩) (n + j) (n + j),.slice none 0 0],.slice av ln cv,.int .i64 0]) (by simp [results,Tryz.results34,go_sem,y0,y1]) rfl ⟨?_,(bWw.trans (b8.mono bWw.size)).trans (hbut.below (by omega))⟩
      rw [HR.out]
      have hf:KV.fresh (w.heap.size + 2) ⟨⟨s++t.take j,[]⟩,some ⟨g8,0,none⟩,n + j,n + j,none,0,0⟩:=⟨fun y e=>(by cases e;simp;omega),fun y e=>(by cases e)⟩
      have hfr:FreshR (w.heap.size + 2) av (Y):=⟨hla,hD⟩
      exact ⟨_,av,ln,cv,Y,rfl,rfl,KV.ok.but ⟨i8,Byts.nilSlice _⟩ hbut.but hf (by omega),hf.mono (by omega),hR8.but hbut.but hfr (by omega),hfr.mono (by omega),rfl⟩
 ·have hcb:(ck !=0)=true:=by simpa using h0
  have HR:=hide (recK_bad (d:=⟨s,t⟩) (by rw [hck];exact h0))
  rw [hck] at HR
  have e0:=xR.cell 0 _ rfl
  have e1:=xR.cell 1 _ rfl
  have f0:=xR.ice 0
  have f1:=xR.ice 1
  go_wp2
  have zB:=(xR.set 0 (.slice none 0 0)).set 1 (.slice none 0 0)
  have hbut:=((ButI.refl (w.heap.size + 1) (w1)).step 0 (.slice none 0 0)).step 1 (.slice none 0 0)
  generalize ((w1).setCell ⟨w.heap.size + 1,0,none⟩ (.slice none 0 0)).setCell ⟨w.heap.size + 1,1,none⟩ (.slice none 0 0)=w99 at *
  have y0:=zB.cell 0 _ rfl
  have y1:=zB.cell 1 _ rfl
  refine bodyPost_ret (v:=.tuple #[KV.zero.v,.slice none 0 0,.int .i64 ck]) (by simp [results,Tryz.results34,go_sem,KV.v,KV.zero,y0,y1]) rfl ⟨?_,bw.trans (hbut.below (by omega))⟩
  rw [HR.out]
  exact ⟨KV.zero,none,0,0,[],rfl,rfl,KV.zero_ok _,KV.zero_fresh _,Recs.nilSlice _,FreshR.nil _,rfl⟩
end Go.Proofs.YtabafikicbkkdaaGreatDoor
namespace Go.Proofs.YtabafikicbkkdaaGreatDoor
open Go.RowKit
set_option linter.unusedVariables false
set_option maxHeartbeats 8000000
set_option maxRecDepth 100000
set_option linter.unusedSimpArgs false
def checkHallW (x:PW):Int:=if checkK x.d≠0 then checkK x.d else if x.u=true∧x.d.w≠[] then 4 else if (replayH (logW x)).2≠0 then (replayH (logW x)).2 else if sameH (replayH (logW x)).1 x.h=false then 4 else 0
theorem checkW_eq (x:PW):checkW x=if x.n.length≠3 then 4 else if 30 < x.m.length then 2 else if firstM x.m≠0 then firstM x.m else if checkHallW x≠0 then checkHallW x else firstN x.n:=by
 unfold checkW checkHallW
 repeat' split
 all_goals first|rfl|(exfalso;simp_all;done)|simp_all
theorem recK_err (d:PK):(recK d).2.2=checkK d:=by
 by_cases h:checkK d=0
 ·obtain ⟨L,e,-⟩:=recK_facts h
  rw [e,h]
 ·rw [recK_bad h]
theorem sameH_comm (a b:PH):sameH a b=sameH b a:=by rw [Bool.eq_iff_iff,sameH_iff,sameH_iff];exact ⟨fun e=>e.symm,fun e=>e.symm⟩
theorem checkHall_c (x:WV) (w:World) (hE:Env w) (hx:x.ok w) (hs:x.sm):Calls Tryz.prog 50 #[x.v] w fun e w'=>e=.returned (.int .i64 (checkHallW x.p))∧Below w.heap.size w w':=by
 have HR:=hide (fun w' hE h=>Recover_c x.d w' hE h hs.s hs.w)
 have HP:=hide (fun a n c X w' hS h=>Replay_c a n c X w' hS h)
 have HS:=hide (fun y w' h k=>HSame_c x.h y w' h k)
 have HC:Hid (checkHallW x.p=if checkK x.d.p≠0 then checkK x.d.p else if x.u=true∧x.d.p.w≠[] then 4 else if (replayH (if x.u then (recK x.d.p).2.1 else [])).2≠0 then (replayH (if x.u then (recK x.d.p).2.1 else [])).2 else if sameH (replayH (if x.u then (recK x.d.p).2.1 else [])).1 x.h.p=false then 4 else 0):=hide rfl
 have HE:=hide (recK_err x.d.p)
 have hwl:x.d.m=0↔x.d.p.w=[]:=by rw [← List.length_eq_zero_iff,Byts.len hx.d.w]
 have x0:=Lay.made w x.cells 40
 have bw:=belowA (Below.refl _ w) (.cells x.cells.toArray 40)
 replace hx:=hx.below bw (Nat.le_refl _)
 replace hE:=hE.below bw
 obtain ⟨hh,hd,-,-⟩:=hx
 generalize hr:recK x.d.p=rk at *
 generalize checkHallW x.p=r at *
 generalize checkK x.d.p=ck at *
 dsimp only [HV.v,KV.v] at *
 go_enter Tryz.func50,Tryz.ntmps50
 go_wp2_with fail
 generalize w.alloc (.cells x.cells.toArray 40)=w1 at *
 refine (HR.out _ hE hd).mono ?_
 rintro e w2 ⟨⟨y,la,ln,lc,X,rfl,hyp,hy,hyf,hX,hXf,hXp⟩,hb⟩
 rw [HE.out]
 replace x0:=x0.below hb
 replace hh:=hh.below hb (Nat.le_refl _)
 replace hE:=hE.below hb
 replace bw:=belowT bw hb
 clear hb HR hyp hyf hXf hd hy HE
 dsimp only [KV.v]
 go_upto_region 2 with fail
 have bn:=belowA (Below.refl _ w2) (.cells [.slice y.a y.n y.c,.slice y.b y.m y.d].toArray 36)
 replace x0:=x0.below bn
 replace hh:=hh.below bn (Nat.le_refl _)
 replace hE:=hE.below bn
 replace hX:=hX.below bn (Nat.le_refl _)
 replace bw:=belowT bw bn
 clear bn
 generalize w2.alloc (.cells [.slice y.a y.n y.c,.slice y.b y.m y.d].toArray 36)=w3 at *
 obtain ⟨c0,c1,c2,c3,c4,c5,c6,c7,c8,c9⟩:=x0.ten
 cases h0:ck !=0
 ·rw [if_neg (by simpa using h0)] at HC
  cases hu:x.u
  ·rw [hu] at HC c7
   rw [if_neg (by simp)] at HC
   simp only [Bool.false_eq_true,if_false] at HC
   go_wp2_with fail
   refine (HP.out none 0 0 [] _ hE.shp (Recs.nilSlice _)).mono ?_
   rintro e w4 ⟨⟨y',rfl,hk,-,hp⟩,hb⟩
   replace x0:=x0.below hb
   replace hh:=hh.below hb (Nat.le_refl _)
   replace bw:=belowT bw hb
   rw [List.map_nil] at hp ⊢
   generalize replayH []=rp at *
   generalize rp.2=e5 at *
   dsimp only [HV.v]
   clear hb HP c0 c1 c2 c3 c4 c5 c6 c7 c8 c9
   go_upto_region 9 with fail
   have bn:=belowA (Below.refl _ w4) (.cells [.slice y'.d.za y'.d.zn y'.d.zc,.slice y'.d.ka y'.d.kn y'.d.kc,.int .i64 y'.d.b.h,.int .i64 y'.d.b.t,.slice y'.a y'.n y'.c].toArray 33)
   have xH:=Lay.made w4 [.slice y'.d.za y'.d.zn y'.d.zc,.slice y'.d.ka y'.d.kn y'.d.kc,.int .i64 y'.d.b.h,.int .i64 y'.d.b.t,.slice y'.a y'.n y'.c] 33
   replace x0:=x0.below bn
   replace hh:=hh.below bn (Nat.le_refl _)
   replace hk:=hk.below bn (Nat.le_refl _)
   replace bw:=belowT bw bn
   clear bn
   generalize w4.alloc (.cells [.slice y'.d.za y'.d.zn y'.d.zc,.slice y'.d.ka y'.d.kn y'.d.kc,.int .i64 y'.d.b.h,.int .i64 y'.d.b.t,.slice y'.a y'.n y'.c].toArray 33)=w5 at *
   generalize w4.heap.size=B at *
   cases h5:e5 !=0
   ·rw [if_neg (by simpa using h5)] at HC
    obtain ⟨c0,c1,c2,c3,c4,c5,c6,c7,c8,c9⟩:=x0.ten
    have d0:=xH.cell 0 _ rfl
    have d1:=xH.cell 1 _ rfl
    have d2:=xH.cell 2 _ rfl
    have d3:=xH.cell 3 _ rfl
    have d4:=xH.cell 4 _ rfl
    go_wp2_with fail
    refine (HS.out y' _ hh hk).mono ?_
    rintro e w6 ⟨rfl,hb⟩
    rw [hp,sameH_comm]
    generalize sameH rp.1 x.h.p=sh at *
    cases sh
    ·go_wp2
     go_ret
     exact ⟨ret_int (by rw [HC.out];rfl),belowT bw hb⟩
    ·go_wp2
     go_ret
     exact ⟨ret_int (by rw [HC.out];rfl),belowT bw hb⟩
   ·rw [if_pos (by simpa using h5)] at HC
    go_wp2
    go_ret
    exact ⟨ret_int (by rw [HC.out]),bw⟩
  ·rw [hu] at HC c7
   rw [if_pos rfl] at HC
   by_cases hm:x.d.m=0
   ·rw [if_neg (fun c=>c.2 (hwl.1 hm))] at HC
    rw [hm] at c6
    go_wp2_with fail
    refine (HP.out la ln lc X _ hE.shp hX).mono ?_
    rintro e w4 ⟨⟨y',rfl,hk,-,hp⟩,hb⟩
    replace x0:=x0.below hb
    replace hh:=hh.below hb (Nat.le_refl _)
    replace bw:=belowT bw hb
    rw [hXp] at hp ⊢
    generalize replayH rk.2.1=rp at *
    generalize rp.2=e5 at *
    dsimp only [HV.v]
    clear hb HP c0 c1 c2 c3 c4 c5 c6 c7 c8 c9
    go_upto_region 9 with fail
    have bn:=belowA (Below.refl _ w4) (.cells [.slice y'.d.za y'.d.zn y'.d.zc,.slice y'.d.ka y'.d.kn y'.d.kc,.int .i64 y'.d.b.h,.int .i64 y'.d.b.t,.slice y'.a y'.n y'.c].toArray 33)
    have xH:=Lay.made w4 [.slice y'.d.za y'.d.zn y'.d.zc,.slice y'.d.ka y'.d.kn y'.d.kc,.int .i64 y'.d.b.h,.int .i64 y'.d.b.t,.slice y'.a y'.n y'.c] 33
    replace x0:=x0.below bn
    replace hh:=hh.below bn (Nat.le_refl _)
    replace hk:=hk.below bn (Nat.le_refl _)
    replace bw:=belowT bw bn
    clear bn
    generalize w4.alloc (.cells [.slice y'.d.za y'.d.zn y'.d.zc,.slice y'.d.ka y'.d.kn y'.d.kc,.int .i64 y'.d.b.h,.int .i64 y'.d.b.t,.slice y'.a y'.n y'.c].toArray 33)=w5 at *
    generalize w4.heap.size=B at *
    cases h5:e5 !=0
    ·rw [if_neg (by simpa using h5)] at HC
     obtain ⟨c0,c1,c2,c3,c4,c5,c6,c7,c8,c9⟩:=x0.ten
     have d0:=xH.cell 0 _ rfl
     have d1:=xH.cell 1 _ rfl
     have d2:=xH.cell 2 _ rfl
     have d3:=xH.cell 3 _ rfl
     have d4:=xH.cell 4 _ rfl
     go_wp2_with fail
     refine (HS.out y' _ hh hk).mono ?_
     rintro e w6 ⟨rfl,hb⟩
     rw [hp,sameH_comm]
     generalize sameH rp.1 x.h.p=sh at *
     cases sh
     ·go_wp2
      go_ret
      exact ⟨ret_int (by rw [HC.out];rfl),belowT bw hb⟩
     ·go_wp2
      go_ret
      exact ⟨ret_int (by rw [HC.out];rfl),belowT bw hb⟩
    ·rw [if_pos (by simpa using h5)] at HC
     go_wp2
     go_ret
     exact ⟨ret_int (by rw [HC.out]),bw⟩
   ·rw [if_pos ⟨rfl,fun c=>hm (hwl.2 c)⟩] at HC
    have hm':(0:Int) < (x.d.m:Int):=by omega
    go_wp2
    go_ret
    exact ⟨ret_int (by rw [HC.out]),bw⟩
 ·rw [if_pos (by simpa using h0)] at HC
  go_wp2
  go_ret
  exact ⟨ret_int (by rw [HC.out]),bw⟩
theorem WCheck_c (x:WV) (w:World) (hE:Env w) (hx:x.ok w) (hs:x.sm):Calls Tryz.prog 33 #[x.v] w fun e w'=>e=.returned (.int .i64 (checkW x.p))∧Below w.heap.size w w':=by
 have H1:=hide (fun w' hE h=>firstMs_c x.ma x.mn x.mc x.M w' hE h (fun y hy w'' hE' h'=>checkMail_c y w'' hE' h'))
 have H2:=hide (fun w' hE h=>checkHall_c x w' hE h hs)
 have H3:=hide (fun w' hE h=>firstNs_c x.na x.nn x.nc x.N w' hE h (fun y hy w'' hE' h'=>JCheck_c y w'' hE'.shp h'))
 have HC:Hid (checkW x.p=if x.nn≠3 then 4 else if 30 < x.mn then 2 else if firstM (x.M.map MV.p)≠0 then firstM (x.M.map MV.p) else if checkHallW x.p≠0 then checkHallW x.p else firstN (x.N.map NV.p)):=hide (by
  have e1:x.p.n.length=x.nn:=by rw [show x.p.n=x.N.map NV.p from rfl,List.length_map];exact hx.n.len
  have e2:x.p.m.length=x.mn:=by rw [show x.p.m=x.M.map MV.p from rfl,List.length_map];exact hx.m.len
  rw [checkW_eq,e1,e2]
  rfl)
 generalize checkW x.p=r at *
 generalize checkHallW x.p=ch at *
 generalize firstM _=fm at *
 generalize firstN _=fn at *
 have hn1:=hx.n.max
 have hn2:=hx.n.le
 have hm1:=hx.m.max
 have hm2:=hx.m.le
 have x0:=Lay.made w x.cells 40
 have bw:=belowA (Below.refl _ w) (.cells x.cells.toArray 40)
 replace hx:=hx.below bw (Nat.le_refl _)
 replace hE:=hE.below bw
 by_cases h1:x.nn=3
 ·rw [if_neg (by omega)] at HC
  have h1':((x.nn:Int) !=3)=false:=by simp [h1]
  replace h1:=hide h1
  by_cases h2:30 < x.mn
  ·rw [if_pos h2] at HC
   have h2':(30:Int) < (x.mn:Int):=by omega
   go_enter Tryz.func33,Tryz.ntmps33
   go_wp2
   go_ret
   exact ⟨ret_int (by rw [HC.out]),bw⟩
  ·rw [if_neg h2] at HC
   have h2':¬ (30:Int) < (x.mn:Int):=by omega
   go_enter Tryz.func33,Tryz.ntmps33
   go_wp2_with fail
   generalize w.alloc (.cells x.cells.toArray 40)=w1 at *
   refine (H1.out _ hE hx.m).mono ?_
   rintro e w2 ⟨rfl,hb⟩
   replace x0:=x0.below hb
   replace hx:=hx.below hb (Nat.le_refl _)
   replace hE:=hE.below hb
   replace bw:=belowT bw hb
   clear hb H1
   obtain ⟨c0,c1,c2,c3,c4,c5,c6,c7,c8,c9⟩:=x0.ten
   cases h3:fm !=0
   ·rw [if_neg (by simpa using h3)] at HC
    dsimp only [WV.v] at H2
    go_wp2_with fail
    refine (H2.out _ hE hx).mono ?_
    rintro e w3 ⟨rfl,hb⟩
    replace x0:=x0.below hb
    replace hx:=hx.below hb (Nat.le_refl _)
    replace hE:=hE.below hb
    replace bw:=belowT bw hb
    clear hb H2 c0 c1 c2 c3 c4 c5 c6 c7 c8 c9
    obtain ⟨c0,c1,c2,c3,c4,c5,c6,c7,c8,c9⟩:=x0.ten
    cases h4:ch !=0
    ·rw [if_neg (by simpa using h4)] at HC
     go_wp2_with fail
     refine (H3.out _ hE hx.n).mono ?_
     rintro e w4 ⟨rfl,hb⟩
     go_wp2
     go_ret
     exact ⟨ret_int (by rw [HC.out]),belowT bw hb⟩
    ·rw [if_pos (by simpa using h4)] at HC
     go_wp2
     go_ret
     exact ⟨ret_int (by rw [HC.out]),bw⟩
   ·rw [if_pos (by simpa using h3)] at HC
    go_wp2
    go_ret
    exact ⟨ret_int (by rw [HC.out]),bw⟩
 ·rw [if_pos h1] at HC
  have h1':((x.nn:Int) !=3)=true:=by simp;omega
  go_enter Tryz.func33,Tryz.ntmps33
  go_wp2
  go_ret
  exact ⟨ret_int (by rw [HC.out]),bw⟩
end Go.Proofs.YtabafikicbkkdaaGreatDoor
namespace Go.Proofs.YtabafikicbkkdaaGreatDoor
open Go.RowKit
set_option linter.unusedVariables false
set_option maxHeartbeats 8000000
set_option maxRecDepth 100000
set_option linter.unusedSimpArgs false
def Dones (r:List PR×Int) (w:World) (e:Ending) (w':World):Prop:=
 (∃ (a:Option Addr) (n c:Nat) (X:List RV),e=.returned (.tuple #[.slice a n c,.int .i64 r.2])∧Recs w' a n c X∧FreshR w.heap.size a X∧X.map RV.p=r.1)∧Below w.heap.size w w'
theorem Done_w (x:WV) (w:World) (hE:Env w) (hk:x.ok w) (hs:x.sm):Calls Tryz.prog 10 #[x.v] w fun e w'=>Dones (doneS x.p) w e w':=by
 have HD:Hid (doneS x.p=if checkW x.p≠0 then ([],checkW x.p) else (recK x.d.p).2):=hide rfl
 have HCK:=hide (fun w' h1 h2=>WCheck_c x w' h1 h2 hs)
 have HR:=hide (fun w' h1 h2=>Recover_c x.d w' h1 h2 hs.s hs.w)
 generalize doneS x.p=r at *
 generalize checkW x.p=ck at *
 generalize recK x.d.p=rk at *
 have x0:=Lay.made w x.cells 40
 have bw:=belowA (Below.refl _ w) (.cells x.cells.toArray 40)
 replace hk:=hk.below bw (Nat.le_refl _)
 replace hE:=hE.below bw
 go_enter Tryz.func10,Tryz.ntmps10
 go_wp2_with fail
 generalize w.alloc (.cells x.cells.toArray 40)=w1 at *
 refine (HCK.out _ hE hk).mono ?_
 rintro e w2 ⟨rfl,hb⟩
 replace x0:=x0.below hb
 replace hk:=hk.below hb (Nat.le_refl _)
 replace hE:=hE.below hb
 replace bw:=belowT bw hb
 have hsz:=hb.size
 clear hb HCK
 cases h0:ck !=0
 ·have hr:=HD.out
  rw [if_neg (by simpa using h0)] at hr
  subst hr
  have q5:=x0.cell 5 _ rfl
  have q6:=x0.cell 6 _ rfl
  have hlt:=x0.lt
  go_wp2_with fail
  refine (HR.out _ hE hk.d).mono ?_
  rintro e w3 ⟨⟨y,la,ln,lc,X,rfl,-,-,-,hX,fX,pX⟩,hb⟩
  dsimp only [KV.v]
  replace bw:=belowT bw hb
  have bn:=belowA (Below.refl _ w3) (.cells [.slice y.a y.n y.c,.slice y.b y.m y.d].toArray 36)
  have hX':=hX.below bn (Nat.le_refl _)
  have f':FreshR w.heap.size la X:=fX.mono (by omega)
  have bw':=belowT bw bn
  go_wp2
  exact bodyPost_ret (v:=.tuple #[.slice la ln lc,.int .i64 rk.2.2]) (by simp [results,Tryz.results10,go_sem]) rfl ⟨⟨la,ln,lc,X,rfl,hX',f',pX⟩,bw'⟩
 ·have hr:=HD.out
  rw [if_pos (by simpa using h0)] at hr
  subst hr
  go_wp2
  exact bodyPost_ret (v:=.tuple #[.slice none 0 0,.int .i64 ck]) (by simp [results,Tryz.results10,go_sem]) rfl ⟨⟨none,0,0,[],rfl,Recs.nilSlice _,FreshR.nil _,rfl⟩,bw⟩
end Go.Proofs.YtabafikicbkkdaaGreatDoor
