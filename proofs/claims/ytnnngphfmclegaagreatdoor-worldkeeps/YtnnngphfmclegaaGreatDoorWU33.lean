/- The contract of disk.Recover; no condition but that the disk is read, and that the package-level variables are as their texts lay them. -/
import Derived.Test.YtnnngphfmclegaaGreatDoorWU32
import Derived.Test.YtnnngphfmclegaaGreatDoorWU12
namespace Go.Proofs.YtnnngphfmclegaaGreatDoor
open Go.RowKit
set_option linter.unusedVariables false
set_option maxHeartbeats 4000000
set_option maxRecDepth 100000
set_option linter.unusedSimpArgs false
def RecRes (B:Nat) (w':World) (r:PK×List PR×Int) (e:Ending):Prop:=
 ∃ x:KV,∃ la ln lc X,e=.returned (.tuple #[x.v,.slice la ln lc,.int .i64 r.2.2])∧x.p=r.1∧x.ok w'∧x.fresh B∧Recs w' la ln lc X∧FreshR B la X∧X.map RV.p=r.2.1
theorem recK_bad {d:PK} (h:checkK d≠0):recK d=(zeroK,[],checkK d):=by unfold recK;rw [if_pos h]
theorem recK_good {s t:List UInt8} {D r:List PR} {b:List UInt8} (h:checkK ⟨s,t⟩=0) (hD:D=(linesP 80 s).1) (hA:Ahd (80 - D.length) t r b) (hs:r.length=80 - D.length∨(firstP b).2.2≠0) :
  recK ⟨s,t⟩=(⟨s++t.take (t.length - b.length),[]⟩,D++r,0):=by
 unfold recK
 obtain ⟨h1,h2⟩:=hA.stop hs
 rw [if_neg (by simp [h])]
 simp only [← hD,h1,h2]
theorem Lay.low {w w':World} {B L:Nat} {vs:List Value} (h:Lay w B vs) (hb:Below L w w') (hL:B < L):Lay w' B vs:=
 ⟨fun i v hv=>by rw [hb.cell (p:=⟨B,i,none⟩) hL];exact h.cell i v hv,fun i=>by rw [hb.frozen (p:=⟨B,i,none⟩) hL];exact h.ice i,Nat.lt_of_lt_of_le h.lt hb.size⟩
theorem keepl {w w':World} {L:Nat} (hb:Below L w w') {p:Addr} {u:Value} (h:w.cell? p=some u) (hL:p.block < L):w'.cell? p=some u:=by rw [hb.cell hL];exact h
theorem Recover_c (x:KV) (w:World) (hE:Env w) (h:x.ok w) (hn:x.n≤140737488355328) (hm:x.m≤140737488355328) :
  Calls Tryz.prog 45 #[x.v] w fun e w'=>RecRes w.heap.size w' (recK x.p) e∧Below w.heap.size w w':=by
 have HS:=hide (fun w' hE h=>safe_c x w' hE h hn hm)
 have hl1:=h.s.len
 have hl2:=h.w.len
 obtain ⟨⟨s,t⟩,a,n,c,b,m,d⟩:=x
 have hs:Byts w a n c s:=h.s
 have ht:Byts w b m d t:=h.w
 dsimp only [KV.v] at *
 have HL:Hid (checkK ⟨s,t⟩=0→n + m≤60000):=hide (by
  unfold checkK
  intro e
  split at e
  ·cases e
  ·simp only at *;omega)
 obtain ⟨i,hi,hz,hsz,hby⟩:=recInfo
 have xR:=Lay.made1 w (.cells #[.slice a n c,.slice b m d] 33) [.slice none 0 0,.slice none 0 0] 33
 go_enter Tryz.func45,Tryz.ntmps45
 go_wp2_with fail
 refine (HS.out _ (hE.below (by (repeat first|exact bel0|assumption|refine bel1 ?_|refine bel2 ?_|refine bel3 ?_|refine belowT ?_ (by assumption)|refine bel5 ?_ (by simp;try omega)))) (h.below (by (repeat first|exact bel0|assumption|refine bel1 ?_|refine bel2 ?_|refine bel3 ?_|refine belowT ?_ (by assumption)|refine bel5 ?_ (by simp;try omega))))).mono ?_
 rintro e w1 ⟨⟨v,X0,rfl,hX0,hD0,eX0⟩,hb1⟩
 have bw:Below w.heap.size w w1:=by (repeat first|exact bel0|assumption|refine bel1 ?_|refine bel2 ?_|refine bel3 ?_|refine belowT ?_ (by assumption)|refine bel5 ?_ (by simp;try omega))
 have k0:=keepc hb1 (p:=⟨w.heap.size,0,none⟩) (u:=.slice a n c) (by (first|(go_simp;done)|(simp [*,World.cell?_alloc_at,World.cell?_alloc_past,World.cell?_alloc_some,World.cell?_setCell_far];done)))
 have k1:=keepc hb1 (p:=⟨w.heap.size,1,none⟩) (u:=.slice b m d) (by (first|(go_simp;done)|(simp [*,World.cell?_alloc_at,World.cell?_alloc_past,World.cell?_alloc_some,World.cell?_setCell_far];done)))
 replace xR:=xR.below hb1
 have hlt:=xR.lt
 simp only [World.size_alloc] at hX0 hD0
 clear hb1 h HS
 have HC:Hid (∀ y,checkK ⟨s,t⟩=y→y=checkK ⟨s,t⟩):=hide (fun y e=>e.symm)
 generalize hck:checkK ⟨s,t⟩=ck at *
 by_cases h0:ck=0
 ·subst h0
  have hnm:=HL.out rfl
  rw [if_pos rfl] at eX0
  have HCK:=hide hck
  have HX0:=hide eX0
  clear hck eX0 HC
  have hX8:X0.length≤80:=by
   have:=(lines_facts _ 80 s (Nat.le_refl _)).1
   rw [← HX0.out,List.length_map] at this
   exact this
  go_wp2_with fail
  go_loopw [5,7] (fun v u wr=>∃ X a' n' c' r,u=.slice a' n' c'∧OwnR wr (w.heap.size + 2) v (X0++X)∧FromD (w.heap.size + 2) (X0++X)∧Byts w a' n' c' r∧Ahd (80 - X0.length) t (X.map RV.p) r∧Below (w.heap.size + 2) w1 wr) (fun _ u _=>slen u)
  case atStart=>exact ⟨[],b,m,d,t,rfl,by simpa using hX0,by simpa using hD0,ht,Ahd.start _ _,Below.refl _ _⟩
  case round=>
   obtain ⟨X,a',n',c',r,rfl,hX,hD,hr,hA,hbr⟩:=hrel
   rename_i wr
   have HY:Hid (∃ Y,Y=X0++X):=hide ⟨_,rfl⟩
   have hYL:(X0++X).length=X0.length + X.length:=List.length_append
   generalize hY:X0++X=Y at *
   replace HY:=hide hY
   have HYL:=hide hYL
   clear hY hYL
   have hrl:=hr.len
   have hAl:=hA.len
   have hAm:=hA.le
   rw [List.length_map] at hAm
   have hX80:Y.length≤80:=by have:=HYL.out;omega
   have hbrw:Below w.heap.size w wr:=bw.trans (hbr.mono (by omega))
   have HA:=hide hA
   clear hA
   by_cases h80:Y.length=80
   ·have hne:¬ ((Y.length:Nat):Int) < 80:=by omega
    have hst:(X.map RV.p).length=80 - (X0.map RV.p).length∨(firstP r).2.2≠0:=.inl (by rw [List.length_map,List.length_map];have:=HYL.out;omega)
    clear h80 hX80
    have bW:Below (w.heap.size + 2) w1 wr:=hbr
    have bWw:Below w.heap.size w wr:=bw.trans (bW.mono (by omega))
    have xW:=xR.low bW (by omega)
    have kk0:=keepl bW k0 (by simp)
    have kk1:=keepl bW k1 (by simp)
    obtain ⟨la,lc,hlv,hRecs,hla⟩:=OwnR.recs hX
    have HR:=hide (recK_good HCK.out HX0.out (by rw [List.length_map];exact HA.out) hst)
    rw [hl2,hrl,← List.map_append,HY.out] at HR
    obtain ⟨j,hj⟩:∃ j,m - n'=j:=⟨_,rfl⟩
    rw [hj] at HR
    have hjn:(m:Int) - (n':Int)=(j:Int):=by omega
    have hmd:=Cel.le ht
    have hdm:=Cel.max ht
    have hj0:(0:Int)≤(j:Int):=by omega
    have hj1:(j:Int)≤(d:Int):=by omega
    have hj2:j≤d:=by omega
    have hj3:¬ ((j:Int) < 0):=by omega
    have hj4:¬ ((d:Int) < (j:Int)):=by omega
    have tt:=(ht.take (k:=j) (by omega)).below bWw (Nat.le_refl _)
    have ss:=hs.below bWw (Nat.le_refl _)
    have HJ:=hide (fun w' h1 h2=>jboth_c a n c s b j d (t.take j) w' h1 h2 (by omega))
    have HYN:Hid (Y.length=Y.length):=hide rfl
    clear HYL
    generalize Y.length=ln at *
    cases hlv
    have e0:=xW.cell 0 _ rfl
    have e1:=xW.cell 1 _ rfl
    have f0:=xW.ice 0
    have f1:=xW.ice 1
    go_upto_region 10 with fail
    go_region_held3 (fun w'=>w'.cell? ⟨w.heap.size,0,none⟩=some (.slice a n c)∧w'.cell? ⟨w.heap.size,1,none⟩=some (.slice b m d)) ((first|(go_simp;done)|(simp [*,World.cell?_alloc_at,World.cell?_alloc_past,World.cell?_alloc_some,World.cell?_setCell_far];done))) (first|(go_at_call 66;refine (HJ.out _ (by refine Byts.below ss (B:=(wr).heap.size) ?_ (Nat.le_refl _);(repeat first|exact bel0|assumption|refine bel1 ?_|refine bel2 ?_|refine bel3 ?_|refine belowT ?_ (by assumption)|refine bel5 ?_ (by simp;try omega))) (by refine Byts.below tt (B:=(wr).heap.size) ?_ (Nat.le_refl _);(repeat first|exact bel0|assumption|refine bel1 ?_|refine bel2 ?_|refine bel3 ?_|refine belowT ?_ (by assumption)|refine bel5 ?_ (by simp;try omega)))).mono ?_;rintro e w8 ⟨⟨g8,rfl,hg8,i8⟩,hb8⟩;(have r0:=keepc hb8 (p:=⟨w.heap.size,0,none⟩) (u:=.slice a n c) (by (first|(go_simp;done)|(simp [*,World.cell?_alloc_at,World.cell?_alloc_past,World.cell?_alloc_some,World.cell?_setCell_far];done))));(have r1:=keepc hb8 (p:=⟨w.heap.size,1,none⟩) (u:=.slice b m d) (by (first|(go_simp;done)|(simp [*,World.cell?_alloc_at,World.cell?_alloc_past,World.cell?_alloc_some,World.cell?_setCell_far];done))));(have b8:Below (wr).heap.size (wr) w8:=by (repeat first|exact bel0|assumption|refine bel1 ?_|refine bel2 ?_|refine bel3 ?_|refine belowT ?_ (by assumption)|refine bel5 ?_ (by simp;try omega)));(have xR8:=xW.below b8);(have o0:=xR8.cell 0 _ rfl);(have o1:=xR8.cell 1 _ rfl);(have v2:=xR8.ice 0);(have v3:=xR8.ice 1)))
    all_goals
     go_wp2
     have hWs:=xW.lt
     simp at hg8
     have hR8:=hRecs.below b8 (Nat.le_refl _)
     have zB:=(xR8.set 0 (.slice (some ⟨g8,0,none⟩) (n + j) (n + j))).set 1 (.slice none 0 0)
     have hbut:=((ButI.refl (w.heap.size + 1) (w8)).step 0 (.slice (some ⟨g8,0,none⟩) (n + j) (n + j))).step 1 (.slice none 0 0)
     generalize ((w8).setCell ⟨w.heap.size + 1,0,none⟩ (.slice (some ⟨g8,0,none⟩) (n + j) (n + j))).setCell ⟨w.heap.size + 1,1,none⟩ (.slice none 0 0)=w99 at *
     have y0:=zB.cell 0 _ rfl
     have y1:=zB.cell 1 _ rfl
     refine bodyPost_ret (v:=.tuple #[.agg #[.slice (some ⟨g8,0,none⟩) (n + j) (n + j),.slice none 0 0],.slice la ln lc,.int .i64 0]) (by simp [results,Tryz.results45,go_sem,y0,y1]) rfl ⟨?_,(bWw.trans (b8.mono bWw.size)).trans (hbut.below (by omega))⟩
     rw [HR.out]
     have hf:KV.fresh (w.heap.size + 2) ⟨⟨s++t.take j,[]⟩,some ⟨g8,0,none⟩,n + j,n + j,none,0,0⟩:=⟨fun y e=>(by cases e;simp;omega),fun y e=>(by cases e)⟩
     have hfr:FreshR (w.heap.size + 2) la (Y):=⟨hla,hD⟩
     exact ⟨_,la,ln,lc,Y,rfl,rfl,KV.ok.but ⟨i8,Byts.nilSlice _⟩ hbut.but hf (by omega),hf.mono (by omega),hR8.but hbut.but hfr (by omega),hfr.mono (by omega),rfl⟩
   ·have hlt80:((Y.length:Nat):Int) < 80:=by omega
    obtain ⟨av,cv,hv,_,_⟩:=hX.recs
    subst hv
    go_wp2_with fail
    refine (first_c a' n' c' r _ (hE.below hbrw) (hr.below hbrw (Nat.le_refl _)) (by omega)).mono ?_
    rintro e w2 ⟨⟨⟨pX,aX,nX,cX⟩,a2,n2,c2,rfl,ePX,iX,nwX,hr2⟩,hb2⟩
    have hX2:=hX.below hb2
    have hap:=hX.apart (x:=⟨pX,aX,nX,cX⟩) (Nat.le_refl _) nwX
    have hsz2:=hbr.size
    have bw2:Below (w.heap.size + 2) w1 w2:=hbr.trans (hb2.mono (by omega))
    replace hr2:=hr2 w hr
    have HR2:Hid ((firstP r).2.1.length=n2):=hide hr2.len
    have hD2:∀ y,aX=some y→w.heap.size + 2≤y.block:=fun y e=>by have:=nwX y e;omega
    have HPX:Hid (pX=(firstP r).1):=hide ePX
    have hz2:=hb2.size
    clear hb2 nwX ePX
    obtain ⟨q',s',⟨k',z',m',t',d'⟩⟩:=pX
    dsimp only [RV.v] at iX ⊢
    generalize hfe:(firstP r).2.2=er at *
    go_upto_region 7 with fail
    have xV:=Lay.made w2 [.int .i64 q',.int .i64 s',.int .i64 k',.int .i64 z',.int .i64 m',.int .i64 t',.slice aX nX cX] 128
    have hb3:Below w2.heap.size w2 (w2.alloc (.cells [.int .i64 q',.int .i64 s',.int .i64 k',.int .i64 z',.int .i64 m',.int .i64 t',.slice aX nX cX].toArray 128)):=by clear bw2;(repeat first|exact bel0|assumption|refine bel1 ?_|refine bel2 ?_|refine bel3 ?_|refine belowT ?_ (by assumption)|refine bel5 ?_ (by simp;try omega))
    replace hX2:=hX2.below hb3
    have bw3:=bw2.trans (hb3.mono (by omega))
    replace iX:=RV.ok.below iX hb3 (Nat.le_refl _)
    have hz3:=hb3.size
    clear hb3 bw2
    generalize w2.alloc (.cells [.int .i64 q',.int .i64 s',.int .i64 k',.int .i64 z',.int .i64 m',.int .i64 t',.slice aX nX cX].toArray 128)=w3 at *
    have HFE:=hide hfe
    clear hfe
    by_cases her:er=0
    ·subst her
     have hst:=HA.out.step HFE.out (by rw [List.length_map];have:=HYL.out;omega)
     have HST:=hide hst
     clear hst
     have g0:=xV.cell 0 _ rfl
     have g1:=xV.cell 1 _ rfl
     have g2:=xV.cell 2 _ rfl
     have g3:=xV.cell 3 _ rfl
     have g4:=xV.cell 4 _ rfl
     have g5:=xV.cell 5 _ rfl
     have g6:=xV.cell 6 _ rfl
     have i0:=xV.ice 0
     have i1:=xV.ice 1
     have i2:=xV.ice 2
     have i3:=xV.ice 3
     have i4:=xV.ice 4
     have i5:=xV.ice 5
     have i6:=xV.ice 6
     have HL80:=hide hX80
     clear hX80 h80
     go_wp2_with (at_builtin;refine wpList_append_lies _ rfl _ _ 99 rfl (w.heap.size + 2) 128 i recZ 7 72 Tryz.underlying99 hi hz hsz hby rfl (by decide) _ _ _ rfl (hX2.below (belowA (Below.refl _ _) _)).own ⟨w3.heap.size,0,none⟩ 1 1 (RV.cells ⟨⟨q',s',⟨k',z',m',t',d'⟩⟩,aX,nX,cX⟩) rfl rfl ?hq0 (RV.cells_one _) (by decide) ?hq2 ?hq3 ?hq4 _ rfl ?hq5)
     case hq0=>
      intro j u hu
      rw [addr_add,Nat.zero_add]
      exact (Lay.made w3 _ 128).cell j u hu
     case hq2=>have:=HL80.out;simp only [maxLen];omega
     case hq3=>have:=HL80.out;omega
     case hq4=>simp;omega
     case hq5=>
      intro g4 cap4 w4 hown4 hg4 hat4 hlt4
      have hbA:Below w3.heap.size w3 (w3.alloc (.cells [.int .i64 q',.int .i64 s',.int .i64 k',.int .i64 z',.int .i64 m',.int .i64 t',.slice aX nX cX].toArray 128)):=belowA (Below.refl _ _) _
      have oN:=(hX2.below hbA).snoc (x:=⟨⟨q',s',⟨k',z',m',t',d'⟩⟩,aX,nX,cX⟩) (RV.ok.below iX hbA (Nat.le_refl _)) hap hown4 hg4 (hat4.imp_right fun e=>by rw [e];simp)
      have b4:Below (w.heap.size + 2) w1 w4:=(bw3.trans (hbA.mono (by omega))).grown hg4 (by simp;omega) (fun k e=>(hX2.own.lt k e).1)
      have hs4:=HST.out
      rw [← HPX.out] at hs4
      have hn4:=HR2.out
      have oN2:OwnR w4 (w.heap.size + 2) (.slice (some ⟨g4,0,none⟩) (Y.length + 1) cap4) (X0++(X++[⟨⟨q',s',⟨k',z',m',t',d'⟩⟩,aX,nX,cX⟩])):=by rw [← List.append_assoc,HY.out];exact oN
      have hDN:=hD.snoc (x:=⟨⟨q',s',⟨k',z',m',t',d'⟩⟩,aX,nX,cX⟩) hD2
      rw [← HY.out,List.append_assoc] at hDN
      go_wp2
      exact ⟨⟨X++[⟨⟨q',s',⟨k',z',m',t',d'⟩⟩,aX,nX,cX⟩],a2,n2,c2,_,rfl,oN2,hDN,hr2,by rw [List.map_append];exact hs4.1,b4⟩,by simp [slen];omega⟩
    ·have hcb:(er !=0)=true:=by simpa using her
     have hst:(X.map RV.p).length=80 - (X0.map RV.p).length∨(firstP r).2.2≠0:=.inr (by rw [HFE.out];exact her)
     clear h80 hX80
     have bW:Below (w.heap.size + 2) w1 w3:=bw3
     have bWw:Below w.heap.size w w3:=bw.trans (bW.mono (by omega))
     have xW:=xR.low bW (by omega)
     have kk0:=keepl bW k0 (by simp)
     have kk1:=keepl bW k1 (by simp)
     obtain ⟨la,lc,hlv,hRecs,hla⟩:=OwnR.recs hX2
     have HR:=hide (recK_good HCK.out HX0.out (by rw [List.length_map];exact HA.out) hst)
     rw [hl2,hrl,← List.map_append,HY.out] at HR
     obtain ⟨j,hj⟩:∃ j,m - n'=j:=⟨_,rfl⟩
     rw [hj] at HR
     have hjn:(m:Int) - (n':Int)=(j:Int):=by omega
     have hmd:=Cel.le ht
     have hdm:=Cel.max ht
     have hj0:(0:Int)≤(j:Int):=by omega
     have hj1:(j:Int)≤(d:Int):=by omega
     have hj2:j≤d:=by omega
     have hj3:¬ ((j:Int) < 0):=by omega
     have hj4:¬ ((d:Int) < (j:Int)):=by omega
     have tt:=(ht.take (k:=j) (by omega)).below bWw (Nat.le_refl _)
     have ss:=hs.below bWw (Nat.le_refl _)
     have HJ:=hide (fun w' h1 h2=>jboth_c a n c s b j d (t.take j) w' h1 h2 (by omega))
     have HYN:Hid (Y.length=Y.length):=hide rfl
     clear HYL
     generalize Y.length=ln at *
     cases hlv
     have e0:=xW.cell 0 _ rfl
     have e1:=xW.cell 1 _ rfl
     have f0:=xW.ice 0
     have f1:=xW.ice 1
     go_upto_region 10 with fail
     go_region_held3 (fun w'=>w'.cell? ⟨w.heap.size,0,none⟩=some (.slice a n c)∧w'.cell? ⟨w.heap.size,1,none⟩=some (.slice b m d)) ((first|(go_simp;done)|(simp [*,World.cell?_alloc_at,World.cell?_alloc_past,World.cell?_alloc_some,World.cell?_setCell_far];done))) (first|(go_at_call 66;refine (HJ.out _ (by refine Byts.below ss (B:=(w3).heap.size) ?_ (Nat.le_refl _);(repeat first|exact bel0|assumption|refine bel1 ?_|refine bel2 ?_|refine bel3 ?_|refine belowT ?_ (by assumption)|refine bel5 ?_ (by simp;try omega))) (by refine Byts.below tt (B:=(w3).heap.size) ?_ (Nat.le_refl _);(repeat first|exact bel0|assumption|refine bel1 ?_|refine bel2 ?_|refine bel3 ?_|refine belowT ?_ (by assumption)|refine bel5 ?_ (by simp;try omega)))).mono ?_;rintro e w8 ⟨⟨g8,rfl,hg8,i8⟩,hb8⟩;(have r0:=keepc hb8 (p:=⟨w.heap.size,0,none⟩) (u:=.slice a n c) (by (first|(go_simp;done)|(simp [*,World.cell?_alloc_at,World.cell?_alloc_past,World.cell?_alloc_some,World.cell?_setCell_far];done))));(have r1:=keepc hb8 (p:=⟨w.heap.size,1,none⟩) (u:=.slice b m d) (by (first|(go_simp;done)|(simp [*,World.cell?_alloc_at,World.cell?_alloc_past,World.cell?_alloc_some,World.cell?_setCell_far];done))));(have b8:Below (w3).heap.size (w3) w8:=by (repeat first|exact bel0|assumption|refine bel1 ?_|refine bel2 ?_|refine bel3 ?_|refine belowT ?_ (by assumption)|refine bel5 ?_ (by simp;try omega)));(have xR8:=xW.below b8);(have o0:=xR8.cell 0 _ rfl);(have o1:=xR8.cell 1 _ rfl);(have v2:=xR8.ice 0);(have v3:=xR8.ice 1)))
     all_goals
      go_wp2
      have hWs:=xW.lt
      simp at hg8
      have hR8:=hRecs.below b8 (Nat.le_refl _)
      have zB:=(xR8.set 0 (.slice (some ⟨g8,0,none⟩) (n + j) (n + j))).set 1 (.slice none 0 0)
      have hbut:=((ButI.refl (w.heap.size + 1) (w8)).step 0 (.slice (some ⟨g8,0,none⟩) (n + j) (n + j))).step 1 (.slice none 0 0)
      generalize ((w8).setCell ⟨w.heap.size + 1,0,none⟩ (.slice (some ⟨g8,0,none⟩) (n + j) (n + j))).setCell ⟨w.heap.size + 1,1,none⟩ (.slice none 0 0)=w99 at *
      have y0:=zB.cell 0 _ rfl
      have y1:=zB.cell 1 _ rfl
      refine bodyPost_ret (v:=.tuple #[.agg #[.slice (some ⟨g8,0,none⟩) (n + j) (n + j),.slice none 0 0],.slice av ln cv,.int .i64 0]) (by simp [results,Tryz.results45,go_sem,y0,y1]) rfl ⟨?_,(bWw.trans (b8.mono bWw.size)).trans (hbut.below (by omega))⟩
      rw [HR.out]
      have hf:KV.fresh (w.heap.size + 2) ⟨⟨s++t.take j,[]⟩,some ⟨g8,0,none⟩,n + j,n + j,none,0,0⟩:=⟨fun y e=>(by cases e;simp;omega),fun y e=>(by cases e)⟩
      have hfr:FreshR (w.heap.size + 2) av (Y):=⟨hla,hD⟩
      exact ⟨_,av,ln,cv,Y,rfl,rfl,KV.ok.but ⟨i8,Byts.nilSlice _⟩ hbut.but hf (by omega),hf.mono (by omega),hR8.but hbut.but hfr (by omega),hfr.mono (by omega),rfl⟩
 ·have hcb:(ck !=0)=true:=by simpa using h0
  have HR:=hide (recK_bad (d:=⟨s,t⟩) (by rw [hck];exact h0))
  rw [hck] at HR
  have e0:=xR.cell 0 _ rfl
  have e1:=xR.cell 1 _ rfl
  have f0:=xR.ice 0
  have f1:=xR.ice 1
  go_wp2
  have zB:=(xR.set 0 (.slice none 0 0)).set 1 (.slice none 0 0)
  have hbut:=((ButI.refl (w.heap.size + 1) (w1)).step 0 (.slice none 0 0)).step 1 (.slice none 0 0)
  generalize ((w1).setCell ⟨w.heap.size + 1,0,none⟩ (.slice none 0 0)).setCell ⟨w.heap.size + 1,1,none⟩ (.slice none 0 0)=w99 at *
  have y0:=zB.cell 0 _ rfl
  have y1:=zB.cell 1 _ rfl
  refine bodyPost_ret (v:=.tuple #[KV.zero.v,.slice none 0 0,.int .i64 ck]) (by simp [results,Tryz.results45,go_sem,KV.v,KV.zero,y0,y1]) rfl ⟨?_,bw.trans (hbut.below (by omega))⟩
  rw [HR.out]
  exact ⟨KV.zero,none,0,0,[],rfl,rfl,KV.zero_ok _,KV.zero_fresh _,Recs.nilSlice _,FreshR.nil _,rfl⟩
end Go.Proofs.YtnnngphfmclegaaGreatDoor
namespace Go.Proofs.YtnnngphfmclegaaGreatDoor
open Go.RowKit
set_option linter.unusedVariables false
set_option maxHeartbeats 4000000
set_option maxRecDepth 100000
set_option linter.unusedSimpArgs false
theorem recK_facts {d:PK} (h:checkK d=0):∃ L,recK d=(⟨textL L,[]⟩,L,0)∧(∀ r∈L,checkR r=0)∧L.length≤80∧(d.w=[]→d=⟨textL L,[]⟩):=by
 have hk:=h
 unfold checkK at hk
 split at hk
 ·cases hk
 ·obtain ⟨a1,a2,a3,a4,a5⟩:=lines_facts _ 80 d.s (Nat.le_refl _)
  obtain ⟨b1,b2,b3,b4,b5⟩:=lines_facts _ (80 - (linesP 80 d.s).1.length) d.w (Nat.le_refl _)
  have hs:d.s=textL (linesP 80 d.s).1:=by
   have:=a5 hk
   rw [this,List.drop_length,List.append_nil] at a3
   exact a3
  have hw:d.w.take (linesP (80 - (linesP 80 d.s).1.length) d.w).2.1=textL (linesP (80 - (linesP 80 d.s).1.length) d.w).1:=by
   rw [b4]
   conv=>lhs;arg 2;rw [b3]
   rw [List.take_left' rfl]
  refine ⟨(linesP 80 d.s).1++(linesP (80 - (linesP 80 d.s).1.length) d.w).1,?_,fun r hr=>(List.mem_append.1 hr).elim (a2 r) (b2 r),by rw [List.length_append];omega,fun e=>?_⟩
  ·unfold recK
   rw [if_neg (by simp [h]),hw,textL_append,← hs]
  ·rw [e,linesP_nil,List.append_nil,← hs,← e]
theorem checkW_ok {x:PW} (k:checkW x=0):x.n.length=3∧x.m.length≤30∧(∀ m∈x.m,checkM m=0)∧checkK x.d=0∧(x.u=true→x.d.w=[])∧replayH (logW x)=(x.h,0)∧∀ n∈x.n,checkN n=0:=by
 unfold checkW at k
 split at k
 ·cases k
 ·rename_i q1
  split at k
  ·cases k
  ·rename_i q2
   split at k
   ·rename_i q;exact absurd k q
   ·rename_i q3
    split at k
    ·rename_i q;exact absurd k q
    ·rename_i q4
     split at k
     ·cases k
     ·rename_i q5
      split at k
      ·rename_i q;exact absurd k q
      ·rename_i q6
       split at k
       ·cases k
       ·rename_i q7
        refine ⟨by simpa using q1,by omega,firstM_all (by simpa using q3),by simpa using q4,fun hu=>?_,?_,firstN_all k⟩
        ·by_cases c:x.d.w=[]
         ·exact c
         ·exact absurd ⟨hu,c⟩ q5
        ·have e:=(sameH_iff _ _).1 (by simpa using q7)
         exact Prod.ext e (by simpa using q6)
theorem firstM_of:∀ {l:List PM},(∀ x∈l,checkM x=0)→firstM l=0
 |[],_=>rfl
 |y :: l,h=>by
  simp only [firstM]
  rw [if_neg (by simp [h y (by simp)])]
  exact firstM_of (fun x hx=>h x (by simp [hx]))
theorem firstN_of:∀ {l:List PN},(∀ x∈l,checkN x=0)→firstN l=0
 |[],_=>rfl
 |y :: l,h=>by
  simp only [firstN]
  rw [if_neg (by simp [h y (by simp)])]
  exact firstN_of (fun x hx=>h x (by simp [hx]))
theorem checkW_mk {x:PW} (h1:x.n.length=3) (h2:x.m.length≤30) (h3:∀ m∈x.m,checkM m=0) (h4:checkK x.d=0) (h5:x.u=true→x.d.w=[]) (h6:replayH (logW x)=(x.h,0)) (h7:∀ n∈x.n,checkN n=0):checkW x=0:=by
 unfold checkW
 rw [if_neg (by simp [h1]),if_neg (by omega),if_neg (by simp [firstM_of h3]),if_neg (by simp [h4]),if_neg (fun c=>c.2 (h5 c.1)),if_neg (by simp [h6]),if_neg (by simp [h6,(sameH_iff _ _).2 rfl])]
 exact firstN_of h7
theorem up_log {x:PW} (k:checkW x=0) (hu:x.u=true):∃ A,x.d=⟨textL A,[]⟩∧(∀ r∈A,checkR r=0)∧A.length≤80∧recK x.d=(x.d,A,0)∧replayF freshH A=(x.h,0):=by
 obtain ⟨-,-,-,h4,h5,h6,-⟩:=checkW_ok k
 obtain ⟨L,g1,g2,g3,g4⟩:=recK_facts h4
 have e:=g4 (h5 hu)
 refine ⟨L,e,g2,g3,by rw [g1,← e],?_⟩
 rw [logW,hu,if_pos rfl,g1] at h6
 simpa [replayH,if_neg (show ¬ 80 < L.length by omega)] using h6
theorem world_stands {x:PW} (k:checkW x=0) (hu:x.u=true):doW x ⟨6,0,0,zeroC⟩=({x with h:=freshH,u:=false},0)∧doW {x with h:=freshH,u:=false} ⟨7,0,0,zeroC⟩=(x,0):=by
 obtain ⟨h1,h2,h3,h4,h5,h6,h7⟩:=checkW_ok k
 obtain ⟨A,e1,e2,e3,e4,e5⟩:=up_log k hu
 have k2:checkW {x with h:=freshH,u:=false}=0:=checkW_mk h1 h2 h3 h4 (fun e=>by cases e) rfl h7
 constructor
 ·unfold doW happenW
  rw [if_neg (by simp [k]),if_neg (by simp),if_pos rfl,if_neg (by simp [hu])]
 ·unfold doW happenW
  have e6:replayH A=(x.h,0):=by unfold replayH;rw [if_neg (by omega)];exact e5
  rw [if_neg (by simp [k2]),if_neg (by simp),if_neg (by simp),if_pos rfl,if_neg (by simp)]
  simp only [e4,e6]
  rw [if_neg (by simp)]
  cases x
  simp only at hu
  subst hu
  rfl
end Go.Proofs.YtnnngphfmclegaaGreatDoor
