/- The law's closed fact on stories; no condition but that the package-level variables are as their texts lay them. -/
import Derived.Test.YtabafikicbkkdaaGreatDoorSV40
import Derived.Test.YtabafikicbkkdaaGreatDoorSV26
import Derived.Test.YtabafikicbkkdaaGreatDoorSV41
import Derived.Test.YtabafikicbkkdaaGreatDoorSV22
import Derived.Test.YtabafikicbkkdaaGreatDoorSV13
namespace Go.Proofs.YtabafikicbkkdaaGreatDoor
open Go.RowKit
set_option linter.unusedVariables false
set_option maxHeartbeats 2000000
set_option maxRecDepth 100000
set_option linter.unusedSimpArgs false
def hapT (q r:Nat):List XV:=[⟨1,1,0,cP 5,some ⟨q,0,none⟩,1,1⟩,⟨1,2,0,cP 6,some ⟨r,0,none⟩,1,1⟩,⟨3,0,1,zeroC,none,0,0⟩,⟨3,0,0,zeroC,none,0,0⟩]
def tellX:List PX:=[⟨1,1,0,cP 5⟩,⟨1,2,0,cP 6⟩,⟨3,0,1,zeroC⟩,⟨3,0,0,zeroC⟩]
def tellW:PW:=(runF freshW tellX).1
theorem tells1:runW freshW tellX=(tellW,[0,0,0,0],0):=by kernel_rfl
theorem tells2:(doneS tellW).1.map PR.w=[2,1]:=by kernel_rfl
theorem tells3:(toldS tellW).1.map PA.t=[0,1]:=by kernel_rfl
theorem tells4:(doneS tellW).2=0:=by kernel_rfl
theorem tells5:(toldS tellW).2=0:=by kernel_rfl
theorem WRun_s (x:WV) (a:Option Addr) (n c:Nat) (L:List XV) {P:PW} {Q:List PX} {X:PW×List Int×Int} (hp:x.p=P) (hq:L.map XV.p=Q) (e:runW P Q=X) (w:World) (hE:Env w) (hk:x.ok w) (hs:x.sm) (hL:Rows' hapK w a n c L):Calls Tryz.prog 39 #[x.v,.slice a n c] w fun e w'=>RunNew X w e w':=by
 have q:=WRun_c x a n c L w hE hk hs hL
 rw [hp,hq,e] at q
 exact q
theorem tells_recs {a:Option Addr} {n c:Nat} {X:List RV} {w:World} (h:Recs w a n c X) (e:(X.map RV.p).map PR.w=[2,1]):n=2∧∃ b off,a=some ⟨b,off,none⟩∧w.cell? ⟨b,off,none⟩=some (.int .i64 2)∧w.cell? ⟨b,off + 7,none⟩=some (.int .i64 1):=by
 have hl:=congrArg List.length e
 simp only [List.length_map] at hl
 have hn:n=2:=by rw [← h.len,hl];rfl
 obtain ⟨b,off,ha,_,hc⟩:=h.row.resolve_left (by omega)
 obtain ⟨x,hx⟩:∃ x,X[0]?=some x:=⟨_,List.getElem?_eq_getElem (by rw [hl];decide)⟩
 obtain ⟨y,hy⟩:∃ x,X[1]?=some x:=⟨_,List.getElem?_eq_getElem (by rw [hl];decide)⟩
 have ex:x.p.w=2:=by
  have:=congrArg (fun l=>l[0]?) e
  simpa [hx] using this
 have ey:y.p.w=1:=by
  have:=congrArg (fun l=>l[1]?) e
  simpa [hy] using this
 have h0:=hc 0 x hx 0 _ rfl
 have h1:=hc 1 y hy 0 _ rfl
 rw [ex] at h0
 rw [ey] at h1
 exact ⟨hn,b,off,ha,by simpa using h0,by simpa using h1⟩
theorem tells_ans {a:Option Addr} {n c:Nat} {Y:List AV} {w:World} (h:Rows' ansK w a n c Y) (e:(Y.map AV.p).map PA.t=[0,1]):n=2∧∃ b off,a=some ⟨b,off,none⟩∧w.cell? ⟨b,off + 1,none⟩=some (.int .i64 0)∧w.cell? ⟨b,off + 3 + 1,none⟩=some (.int .i64 1):=by
 have hl:=congrArg List.length e
 simp only [List.length_map] at hl
 have hn:n=2:=by rw [← h.len,hl];rfl
 obtain ⟨b,off,ha,_,hc⟩:=h.row.resolve_left (by omega)
 obtain ⟨x,hx⟩:∃ x,Y[0]?=some x:=⟨_,List.getElem?_eq_getElem (by rw [hl];decide)⟩
 obtain ⟨y,hy⟩:∃ x,Y[1]?=some x:=⟨_,List.getElem?_eq_getElem (by rw [hl];decide)⟩
 have ex:x.t=0:=by
  have:=congrArg (fun l=>l[0]?) e
  simpa [hx,AV.p] using this
 have ey:y.t=1:=by
  have:=congrArg (fun l=>l[1]?) e
  simpa [hy,AV.p] using this
 have h0:=hc 0 x hx 1 _ rfl
 have h1:=hc 1 y hy 1 _ rfl
 rw [ex] at h0
 rw [ey] at h1
 exact ⟨hn,b,off,ha,by simpa [ansK] using h0,by simpa [ansK] using h1⟩
theorem tof_c (k n:Int) (w:World):Calls Tryz.prog 38 #[.int .i64 k,.int .i64 n] w fun e w'=>e=.returned (.agg #[.int .i64 k,.int .i64 0,.int .i64 n,.int .i64 0,.int .i64 0,.int .i64 0,.int .i64 0,.slice none 0 0])∧Below w.heap.size w w':=by
 obtain ⟨z0,z1,z2,z3,z4,z5,z6,z7⟩:=(Lay.made w [.int .i64 k,.int .i64 0,.int .i64 n,.int .i64 0,.int .i64 0,.int .i64 0,.int .i64 0,.slice none 0 0] 75).eight
 go_enter Tryz.func38,Tryz.ntmps38
 go_wp2
 exact bodyPost_ret (v:=.agg #[.int .i64 k,.int .i64 0,.int .i64 n,.int .i64 0,.int .i64 0,.int .i64 0,.int .i64 0,.slice none 0 0]) (by simp [results,Tryz.results38,go_sem,z0,z1,z2,z3,z4,z5,z6,z7]) rfl ⟨rfl,by (repeat first|exact bel0|assumption|refine bel1 ?_|refine bel2 ?_|refine bel3 ?_|refine belowT ?_ (by assumption)|refine bel5 ?_ (by simp;try omega))⟩
theorem told_w (w:World) (hE:Env w):Calls Tryz.prog 16 #[] w fun e w'=>e=.returned (.bool true)∧Below w.heap.size w w':=by
 go_enter Tryz.func16,Tryz.ntmps16
 go_wp2_with fail
 refine (WNew_c _).mono ?_
 rintro e w1 ⟨⟨x0,rfl,ok0,sm0,_,p0⟩,bw⟩
 dsimp only [WV.v]
 go_wp2_with fail
 refine (puts_c 5 (by omega) _).mono ?_
 rintro e w2 ⟨⟨q5,rfl,i5,_⟩,hb⟩
 replace ok0:=ok0.below hb (Nat.le_refl _)
 replace bw:=belowT bw hb
 clear hb
 go_wp2_with fail
 refine (puts_c 6 (by omega) _).mono ?_
 rintro e w2 ⟨⟨q6,rfl,i6,_⟩,hb⟩
 replace ok0:=ok0.below hb (Nat.le_refl _)
 replace i5:=i5.below hb (Nat.le_refl _)
 replace bw:=belowT bw hb
 clear hb
 go_wp2_with (go_at_call 38;refine (tof_c _ _ _).mono ?_;rintro e w3 ⟨rfl,hb⟩;replace ok0:=ok0.below hb (Nat.le_refl _);replace i5:=i5.below hb (Nat.le_refl _);replace i6:=i6.below hb (Nat.le_refl _);replace bw:=belowT bw hb;clear hb)
 have hL:Rows' hapK (w3.alloc (.cells (hapK.cells (hapT q5 q6)).toArray 75)) (some ⟨w3.heap.size,0,none⟩) 4 4 (hapT q5 q6):=Rows'.of_lay (Lay.made w3 (hapK.cells (hapT q5 q6)) 75) (fun x hx=>by
  have hb:=belowA (Below.refl _ w3) (.cells (hapK.cells (hapT q5 q6)).toArray 75)
  simp only [hapT,List.mem_cons,List.not_mem_nil,or_false] at hx
  obtain rfl|rfl|rfl|rfl:=hx
  ·exact i5.below hb (Nat.le_refl _)
  ·exact i6.below hb (Nat.le_refl _)
  ·exact Ints.nilSlice _
  ·exact Ints.nilSlice _) rfl (by omega)
 have bn:=belowA (Below.refl _ w3) (.cells (hapK.cells (hapT q5 q6)).toArray 75)
 have hE3:=hE.below (belowT bw bn)
 refine (WRun_s x0 _ 4 4 (hapT q5 q6) p0 rfl tells1 _ hE3 (ok0.below bn (Nat.le_refl _)) sm0 hL).mono ?_
 rintro e w4 ⟨⟨x1,a1,n1,c1,rfl,ok1,sm1,_,iE,_,p1⟩,hb⟩
 replace bw:=belowT (belowT bw bn) hb
 have hE4:=hE.below bw
 clear hb bn hL ok0 i5 i6 p0 sm0 hE3
 have HDN:=hide (fun w' h1 h2=>Done_w x1 w' h1 h2 sm1)
 have HTL:=hide (fun w' h1 h2=>Told_w x1 w' h1 h2 sm1)
 rw [show x1.p=tellW from p1] at HDN HTL
 have K2:=hide tells2
 have K3:=hide tells3
 have K4:=tells4
 have K5:=tells5
 generalize doneS tellW=D at *
 generalize toldS tellW=T at *
 clear p1 iE
 dsimp only [WV.v]
 go_upto_region 3 with fail
 have Cx:=Lay.made w4 x1.cells 40
 have bn:=belowA (Below.refl _ w4) (.cells x1.cells.toArray 40)
 generalize w4.heap.size=C at Cx
 generalize w4.alloc (.cells x1.cells.toArray 40)=w5 at *
 replace ok1:=ok1.below bn (Nat.le_refl _)
 replace hE4:=hE4.below bn
 replace bw:=belowT bw bn
 clear bn
 obtain ⟨q0,q1,q2,q3,q4,q5,q6,q7,q8,q9⟩:=Cx.ten
 go_wp2_with fail
 refine (HDN.out _ hE4 ok1).mono ?_
 rintro e w6 ⟨⟨la,ln,lc,X,rfl,hX,_,pX⟩,hb⟩
 replace Cx:=Cx.below hb
 replace ok1:=ok1.below hb (Nat.le_refl _)
 replace hE4:=hE4.below hb
 replace bw:=belowT bw hb
 clear hb q0 q1 q2 q3 q4 q5 q6 q7 q8 q9
 obtain ⟨q0,q1,q2,q3,q4,q5,q6,q7,q8,q9⟩:=Cx.ten
 go_wp2_with fail
 refine (HTL.out _ hE4 ok1).mono ?_
 rintro e w7 ⟨⟨ta,tn,tc,Y,rfl,hY,_,pY⟩,hb⟩
 replace hX:=hX.below hb (Nat.le_refl _)
 replace bw:=belowT bw hb
 clear hb q0 q1 q2 q3 q4 q5 q6 q7 q8 q9 Cx ok1 hE4
 obtain ⟨rfl,lb,lo,rfl,k0,k1⟩:=tells_recs hX (by rw [pX];exact K2.out)
 obtain ⟨rfl,tb,tf,rfl,k2,k3⟩:=tells_ans hY (by rw [pY];exact K3.out)
 rw [K5]
 clear hX hY pX pY K2 K3 K4 K5 HDN HTL
 go_wp2
 go_ret
 exact ⟨rfl,bw⟩
end Go.Proofs.YtabafikicbkkdaaGreatDoor
namespace Go.Proofs.YtabafikicbkkdaaGreatDoor
open Go.RowKit
set_option linter.unusedVariables false
set_option maxHeartbeats 2000000
set_option maxRecDepth 100000
set_option linter.unusedSimpArgs false
theorem Keeps.refl (P:List PZ) (j:Nat) (m:Bool):Keeps P P j m:=⟨rfl,fun i y z h1 h2=>by rw [h1] at h2;cases h2;exact ⟨[],by simp,fun h=>absurd rfl h⟩⟩
theorem done_zones {d:PD} {j:Nat} {c:PC} (hd:checkD d=0) (hj:j < 3) (hc:checkC c=0) :
  (doneD d j c).1.P.length=d.P.length∧
  (∀ (i:Nat) (y z:PZ),d.P[i]?=some y→(doneD d j c).1.P[i]?=some z→(∃ r,z.2=y.2++r)∨(c.k=4∧c.z=(i:Int)∧(doneD d j c).2.e=0∧z.2=[]))∧
  ((c.k=5∨c.k=6)→(doneD d j c).2.e=0→∃ (i:Nat) (y z:PZ),c.z=(i:Int)∧i < 4∧d.P[i]?=some y∧(doneD d j c).1.P[i]?=some z∧(doneD d j c).2.t=(y.2.length:Int)∧z.2=y.2++c.d):=by
 obtain ⟨hz,hb⟩:=checkD_ok hd
 have same:∀ P:List PZ,P=d.P→P.length=d.P.length∧∀ (i:Nat) (y z:PZ),d.P[i]?=some y→P[i]?=some z→(∃ r,z.2=y.2++r)∨(c.k=4∧c.z=(i:Int)∧(doneD d j c).2.e=0∧z.2=[]):=fun P e=>by
  subst e
  exact ⟨rfl,fun i y z h1 h2=>.inl ⟨[],by rw [h1] at h2;cases h2;simp⟩⟩
 have keeps:∀ (P:List PZ) (k:Nat) (m:Bool),Keeps d.P P k m→P.length=d.P.length∧∀ (i:Nat) (y z:PZ),d.P[i]?=some y→P[i]?=some z→(∃ r,z.2=y.2++r)∨(c.k=4∧c.z=(i:Int)∧(doneD d j c).2.e=0∧z.2=[]):=fun P k m h=>
  ⟨h.1,fun i y z h1 h2=>.inl (by obtain ⟨r,g,_⟩:=h.2 i y z h1 h2;exact ⟨r,g⟩)⟩
 by_cases h8:8≤c.k
 ·have e:(doneD d j c).1.P=d.P:=by
   unfold doneD
   rw [if_pos h8]
   split<;>rfl
  obtain ⟨s1,s2⟩:=same _ e
  exact ⟨s1,s2,fun h=>by omega⟩
 ·cases hm:mightB d.b j (c.k !=7)
  ·have e:doneD d j c=(d,errA 8):=by
    unfold doneD
    rw [if_neg h8,if_pos hm]
   obtain ⟨s1,s2⟩:=same _ (congrArg (fun x=>x.1.P) e)
   exact ⟨s1,s2,fun _ h=>by rw [e] at h;exact absurd h (by simp [errA])⟩
  ·by_cases h7:c.k=7
   ·have e:(doneD d j c).1.P=d.P:=by
     unfold doneD
     rw [if_neg h8,if_neg (by simp [hm]),if_pos h7]
    obtain ⟨s1,s2⟩:=same _ e
    exact ⟨s1,s2,fun h=>by omega⟩
   ·by_cases h56:c.k=5∨c.k=6
    ·have e:doneD d j c=writeD d c:=by
      unfold doneD
      rw [if_neg h8,if_neg (by simp [hm]),if_neg h7,if_pos h56]
     by_cases h6:c.k=6∧inB c.z 0 3=true∧c.at'≠(at' d.P c.z).2.length
     ·have e2:doneD d j c=(d,errA 6):=by rw [e];unfold writeD;rw [if_pos h6]
      obtain ⟨s1,s2⟩:=same _ (congrArg (fun x=>x.1.P) e2)
      exact ⟨s1,s2,fun _ h=>by rw [e2] at h;exact absurd h (by simp [errA])⟩
     ·by_cases he:(writeP d.P c.z c.d).2.2=0
      ·have e2:doneD d j c=(⟨(writeP d.P c.z c.d).1,d.b⟩,⟨0,(writeP d.P c.z c.d).2.1,[]⟩):=by
        rw [e];unfold writeD;rw [if_neg h6,if_neg (by simp [he])]
       obtain ⟨hcz,k,hk,hk4,hat⟩:=pre_plain (write_pre he)
       rw [hk] at he
       have e3:writeP d.P k c.d=((writeP d.P k c.d).1,(writeP d.P k c.d).2.1,0):=by rw [← he]
       obtain ⟨w1,w2,w3,w4,w5⟩:=write_law e3
       rw [← hk] at w2 w3 w4
       obtain ⟨s1,s2⟩:=keeps _ _ _ w2
       rw [e2] at s2 ⊢
       refine ⟨s1,s2,fun _ _=>⟨k,_,_,hk,hk4,hat,w4,w3,rfl⟩⟩
      ·have e2:doneD d j c=(d,errA (writeP d.P c.z c.d).2.2):=by
        rw [e];unfold writeD;rw [if_neg h6,if_pos he]
       obtain ⟨s1,s2⟩:=same _ (congrArg (fun x=>x.1.P) e2)
       exact ⟨s1,s2,fun _ h=>by rw [e2] at h;exact absurd h he⟩
    ·have e:doneD d j c=if (zoneDo d.P c).2≠0 then (d,errA (zoneDo d.P c).2) else (⟨(zoneDo d.P c).1,d.b⟩,zeroA):=by
      unfold doneD
      rw [if_neg h8,if_neg (by simp [hm]),if_neg h7,if_neg h56]
     by_cases he:(zoneDo d.P c).2=0
     ·rw [if_neg (by simp [he])] at e
      have fin:(zoneDo d.P c).1.length=d.P.length∧(∀ (i:Nat) (y z:PZ),d.P[i]?=some y→(zoneDo d.P c).1[i]?=some z→(∃ r,z.2=y.2++r)∨(c.k=4∧c.z=(i:Int)∧(doneD d j c).2.e=0∧z.2=[])):=by
       have hkk:=(cmd_facts hc).1
       unfold zoneDo at he ⊢
       by_cases k1:c.k=1
       ·rw [if_pos k1] at he ⊢
        have hp:pre d.P c.z=0:=pre_of_two (f:=holdP d.P) (fun h=>by simp [holdP,h]) he
        obtain ⟨_,k,hk,_,_⟩:=pre_plain hp
        rw [hk] at he
        have g:=(hold_law (pair_of he)).2.1
        rw [← hk] at g
        exact keeps _ _ _ g
       ·rw [if_neg k1] at he ⊢
        by_cases k2:c.k=2
        ·rw [if_pos k2] at he ⊢
         have hp:pre d.P c.z=0:=pre_of_two (f:=closeP d.P) (fun h=>by simp [closeP,h]) he
         obtain ⟨_,k,hk,_,_⟩:=pre_plain hp
         rw [hk] at he
         have g:=(close_law (pair_of he)).2
         rw [← hk] at g
         exact keeps _ _ _ g
        ·rw [if_neg k2] at he ⊢
         by_cases k3:c.k=3
         ·rw [if_pos k3] at he ⊢
          have hp:pre d.P c.z=0:=pre_of_two (f:=finishP d.P) (fun h=>by simp [finishP,h]) he
          obtain ⟨_,k,hk,_,_⟩:=pre_plain hp
          rw [hk] at he
          have g:=(finish_law (pair_of he)).2.1
          rw [← hk] at g
          exact keeps _ _ _ g
         ·rw [if_neg k3] at he ⊢
          have hp:pre d.P c.z=0:=pre_of_two (f:=resetP d.P) (fun h=>by simp [resetP,h]) he
          obtain ⟨_,k,hk,_,_⟩:=pre_plain hp
          rw [hk] at he
          obtain ⟨r1,r2,r3,r4⟩:=reset_law (pair_of he)
          rw [← hk] at r2
          rw [r2]
          refine ⟨by simp,fun i y z g1 g2=>?_⟩
          by_cases ci:k=i
          ·subst ci
           rw [List.getElem?_set_self (by omega)] at g2
           cases g2
           exact .inr ⟨by omega,by first|rfl|omega,by rw [e];rfl,rfl⟩
          ·rw [List.getElem?_set_ne ci] at g2
           rw [g1] at g2
           cases g2
           exact .inl ⟨[],by simp⟩
      have eP:(doneD d j c).1.P=(zoneDo d.P c).1:=by rw [e]
      rw [eP]
      exact ⟨fin.1,fin.2,fun h=>absurd h h56⟩
     ·rw [if_pos he] at e
      obtain ⟨s1,s2⟩:=same _ (congrArg (fun x=>x.1.P) e)
      exact ⟨s1,s2,fun h=>absurd h h56⟩
end Go.Proofs.YtabafikicbkkdaaGreatDoor
namespace Go.Proofs.YtabafikicbkkdaaGreatDoor
open Go.RowKit
set_option linter.unusedVariables false
set_option maxHeartbeats 2000000
set_option maxRecDepth 100000
set_option linter.unusedSimpArgs false
theorem snoc_ind {C:List PR→Prop} (h0:C []) (h1:∀ A r,C A→C (A++[r])):∀ A,C A:=fun A=>by
 have h:∀ l:List PR,C l.reverse:=fun l=>by
  induction l with
  |nil=>simpa using h0
  |cons a l ih=>rw [List.reverse_cons];exact h1 _ _ ih
 have:=h A.reverse
 rwa [List.reverse_reverse] at this
theorem log_of:∀ A:List PR,(replayF freshH A).2=0→(∀ (i:Nat) (r:PR),A[i]?=some r→r.s=(cntR (A.take i) r.w:Int) + 1)→Log A (replayF freshH A).1 (toldF freshH A):=
 snoc_ind (fun _ _=>Log.nil) (fun A r ih k hn=>by
  obtain ⟨k1,k2,k3⟩:=replay_snoc A r freshH k
  have hA:=ih k1 (fun i x e=>by
   have hl:=(List.getElem?_eq_some_iff.1 e).1
   have:=hn i x (by rw [List.getElem?_append_left hl];exact e)
   rwa [List.take_append_of_le_length (by omega)] at this)
  have hr:=hn A.length r (by simp)
  rw [List.take_append_of_le_length (Nat.le_refl _),List.take_length] at hr
  obtain ⟨i,hi,hi3⟩:=rec_who (nextH_ok k2).2.1
  have hs:=hA.snoc k2 (by rw [hr,hi,hA.cnt i hi3])
  rw [k3,told_app _ _ _ k1]
  exact hs)
theorem Log.front {A:List PR} {r:PR} {H:PH} {T:List PA} (h:Log (A++[r]) H T):∃ H0 T0,Log A H0 T0∧(nextH H0 r).2.2=0∧r.s=(lastH H0 r.w).s + 1∧H=(nextH H0 r).1∧T=T0++[(nextH H0 r).2.1]:=by
 have k:(replayF freshH (A++[r])).2=0:=by rw [h.rep]
 obtain ⟨k1,k2,k3⟩:=replay_snoc A r freshH k
 have hA:=log_of A k1 (fun i x e=>by
  have hl:=(List.getElem?_eq_some_iff.1 e).1
  have:=h.num i x (by rw [List.getElem?_append_left hl];exact e)
  rwa [List.take_append_of_le_length (by omega)] at this)
 have hr:=h.num A.length r (by simp)
 rw [List.take_append_of_le_length (Nat.le_refl _),List.take_length] at hr
 obtain ⟨i,hi,hi3⟩:=rec_who (nextH_ok k2).2.1
 refine ⟨_,_,hA,k2,by rw [hr,hi,hA.cnt i hi3],?_,?_⟩
 ·rw [← k3,h.rep]
 ·rw [h.told,told_app _ _ _ k1]
theorem next_zones {h:PH} {r:PR} (k:(nextH h r).2.2=0):(nextH h r).1.d.P.length=h.d.P.length∧
  ∀ (i:Nat) (y z:PZ),h.d.P[i]?=some y→(nextH h r).1.d.P[i]?=some z→(∃ x,z.2=y.2++x)∨(r.c.k=4∧r.c.z=(i:Int)∧(nextH h r).2.1.e=0∧z.2=[]):=by
 obtain ⟨h1,h2,h3⟩:=nextH_ok k
 obtain ⟨hd,hl,_⟩:=checkH_ok h1
 obtain ⟨i,hi,hi3⟩:=rec_who h2
 obtain ⟨_,_,hc⟩:=checkR_facts h2
 rcases h3 with ⟨e,q⟩|⟨e,q⟩
 ·rw [q]
  exact ⟨rfl,fun i y z a b=>.inl ⟨[],by rw [a] at b;cases b;simp⟩⟩
 ·rw [q,hi]
  have:=done_zones (c:=r.c) hd hi3 hc
  exact ⟨this.1,this.2.1⟩
theorem next_may {h:PH} {r:PR} (k:(nextH h r).2.2=0) (hm:mightB h.d.b r.w true=false):(nextH h r).1.d.P=h.d.P:=by
 obtain ⟨h1,h2,h3⟩:=nextH_ok k
 obtain ⟨hd,hl,_⟩:=checkH_ok h1
 obtain ⟨i,hi,hi3⟩:=rec_who h2
 obtain ⟨_,_,hc⟩:=checkR_facts h2
 rcases h3 with ⟨e,q⟩|⟨e,q⟩
 ·rw [q]
 ·rw [q]
  rw [hi] at hm ⊢
  exact (done_right (c:=r.c) hd hi3 hc).may hm
theorem Log.keys {A:List PR} {r:PR} {H:PH} {T:List PA} (h:Log (A++[r]) H T):∃ H0,replayF freshH A=(H0,0)∧checkH H0=0∧(mightB H0.d.b r.w true=true∨H.d.P=H0.d.P):=by
 obtain ⟨H0,T0,h0,k,_,e,_⟩:=h.front
 refine ⟨H0,h0.rep,h0.ok,?_⟩
 cases hm:mightB H0.d.b r.w true with
 |true=>exact .inl rfl
 |false=>exact .inr (by rw [e];exact next_may k hm)
def Stand (A:List PR) (T:List PA) (P:List PZ):Prop:=∀ (i:Nat) (r:PR) (a:PA),A[i]?=some r→T[i]?=some a→a.e=0→(r.c.k=5∨r.c.k=6)→
 (∀ (i':Nat) (r':PR) (a':PA),i < i'→A[i']?=some r'→T[i']?=some a'→¬ (r'.c.k=4∧r'.c.z=r.c.z∧a'.e=0))→
 ∃ (n:Nat) (y:PZ) (t:Nat),r.c.z=(n:Int)∧n < 4∧P[n]?=some y∧a.t=(t:Int)∧t + r.c.d.length≤y.2.length∧(y.2.drop t).take r.c.d.length=r.c.d
theorem Log.stand:∀ A:List PR,∀ H T,Log A H T→Stand A T H.d.P:=
 snoc_ind (fun H T _ i r a e=>by simp at e) (fun A r ih H T h=>by
  obtain ⟨H0,T0,h0,k,hs,eH,eT⟩:=h.front
  have hS:=ih H0 T0 h0
  subst eH eT
  obtain ⟨z1,z2⟩:=next_zones k
  have hlen:=h0.len
  intro i x a e1 e2 he hk hno
  by_cases c:i < A.length
  ·rw [List.getElem?_append_left c] at e1
   rw [List.getElem?_append_left (by omega)] at e2
   obtain ⟨n,y,t,q1,q2,q3,q4,q5,q6⟩:=hS i x a e1 e2 he hk (fun i' r' a' hi g1 g2=>by
    have hl:=(List.getElem?_eq_some_iff.1 g1).1
    exact hno i' r' a' hi (by rw [List.getElem?_append_left hl];exact g1) (by rw [List.getElem?_append_left (by omega)];exact g2))
   have hn:=(List.getElem?_eq_some_iff.1 q3).1
   obtain ⟨z,hz⟩:∃ z,(nextH H0 r).1.d.P[n]?=some z:=⟨_,List.getElem?_eq_getElem (by omega)⟩
   refine ⟨n,z,t,q1,q2,hz,q4,?_⟩
   rcases z2 n y z q3 hz with ⟨x',g⟩|⟨g1,g2,g3,g4⟩
   ·rw [g]
    refine ⟨by rw [List.length_append];omega,?_⟩
    rw [List.drop_append_of_le_length (by omega),List.take_append_of_le_length (by rw [List.length_drop];omega)]
    exact q6
   ·exact absurd ⟨g1,by rw [g2,q1],g3⟩ (hno A.length r (nextH H0 r).2.1 c (by simp) (by rw [← hlen];simp))
  ·rw [List.getElem?_append_right (by omega)] at e1
   have hz:=(List.getElem?_eq_some_iff.1 e1).1
   have h0':i - A.length=0:=by simp at hz;omega
   rw [h0'] at e1
   simp at e1
   subst e1
   rw [List.getElem?_append_right (by omega),hlen,h0'] at e2
   simp at e2
   subst e2
   obtain ⟨n1,n2,n3⟩:=nextH_ok k
   obtain ⟨hd,_,_⟩:=checkH_ok n1
   obtain ⟨j,hj,hj3⟩:=rec_who n2
   obtain ⟨_,_,hc⟩:=checkR_facts n2
   rcases n3 with ⟨e,q⟩|⟨e,q⟩
   ·omega
   ·rw [q] at he ⊢
    rw [hj] at he ⊢
    obtain ⟨m,y,z,g1,g2,g3,g4,g5,g6⟩:=(done_zones (c:=r.c) hd hj3 hc).2.2 hk he
    exact ⟨m,z,y.2.length,g1,g2,g4,g5,by rw [g6];simp,by rw [g6];simp⟩)
end Go.Proofs.YtabafikicbkkdaaGreatDoor
