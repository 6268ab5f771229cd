/- The contract of hall.Replay: it answers what the plain functions say, in new memory, and leaves what was there as it was; no condition but that the arguments read as data and the package's table is as its text lays it. -/
import Derived.Test.YtabafikicbkkdaaGreatDoorSV35
import Derived.Test.YtabafikicbkkdaaGreatDoorSV3
import Derived.Test.YtabafikicbkkdaaGreatDoorSV14
import Derived.Test.YtabafikicbkkdaaGreatDoorSV31
namespace Go.Proofs.YtabafikicbkkdaaGreatDoor
open Go.RowKit
set_option linter.unusedVariables false
set_option maxHeartbeats 4000000
set_option maxRecDepth 100000
set_option linter.unusedSimpArgs false
theorem replay_step {X:List PR} {k:Nat} {r:PR} {hp:PH} (hr:X[k]?=some r) (h:replayF freshH (X.take k)=(hp,0)) (e:(nextH hp r).2.2=0):replayF freshH (X.take (k + 1))=((nextH hp r).1,0):=by
 obtain ⟨g1,g2⟩:=List.getElem?_eq_some_iff.1 hr
 rw [List.take_succ_eq_append_getElem g1,replay_app _ _ _ (by rw [h]),h,g2,replay_cons,if_neg (by simp [e]),replay_nil]
theorem replay_fail {X:List PR} {k:Nat} {r:PR} {hp:PH} (hr:X[k]?=some r) (h:replayF freshH (X.take k)=(hp,0)) (e:(nextH hp r).2.2≠0):replayF freshH X=(zeroH,(nextH hp r).2.2):=by
 obtain ⟨g1,g2⟩:=List.getElem?_eq_some_iff.1 hr
 have hx:X=X.take k++r :: X.drop (k + 1):=by
  rw [← g2]
  simp
 rw [hx,replay_app _ _ _ (by rw [h]),h,replay_cons,if_pos e]
def Replays (r:PH×Int) (w:World) (e:Ending) (w':World):Prop:=
 (∃ h':HV,e=.returned (.tuple #[h'.v,.int .i64 r.2])∧h'.ok w'∧h'.new w.heap.size∧h'.p=r.1)∧Below w.heap.size w w'
theorem Replay_c (la:Option Addr) (ln lc:Nat) (X:List RV) (w:World) (hS:Shapes w) (hX:Recs w la ln lc X):Calls Tryz.prog 19 #[.slice la ln lc] w fun e w'=>Replays (replayH (X.map RV.p)) w e w':=by
 have hlen:=hX.len
 have hmax:=hX.max
 have hle:=hX.le
 have x2:=Lay.made w [.slice none 0 0,.slice none 0 0,.int .i64 0,.int .i64 0,.slice none 0 0] 33
 have bw:Below w.heap.size w (w.alloc (.cells [.slice none 0 0,.slice none 0 0,.int .i64 0,.int .i64 0,.slice none 0 0].toArray 33)):=by (repeat first|exact bel0|assumption|refine bel1 ?_|refine bel2 ?_|refine bel3 ?_|refine belowT ?_ (by assumption)|refine bel5 ?_ (by simp;try omega))
 by_cases h80:80 < ln
 ·have HR:Hid (replayH (X.map RV.p)=(zeroH,2)):=hide (by unfold replayH;rw [if_pos (by rw [List.length_map,hlen];exact h80)])
  generalize replayH _=rr at *
  have h8':(80:Int) < (ln:Int):=by omega
  have e0:=x2.cell 0 _ rfl
  have e1:=x2.cell 1 _ rfl
  have e2:=x2.cell 2 _ rfl
  have e3:=x2.cell 3 _ rfl
  have e4:=x2.cell 4 _ rfl
  have f0:=x2.ice 0
  have f1:=x2.ice 1
  have f2:=x2.ice 2
  have f3:=x2.ice 3
  have f4:=x2.ice 4
  go_enter Tryz.func19,Tryz.ntmps19
  go_wp2
  have z0:=(Lay.made w [.slice none 0 0,.slice none 0 0,.int .i64 0,.int .i64 0,.slice none 0 0] 33)
  exact bodyPost_ret (v:=.tuple #[.agg #[.slice none 0 0,.slice none 0 0,.int .i64 0,.int .i64 0,.slice none 0 0],.int .i64 2]) (by simp [results,Tryz.results19,go_sem,e0,e1,e2,e3,e4]) rfl
   ⟨⟨HV.zero,by rw [HR.out];rfl,HV.zero_ok _,HV.zero_new _,by rw [HR.out];rfl⟩,bw⟩
 ·have HR:Hid (replayH (X.map RV.p)=replayF freshH (X.map RV.p)):=hide (by unfold replayH;rw [if_neg (by rw [List.length_map,hlen];exact h80)])
  generalize replayH _=rr at *
  have h8':¬ (80:Int) < (ln:Int):=by omega
  have HLN:=hide hlen
  clear hlen
  go_enter Tryz.func19,Tryz.ntmps19
  go_wp2_with fail
  refine (HNew_c _).mono ?_
  rintro e w1 ⟨⟨h0,rfl,hok,hnew,hp0⟩,hb1⟩
  replace x2:=x2.below hb1
  replace bw:=belowT bw hb1
  clear hb1
  have hnew1:=hnew.mono (show w.heap.size + 1≤_ by simp)
  have hoff0:=hok.off (Nat.le_refl _)
  have hst:replayF freshH ((X.map RV.p).take 0)=(h0.p,0):=by rw [hp0];rfl
  have HST:=hide hst
  obtain ⟨⟨za,zn,zc,Z,ka,kn,kc,bk,bh,bt⟩,a,n,c,L⟩:=h0
  dsimp only [HV.v] at *
  clear hst hp0 hnew
  go_upto_region 4 with fail
  have xH:=Lay.made w1 [.slice za zn zc,.slice ka kn kc,.int .i64 bh,.int .i64 bt,.slice a n c] 33
  have bn:=belowA (Below.refl _ w1) (.cells [.slice za zn zc,.slice ka kn kc,.int .i64 bh,.int .i64 bt,.slice a n c].toArray 33)
  have hlt2:=x2.lt
  replace x2:=x2.below bn
  replace hok:=hok.below bn (Nat.le_refl _)
  replace bw:=belowT bw bn
  generalize w1.heap.size=H at *
  generalize w1.alloc (.cells [.slice za zn zc,.slice ka kn kc,.int .i64 bh,.int .i64 bt,.slice a n c].toArray 33)=w2 at *
  clear bn
  go_wp2_with fail
  go_loopw [17] (fun i wr=>∃ (k:Nat) (hv:HV),k≤ln∧i=.int .i64 (k:Nat)∧Lay wr w.heap.size [.slice none 0 0,.slice none 0 0,.int .i64 0,.int .i64 0,.slice none 0 0]∧Lay wr H hv.cells∧hv.ok wr∧hv.new (w.heap.size + 1)∧hv.off H∧replayF freshH ((X.map RV.p).take k)=(hv.p,0)∧Below w.heap.size w wr) (fun i _=>ln - (intOf i).toNat)
  case atStart=>exact ⟨0,⟨⟨za,zn,zc,Z,ka,kn,kc,bk,bh,bt⟩,a,n,c,L⟩,by omega,rfl,x2,xH,hok,hnew1,hoff0,HST.out,bw⟩
  case round=>
   clear x2 xH hok hnew1 hoff0 HST bw
   obtain ⟨k,hv,hk,rfl,x2,xH,hok,hnew1,hoffH,hst,bw⟩:=hrel
   rename_i wr
   have HST:=hide hst
   clear hst
   by_cases hlt:k < ln
   ·obtain ⟨x,hx⟩:∃ z,X[k]?=some z:=⟨X[k]'(by rw [HLN.out];exact hlt),by simp⟩
    obtain ⟨lb,lo,rfl,hlb,hcl⟩:=hX.row.resolve_left (by omega)
    have kx:=hcl k x hx
    have hxk:=RV.ok.below (hX.ok x (List.mem_of_getElem? hx)) bw (Nat.le_refl _)
    have hxp:(X.map RV.p)[k]?=some x.p:=by rw [List.getElem?_map,hx];rfl
    have HN:=hide (fun w' hS' h' k'=>Next_c hv x w' hS' h' k')
    have HS1:Hid ((nextH hv.p x.p).2.2=0→replayF freshH ((X.map RV.p).take (k + 1))=((nextH hv.p x.p).1,0)):=hide (fun e=>replay_step hxp HST.out e)
    have HS2:Hid ((nextH hv.p x.p).2.2≠0→rr=(zeroH,(nextH hv.p x.p).2.2)):=hide (fun e=>by rw [HR.out];exact replay_fail hxp HST.out e)
    generalize nextH hv.p x.p=nh at *
    rw [show hv.v=.agg hv.cells.toArray from rfl,show x.v=.agg x.cells.toArray from rfl] at HN
    clear hx hxp HST
    obtain ⟨⟨za,zn,zc,Z,ka,kn,kc,bk,bh,bt⟩,a,n,c,L⟩:=hv
    obtain ⟨⟨rq,rs,⟨k1,z1,u1,t1,d1⟩⟩,ra,rn,rc⟩:=x
    dsimp only [HV.cells,RV.cells] at *
    have c0:=keepc bw (kx 0 _ rfl)
    have c1:=keepc bw (kx 1 _ rfl)
    have c2:=keepc bw (kx 2 _ rfl)
    have c3:=keepc bw (kx 3 _ rfl)
    have c4:=keepc bw (kx 4 _ rfl)
    have c5:=keepc bw (kx 5 _ rfl)
    have c6:=keepc bw (kx 6 _ rfl)
    rw [Nat.add_zero] at c0
    have q0:=past1 (xH.cell 0 _ rfl)
    have q1:=past1 (xH.cell 1 _ rfl)
    have q2:=past1 (xH.cell 2 _ rfl)
    have q3:=past1 (xH.cell 3 _ rfl)
    have q4:=past1 (xH.cell 4 _ rfl)
    have hlt':(k:Int) < (ln:Int):=by omega
    clear kx hcl
    go_wp2_with fail
    refine (HN.out _ (hS.below (by (repeat first|exact bel0|assumption|refine bel1 ?_|refine bel2 ?_|refine bel3 ?_|refine belowT ?_ (by assumption)|refine bel5 ?_ (by simp;try omega)))) (hok.below (B:=wr.heap.size) (by (repeat first|exact bel0|assumption|refine bel1 ?_|refine bel2 ?_|refine bel3 ?_|refine belowT ?_ (by assumption)|refine bel5 ?_ (by simp;try omega))) (Nat.le_refl _)) (RV.ok.below hxk (B:=wr.heap.size) (by (repeat first|exact bel0|assumption|refine bel1 ?_|refine bel2 ?_|refine bel3 ?_|refine belowT ?_ (by assumption)|refine bel5 ?_ (by simp;try omega))) (Nat.le_refl _))).mono ?_
    rintro e w3 ⟨⟨⟨⟨ya,yn,yc,Y,yk,ym,yl,yj,yh,yt⟩,yb,yo,yp,M⟩,⟨ae,at',aa,an,ac,ad⟩,rfl,ok3,oka,new3,_,p3,_⟩,hb3⟩
    have b3:Below wr.heap.size wr w3:=by (repeat first|exact bel0|assumption|refine bel1 ?_|refine bel2 ?_|refine bel3 ?_|refine belowT ?_ (by assumption)|refine bel5 ?_ (by simp;try omega))
    have hHl:=xH.lt
    have h2l:=x2.lt
    replace x2:=x2.below b3
    replace xH:=xH.below b3
    replace bw:=belowT bw b3
    have newW:=new3.mono (show wr.heap.size≤_ by simp)
    have P3:=hide p3
    clear q0 q1 q2 q3 q4 c0 c1 c2 c3 c4 c5 c6 hb3 HN oka p3 new3 hok hoffH hnew1 hxk
    dsimp only [HV.v,AV.v]
    go_upto_region 8 with fail
    obtain ⟨y7,_,bn⟩:=two_boxes w3 [.slice ya yn yc,.slice yk ym yl,.int .i64 yh,.int .i64 yt,.slice yb yo yp] [.int .i64 ae,.int .i64 at',.slice aa an ac] 33 56
    replace x2:=x2.below bn
    replace xH:=xH.below bn
    replace ok3:=ok3.below bn (Nat.le_refl _)
    replace bw:=belowT bw bn
    have hs3:=b3.size
    have hne7:w3.heap.size≠H:=by omega
    clear bn
    generalize w3.heap.size=B7 at *
    generalize (w3.alloc (.cells [.slice ya yn yc,.slice yk ym yl,.int .i64 yh,.int .i64 yt,.slice yb yo yp].toArray 33)).alloc (.cells [.int .i64 ae,.int .i64 at',.slice aa an ac].toArray 56)=w4 at *
    clear b3
    cases hb:nh.2.2 !=0
    ·have H0:=hide (HS1.out (by simpa using hb))
     clear HS1 HS2
     have e0:=xH.cell 0 _ rfl
     have e1:=xH.cell 1 _ rfl
     have e2:=xH.cell 2 _ rfl
     have e3:=xH.cell 3 _ rfl
     have e4:=xH.cell 4 _ rfl
     have f0:=xH.ice 0
     have f1:=xH.ice 1
     have f2:=xH.ice 2
     have f3:=xH.ice 3
     have f4:=xH.ice 4
     have q0:=y7.cell 0 _ rfl
     have q1:=y7.cell 1 _ rfl
     have q2:=y7.cell 2 _ rfl
     have q3:=y7.cell 3 _ rfl
     have q4:=y7.cell 4 _ rfl
     go_wp2
     have zB:=((((xH.set 0 (.slice ya yn yc)).set 1 (.slice yk ym yl)).set 2 (.int .i64 yh)).set 3 (.int .i64 yt)).set 4 (.slice yb yo yp)
     have hbut:=(((((ButI.refl (H) w4).step 0 (.slice ya yn yc)).step 1 (.slice yk ym yl)).step 2 (.int .i64 yh)).step 3 (.int .i64 yt)).step 4 (.slice yb yo yp)
     generalize ((((w4.setCell ⟨H,0,none⟩ (.slice ya yn yc)).setCell ⟨H,1,none⟩ (.slice yk ym yl)).setCell ⟨H,2,none⟩ (.int .i64 yh)).setCell ⟨H,3,none⟩ (.int .i64 yt)).setCell ⟨H,4,none⟩ (.slice yb yo yp)=w5 at *
     have z0:=zB.cell 0 _ rfl
     have z1:=zB.cell 1 _ rfl
     have z2:=zB.cell 2 _ rfl
     have z3:=zB.cell 3 _ rfl
     have z4:=zB.cell 4 _ rfl
     exact ⟨⟨k + 1,⟨⟨ya,yn,yc,Y,yk,ym,yl,yj,yh,yt⟩,yb,yo,yp,M⟩,by omega,by go_num,x2.butI hbut (by omega),zB,ok3.but hbut.but (newW _ (by omega)),newW.mono (by omega),newW _ (by omega),by rw [P3.out];exact H0.out,bw.trans (hbut.below (B:=w.heap.size) (by omega))⟩,by simp [intOf];omega⟩
    ·have H0:=hide (HS2.out (by simpa using hb))
     clear HS1 HS2
     have e0:=x2.cell 0 _ rfl
     have e1:=x2.cell 1 _ rfl
     have e2:=x2.cell 2 _ rfl
     have e3:=x2.cell 3 _ rfl
     have e4:=x2.cell 4 _ rfl
     have f0:=x2.ice 0
     have f1:=x2.ice 1
     have f2:=x2.ice 2
     have f3:=x2.ice 3
     have f4:=x2.ice 4
     go_wp2
     have zB:=((((x2.set 0 (.slice none 0 0)).set 1 (.slice none 0 0)).set 2 (.int .i64 0)).set 3 (.int .i64 0)).set 4 (.slice none 0 0)
     have hbut:=(((((ButI.refl (w.heap.size) w4).step 0 (.slice none 0 0)).step 1 (.slice none 0 0)).step 2 (.int .i64 0)).step 3 (.int .i64 0)).step 4 (.slice none 0 0)
     generalize ((((w4.setCell ⟨w.heap.size,0,none⟩ (.slice none 0 0)).setCell ⟨w.heap.size,1,none⟩ (.slice none 0 0)).setCell ⟨w.heap.size,2,none⟩ (.int .i64 0)).setCell ⟨w.heap.size,3,none⟩ (.int .i64 0)).setCell ⟨w.heap.size,4,none⟩ (.slice none 0 0)=w5 at *
     have z0:=zB.cell 0 _ rfl
     have z1:=zB.cell 1 _ rfl
     have z2:=zB.cell 2 _ rfl
     have z3:=zB.cell 3 _ rfl
     have z4:=zB.cell 4 _ rfl
     exact bodyPost_ret (v:=.tuple #[.agg #[.slice none 0 0,.slice none 0 0,.int .i64 0,.int .i64 0,.slice none 0 0],.int .i64 nh.2.2]) (by simp [results,Tryz.results19,go_sem,z0,z1,z2,z3,z4]) rfl
      ⟨⟨HV.zero,by rw [H0.out];rfl,HV.zero_ok _,HV.zero_new _,by rw [H0.out];rfl⟩,bw.trans (hbut.below (B:=w.heap.size) (by omega))⟩
   ·obtain rfl:k=ln:=by omega
    have hst:=HST.out
    rw [List.take_of_length_le (by rw [List.length_map,HLN.out];omega)] at hst
    have H0:Hid (rr=(hv.p,0)):=hide (by rw [HR.out,hst])
    clear hst HST
    obtain ⟨⟨za,zn,zc,Z,ka,kn,kc,bk,bh,bt⟩,a,n,c,L⟩:=hv
    dsimp only [HV.cells] at *
    have e0:=x2.cell 0 _ rfl
    have e1:=x2.cell 1 _ rfl
    have e2:=x2.cell 2 _ rfl
    have e3:=x2.cell 3 _ rfl
    have e4:=x2.cell 4 _ rfl
    have f0:=x2.ice 0
    have f1:=x2.ice 1
    have f2:=x2.ice 2
    have f3:=x2.ice 3
    have f4:=x2.ice 4
    have q0:=xH.cell 0 _ rfl
    have q1:=xH.cell 1 _ rfl
    have q2:=xH.cell 2 _ rfl
    have q3:=xH.cell 3 _ rfl
    have q4:=xH.cell 4 _ rfl
    go_wp2
    have zB:=((((x2.set 0 (.slice za zn zc)).set 1 (.slice ka kn kc)).set 2 (.int .i64 bh)).set 3 (.int .i64 bt)).set 4 (.slice a n c)
    have hbut:=(((((ButI.refl (w.heap.size) wr).step 0 (.slice za zn zc)).step 1 (.slice ka kn kc)).step 2 (.int .i64 bh)).step 3 (.int .i64 bt)).step 4 (.slice a n c)
    generalize ((((wr.setCell ⟨w.heap.size,0,none⟩ (.slice za zn zc)).setCell ⟨w.heap.size,1,none⟩ (.slice ka kn kc)).setCell ⟨w.heap.size,2,none⟩ (.int .i64 bh)).setCell ⟨w.heap.size,3,none⟩ (.int .i64 bt)).setCell ⟨w.heap.size,4,none⟩ (.slice a n c)=w5 at *
    have z0:=zB.cell 0 _ rfl
    have z1:=zB.cell 1 _ rfl
    have z2:=zB.cell 2 _ rfl
    have z3:=zB.cell 3 _ rfl
    have z4:=zB.cell 4 _ rfl
    exact bodyPost_ret (v:=.tuple #[.agg #[.slice za zn zc,.slice ka kn kc,.int .i64 bh,.int .i64 bt,.slice a n c],.int .i64 0]) (by simp [results,Tryz.results19,go_sem,z0,z1,z2,z3,z4]) rfl
     ⟨⟨⟨⟨za,zn,zc,Z,ka,kn,kc,bk,bh,bt⟩,a,n,c,L⟩,by rw [H0.out];rfl,hok.but hbut.but (hnew1 _ (by omega)),hnew1.mono (by omega),by rw [H0.out]⟩,bw.trans (hbut.below (B:=w.heap.size) (by omega))⟩
end Go.Proofs.YtabafikicbkkdaaGreatDoor
namespace Go.Proofs.YtabafikicbkkdaaGreatDoor
open Go.RowKit
set_option linter.unusedVariables false
set_option maxHeartbeats 4000000
set_option maxRecDepth 100000
set_option linter.unusedSimpArgs false
def RecRes (B:Nat) (w':World) (r:PK×List PR×Int) (e:Ending):Prop:=
 ∃ x:KV,∃ la ln lc X,e=.returned (.tuple #[x.v,.slice la ln lc,.int .i64 r.2.2])∧x.p=r.1∧x.ok w'∧x.fresh B∧Recs w' la ln lc X∧FreshR B la X∧X.map RV.p=r.2.1
theorem recK_bad {d:PK} (h:checkK d≠0):recK d=(zeroK,[],checkK d):=by unfold recK;rw [if_pos h]
theorem recK_good {s t:List UInt8} {D r:List PR} {b:List UInt8} (h:checkK ⟨s,t⟩=0) (hD:D=(linesP 80 s).1) (hA:Ahd (80 - D.length) t r b) (hs:r.length=80 - D.length∨(firstP b).2.2≠0) :
  recK ⟨s,t⟩=(⟨s++t.take (t.length - b.length),[]⟩,D++r,0):=by
 unfold recK
 obtain ⟨h1,h2⟩:=hA.stop hs
 rw [if_neg (by simp [h])]
 simp only [← hD,h1,h2]
theorem Lay.low {w w':World} {B L:Nat} {vs:List Value} (h:Lay w B vs) (hb:Below L w w') (hL:B < L):Lay w' B vs:=
 ⟨fun i v hv=>by rw [hb.cell (p:=⟨B,i,none⟩) hL];exact h.cell i v hv,fun i=>by rw [hb.frozen (p:=⟨B,i,none⟩) hL];exact h.ice i,Nat.lt_of_lt_of_le h.lt hb.size⟩
theorem keepl {w w':World} {L:Nat} (hb:Below L w w') {p:Addr} {u:Value} (h:w.cell? p=some u) (hL:p.block < L):w'.cell? p=some u:=by rw [hb.cell hL];exact h
theorem Recover_c (x:KV) (w:World) (hE:Env w) (h:x.ok w) (hn:x.n≤140737488355328) (hm:x.m≤140737488355328) :
  Calls Tryz.prog 34 #[x.v] w fun e w'=>RecRes w.heap.size w' (recK x.p) e∧Below w.heap.size w w':=by
 have HS:=hide (fun w' hE h=>safe_c x w' hE h hn hm)
 have hl1:=h.s.len
 have hl2:=h.w.len
 obtain ⟨⟨s,t⟩,a,n,c,b,m,d⟩:=x
 have hs:Byts w a n c s:=h.s
 have ht:Byts w b m d t:=h.w
 dsimp only [KV.v] at *
 have HL:Hid (checkK ⟨s,t⟩=0→n + m≤60000):=hide (by
  unfold checkK
  intro e
  split at e
  ·cases e
  ·simp only at *;omega)
 obtain ⟨i,hi,hz,hsz,hby⟩:=recInfo
 have xR:=Lay.made1 w (.cells #[.slice a n c,.slice b m d] 36) [.slice none 0 0,.slice none 0 0] 36
 go_enter Tryz.func34,Tryz.ntmps34
 go_wp2_with fail
 refine (HS.out _ (hE.below (by (repeat first|exact bel0|assumption|refine bel1 ?_|refine bel2 ?_|refine bel3 ?_|refine belowT ?_ (by assumption)|refine bel5 ?_ (by simp;try omega)))) (h.below (by (repeat first|exact bel0|assumption|refine bel1 ?_|refine bel2 ?_|refine bel3 ?_|refine belowT ?_ (by assumption)|refine bel5 ?_ (by simp;try omega))))).mono ?_
 rintro e w1 ⟨⟨v,X0,rfl,hX0,hD0,eX0⟩,hb1⟩
 have bw:Below w.heap.size w w1:=by (repeat first|exact bel0|assumption|refine bel1 ?_|refine bel2 ?_|refine bel3 ?_|refine belowT ?_ (by assumption)|refine bel5 ?_ (by simp;try omega))
 have k0:=keepc hb1 (p:=⟨w.heap.size,0,none⟩) (u:=.slice a n c) (by (first|(go_simp;done)|(simp [*,World.cell?_alloc_at,World.cell?_alloc_past,World.cell?_alloc_some,World.cell?_setCell_far];done)))
 have k1:=keepc hb1 (p:=⟨w.heap.size,1,none⟩) (u:=.slice b m d) (by (first|(go_simp;done)|(simp [*,World.cell?_alloc_at,World.cell?_alloc_past,World.cell?_alloc_some,World.cell?_setCell_far];done)))
 replace xR:=xR.below hb1
 have hlt:=xR.lt
 simp only [World.size_alloc] at hX0 hD0
 clear hb1 h HS
 have HC:Hid (∀ y,checkK ⟨s,t⟩=y→y=checkK ⟨s,t⟩):=hide (fun y e=>e.symm)
 generalize hck:checkK ⟨s,t⟩=ck at *
 by_cases h0:ck=0
 ·subst h0
  have hnm:=HL.out rfl
  rw [if_pos rfl] at eX0
  have HCK:=hide hck
  have HX0:=hide eX0
  clear hck eX0 HC
  have hX8:X0.length≤80:=by
   have:=(lines_facts _ 80 s (Nat.le_refl _)).1
   rw [← HX0.out,List.length_map] at this
   exact this
  go_wp2_with fail
  go_loopw [5,7] (fun v u wr=>∃ X a' n' c' r,u=.slice a' n' c'∧OwnR wr (w.heap.size + 2) v (X0++X)∧FromD (w.heap.size + 2) (X0++X)∧Byts w a' n' c' r∧Ahd (80 - X0.length) t (X.map RV.p) r∧Below (w.heap.size + 2) w1 wr) (fun _ u _=>slen u)
  case atStart=>exact ⟨[],b,m,d,t,rfl,by simpa using hX0,by simpa using hD0,ht,Ahd.start _ _,Below.refl _ _⟩
  case round=>
   obtain ⟨X,a',n',c',r,rfl,hX,hD,hr,hA,hbr⟩:=hrel
   rename_i wr
   have HY:Hid (∃ Y,Y=X0++X):=hide ⟨_,rfl⟩
   have hYL:(X0++X).length=X0.length + X.length:=List.length_append
   generalize hY:X0++X=Y at *
   replace HY:=hide hY
   have HYL:=hide hYL
   clear hY hYL
   have hrl:=hr.len
   have hAl:=hA.len
   have hAm:=hA.le
   rw [List.length_map] at hAm
   have hX80:Y.length≤80:=by have:=HYL.out;omega
   have hbrw:Below w.heap.size w wr:=bw.trans (hbr.mono (by omega))
   have HA:=hide hA
   clear hA
   by_cases h80:Y.length=80
   ·have hne:¬ ((Y.length:Nat):Int) < 80:=by omega
    have hst:(X.map RV.p).length=80 - (X0.map RV.p).length∨(firstP r).2.2≠0:=.inl (by rw [List.length_map,List.length_map];have:=HYL.out;omega)
    clear h80 hX80
    have bW:Below (w.heap.size + 2) w1 wr:=hbr
    have bWw:Below w.heap.size w wr:=bw.trans (bW.mono (by omega))
    have xW:=xR.low bW (by omega)
    have kk0:=keepl bW k0 (by simp)
    have kk1:=keepl bW k1 (by simp)
    obtain ⟨la,lc,hlv,hRecs,hla⟩:=OwnR.recs hX
    have HR:=hide (recK_good HCK.out HX0.out (by rw [List.length_map];exact HA.out) hst)
    rw [hl2,hrl,← List.map_append,HY.out] at HR
    obtain ⟨j,hj⟩:∃ j,m - n'=j:=⟨_,rfl⟩
    rw [hj] at HR
    have hjn:(m:Int) - (n':Int)=(j:Int):=by omega
    have hmd:=Cel.le ht
    have hdm:=Cel.max ht
    have hj0:(0:Int)≤(j:Int):=by omega
    have hj1:(j:Int)≤(d:Int):=by omega
    have hj2:j≤d:=by omega
    have hj3:¬ ((j:Int) < 0):=by omega
    have hj4:¬ ((d:Int) < (j:Int)):=by omega
    have tt:=(ht.take (k:=j) (by omega)).below bWw (Nat.le_refl _)
    have ss:=hs.below bWw (Nat.le_refl _)
    have HJ:=hide (fun w' h1 h2=>jboth_c a n c s b j d (t.take j) w' h1 h2 (by omega))
    have HYN:Hid (Y.length=Y.length):=hide rfl
    clear HYL
    generalize Y.length=ln at *
    cases hlv
    have e0:=xW.cell 0 _ rfl
    have e1:=xW.cell 1 _ rfl
    have f0:=xW.ice 0
    have f1:=xW.ice 1
    go_upto_region 10 with fail
    go_region_held3 (fun w'=>w'.cell? ⟨w.heap.size,0,none⟩=some (.slice a n c)∧w'.cell? ⟨w.heap.size,1,none⟩=some (.slice b m d)) ((first|(go_simp;done)|(simp [*,World.cell?_alloc_at,World.cell?_alloc_past,World.cell?_alloc_some,World.cell?_setCell_far];done))) (first|(go_at_call 55;refine (HJ.out _ (by refine Byts.below ss (B:=(wr).heap.size) ?_ (Nat.le_refl _);(repeat first|exact bel0|assumption|refine bel1 ?_|refine bel2 ?_|refine bel3 ?_|refine belowT ?_ (by assumption)|refine bel5 ?_ (by simp;try omega))) (by refine Byts.below tt (B:=(wr).heap.size) ?_ (Nat.le_refl _);(repeat first|exact bel0|assumption|refine bel1 ?_|refine bel2 ?_|refine bel3 ?_|refine belowT ?_ (by assumption)|refine bel5 ?_ (by simp;try omega)))).mono ?_;rintro e w8 ⟨⟨g8,rfl,hg8,i8⟩,hb8⟩;(have r0:=keepc hb8 (p:=⟨w.heap.size,0,none⟩) (u:=.slice a n c) (by (first|(go_simp;done)|(simp [*,World.cell?_alloc_at,World.cell?_alloc_past,World.cell?_alloc_some,World.cell?_setCell_far];done))));(have r1:=keepc hb8 (p:=⟨w.heap.size,1,none⟩) (u:=.slice b m d) (by (first|(go_simp;done)|(simp [*,World.cell?_alloc_at,World.cell?_alloc_past,World.cell?_alloc_some,World.cell?_setCell_far];done))));(have b8:Below (wr).heap.size (wr) w8:=by (repeat first|exact bel0|assumption|refine bel1 ?_|refine bel2 ?_|refine bel3 ?_|refine belowT ?_ (by assumption)|refine bel5 ?_ (by simp;try omega)));(have xR8:=xW.below b8);(have o0:=xR8.cell 0 _ rfl);(have o1:=xR8.cell 1 _ rfl);(have v2:=xR8.ice 0);(have v3:=xR8.ice 1)))
    all_goals
     go_wp2
     have hWs:=xW.lt
     simp at hg8
     have hR8:=hRecs.below b8 (Nat.le_refl _)
     have zB:=(xR8.set 0 (.slice (some ⟨g8,0,none⟩) (n + j) (n + j))).set 1 (.slice none 0 0)
     have hbut:=((ButI.refl (w.heap.size + 1) (w8)).step 0 (.slice (some ⟨g8,0,none⟩) (n + j) (n + j))).step 1 (.slice none 0 0)
     generalize ((w8).setCell ⟨w.heap.size + 1,0,none⟩ (.slice (some ⟨g8,0,none⟩) (n + j) (n + j))).setCell ⟨w.heap.size + 1,1,none⟩ (.slice none 0 0)=w99 at *
     have y0:=zB.cell 0 _ rfl
     have y1:=zB.cell 1 _ rfl
     refine bodyPost_ret (v:=.tuple #[.agg #[.slice (some ⟨g8,0,none⟩) (n + j) (n + j),.slice none 0 0],.slice la ln lc,.int .i64 0]) (by simp [results,Tryz.results34,go_sem,y0,y1]) rfl ⟨?_,(bWw.trans (b8.mono bWw.size)).trans (hbut.below (by omega))⟩
     rw [HR.out]
     have hf:KV.fresh (w.heap.size + 2) ⟨⟨s++t.take j,[]⟩,some ⟨g8,0,none⟩,n + j,n + j,none,0,0⟩:=⟨fun y e=>(by cases e;simp;omega),fun y e=>(by cases e)⟩
     have hfr:FreshR (w.heap.size + 2) la (Y):=⟨hla,hD⟩
     exact ⟨_,la,ln,lc,Y,rfl,rfl,KV.ok.but ⟨i8,Byts.nilSlice _⟩ hbut.but hf (by omega),hf.mono (by omega),hR8.but hbut.but hfr (by omega),hfr.mono (by omega),rfl⟩
   ·have hlt80:((Y.length:Nat):Int) < 80:=by omega
    obtain ⟨av,cv,hv,_,_⟩:=hX.recs
    subst hv
    go_wp2_with fail
    refine (first_c a' n' c' r _ (hE.below hbrw) (hr.below hbrw (Nat.le_refl _)) (by omega)).mono ?_
    rintro e w2 ⟨⟨⟨pX,aX,nX,cX⟩,a2,n2,c2,rfl,ePX,iX,nwX,hr2⟩,hb2⟩
    have hX2:=hX.below hb2
    have hap:=hX.apart (x:=⟨pX,aX,nX,cX⟩) (Nat.le_refl _) nwX
    have hsz2:=hbr.size
    have bw2:Below (w.heap.size + 2) w1 w2:=hbr.trans (hb2.mono (by omega))
    replace hr2:=hr2 w hr
    have HR2:Hid ((firstP r).2.1.length=n2):=hide hr2.len
    have hD2:∀ y,aX=some y→w.heap.size + 2≤y.block:=fun y e=>by have:=nwX y e;omega
    have HPX:Hid (pX=(firstP r).1):=hide ePX
    have hz2:=hb2.size
    clear hb2 nwX ePX
    obtain ⟨q',s',⟨k',z',m',t',d'⟩⟩:=pX
    dsimp only [RV.v] at iX ⊢
    generalize hfe:(firstP r).2.2=er at *
    go_upto_region 7 with fail
    have xV:=Lay.made w2 [.int .i64 q',.int .i64 s',.int .i64 k',.int .i64 z',.int .i64 m',.int .i64 t',.slice aX nX cX] 52
    have hb3:Below w2.heap.size w2 (w2.alloc (.cells [.int .i64 q',.int .i64 s',.int .i64 k',.int .i64 z',.int .i64 m',.int .i64 t',.slice aX nX cX].toArray 52)):=by clear bw2;(repeat first|exact bel0|assumption|refine bel1 ?_|refine bel2 ?_|refine bel3 ?_|refine belowT ?_ (by assumption)|refine bel5 ?_ (by simp;try omega))
    replace hX2:=hX2.below hb3
    have bw3:=bw2.trans (hb3.mono (by omega))
    replace iX:=RV.ok.below iX hb3 (Nat.le_refl _)
    have hz3:=hb3.size
    clear hb3 bw2
    generalize w2.alloc (.cells [.int .i64 q',.int .i64 s',.int .i64 k',.int .i64 z',.int .i64 m',.int .i64 t',.slice aX nX cX].toArray 52)=w3 at *
    have HFE:=hide hfe
    clear hfe
    by_cases her:er=0
    ·subst her
     have hst:=HA.out.step HFE.out (by rw [List.length_map];have:=HYL.out;omega)
     have HST:=hide hst
     clear hst
     have g0:=xV.cell 0 _ rfl
     have g1:=xV.cell 1 _ rfl
     have g2:=xV.cell 2 _ rfl
     have g3:=xV.cell 3 _ rfl
     have g4:=xV.cell 4 _ rfl
     have g5:=xV.cell 5 _ rfl
     have g6:=xV.cell 6 _ rfl
     have i0:=xV.ice 0
     have i1:=xV.ice 1
     have i2:=xV.ice 2
     have i3:=xV.ice 3
     have i4:=xV.ice 4
     have i5:=xV.ice 5
     have i6:=xV.ice 6
     have HL80:=hide hX80
     clear hX80 h80
     go_wp2_with (at_builtin;refine wpList_append_lies _ rfl _ _ 23 rfl (w.heap.size + 2) 52 i recZ 7 72 Tryz.underlying23 hi hz hsz hby rfl (by decide) _ _ _ rfl (hX2.below (belowA (Below.refl _ _) _)).own ⟨w3.heap.size,0,none⟩ 1 1 (RV.cells ⟨⟨q',s',⟨k',z',m',t',d'⟩⟩,aX,nX,cX⟩) rfl rfl ?hq0 (RV.cells_one _) (by decide) ?hq2 ?hq3 ?hq4 _ rfl ?hq5)
     case hq0=>
      intro j u hu
      rw [addr_add,Nat.zero_add]
      exact (Lay.made w3 _ 52).cell j u hu
     case hq2=>have:=HL80.out;simp only [maxLen];omega
     case hq3=>have:=HL80.out;omega
     case hq4=>simp;omega
     case hq5=>
      intro g4 cap4 w4 hown4 hg4 hat4 hlt4
      have hbA:Below w3.heap.size w3 (w3.alloc (.cells [.int .i64 q',.int .i64 s',.int .i64 k',.int .i64 z',.int .i64 m',.int .i64 t',.slice aX nX cX].toArray 52)):=belowA (Below.refl _ _) _
      have oN:=(hX2.below hbA).snoc (x:=⟨⟨q',s',⟨k',z',m',t',d'⟩⟩,aX,nX,cX⟩) (RV.ok.below iX hbA (Nat.le_refl _)) hap hown4 hg4 (hat4.imp_right fun e=>by rw [e];simp)
      have b4:Below (w.heap.size + 2) w1 w4:=(bw3.trans (hbA.mono (by omega))).grown hg4 (by simp;omega) (fun k e=>(hX2.own.lt k e).1)
      have hs4:=HST.out
      rw [← HPX.out] at hs4
      have hn4:=HR2.out
      have oN2:OwnR w4 (w.heap.size + 2) (.slice (some ⟨g4,0,none⟩) (Y.length + 1) cap4) (X0++(X++[⟨⟨q',s',⟨k',z',m',t',d'⟩⟩,aX,nX,cX⟩])):=by rw [← List.append_assoc,HY.out];exact oN
      have hDN:=hD.snoc (x:=⟨⟨q',s',⟨k',z',m',t',d'⟩⟩,aX,nX,cX⟩) hD2
      rw [← HY.out,List.append_assoc] at hDN
      go_wp2
      exact ⟨⟨X++[⟨⟨q',s',⟨k',z',m',t',d'⟩⟩,aX,nX,cX⟩],a2,n2,c2,_,rfl,oN2,hDN,hr2,by rw [List.map_append];exact hs4.1,b4⟩,by simp [slen];omega⟩
    ·have hcb:(er !=0)=true:=by simpa using her
     have hst:(X.map RV.p).length=80 - (X0.map RV.p).length∨(firstP r).2.2≠0:=.inr (by rw [HFE.out];exact her)
     clear h80 hX80
     have bW:Below (w.heap.size + 2) w1 w3:=bw3
     have bWw:Below w.heap.size w w3:=bw.trans (bW.mono (by omega))
     have xW:=xR.low bW (by omega)
     have kk0:=keepl bW k0 (by simp)
     have kk1:=keepl bW k1 (by simp)
     obtain ⟨la,lc,hlv,hRecs,hla⟩:=OwnR.recs hX2
     have HR:=hide (recK_good HCK.out HX0.out (by rw [List.length_map];exact HA.out) hst)
     rw [hl2,hrl,← List.map_append,HY.out] at HR
     obtain ⟨j,hj⟩:∃ j,m - n'=j:=⟨_,rfl⟩
     rw [hj] at HR
     have hjn:(m:Int) - (n':Int)=(j:Int):=by omega
     have hmd:=Cel.le ht
     have hdm:=Cel.max ht
     have hj0:(0:Int)≤(j:Int):=by omega
     have hj1:(j:Int)≤(d:Int):=by omega
     have hj2:j≤d:=by omega
     have hj3:¬ ((j:Int) < 0):=by omega
     have hj4:¬ ((d:Int) < (j:Int)):=by omega
     have tt:=(ht.take (k:=j) (by omega)).below bWw (Nat.le_refl _)
     have ss:=hs.below bWw (Nat.le_refl _)
     have HJ:=hide (fun w' h1 h2=>jboth_c a n c s b j d (t.take j) w' h1 h2 (by omega))
     have HYN:Hid (Y.length=Y.length):=hide rfl
     clear HYL
     generalize Y.length=ln at *
     cases hlv
     have e0:=xW.cell 0 _ rfl
     have e1:=xW.cell 1 _ rfl
     have f0:=xW.ice 0
     have f1:=xW.ice 1
     go_upto_region 10 with fail
     go_region_held3 (fun w'=>w'.cell? ⟨w.heap.size,0,none⟩=some (.slice a n c)∧w'.cell? ⟨w.heap.size,1,none⟩=some (.slice b m d)) ((first|(go_simp;done)|(simp [*,World.cell?_alloc_at,World.cell?_alloc_past,World.cell?_alloc_some,World.cell?_setCell_far];done))) (first|(go_at_call 55;refine (HJ.out _ (by refine Byts.below ss (B:=(w3).heap.size) ?_ (Nat.le_refl _);(repeat first|exact bel0|assumption|refine bel1 ?_|refine bel2 ?_|refine bel3 ?_|refine belowT ?_ (by assumption)|refine bel5 ?_ (by simp;try omega))) (by refine Byts.below tt (B:=(w3).heap.size) ?_ (Nat.le_refl _);(repeat first|exact bel0|assumption|refine bel1 ?_|refine bel2 ?_|refine bel3 ?_|refine belowT ?_ (by assumption)|refine bel5 ?_ (by simp;try omega)))).mono ?_;rintro e w8 ⟨⟨g8,rfl,hg8,i8⟩,hb8⟩;(have r0:=keepc hb8 (p:=⟨w.heap.size,0,none⟩) (u:=.slice a n c) (by (first|(go_simp;done)|(simp [*,World.cell?_alloc_at,World.cell?_alloc_past,World.cell?_alloc_some,World.cell?_setCell_far];done))));(have r1:=keepc hb8 (p:=⟨w.heap.size,1,none⟩) (u:=.slice b m d) (by (first|(go_simp;done)|(simp [*,World.cell?_alloc_at,World.cell?_alloc_past,World.cell?_alloc_some,World.cell?_setCell_far];done))));(have b8:Below (w3).heap.size (w3) w8:=by (repeat first|exact bel0|assumption|refine bel1 ?_|refine bel2 ?_|refine bel3 ?_|refine belowT ?_ (by assumption)|refine bel5 ?_ (by simp;try omega)));(have xR8:=xW.below b8);(have o0:=xR8.cell 0 _ rfl);(have o1:=xR8.cell 1 _ rfl);(have v2:=xR8.ice 0);(have v3:=xR8.ice 1)))
     all_goals
      go_wp2
      have hWs:=xW.lt
      simp at hg8
      have hR8:=hRecs.below b8 (Nat.le_refl _)
      have zB:=(xR8.set 0 (.slice (some ⟨g8,0,none⟩) (n + j) (n + j))).set 1 (.slice none 0 0)
      have hbut:=((ButI.refl (w.heap.size + 1) (w8)).step 0 (.slice (some ⟨g8,0,none⟩) (n + j) (n + j))).step 1 (.slice none 0 0)
      generalize ((w8).setCell ⟨w.heap.size + 1,0,none⟩ (.slice (some ⟨g8,0,none⟩) (n + j) (n + j))).setCell ⟨w.heap.size + 1,1,none⟩ (.slice none 0 0)=w99 at *
      have y0:=zB.cell 0 _ rfl
      have y1:=zB.cell 1 _ rfl
      refine bodyPost_ret (v:=.tuple #[.agg #[.slice (some ⟨g8,0,none⟩) (n + j) (n + j),.slice none 0 0],.slice av ln cv,.int .i64 0]) (by simp [results,Tryz.results34,go_sem,y0,y1]) rfl ⟨?_,(bWw.trans (b8.mono bWw.size)).trans (hbut.below (by omega))⟩
      rw [HR.out]
      have hf:KV.fresh (w.heap.size + 2) ⟨⟨s++t.take j,[]⟩,some ⟨g8,0,none⟩,n + j,n + j,none,0,0⟩:=⟨fun y e=>(by cases e;simp;omega),fun y e=>(by cases e)⟩
      have hfr:FreshR (w.heap.size + 2) av (Y):=⟨hla,hD⟩
      exact ⟨_,av,ln,cv,Y,rfl,rfl,KV.ok.but ⟨i8,Byts.nilSlice _⟩ hbut.but hf (by omega),hf.mono (by omega),hR8.but hbut.but hfr (by omega),hfr.mono (by omega),rfl⟩
 ·have hcb:(ck !=0)=true:=by simpa using h0
  have HR:=hide (recK_bad (d:=⟨s,t⟩) (by rw [hck];exact h0))
  rw [hck] at HR
  have e0:=xR.cell 0 _ rfl
  have e1:=xR.cell 1 _ rfl
  have f0:=xR.ice 0
  have f1:=xR.ice 1
  go_wp2
  have zB:=(xR.set 0 (.slice none 0 0)).set 1 (.slice none 0 0)
  have hbut:=((ButI.refl (w.heap.size + 1) (w1)).step 0 (.slice none 0 0)).step 1 (.slice none 0 0)
  generalize ((w1).setCell ⟨w.heap.size + 1,0,none⟩ (.slice none 0 0)).setCell ⟨w.heap.size + 1,1,none⟩ (.slice none 0 0)=w99 at *
  have y0:=zB.cell 0 _ rfl
  have y1:=zB.cell 1 _ rfl
  refine bodyPost_ret (v:=.tuple #[KV.zero.v,.slice none 0 0,.int .i64 ck]) (by simp [results,Tryz.results34,go_sem,KV.v,KV.zero,y0,y1]) rfl ⟨?_,bw.trans (hbut.below (by omega))⟩
  rw [HR.out]
  exact ⟨KV.zero,none,0,0,[],rfl,rfl,KV.zero_ok _,KV.zero_fresh _,Recs.nilSlice _,FreshR.nil _,rfl⟩
end Go.Proofs.YtabafikicbkkdaaGreatDoor
