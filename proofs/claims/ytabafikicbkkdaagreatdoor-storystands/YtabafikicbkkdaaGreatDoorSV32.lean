/- The contracts of disk.Sync and disk.Put; no condition but that the arguments are read, and that the package-level variables are as their texts lay them. -/
import Derived.Test.YtabafikicbkkdaaGreatDoorSV31
import Derived.Test.YtabafikicbkkdaaGreatDoorSV26
import Derived.Deep.RegionHeld3
import Derived.Test.YtabafikicbkkdaaGreatDoorSV10
import Derived.Test.YtabafikicbkkdaaGreatDoorSV14
import Derived.Test.YtabafikicbkkdaaGreatDoorSV19
namespace Go.Proofs.YtabafikicbkkdaaGreatDoor
open Go.RowKit
set_option linter.unusedVariables false
set_option maxHeartbeats 4000000
set_option maxRecDepth 100000
set_option linter.unusedSimpArgs false
theorem checkK_len {s t:List UInt8} {n m:Nat} (hl1:s.length=n) (hl2:t.length=m) (h:checkK ⟨s,t⟩=0):n + m≤60000:=by
 unfold checkK at h
 split at h
 ·cases h
 ·simp only at *;omega
theorem Sync_c (x:KV) (w:World) (hE:Env w) (h:x.ok w) (hn:x.n≤140737488355328) (hm:x.m≤140737488355328) :
  Calls Tryz.prog 187 #[x.v] w fun e w'=>KRes w.heap.size w' (syncK x.p) e∧Below w.heap.size w w':=by
 have HS:=hide (fun w' hE h=>KCheck_c x w' hE h hn hm)
 have hl1:=h.s.len
 have hl2:=h.w.len
 obtain ⟨⟨s,t⟩,a,n,c,b,m,d⟩:=x
 have hs:Byts w a n c s:=h.s
 have ht:Byts w b m d t:=h.w
 dsimp only [KV.v] at *
 have HR:Hid (syncK ⟨s,t⟩=if checkK ⟨s,t⟩≠0 then (zeroK,checkK ⟨s,t⟩) else if checkK ⟨s++t,[]⟩≠0 then (zeroK,checkK ⟨s++t,[]⟩) else (⟨s++t,[]⟩,0)):=hide rfl
 have HL:Hid (checkK ⟨s,t⟩=0→n + m≤60000):=hide (checkK_len hl1 hl2)
 have xR:=Lay.made1 w (.cells #[.slice a n c,.slice b m d] 36) [.slice none 0 0,.slice none 0 0] 36
 go_enter Tryz.func187,Tryz.ntmps187
 go_wp2_with fail
 refine (HS.out _ (hE.below (by (repeat first|exact bel0|assumption|refine bel1 ?_|refine bel2 ?_|refine bel3 ?_|refine belowT ?_ (by assumption)|refine bel5 ?_ (by simp;try omega)))) (h.below (by (repeat first|exact bel0|assumption|refine bel1 ?_|refine bel2 ?_|refine bel3 ?_|refine belowT ?_ (by assumption)|refine bel5 ?_ (by simp;try omega))))).mono ?_
 rintro e w1 ⟨rfl,hb1⟩
 have bw:Below w.heap.size w w1:=by (repeat first|exact bel0|assumption|refine bel1 ?_|refine bel2 ?_|refine bel3 ?_|refine belowT ?_ (by assumption)|refine bel5 ?_ (by simp;try omega))
 have k0:=keepc hb1 (p:=⟨w.heap.size,0,none⟩) (u:=.slice a n c) (by (first|(go_simp;done)|(simp [*,World.cell?_alloc_at,World.cell?_alloc_past,World.cell?_alloc_some,World.cell?_setCell_far];done)))
 have k1:=keepc hb1 (p:=⟨w.heap.size,1,none⟩) (u:=.slice b m d) (by (first|(go_simp;done)|(simp [*,World.cell?_alloc_at,World.cell?_alloc_past,World.cell?_alloc_some,World.cell?_setCell_far];done)))
 replace xR:=xR.below hb1
 replace hs:=hs.below bw (Nat.le_refl _)
 replace ht:=ht.below bw (Nat.le_refl _)
 have hlt:=xR.lt
 clear hb1 h HS
 generalize checkK ⟨s,t⟩=ck at *
 by_cases hck:ck=0
 ·subst hck
  have hnm:=HL.out rfl
  simp only [ne_eq,not_true_eq_false,if_false] at HR
  go_wp2_with fail
  refine (jboth_c a n c s b m d t _ hs ht (by omega)).mono ?_
  rintro e w2 ⟨⟨g2,rfl,hg2,i2⟩,hb2⟩
  replace xR:=xR.below hb2
  replace bw:=belowT bw hb2
  clear hb2 k0 k1
  have HK:=hide (fun w' hE h=>KCheck_c ⟨⟨s++t,[]⟩,some ⟨g2,0,none⟩,n + m,n + m,none,0,0⟩ w' hE h (by simp;omega) (by simp))
  dsimp only [KV.v] at HK
  go_upto_region 5 with fail
  have xV:=Lay.made w2 [.slice (some ⟨g2,0,none⟩) (n + m) (n + m),.slice none 0 0] 36
  have hb3:Below w2.heap.size w2 (w2.alloc (.cells [.slice (some ⟨g2,0,none⟩) (n + m) (n + m),.slice none 0 0].toArray 36)):=by (repeat first|exact bel0|assumption|refine bel1 ?_|refine bel2 ?_|refine bel3 ?_|refine belowT ?_ (by assumption)|refine bel5 ?_ (by simp;try omega))
  replace xR:=xR.below hb3
  replace bw:=belowT bw hb3
  replace i2:=i2.below hb3 (Nat.le_refl _)
  clear hb3
  generalize w2.alloc (.cells [.slice (some ⟨g2,0,none⟩) (n + m) (n + m),.slice none 0 0].toArray 36)=w3 at *
  have e0:=xV.cell 0 _ rfl
  have e1:=xV.cell 1 _ rfl
  have f0:=xV.ice 0
  have f1:=xV.ice 1
  go_wp2_with fail
  refine (HK.out _ (hE.below bw) ⟨i2,Byts.nilSlice _⟩).mono ?_
  rintro e w4 ⟨rfl,hb4⟩
  replace xR:=xR.below hb4
  replace xV:=xV.below hb4
  replace bw:=belowT bw hb4
  replace i2:=i2.below hb4 (Nat.le_refl _)
  clear hb4 e0 e1 f0 f1 HK
  generalize checkK ⟨s++t,[]⟩=cj at *
  by_cases hcj:cj=0
  ·subst hcj
   simp only [not_true_eq_false,if_false] at HR
   have e0:=xR.cell 0 _ rfl
   have e1:=xR.cell 1 _ rfl
   have f0:=xR.ice 0
   have f1:=xR.ice 1
   have g0:=xV.cell 0 _ rfl
   have g1:=xV.cell 1 _ rfl
   have i0:=xV.ice 0
   have i1:=xV.ice 1
   go_wp2
   have zB:=(xR.set 0 (.slice (some ⟨g2,0,none⟩) (n + m) (n + m))).set 1 (.slice none 0 0)
   have hbut:=((ButI.refl (w.heap.size + 1) (w4)).step 0 (.slice (some ⟨g2,0,none⟩) (n + m) (n + m))).step 1 (.slice none 0 0)
   generalize ((w4).setCell ⟨w.heap.size + 1,0,none⟩ (.slice (some ⟨g2,0,none⟩) (n + m) (n + m))).setCell ⟨w.heap.size + 1,1,none⟩ (.slice none 0 0)=w99 at *
   have y0:=zB.cell 0 _ rfl
   have y1:=zB.cell 1 _ rfl
   refine bodyPost_ret (v:=.tuple #[.agg #[.slice (some ⟨g2,0,none⟩) (n + m) (n + m),.slice none 0 0],.int .i64 0]) (by simp [results,Tryz.results187,go_sem,y0,y1]) rfl ⟨?_,bw.trans (hbut.below (by omega))⟩
   rw [HR.out]
   have hf:KV.fresh (w.heap.size + 2) ⟨⟨s++t,[]⟩,some ⟨g2,0,none⟩,n + m,n + m,none,0,0⟩:=⟨fun y e=>(by cases e;simp;omega),fun y e=>(by cases e)⟩
   exact ⟨_,rfl,rfl,KV.ok.but ⟨i2,Byts.nilSlice _⟩ hbut.but hf (by omega),hf.mono (by omega)⟩
  ·have hcb:(cj !=0)=true:=by simpa using hcj
   rw [if_pos hcj] at HR
   have e0:=xR.cell 0 _ rfl
   have e1:=xR.cell 1 _ rfl
   have f0:=xR.ice 0
   have f1:=xR.ice 1
   go_wp2
   have zB:=(xR.set 0 (.slice none 0 0)).set 1 (.slice none 0 0)
   have hbut:=((ButI.refl (w.heap.size + 1) (w4)).step 0 (.slice none 0 0)).step 1 (.slice none 0 0)
   generalize ((w4).setCell ⟨w.heap.size + 1,0,none⟩ (.slice none 0 0)).setCell ⟨w.heap.size + 1,1,none⟩ (.slice none 0 0)=w99 at *
   have y0:=zB.cell 0 _ rfl
   have y1:=zB.cell 1 _ rfl
   exact bodyPost_ret (v:=.tuple #[KV.zero.v,.int .i64 cj]) (by simp [results,Tryz.results187,go_sem,KV.v,KV.zero,y0,y1]) rfl ⟨KRes.zero HR.out rfl,bw.trans (hbut.below (by omega))⟩
 ·have hcb:(ck !=0)=true:=by simpa using hck
  rw [if_pos hck] at HR
  have e0:=xR.cell 0 _ rfl
  have e1:=xR.cell 1 _ rfl
  have f0:=xR.ice 0
  have f1:=xR.ice 1
  go_wp2
  have zB:=(xR.set 0 (.slice none 0 0)).set 1 (.slice none 0 0)
  have hbut:=((ButI.refl (w.heap.size + 1) (w1)).step 0 (.slice none 0 0)).step 1 (.slice none 0 0)
  generalize ((w1).setCell ⟨w.heap.size + 1,0,none⟩ (.slice none 0 0)).setCell ⟨w.heap.size + 1,1,none⟩ (.slice none 0 0)=w99 at *
  have y0:=zB.cell 0 _ rfl
  have y1:=zB.cell 1 _ rfl
  exact bodyPost_ret (v:=.tuple #[KV.zero.v,.int .i64 ck]) (by simp [results,Tryz.results187,go_sem,KV.v,KV.zero,y0,y1]) rfl ⟨KRes.zero HR.out rfl,bw.trans (hbut.below (by omega))⟩
end Go.Proofs.YtabafikicbkkdaaGreatDoor
namespace Go.Proofs.YtabafikicbkkdaaGreatDoor
open Go.RowKit
set_option linter.unusedVariables false
set_option maxHeartbeats 4000000
set_option maxRecDepth 100000
set_option linter.unusedSimpArgs false
theorem text_row (w:World) (s:ByteArray) (cap:Nat) (fr:Nat×Nat) (t:TypeId) (h:s.size≤cap) (hm:cap≤9223372036854775807):Byts (w.alloc (.cells (bytesRow s cap) t fr)) (some ⟨w.heap.size,0,none⟩) s.size cap s.data.toList:=by
 refine ⟨by rw [bytC_len,Lib.size_eq],h,hm,fun e=>(by cases e),.inr ⟨w.heap.size,0,rfl,by simp,fun i v hv=>?_⟩⟩
 have hi:i < s.data.size:=by have:=(List.getElem?_eq_some_iff.1 hv).1;rw [bytC_len] at this;simpa using this
 rw [cell_of_row _ _ _ _ _ _ (heap_new w _),Nat.zero_add,bytesRow_at s cap i hi]
 rw [bytC_get _ _ (by simpa using hi)] at hv
 rw [← hv]
 have e:s.data[i]?=some s.data[i]:=by simp [hi]
 simp [List.getD,e]
theorem text_conv (s:ByteArray):∀ w:World,(convert 9 34 (.string s)).run Tryz.prog w=.ok (.slice (some ⟨w.heap.size,0,none⟩) s.size (grownCap w s.size 0 5)) (w.drew.alloc (.cells (bytesRow s (grownCap w s.size 0 5)) 5 ((bytesRow s (grownCap w s.size 0 5)).size,(bytesRow s (grownCap w s.size 0 5)).size + 1))):=
 fun w=>run_bytes_of_string w 9 34 5 s Tryz.underlying9 Tryz.underlying34 Tryz.underlying5
theorem text_drew (w:World) (s:ByteArray) (fr:Nat×Nat) (t:TypeId) (hs:s.size≤1000000):Byts (w.drew.alloc (.cells (bytesRow s (grownCap w s.size 0 t)) t fr)) (some ⟨w.heap.size,0,none⟩) s.size (grownCap w s.size 0 t) s.data.toList:=by
 have h1:=grownCap_ge w s.size 0 t
 have h2:=grownCap_le_maxLen w s.size 0 t (by simp [maxLen];omega)
 exact text_row w.drew s _ fr t h1 (by simp [maxLen] at h2;omega)
theorem putK_eq (s t:List UInt8) (r:PR):putK ⟨s,t⟩ r=if checkK ⟨s,t⟩≠0 then (zeroK,checkK ⟨s,t⟩) else if checkR r≠0 then (zeroK,checkR r)
 else if 60000 < s.length + t.length + (textR r).length + 1 then (zeroK,2) else (⟨s,t++(textR r++[10])⟩,0):=rfl
theorem feed_eq (l:List UInt8):(⟨l.toArray⟩:ByteArray)++⟨#[10]⟩=⟨(l++[10]).toArray⟩:=by
 rw [show (⟨#[10]⟩:ByteArray)=⟨([10]:List UInt8).toArray⟩ from rfl,mk_append]
theorem Put_c (x:KV) (r:RV) (w:World) (hE:Env w) (h:x.ok w) (hr:r.ok w) (hn:x.n≤140737488355328) (hm:x.m≤140737488355328) :
  Calls Tryz.prog 186 #[x.v,r.v] w fun e w'=>KRes w.heap.size w' (putK x.p r.p) e∧Below w.heap.size w w':=by
 have HS:=hide (fun w' hE h=>KCheck_c x w' hE h hn hm)
 have HN:=hide (fun w' hE h=>NPrint_c r w' hE h)
 have hl1:=h.s.len
 have hl2:=h.w.len
 obtain ⟨⟨s,t⟩,a,n,c,b,m,d⟩:=x
 have hs:Byts w a n c s:=h.s
 have ht:Byts w b m d t:=h.w
 have HR:=hide (putK_eq s t r.p)
 rw [show s.length=n from hl1,show t.length=m from hl2] at HR
 have HL:Hid (checkK ⟨s,t⟩=0→n + m≤60000):=hide (checkK_len hl1 hl2)
 have HT:Hid (checkR r.p=0→(textR r.p).length≤100):=hide textR_len
 have HP:Hid (printR r.p=if checkR r.p=0 then (textR r.p,0) else ([],checkR r.p)):=hide rfl
 obtain ⟨⟨q,e',⟨k,z,u,at',rd⟩⟩,ra,rn,rc⟩:=r
 dsimp only [KV.v,RV.v,RV.ok] at *
 have xR:Lay (((w.alloc (.cells #[.slice a n c,.slice b m d] 36)).alloc (.cells #[.int .i64 q,.int .i64 e',.int .i64 k,.int .i64 z,.int .i64 u,.int .i64 at',.slice ra rn rc] 52)).alloc (.cells [.slice none 0 0,.slice none 0 0].toArray 36)) (w.heap.size + 2) [.slice none 0 0,.slice none 0 0]:=by
  have:=Lay.made1 (w.alloc (.cells #[.slice a n c,.slice b m d] 36)) (.cells #[.int .i64 q,.int .i64 e',.int .i64 k,.int .i64 z,.int .i64 u,.int .i64 at',.slice ra rn rc] 52) [.slice none 0 0,.slice none 0 0] 36
  simpa only [World.size_alloc] using this
 go_enter Tryz.func186,Tryz.ntmps186
 go_wp2_with fail
 refine (HS.out _ (hE.below (by (repeat first|exact bel0|assumption|refine bel1 ?_|refine bel2 ?_|refine bel3 ?_|refine belowT ?_ (by assumption)|refine bel5 ?_ (by simp;try omega)))) (h.below (by (repeat first|exact bel0|assumption|refine bel1 ?_|refine bel2 ?_|refine bel3 ?_|refine belowT ?_ (by assumption)|refine bel5 ?_ (by simp;try omega))))).mono ?_
 rintro e w1 ⟨rfl,hb1⟩
 have bw:Below w.heap.size w w1:=by (repeat first|exact bel0|assumption|refine bel1 ?_|refine bel2 ?_|refine bel3 ?_|refine belowT ?_ (by assumption)|refine bel5 ?_ (by simp;try omega))
 have k0:=keepc hb1 (p:=⟨w.heap.size,0,none⟩) (u:=.slice a n c) (by (first|(go_simp;done)|(simp [*,World.cell?_alloc_at,World.cell?_alloc_past,World.cell?_alloc_some,World.cell?_setCell_far];done)))
 have k1:=keepc hb1 (p:=⟨w.heap.size,1,none⟩) (u:=.slice b m d) (by (first|(go_simp;done)|(simp [*,World.cell?_alloc_at,World.cell?_alloc_past,World.cell?_alloc_some,World.cell?_setCell_far];done)))
 have k2:=keepc hb1 (p:=⟨w.heap.size + 1,0,none⟩) (u:=.int .i64 q) (by (first|(go_simp;done)|(simp [*,World.cell?_alloc_at,World.cell?_alloc_past,World.cell?_alloc_some,World.cell?_setCell_far];done)))
 have k3:=keepc hb1 (p:=⟨w.heap.size + 1,1,none⟩) (u:=.int .i64 e') (by (first|(go_simp;done)|(simp [*,World.cell?_alloc_at,World.cell?_alloc_past,World.cell?_alloc_some,World.cell?_setCell_far];done)))
 have k4:=keepc hb1 (p:=⟨w.heap.size + 1,2,none⟩) (u:=.int .i64 k) (by (first|(go_simp;done)|(simp [*,World.cell?_alloc_at,World.cell?_alloc_past,World.cell?_alloc_some,World.cell?_setCell_far];done)))
 have k5:=keepc hb1 (p:=⟨w.heap.size + 1,3,none⟩) (u:=.int .i64 z) (by (first|(go_simp;done)|(simp [*,World.cell?_alloc_at,World.cell?_alloc_past,World.cell?_alloc_some,World.cell?_setCell_far];done)))
 have k6:=keepc hb1 (p:=⟨w.heap.size + 1,4,none⟩) (u:=.int .i64 u) (by (first|(go_simp;done)|(simp [*,World.cell?_alloc_at,World.cell?_alloc_past,World.cell?_alloc_some,World.cell?_setCell_far];done)))
 have k7:=keepc hb1 (p:=⟨w.heap.size + 1,5,none⟩) (u:=.int .i64 at') (by (first|(go_simp;done)|(simp [*,World.cell?_alloc_at,World.cell?_alloc_past,World.cell?_alloc_some,World.cell?_setCell_far];done)))
 have k8:=keepc hb1 (p:=⟨w.heap.size + 1,6,none⟩) (u:=.slice ra rn rc) (by (first|(go_simp;done)|(simp [*,World.cell?_alloc_at,World.cell?_alloc_past,World.cell?_alloc_some,World.cell?_setCell_far];done)))
 replace xR:=xR.below hb1
 replace hs:=hs.below bw (Nat.le_refl _)
 replace ht:=ht.below bw (Nat.le_refl _)
 have hlt:=xR.lt
 clear hb1 h HS
 generalize checkK ⟨s,t⟩=ck at *
 by_cases hck:ck=0
 ·subst hck
  have hnm:=HL.out rfl
  simp only [ne_eq,not_true_eq_false,if_false] at HR
  go_wp2_with fail
  refine (HN.out _ (hE.below bw) (hr.below bw (Nat.le_refl _))).mono ?_
  rintro e w2 ⟨rfl,hb2⟩
  replace xR:=xR.below hb2
  replace bw:=belowT bw hb2
  replace hs:=hs.below hb2 (Nat.le_refl _)
  replace ht:=ht.below hb2 (Nat.le_refl _)
  have j0:=keepc hb2 (p:=⟨w.heap.size,0,none⟩) (u:=.slice a n c) (by (first|(go_simp;done)|(simp [*,World.cell?_alloc_at,World.cell?_alloc_past,World.cell?_alloc_some,World.cell?_setCell_far];done)))
  have j1:=keepc hb2 (p:=⟨w.heap.size,1,none⟩) (u:=.slice b m d) (by (first|(go_simp;done)|(simp [*,World.cell?_alloc_at,World.cell?_alloc_past,World.cell?_alloc_some,World.cell?_setCell_far];done)))
  clear hb2 k0 k1 k2 k3 k4 k5 k6 k7 k8 HN
  unfold textV
  rw [HP.out]
  by_cases hcr:checkR ⟨q,e',⟨k,z,u,at',rd⟩⟩=0
  ·have hlen:=HT.out hcr
   rw [if_neg (by simp [hcr])] at HR
   rw [if_pos hcr]
   generalize textR ⟨q,e',⟨k,z,u,at',rd⟩⟩=T at *
   have hsz:(⟨T.toArray⟩:ByteArray).size=T.length:=by rw [Lib.size_eq]
   have hz4:¬ (9223372036854775807 < (⟨T.toArray⟩:ByteArray).size + 1):=by omega
   have hz5:¬ ((⟨T.toArray⟩:ByteArray).size + (⟨#[10]⟩:ByteArray).size > 9223372036854775807):=by have e1:(⟨#[10]⟩:ByteArray).size=1:=rfl;omega
   have HD:=hide (fun w'=>dsize_c a n c b m d w' hn hm)
   dsimp only
   go_wp2_with fail
   refine (HD.out _).mono ?_
   rintro e w3 ⟨rfl,hb3⟩
   replace xR:=xR.below hb3
   replace bw:=belowT bw hb3
   replace hs:=hs.below hb3 (Nat.le_refl _)
   replace ht:=ht.below hb3 (Nat.le_refl _)
   have l0:=keepc hb3 (p:=⟨w.heap.size,0,none⟩) (u:=.slice a n c) (by (first|(go_simp;done)|(simp [*,World.cell?_alloc_at,World.cell?_alloc_past,World.cell?_alloc_some,World.cell?_setCell_far];done)))
   have l1:=keepc hb3 (p:=⟨w.heap.size,1,none⟩) (u:=.slice b m d) (by (first|(go_simp;done)|(simp [*,World.cell?_alloc_at,World.cell?_alloc_past,World.cell?_alloc_some,World.cell?_setCell_far];done)))
   clear hb3 j0 j1 HD hz4 hz5
   have hUd:((⟨T.toArray⟩:ByteArray)++⟨#[10]⟩).data.toList=T++[10]:=by rw [feed_eq]
   have hUs:((⟨T.toArray⟩:ByteArray)++⟨#[10]⟩).size=T.length + 1:=by rw [Lib.size_eq,hUd];simp
   generalize (⟨T.toArray⟩:ByteArray)++⟨#[10]⟩=U at *
   have HU:=hide hUd
   have HUS:=hide hUs
   have hU1:U.size≤101:=by omega
   have hU2:U.size≤1000000:=by omega
   have hU3:m + U.size≤1000000:=by omega
   have hq1:(0:Int)≤((n + m:Nat):Int):=by omega
   have hq2:((n + m:Nat):Int)≤60000:=by omega
   have HQ:Hid (((n + m:Nat):Int)=(n:Int) + (m:Int)):=hide (by omega)
   generalize hqq:((n + m:Nat):Int)=qq at *
   clear hUd hUs hsz
   by_cases hbig:60000 < qq + (U.size:Int)
   ·rw [if_pos (by have:=HUS.out;have:=HQ.out;omega)] at HR
    have e0:=xR.cell 0 _ rfl
    have e1:=xR.cell 1 _ rfl
    have f0:=xR.ice 0
    have f1:=xR.ice 1
    go_wp2
    have zB:=(xR.set 0 (.slice none 0 0)).set 1 (.slice none 0 0)
    have hbut:=((ButI.refl (w.heap.size + 2) (w3)).step 0 (.slice none 0 0)).step 1 (.slice none 0 0)
    generalize ((w3).setCell ⟨w.heap.size + 2,0,none⟩ (.slice none 0 0)).setCell ⟨w.heap.size + 2,1,none⟩ (.slice none 0 0)=w99 at *
    have y0:=zB.cell 0 _ rfl
    have y1:=zB.cell 1 _ rfl
    exact bodyPost_ret (v:=.tuple #[KV.zero.v,.int .i64 2]) (by simp [results,Tryz.results186,go_sem,KV.v,KV.zero,y0,y1]) rfl ⟨KRes.zero HR.out rfl,bw.trans (hbut.below (by omega))⟩
   ·rw [if_neg (by have:=HUS.out;have:=HQ.out;omega)] at HR
    have hcv:=text_conv U
    have HJ1:=hide (fun w' h=>jcopy_c a n c s w' h (by omega))
    have e0:=xR.cell 0 _ rfl
    have e1:=xR.cell 1 _ rfl
    have f0:=xR.ice 0
    have f1:=xR.ice 1
    have mk1:Hid (n=n):=hide rfl
    have hlt3:=xR.lt
    have la0:=past1 (w:=w3) l0
    have la1:=past1 (w:=w3) l1
    have lb0:=past1 (w:=w3.drew) l0
    have lb1:=past1 (w:=w3.drew) l1
    have lc0:=past1 (w:=w3.drew.drew) l0
    have lc1:=past1 (w:=w3.drew.drew) l1
    go_upto_region 10 with fail
    go_region_with (first
     |(go_at_call 55;clear mk1;refine (HJ1.out _ (by refine Byts.below hs (B:=w3.heap.size) ?_ (Nat.le_refl _);(repeat first|exact bel0|assumption|refine bel1 ?_|refine bel2 ?_|refine bel3 ?_|refine belowT ?_ (by assumption)|refine bel5 ?_ (by simp;try omega)))).mono ?_;rintro e w8 ⟨⟨g8,rfl,hg8,i8⟩,hb8⟩;(have p0:=keepc hb8 (p:=⟨w.heap.size,0,none⟩) (u:=.slice a n c) (by (first|(go_simp;done)|(simp [*,World.cell?_alloc_at,World.cell?_alloc_past,World.cell?_alloc_some,World.cell?_setCell_far];done))));(have p1:=keepc hb8 (p:=⟨w.heap.size,1,none⟩) (u:=.slice b m d) (by (first|(go_simp;done)|(simp [*,World.cell?_alloc_at,World.cell?_alloc_past,World.cell?_alloc_some,World.cell?_setCell_far];done))));(have pa0:=past1 (w:=w8) p0);(have pa1:=past1 (w:=w8) p1);(have pb0:=past1 (w:=w8.drew) p0);(have pb1:=past1 (w:=w8.drew) p1);(have b8:Below w3.heap.size w3 w8:=by (repeat first|exact bel0|assumption|refine bel1 ?_|refine bel2 ?_|refine bel3 ?_|refine belowT ?_ (by assumption)|refine bel5 ?_ (by simp;try omega)));(have xR8:=xR.below b8);(have u0:=xR8.cell 0 _ rfl);(have u1:=xR8.cell 1 _ rfl);(have v0:=xR8.ice 0);(have v1:=xR8.ice 1))
     |(go_at_call 55;refine (jboth_c b m d t _ _ _ (T++[10]) _ (by refine Byts.below ht (B:=w3.heap.size) ?_ (Nat.le_refl _);(repeat first|exact bel0|assumption|refine bel1 ?_|refine bel2 ?_|refine bel3 ?_|refine belowT ?_ (by assumption)|refine bel5 ?_ (by simp;try omega))) (by rw [← HU.out];first|exact text_drew w8 U _ _ hU2|exact Byts.below (text_drew w3.drew U _ _ hU2) hb8 (Nat.le_refl _)) hU3).mono ?_;rintro e w9 ⟨⟨g9,rfl,hg9,i9⟩,hb9⟩;(have r0:=keepc hb9 (p:=⟨w.heap.size,0,none⟩) (u:=.slice a n c) (by (first|(go_simp;done)|(simp [*,World.cell?_alloc_at,World.cell?_alloc_past,World.cell?_alloc_some,World.cell?_setCell_far];done))));(have r1:=keepc hb9 (p:=⟨w.heap.size,1,none⟩) (u:=.slice b m d) (by (first|(go_simp;done)|(simp [*,World.cell?_alloc_at,World.cell?_alloc_past,World.cell?_alloc_some,World.cell?_setCell_far];done))));(have b9:Below w3.heap.size w3 w9:=by (repeat first|exact bel0|assumption|refine bel1 ?_|refine bel2 ?_|refine bel3 ?_|refine belowT ?_ (by assumption)|refine bel5 ?_ (by simp;try omega)));(have xR9:=xR.below b9);(have o0:=xR9.cell 0 _ rfl);(have o1:=xR9.cell 1 _ rfl);(have v2:=xR9.ice 0);(have v3:=xR9.ice 1)))
    all_goals
     go_wp2
     have j8:Byts w9 (some ⟨g8,0,none⟩) n n s:=i8.below (B:=w8.heap.size) (by clear b9 b8 bw;(repeat first|exact bel0|assumption|refine bel1 ?_|refine bel2 ?_|refine bel3 ?_|refine belowT ?_ (by assumption)|refine bel5 ?_ (by simp;try omega))) (Nat.le_refl _)
     simp at hg8 hg9
     have hs8:=b8.size
     have zB:=(xR9.set 0 (.slice (some ⟨g8,0,none⟩) n n)).set 1 (.slice (some ⟨g9,0,none⟩) (m + U.size) (m + U.size))
     have hbut:=((ButI.refl (w.heap.size + 2) (w9)).step 0 (.slice (some ⟨g8,0,none⟩) n n)).step 1 (.slice (some ⟨g9,0,none⟩) (m + U.size) (m + U.size))
     generalize ((w9).setCell ⟨w.heap.size + 2,0,none⟩ (.slice (some ⟨g8,0,none⟩) n n)).setCell ⟨w.heap.size + 2,1,none⟩ (.slice (some ⟨g9,0,none⟩) (m + U.size) (m + U.size))=w99 at *
     have y0:=zB.cell 0 _ rfl
     have y1:=zB.cell 1 _ rfl
     refine bodyPost_ret (v:=.tuple #[.agg #[.slice (some ⟨g8,0,none⟩) n n,.slice (some ⟨g9,0,none⟩) (m + U.size) (m + U.size)],.int .i64 0]) (by simp [results,Tryz.results186,go_sem,y0,y1]) rfl ⟨?_,(belowT bw b9).trans (hbut.below (by omega))⟩
     rw [HR.out]
     have hf:KV.fresh (w.heap.size + 3) ⟨⟨s,t++(T++[10])⟩,some ⟨g8,0,none⟩,n,n,some ⟨g9,0,none⟩,m + U.size,m + U.size⟩:=⟨fun y e=>(by cases e;simp;omega),fun y e=>(by cases e;simp;omega)⟩
     exact ⟨_,rfl,rfl,KV.ok.but ⟨j8,i9⟩ hbut.but hf (by omega),hf.mono (by omega)⟩
  ·have hcb:(checkR ⟨q,e',⟨k,z,u,at',rd⟩⟩ !=0)=true:=by simpa using hcr
   rw [if_pos hcr] at HR
   rw [if_neg hcr]
   generalize checkR ⟨q,e',⟨k,z,u,at',rd⟩⟩=cr at *
   have e0:=xR.cell 0 _ rfl
   have e1:=xR.cell 1 _ rfl
   have f0:=xR.ice 0
   have f1:=xR.ice 1
   go_wp2
   have zB:=(xR.set 0 (.slice none 0 0)).set 1 (.slice none 0 0)
   have hbut:=((ButI.refl (w.heap.size + 2) (w2)).step 0 (.slice none 0 0)).step 1 (.slice none 0 0)
   generalize ((w2).setCell ⟨w.heap.size + 2,0,none⟩ (.slice none 0 0)).setCell ⟨w.heap.size + 2,1,none⟩ (.slice none 0 0)=w99 at *
   have y0:=zB.cell 0 _ rfl
   have y1:=zB.cell 1 _ rfl
   exact bodyPost_ret (v:=.tuple #[KV.zero.v,.int .i64 cr]) (by simp [results,Tryz.results186,go_sem,KV.v,KV.zero,y0,y1]) rfl ⟨KRes.zero HR.out rfl,bw.trans (hbut.below (by omega))⟩
 ·have hcb:(ck !=0)=true:=by simpa using hck
  rw [if_pos hck] at HR
  have e0:=xR.cell 0 _ rfl
  have e1:=xR.cell 1 _ rfl
  have f0:=xR.ice 0
  have f1:=xR.ice 1
  go_wp2
  have zB:=(xR.set 0 (.slice none 0 0)).set 1 (.slice none 0 0)
  have hbut:=((ButI.refl (w.heap.size + 2) (w1)).step 0 (.slice none 0 0)).step 1 (.slice none 0 0)
  generalize ((w1).setCell ⟨w.heap.size + 2,0,none⟩ (.slice none 0 0)).setCell ⟨w.heap.size + 2,1,none⟩ (.slice none 0 0)=w99 at *
  have y0:=zB.cell 0 _ rfl
  have y1:=zB.cell 1 _ rfl
  exact bodyPost_ret (v:=.tuple #[KV.zero.v,.int .i64 ck]) (by simp [results,Tryz.results186,go_sem,KV.v,KV.zero,y0,y1]) rfl ⟨KRes.zero HR.out rfl,bw.trans (hbut.below (by omega))⟩
end Go.Proofs.YtabafikicbkkdaaGreatDoor
namespace Go.Proofs.YtabafikicbkkdaaGreatDoor
open Go.RowKit
set_option linter.unusedVariables false
set_option maxHeartbeats 4000000
set_option maxRecDepth 100000
set_option linter.unusedSimpArgs false
def downK (d:PK) (r:PR):PK×Int:=if (putK d r).2≠0 then (d,(putK d r).2) else if (syncK (putK d r).1).2≠0 then (d,(syncK (putK d r).1).2) else ((syncK (putK d r).1).1,0)
theorem put_small {d:PK} {r:PR} (h:(putK d r).2=0):(putK d r).1.s.length + (putK d r).1.w.length≤60000:=by
 unfold putK at h ⊢
 split at h
 ·rename_i q;exact absurd h q
 ·rename_i q
  rw [if_neg q]
  split at h
  ·rename_i q2;exact absurd h q2
  ·rename_i q2
   rw [if_neg q2]
   split at h
   ·cases h
   ·rename_i q3
    rw [if_neg q3]
    simp
    omega
theorem check_small {d:PK} (h:checkK d=0):d.s.length + d.w.length≤60000:=by
 unfold checkK at h
 split at h
 ·cases h
 ·omega
theorem writeDown_c (b B g:Nat) (x:WV) (r:RV) (w:World) (hE:Env w) (o:OwnW w b B g x) (hr:r.ok w) (hc:checkK x.d.p=0) :
  Calls Tryz.prog 159 #[.pointer (some ⟨B,5,none⟩),r.v] w fun e w'=>(e=.returned (.int .i64 (downK x.d.p r.p).2)∧∃ d':KV,OwnW w' b B g {x with d:=d'}∧d'.p=(downK x.d.p r.p).1∧∀ k,k < w.heap.size→x.d.off k→d'.off k)∧Chg B w w':=by
 have hsz:=check_small hc
 have hl1:=Byts.len o.d.s
 have hl2:=Byts.len o.d.w
 have HP:=hide (fun w' hE h h'=>Put_c x.d r w' hE h h' (by omega) (by omega))
 have HS:=hide (fun y w' hE h h1 h2=>Sync_c y w' hE h h1 h2)
 have HC:Hid (downK x.d.p r.p=if (putK x.d.p r.p).2≠0 then (x.d.p,(putK x.d.p r.p).2) else if (syncK (putK x.d.p r.p).1).2≠0 then (x.d.p,(syncK (putK x.d.p r.p).1).2) else ((syncK (putK x.d.p r.p).1).1,0)):=hide rfl
 have HSM:=hide (put_small (d:=x.d.p) (r:=r.p))
 generalize downK x.d.p r.p=cw at *
 generalize putK x.d.p r.p=pr at *
 clear hc hsz hl1 hl2
 have xr:=Lay.made w r.cells 52
 have bw:=belowA (Below.refl _ w) (.cells r.cells.toArray 52)
 have hBl0:=o.lay.lt
 replace o:=o.below bw
 replace hr:=hr.below bw (Nat.le_refl _)
 replace hE:=hE.below bw
 have hd:=o.d
 have hbB:=o.le.1
 have hbs:b≤w.heap.size:=by omega
 dsimp only [RV.v,RV.cells,KV.v] at *
 go_enter Tryz.func159,Tryz.ntmps159
 go_upto_region 1 with fail
 generalize w.alloc (.cells [.int .i64 r.p.w,.int .i64 r.p.s,.int .i64 r.p.c.k,.int .i64 r.p.c.z,.int .i64 r.p.c.n,.int .i64 r.p.c.at',.slice r.a r.n r.c].toArray 52)=w1 at *
 have c0:=xr.cell 0 _ rfl
 have c1:=xr.cell 1 _ rfl
 have c2:=xr.cell 2 _ rfl
 have c3:=xr.cell 3 _ rfl
 have c4:=xr.cell 4 _ rfl
 have c5:=xr.cell 5 _ rfl
 have c6:=xr.cell 6 _ rfl
 have d5:=o.lay.cell 5 _ rfl
 have d6:=o.lay.cell 6 _ rfl
 have HLT:=hide (fun k (q:x.ours b B g k)=>o.lt q)
 have hBl:=o.lay.lt
 have hwl:=xr.lt
 have n1:B≠w1.heap.size:=by omega
 have n3:w.heap.size≠w1.heap.size:=by omega
 have n4:w1.heap.size≠B:=by omega
 have n6:w1.heap.size≠w.heap.size:=by omega
 go_cut [5,6] (fun p e wx=>e=.int .i64 pr.2∧∃ (N:Nat) (y:KV),p=.pointer (some ⟨N,0,none⟩)∧Lay wx N y.cells∧y.ok wx∧y.p=pr.1∧w1.heap.size≤N∧Below w1.heap.size w1 wx)
 case first=>
  go_region_held3 (fun w'=>w'.cell? ⟨B,5,none⟩=some (.slice x.d.a x.d.n x.d.c)∧w'.cell? ⟨B,6,none⟩=some (.slice x.d.b x.d.m x.d.d)∧w'.cell? ⟨w.heap.size,0,none⟩=some (.int .i64 r.p.w)∧w'.cell? ⟨w.heap.size,1,none⟩=some (.int .i64 r.p.s)∧w'.cell? ⟨w.heap.size,2,none⟩=some (.int .i64 r.p.c.k)∧w'.cell? ⟨w.heap.size,3,none⟩=some (.int .i64 r.p.c.z)∧w'.cell? ⟨w.heap.size,4,none⟩=some (.int .i64 r.p.c.n)∧w'.cell? ⟨w.heap.size,5,none⟩=some (.int .i64 r.p.c.at')∧w'.cell? ⟨w.heap.size,6,none⟩=some (.slice r.a r.n r.c)) ((first|(go_simp;done)|(simp [*,World.cell?_alloc_at,World.cell?_alloc_past,World.cell?_alloc_some,World.cell?_setCell_far];done))) (first|(go_at_call 186;refine (HP.out _ (Env.below hE (by clear bw;(repeat first|exact bel0|assumption|refine bel1 ?_|refine bel2 ?_|refine bel3 ?_|refine belowT ?_ (by assumption)|refine bel5 ?_ (by simp;try omega)))) (by refine KV.ok.belowB hd (B:=w1.heap.size) ?_ (Nat.le_refl _);clear bw;(repeat first|exact bel0|assumption|refine bel1 ?_|refine bel2 ?_|refine bel3 ?_|refine belowT ?_ (by assumption)|refine bel5 ?_ (by simp;try omega))) (by refine RV.ok.below hr (B:=w1.heap.size) ?_ (Nat.le_refl _);clear bw;(repeat first|exact bel0|assumption|refine bel1 ?_|refine bel2 ?_|refine bel3 ?_|refine belowT ?_ (by assumption)|refine bel5 ?_ (by simp;try omega)))).mono ?_;rintro e w2 ⟨⟨y,rfl,hp,hk,hn⟩,hb2⟩;(dsimp only [KV.v]);(have k0:=keepc hb2 (p:=⟨B,5,none⟩) (u:=.slice x.d.a x.d.n x.d.c) (by (first|(go_simp;done)|(simp [*,World.cell?_alloc_at,World.cell?_alloc_past,World.cell?_alloc_some,World.cell?_setCell_far];done))));(have k1:=keepc hb2 (p:=⟨B,6,none⟩) (u:=.slice x.d.b x.d.m x.d.d) (by (first|(go_simp;done)|(simp [*,World.cell?_alloc_at,World.cell?_alloc_past,World.cell?_alloc_some,World.cell?_setCell_far];done))));(have k2:=keepc hb2 (p:=⟨w.heap.size,0,none⟩) (u:=.int .i64 r.p.w) (by (first|(go_simp;done)|(simp [*,World.cell?_alloc_at,World.cell?_alloc_past,World.cell?_alloc_some,World.cell?_setCell_far];done))));(have k3:=keepc hb2 (p:=⟨w.heap.size,1,none⟩) (u:=.int .i64 r.p.s) (by (first|(go_simp;done)|(simp [*,World.cell?_alloc_at,World.cell?_alloc_past,World.cell?_alloc_some,World.cell?_setCell_far];done))));(have k4:=keepc hb2 (p:=⟨w.heap.size,2,none⟩) (u:=.int .i64 r.p.c.k) (by (first|(go_simp;done)|(simp [*,World.cell?_alloc_at,World.cell?_alloc_past,World.cell?_alloc_some,World.cell?_setCell_far];done))));(have k5:=keepc hb2 (p:=⟨w.heap.size,3,none⟩) (u:=.int .i64 r.p.c.z) (by (first|(go_simp;done)|(simp [*,World.cell?_alloc_at,World.cell?_alloc_past,World.cell?_alloc_some,World.cell?_setCell_far];done))));(have k6:=keepc hb2 (p:=⟨w.heap.size,4,none⟩) (u:=.int .i64 r.p.c.n) (by (first|(go_simp;done)|(simp [*,World.cell?_alloc_at,World.cell?_alloc_past,World.cell?_alloc_some,World.cell?_setCell_far];done))));(have k7:=keepc hb2 (p:=⟨w.heap.size,5,none⟩) (u:=.int .i64 r.p.c.at') (by (first|(go_simp;done)|(simp [*,World.cell?_alloc_at,World.cell?_alloc_past,World.cell?_alloc_some,World.cell?_setCell_far];done))));(have k8:=keepc hb2 (p:=⟨w.heap.size,6,none⟩) (u:=.slice r.a r.n r.c) (by (first|(go_simp;done)|(simp [*,World.cell?_alloc_at,World.cell?_alloc_past,World.cell?_alloc_some,World.cell?_setCell_far];done))));(have b12:Below w1.heap.size w1 w2:=by clear bw;(repeat first|exact bel0|assumption|refine bel1 ?_|refine bel2 ?_|refine bel3 ?_|refine belowT ?_ (by assumption)|refine bel5 ?_ (by simp;try omega)));(have s2:=b12.size);(have m1:B≠w2.heap.size:=by omega);(have m3:w.heap.size≠w2.heap.size:=by omega);(have m4:w2.heap.size≠B:=by omega);(have m6:w2.heap.size≠w.heap.size:=by omega);(first|(have xZ:=Lay.below (Lay.drew (Lay.made w1 [.slice none 0 0,.slice none 0 0] 36)) hb2)|(have xZ:=Lay.below (Lay.made w1 [.slice none 0 0,.slice none 0 0] 36) hb2)|skip);(try have xZc0:=xZ.cell 0 _ rfl);(try have xZc1:=xZ.cell 1 _ rfl);(try have xZi:=xZ.ice)))
  ·go_wp2_with fail
   go_meet
   case rel=>
    have bn:=belowA (Below.refl _ w2) (.cells y.cells.toArray 36)
    exact ⟨rfl,_,y,rfl,Lay.made w2 y.cells 36,hk.belowB bn (Nat.le_refl _),hp,s2,belowT b12 bn⟩
  ·go_wp2_with fail
   go_meet
   case rel=>
    simp at hn
    have ly:=xZ.fill (vs:=y.cells) rfl
    have bt:=putAll_but w1.heap.size y.cells w2 0
    exact ⟨rfl,_,y,rfl,ly,hk.butO bt.but (hn.off (by omega)),hp,Nat.le_refl _,b12.trans (bt.below (Nat.le_refl _))⟩
 case rest=>
 obtain ⟨rfl,N,y,rfl,xy,hy,hyp,hNs,b13⟩:=hcut
 generalize wc=w3 at *
 replace o:=o.below b13
 replace hE:=hE.below b13
 replace bw:=belowT bw b13
 have sz3:=b13.size
 clear b13 c0 c1 c2 c3 c4 c5 c6 d5 d6 HP hr hd xr
 have hy1:=Byts.len hy.s
 have hy2:=Byts.len hy.w
 rw [hyp] at hy1 hy2
 cases h0:pr.2 !=0
 ·have hsm:=HSM.out (by simpa using h0)
  rw [if_neg (by simpa using h0)] at HC
  have e0:=xy.cell 0 _ rfl
  have e1:=xy.cell 1 _ rfl
  have HSY:=hide (fun w' hE h=>HS.out y w' hE h (by omega) (by omega))
  rw [hyp] at HSY
  generalize syncK pr.1=sr at *
  go_wp2_with fail
  refine (HSY.out _ hE hy).mono ?_
  rintro e w4 ⟨⟨z,rfl,hzp,hz,hzf⟩,hb⟩
  replace o:=o.below hb
  replace bw:=belowT bw hb
  have sz4:=hb.size
  clear hb hE HS HSY e0 e1 xy hy
  dsimp only [KV.v]
  go_upto_region 5 with fail
  have bn:=belowA (Below.refl _ w4) (.cells [.slice z.a z.n z.c,.slice z.b z.m z.d].toArray 36)
  have xz:=Lay.made w4 [.slice z.a z.n z.c,.slice z.b z.m z.d] 36
  replace o:=o.below bn
  replace hz:=hz.belowB bn (Nat.le_refl _)
  replace bw:=belowT bw bn
  clear bn
  generalize w4.alloc (.cells [.slice z.a z.n z.c,.slice z.b z.m z.d].toArray 36)=w5 at *
  generalize w4.heap.size=Z at *
  cases h1:sr.2 !=0
  ·rw [if_neg (by simpa using h1)] at HC
   have e0:=xz.cell 0 _ rfl
   have e1:=xz.cell 1 _ rfl
   obtain ⟨q0,q1,q2,q3,q4,q5,q6,q7,q8,q9⟩:=o.lay.ten
   have ice:=o.lay.ice
   have o1:=o.box (vs:=z.cells) (i:=5) (y:={x with d:=z}) rfl ⟨rfl,rfl,rfl,rfl⟩ ⟨rfl,rfl,rfl,rfl⟩ o.h hz (fun k q=>⟨(o.far k q).h,hzf.off (by have:=HLT.out k q;omega)⟩)
   have b1:=Chg.put (k:=B) z.cells 5 (Chg.of_below bw)
   dsimp only [putAll,Nat.reduceAdd,KV.cells] at o1 b1
   go_wp2
   go_ret
   exact ⟨⟨by rw [HC.out];rfl,z,o1,by rw [HC.out];exact hzp,fun k hk _=>hzf.off (by omega)⟩,b1⟩
  ·rw [if_pos (by simpa using h1)] at HC
   go_wp2
   go_ret
   exact ⟨⟨by rw [HC.out];rfl,x.d,o,by rw [HC.out],fun k _ h=>h⟩,Chg.of_below bw⟩
 ·rw [if_pos (by simpa using h0)] at HC
  go_wp2
  go_ret
  exact ⟨⟨by rw [HC.out];rfl,x.d,o,by rw [HC.out],fun k _ h=>h⟩,Chg.of_below bw⟩
end Go.Proofs.YtabafikicbkkdaaGreatDoor
namespace Go.Proofs.YtabafikicbkkdaaGreatDoor
open Go.RowKit
set_option linter.unusedVariables false
set_option maxHeartbeats 4000000
set_option maxRecDepth 100000
set_option linter.unusedSimpArgs false
theorem hwholeA_c (x:AV) (w:World) (h:x.ok w) (hn:x.n≤100000) :
  Calls Tryz.prog 61 #[x.v] w fun e w'=>(∃ q,e=.returned (.agg #[.int .i64 x.e,.int .i64 x.t,.slice (some ⟨q,0,none⟩) x.n x.n])∧Ints w' (some ⟨q,0,none⟩) x.n x.n x.d∧w.heap.size≤q)∧Below w.heap.size w w':=
 (pwholeA_c x w h hn).mono fun e w' ⟨⟨q,h1,h2,h3,_⟩,h4⟩=>⟨⟨q,h1,h2,h3⟩,h4⟩
theorem hcheckLast_c (y:LV) (w:World) (h:y.ok w):Calls Tryz.prog 106 #[y.v] w fun e w'=>e=.returned (.int .i64 (checkL y.p))∧Below w.heap.size w w':=by
 obtain ⟨s,⟨ee,tt,a,n,c,l⟩⟩:=y
 have hI:Ints w a n c l:=h
 have HA:Hid (∀ w':World,Ints w' a n c l→Calls Tryz.prog 70 #[.agg #[.int .i64 ee,.int .i64 tt,.slice a n c]] w' fun e w''=>e=.returned (.int .i64 (checkA ⟨ee,tt,l⟩))∧Below w'.heap.size w' w''):=hide (fun w' h'=>DCheckAnswer_c ⟨ee,tt,a,n,c,l⟩ w' h')
 have HS:Hid (∀ w':World,Ints w' a n c l→Calls Tryz.prog 44 #[.agg #[.int .i64 ee,.int .i64 tt,.slice a n c],.agg #[.int .i64 0,.int .i64 0,.slice none 0 0]] w' fun e w''=>e=.returned (.bool (sameA ⟨ee,tt,l⟩ zeroA))∧Below w'.heap.size w' w''):=hide (fun w' h'=>psameA_c ⟨ee,tt,a,n,c,l⟩ (AV.err 0) w' h' (AV.err_ok w' 0))
 have HC:Hid (checkL (LV.p ⟨s,⟨ee,tt,a,n,c,l⟩⟩)=if inB s 0 40=false then 3 else if checkA ⟨ee,tt,l⟩≠0 then checkA ⟨ee,tt,l⟩ else if s=0∧sameA ⟨ee,tt,l⟩ zeroA=false then 4 else 0):=hide rfl
 generalize checkL _=r at *
 generalize checkA _=ca at *
 generalize sameA _ _=sa at *
 dsimp only [LV.v] at *
 clear h
 rcases (by omega:s < 0∨(0≤s∧40 < s)∨(0≤s∧s≤40)) with h1|⟨h0,h1⟩|⟨h0,h1⟩
 ·have HB:Hid (inB s 0 40=false):=hide (by simp [inB];omega)
  go_enter Tryz.func106,Tryz.ntmps106
  go_wp2
  go_ret
  exact ⟨ret_int (by rw [HC.out,if_pos HB.out]),by (repeat first|exact bel0|assumption|refine bel1 ?_|refine bel2 ?_|refine bel3 ?_|refine belowT ?_ (by assumption)|refine bel5 ?_ (by simp;try omega))⟩
 ·have HB:Hid (inB s 0 40=false):=hide (by simp [inB];omega)
  go_enter Tryz.func106,Tryz.ntmps106
  go_wp2
  go_ret
  exact ⟨ret_int (by rw [HC.out,if_pos HB.out]),by (repeat first|exact bel0|assumption|refine bel1 ?_|refine bel2 ?_|refine bel3 ?_|refine belowT ?_ (by assumption)|refine bel5 ?_ (by simp;try omega))⟩
 ·have HB:Hid (¬ (inB s 0 40=false)):=hide (by simp [inB];omega)
  go_enter Tryz.func106,Tryz.ntmps106
  go_wp2_with fail
  refine (HA.out _ (hI.below (B:=w.heap.size) (by (repeat first|exact bel0|assumption|refine bel1 ?_|refine bel2 ?_|refine bel3 ?_|refine belowT ?_ (by assumption)|refine bel5 ?_ (by simp;try omega))) (Nat.le_refl _))).mono ?_
  rintro e w1 ⟨rfl,hb1⟩
  have c1:=keepc hb1 (p:=⟨w.heap.size,0,none⟩) (u:=.int .i64 s) (by go_simp)
  have c2:=keepc hb1 (p:=⟨w.heap.size,1,none⟩) (u:=.int .i64 ee) (by go_simp)
  have c3:=keepc hb1 (p:=⟨w.heap.size,2,none⟩) (u:=.int .i64 tt) (by go_simp)
  have c4:=keepc hb1 (p:=⟨w.heap.size,3,none⟩) (u:=.slice a n c) (by go_simp)
  have bw:Below w.heap.size w w1:=by (repeat first|exact bel0|assumption|refine bel1 ?_|refine bel2 ?_|refine bel3 ?_|refine belowT ?_ (by assumption)|refine bel5 ?_ (by simp;try omega))
  clear hb1
  cases e1:ca !=0
  ·cases e2:s==0
   ·go_wp2
    go_ret
    exact ⟨ret_int (by simp at e1 e2;rw [HC.out,if_neg HB.out,if_neg (by simp [e1]),if_neg (by simp [e2])]),bw⟩
   ·go_wp2_with fail
    refine (HS.out _ (hI.below (B:=w.heap.size) (by (repeat first|exact bel0|assumption|refine bel1 ?_|refine bel2 ?_|refine bel3 ?_|refine belowT ?_ (by assumption)|refine bel5 ?_ (by simp;try omega))) (Nat.le_refl _))).mono ?_
    rintro e w2 ⟨rfl,hb2⟩
    have bw2:Below w.heap.size w w2:=by (repeat first|exact bel0|assumption|refine bel1 ?_|refine bel2 ?_|refine bel3 ?_|refine belowT ?_ (by assumption)|refine bel5 ?_ (by simp;try omega))
    clear hb2
    cases sa
    ·go_wp2
     go_ret
     exact ⟨ret_int (by simp at e1 e2;rw [HC.out,if_neg HB.out,if_neg (by simp [e1]),if_pos (by simp [e2])]),bw2⟩
    ·go_wp2
     go_ret
     exact ⟨ret_int (by simp at e1 e2;rw [HC.out,if_neg HB.out,if_neg (by simp [e1]),if_neg (by simp)]),bw2⟩
  ·go_wp2
   go_ret
   exact ⟨ret_int (by simp at e1;rw [HC.out,if_neg HB.out,if_pos (by simp [e1])]),bw⟩
end Go.Proofs.YtabafikicbkkdaaGreatDoor
