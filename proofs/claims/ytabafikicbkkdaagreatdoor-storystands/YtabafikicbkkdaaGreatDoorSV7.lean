/- The contract of cmd.listed; no condition but that the data reads as a list, and the table is as its text lays it. -/
import Derived.Test.YtabafikicbkkdaaGreatDoorSV6
import Derived.Laws.AppendOwnNone
import Derived.Test.YtabafikicbkkdaaGreatDoorSV1
import Derived.Test.YtabafikicbkkdaaGreatDoorSV2
namespace Go.Proofs.YtabafikicbkkdaaGreatDoor
open Go.RowKit
set_option linter.unusedVariables false
set_option maxHeartbeats 2000000
set_option maxRecDepth 100000
set_option linter.unusedSimpArgs false
def pickN (hz ha hn:Bool) (z t n:Int):Nat→List Int
 |0=>[]
 |1=>if hz then [z] else []
 |2=>(if hz then [z] else [])++(if ha then [t] else [])
 |_=>(if hz then [z] else [])++(if ha then [t] else [])++(if hn then [n] else [])
def listC (b:PC):List Int:=pickN (hasZ b.k) (hasA b.k) (hasN b.k) b.z b.at' b.n 3++b.d
theorem pickN_len (hz ha hn:Bool) (z t n:Int):∀ i,(pickN hz ha hn z t n i).length≤3
 |0=>by simp [pickN]
 |1=>by cases hz<;>simp [pickN]
 |2=>by cases hz<;>cases ha<;>simp [pickN]
 |_ + 3=>by cases hz<;>cases ha<;>cases hn<;>simp [pickN]
theorem OwnI.append {w:World} {base:Nat} {v:Value} {l k:List Int} {m:Nat} (hm:k.length=m) (h:w.ownsRow base 3 1 v (l.length + m) (cellsOf l++cellsOf k)):OwnI w base v (l++k):=by
 unfold OwnI
 rw [List.length_append,hm,← cellsOf_app]
 exact h
theorem listed_c (a:Option Addr) (m c:Nat) (k:Nat) (z n t:Int) (d:List Int) (w:World) (hS:Shapes w) (h:Ints w a m c d) (hm:m≤1000) (hk1:1≤k) (hk2:k≤12) :
  Calls Tryz.prog 231 #[.agg #[.int .i64 k,.int .i64 z,.int .i64 n,.int .i64 t,.slice a m c]] w fun e w'=>(∃ v,e=.returned v∧OwnI w' w.heap.size v (listC ⟨k,z,n,t,d⟩))∧Below w.heap.size w w':=by
 obtain ⟨i,hi,hzr,hs,hb⟩:=intInfo
 have s1:=hS.hz k hk2
 have s2:w.cell? ⟨0,k * 5 + 1 + 1,none⟩=some (.bool (hasA k)):=hS.ha k hk2
 have s3:w.cell? ⟨0,k * 5 + 1 + 2,none⟩=some (.bool (hasN k)):=hS.hn k hk2
 have HL:Hid (listC ⟨k,z,n,t,d⟩=pickN (hasZ k) (hasA k) (hasN k) z t n 3++d):=hide rfl
 have k1:(1:Int)≤(k:Int):=by omega
 have k2:(k:Int) < 13:=by omega
 have k0:(0:Int)≤(k:Int):=by omega
 clear hS
 generalize hasZ k=hz at *
 generalize hasA k=ha at *
 generalize hasN k=hn at *
 have i0:∀ w:World,(Instr.index 119 (.agg #[.int .i64 z,.int .i64 t,.int .i64 n]) (.int .i64 0)).run Tryz.prog w=.ok (.int .i64 z) w:=fun w=>by kernel_rfl
 have i1:∀ w:World,(Instr.index 119 (.agg #[.int .i64 z,.int .i64 t,.int .i64 n]) (.int .i64 1)).run Tryz.prog w=.ok (.int .i64 t) w:=fun w=>by kernel_rfl
 have i2:∀ w:World,(Instr.index 119 (.agg #[.int .i64 z,.int .i64 t,.int .i64 n]) (.int .i64 2)).run Tryz.prog w=.ok (.int .i64 n) w:=fun w=>by kernel_rfl
 go_enter Tryz.func231,Tryz.ntmps231
 go_wp2_with fail
 refine (singles_c _ _ _ _ _ _ _ _).mono ?_
 rintro e w1 ⟨rfl,hb1⟩
 have bw:Below w.heap.size w w1:=by (repeat first|exact bel0|assumption|refine bel1 ?_|refine bel2 ?_|refine bel3 ?_|refine belowT ?_ (by assumption)|refine bel5 ?_ (by simp;try omega))
 have b0:=keepc hb1 (p:=⟨w.heap.size,0,none⟩) (u:=.int .i64 k) (by go_simp)
 have b4:=keepc hb1 (p:=⟨w.heap.size,4,none⟩) (u:=.slice a m c) (by go_simp)
 have j1:=h.below bw (Nat.le_refl _)
 replace s1:=keepc bw s1
 replace s2:=keepc bw s2
 replace s3:=keepc bw s3
 clear hb1
 go_wp2
 go_loopw [3,8] (fun o x wr=>∃ j:Nat,j≤3∧x=.int .i64 j∧OwnI wr w1.heap.size o (pickN hz ha hn z t n j)∧Below w1.heap.size w1 wr) (fun _ x _=>3 - (intOf x).toNat)
 case atStart=>exact ⟨0,by omega,rfl,nil_own _ _,Below.refl _ _⟩
 case round=>
  obtain ⟨j,hj,rfl,hown,hbr⟩:=hrel
  rename_i wr
  have c0:=keepc hbr b0
  have hob:=hown.own
  have hpl:=pickN_len hz ha hn z t n j
  rcases (by omega:j=0∨j=1∨j=2∨j=3) with rfl|rfl|rfl|rfl
  ·replace s1:=keepc hbr s1
   cases hz
   ·go_wp2
    exact ⟨⟨1,by omega,by go_num,by simpa [pickN] using hown,hbr⟩,by simp [intOf]⟩
   ·generalize hL:pickN true ha hn z t n 0=L at *
    have HPL:=hide hL
    clear hL
    go_wp2_with (at_builtin;refine wpList_append_own _ rfl _ _ 26 rfl w1.heap.size 3 i (.int .i64 0) 1 8 Tryz.underlying26 hi hzr hs hb rfl (by decide) _ _ _ rfl (hown.alloc _) ⟨wr.heap.size,0,none⟩ 1 1 [.int .i64 z] rfl rfl (cell_one_new _ _ _) ?hq1 ?hq2 ?hq3 ?hq4 ?hq5)
    case hq1=>intro u hu;simp at hu;subst hu;rfl
    case hq2=>simp [maxLen];omega
    case hq3=>omega
    case hq4=>have:=hbr.size;simp;omega
    case hq5=>
     intro v' w3 hown3 hg3 _
     have b3:Below w1.heap.size w1 w3:=(hbr.alloc hbr.size _).grown hg3 (by simp;have:=hbr.size;omega) hob
     have o3:OwnI w3 w1.heap.size v' (pickN true ha hn z t n 1):=by
      have:=OwnI.snoc hown3
      rw [← HPL.out] at this
      simpa [pickN] using this
     go_wp2
     exact ⟨⟨1,by omega,by go_num,o3,b3⟩,by simp [intOf]⟩
  ·replace s2:=keepc hbr s2
   cases ha
   ·go_wp2
    exact ⟨⟨2,by omega,by go_num,by simpa [pickN] using hown,hbr⟩,by simp [intOf]⟩
   ·generalize hL:pickN hz true hn z t n 1=L at *
    have HPL:=hide hL
    clear hL
    go_wp2_with (at_builtin;refine wpList_append_own _ rfl _ _ 26 rfl w1.heap.size 3 i (.int .i64 0) 1 8 Tryz.underlying26 hi hzr hs hb rfl (by decide) _ _ _ rfl (hown.alloc _) ⟨wr.heap.size,0,none⟩ 1 1 [.int .i64 t] rfl rfl (cell_one_new _ _ _) ?hq1 ?hq2 ?hq3 ?hq4 ?hq5)
    case hq1=>intro u hu;simp at hu;subst hu;rfl
    case hq2=>simp [maxLen];omega
    case hq3=>omega
    case hq4=>have:=hbr.size;simp;omega
    case hq5=>
     intro v' w3 hown3 hg3 _
     have b3:Below w1.heap.size w1 w3:=(hbr.alloc hbr.size _).grown hg3 (by simp;have:=hbr.size;omega) hob
     have o3:OwnI w3 w1.heap.size v' (pickN hz true hn z t n 2):=by
      have:=OwnI.snoc hown3
      rw [← HPL.out] at this
      simpa [pickN] using this
     go_wp2
     exact ⟨⟨2,by omega,by go_num,o3,b3⟩,by simp [intOf]⟩
  ·replace s3:=keepc hbr s3
   cases hn
   ·go_wp2
    exact ⟨⟨3,by omega,by go_num,by simpa [pickN] using hown,hbr⟩,by simp [intOf]⟩
   ·generalize hL:pickN hz ha true z t n 2=L at *
    have HPL:=hide hL
    clear hL
    go_wp2_with (at_builtin;refine wpList_append_own _ rfl _ _ 26 rfl w1.heap.size 3 i (.int .i64 0) 1 8 Tryz.underlying26 hi hzr hs hb rfl (by decide) _ _ _ rfl (hown.alloc _) ⟨wr.heap.size,0,none⟩ 1 1 [.int .i64 n] rfl rfl (cell_one_new _ _ _) ?hq1 ?hq2 ?hq3 ?hq4 ?hq5)
    case hq1=>intro u hu;simp at hu;subst hu;rfl
    case hq2=>simp [maxLen];omega
    case hq3=>omega
    case hq4=>have:=hbr.size;simp;omega
    case hq5=>
     intro v' w3 hown3 hg3 _
     have b3:Below w1.heap.size w1 w3:=(hbr.alloc hbr.size _).grown hg3 (by simp;have:=hbr.size;omega) hob
     have o3:OwnI w3 w1.heap.size v' (pickN hz ha true z t n 3):=by
      have:=OwnI.snoc hown3
      rw [← HPL.out] at this
      simpa [pickN] using this
     go_wp2
     exact ⟨⟨3,by omega,by go_num,o3,b3⟩,by simp [intOf]⟩
  ·replace b4:=keepc hbr b4
   replace j1:=j1.below hbr (Nat.le_refl _)
   have e1:=j1.len
   generalize pickN hz ha hn z t n 3=L at *
   cases a with
   |none=>
    obtain ⟨rfl,rfl⟩:=j1.nils rfl
    obtain rfl:d=[]:=List.eq_nil_of_length_eq_zero e1
    go_wp2_with (at_builtin;refine wpList_append_own_none rfl _ _ 26 rfl w1.heap.size 3 i 1 Tryz.underlying26 hi _ _ _ rfl hown rfl ?_)
    go_ret
    refine ⟨⟨_,rfl,?_⟩,by (repeat first|exact bel0|assumption|refine bel1 ?_|refine bel2 ?_|refine bel3 ?_|refine belowT ?_ (by assumption)|refine bel5 ?_ (by simp;try omega))⟩
    rw [HL.out]
    simpa using hown.mono bw.size
   |some ad=>
    go_wp2_with (at_builtin;refine wpList_append_own _ rfl _ _ 26 rfl w1.heap.size 3 i (.int .i64 0) 1 8 Tryz.underlying26 hi hzr hs hb rfl (by decide) _ _ _ rfl hown ad m c (cellsOf d) rfl ?hq0 (j1.srcs ad rfl) (cellsOf_one d) ?hq2 ?hq3 ?hq4 ?hq5)
    case hq0=>simp [cellsOf_len,e1]
    case hq2=>simp [maxLen];omega
    case hq3=>omega
    case hq4=>exact hbr.size
    case hq5=>
     intro v' w3 hown3 hg3 _
     have b3:Below w1.heap.size w1 w3:=hbr.grown hg3 hbr.size hob
     have o3:OwnI w3 w1.heap.size v' (L++d):=OwnI.append e1 hown3
     go_wp2
     go_ret
     refine ⟨⟨_,rfl,?_⟩,by (repeat first|exact bel0|assumption|refine bel1 ?_|refine bel2 ?_|refine bel3 ?_|refine belowT ?_ (by assumption)|refine bel5 ?_ (by simp;try omega))⟩
     rw [HL.out]
     exact o3.mono bw.size
end Go.Proofs.YtabafikicbkkdaaGreatDoor
namespace Go.Proofs.YtabafikicbkkdaaGreatDoor
open Go.RowKit
set_option linter.unusedVariables false
set_option maxHeartbeats 2000000
set_option maxRecDepth 100000
set_option linter.unusedSimpArgs false
def textC (b:PC):List UInt8:=(word b.k.toNat).data.toList++(listC b).flatMap fun v=>32 :: Lib.itoa v
def printC (b:PC):List UInt8×Int:=if checkC b=0 then (textC b,0) else ([],checkC b)
def textV (l:List UInt8):Value:=.string ⟨l.toArray⟩
theorem checkC_ok {b:PC} (h:checkC b=0):1≤b.k∧b.k≤12∧b.d.length≤8∧(∀ x∈[b.z,b.at',b.n]++b.d,0≤x∧x≤999):=by
 unfold checkC at h
 split at h
 ·cases h
 ·rename_i ho
  split at h
  ·cases h
  ·split at h
   ·cases h
   ·split at h
    ·cases h
    ·rename_i h8
     split at h
     ·cases h
     ·rename_i hr
      simp [outB] at ho hr
      refine ⟨by omega,by omega,by omega,fun x hx=>?_⟩
      simp at hx
      rcases hx with rfl|rfl|rfl|hx
      ·omega
      ·omega
      ·omega
      ·have:=hr.2.2.2 x hx
       omega
theorem pickN_mem {hz ha hn:Bool} {z t n x:Int} (h:x∈pickN hz ha hn z t n 3):x=z∨x=t∨x=n:=by
 cases hz<;>cases ha<;>cases hn<;>simp [pickN] at h<;>omega
theorem listC_wf {b:PC} (h:checkC b=0):∀ x∈listC b,0≤x∧x≤999:=by
 intro x hx
 refine (checkC_ok h).2.2.2 x ?_
 unfold listC at hx
 rcases List.mem_append.1 hx with hx|hx
 ·have:=pickN_mem hx
  simp
  rcases this with e|e|e<;>simp [e]
 ·simp [hx]
theorem itoa_len {v:Int} (h0:0≤v) (h1:v≤999):(Lib.itoa v).length≤3:=by
 unfold Lib.itoa
 rw [if_neg (by omega)]
 rw [Lib.decDigits]
 split
 ·simp
 ·rw [Lib.decDigits]
  split
  ·simp
  ·rw [Lib.decDigits,dif_pos (by omega)]
   simp
theorem flat_len:∀ (L:List Int),(∀ x∈L,0≤x∧x≤999)→(L.flatMap fun v=>32 :: Lib.itoa v).length≤4 * L.length
 |[],_=>by simp
 |x :: L,h=>by
  have h1:=h x (by simp)
  have h2:=itoa_len h1.1 h1.2
  have h3:=flat_len L (fun y hy=>h y (by simp [hy]))
  simp only [List.flatMap_cons,List.length_append,List.length_cons]
  omega
theorem listC_len {b:PC} (h:checkC b=0):(listC b).length≤11:=by
 have:=(checkC_ok h).2.2.1
 have:=pickN_len (hasZ b.k) (hasA b.k) (hasN b.k) b.z b.at' b.n 3
 unfold listC
 rw [List.length_append]
 omega
theorem word_len (k:Nat):(word k).size≤8:=by
 unfold word
 split<;>decide
theorem size_two (wd:ByteArray) (T:List UInt8):(⟨(wd.data.toList++T).toArray⟩:ByteArray).size=wd.size + T.length:=by
 show (wd.data.toList++T).toArray.size=wd.data.size + T.length
 simp
theorem mk_append (a b:List UInt8):(⟨a.toArray⟩:ByteArray)++⟨b.toArray⟩=⟨(a++b).toArray⟩:=by
 rw [ByteArray.ext_iff]
 simp [ByteArray.data_append]
theorem Print_c (a:Option Addr) (m c:Nat) (b:PC) (w:World) (hE:Env w) (h:Ints w a m c b.d) :
  Calls Tryz.prog 223 #[cmdV a m c b] w fun e w'=>e=.returned (.tuple #[textV (printC b).1,.int .i64 (printC b).2])∧Below w.heap.size w w':=by
 have HC:=hide (fun w' hS h'=>cmdCheck_c a m c b w' hS h')
 unfold cmdV at *
 by_cases hck:checkC b=0
 ·have HP:Hid (printC b=(textC b,0)):=hide (by unfold printC;rw [if_pos hck])
  obtain ⟨hk1,hk2,hd8,_⟩:=checkC_ok hck
  have hwf:=listC_wf hck
  have hll:=listC_len hck
  obtain ⟨k,z,n,t,d⟩:=b
  obtain ⟨k,rfl⟩:∃ i:Nat,k=i:=⟨k.toNat,by simp at hk1;omega⟩
  dsimp only at *
  have hm8:m≤8:=by rw [← h.len];exact hd8
  have k1:(1:Int)≤(k:Int):=by omega
  have k2:(k:Int) < 13:=by omega
  have k0:(0:Int)≤(k:Int):=by omega
  rw [hck] at HC
  go_enter Tryz.func223,Tryz.ntmps223
  go_wp2_with fail
  refine (HC.out _ (hE.shp.below (by (repeat first|exact bel0|assumption|refine bel1 ?_|refine bel2 ?_|refine bel3 ?_|refine belowT ?_ (by assumption)|refine bel5 ?_ (by simp;try omega)))) (h.below (B:=w.heap.size) (by (repeat first|exact bel0|assumption|refine bel1 ?_|refine bel2 ?_|refine bel3 ?_|refine belowT ?_ (by assumption)|refine bel5 ?_ (by simp;try omega))) (Nat.le_refl _))).mono ?_
  rintro e w1 ⟨rfl,hb1⟩
  have bw:Below w.heap.size w w1:=by (repeat first|exact bel0|assumption|refine bel1 ?_|refine bel2 ?_|refine bel3 ?_|refine belowT ?_ (by assumption)|refine bel5 ?_ (by simp;try omega))
  have b0:=keepc hb1 (p:=⟨w.heap.size,0,none⟩) (u:=.int .i64 k) (by go_simp)
  have b1:=keepc hb1 (p:=⟨w.heap.size,1,none⟩) (u:=.int .i64 z) (by go_simp)
  have b2:=keepc hb1 (p:=⟨w.heap.size,2,none⟩) (u:=.int .i64 n) (by go_simp)
  have b3:=keepc hb1 (p:=⟨w.heap.size,3,none⟩) (u:=.int .i64 t) (by go_simp)
  have b4:=keepc hb1 (p:=⟨w.heap.size,4,none⟩) (u:=.slice a m c) (by go_simp)
  have E1:=hE.below bw
  have s1:=E1.shp.wd k (by omega)
  have i1:=h.below bw (Nat.le_refl _)
  clear hb1 HC
  go_wp2_with fail
  refine (listed_c a m c k z n t d w1 E1.shp i1 (by omega) (by omega) (by omega)).mono ?_
  rintro e w2 ⟨⟨v,rfl,hown⟩,hb2⟩
  have HT:Hid (textC ⟨k,z,n,t,d⟩=(word k).data.toList++(listC ⟨k,z,n,t,d⟩).flatMap fun v=>32 :: Lib.itoa v):=hide rfl
  obtain ⟨a2,c2,rfl,i2,x2⟩:=hown.ints (fun x hx=>by have:=hwf x hx;omega)
  generalize listC ⟨k,z,n,t,d⟩=L at *
  have E2:=E1.below hb2
  replace bw:Below w.heap.size w w2:=by (repeat first|exact bel0|assumption|refine bel1 ?_|refine bel2 ?_|refine bel3 ?_|refine belowT ?_ (by assumption)|refine bel5 ?_ (by simp;try omega))
  clear b0 b1 b2 b3 b4 s1 hb2 E1 i1 hown x2
  have hwl:=word_len k
  generalize word k=wd at *
  have hL:L.length≤9223372036854775807:=by have:=i2.le;have:=i2.max;omega
  go_wp2
  go_loopw [5,21] (fun o x wr=>∃ j:Nat,j≤L.length∧x=.int .i64 j∧o=textV (wd.data.toList++(L.take j).flatMap fun v=>32 :: Lib.itoa v)∧Below w2.heap.size w2 wr) (fun _ x _=>L.length - (intOf x).toNat)
  case atStart=>exact ⟨0,by omega,rfl,by simp [textV],Below.refl _ _⟩
  case round=>
   obtain ⟨j,hj,rfl,rfl,hbr⟩:=hrel
   rename_i wr
   by_cases hlt:j < L.length
   ·have i3:=i2.below hbr (Nat.le_refl _)
    rcases i3.row with h00|⟨b,off,rfl,_,hc⟩
    ·omega
    ·have hcell:=hc j hlt
     have hlt':(j:Int) < (L.length:Int):=by omega
     have hj0:(0:Int)≤(j:Int):=by omega
     have hx:=hwf (L.getD j 0) (by simp [List.getD,hlt])
     have E3:=E2.below hbr
     have hstep:(L.take (j + 1)).flatMap (fun v=>32 :: Lib.itoa v)=(L.take j).flatMap (fun v=>32 :: Lib.itoa v)++32 :: Lib.itoa (L.getD j 0):=by
      rw [take_succ_getD L j hlt]
      simp
     have HS:=hide hstep
     have hT:=flat_len (L.take j) (fun y hy=>hwf y (List.mem_of_mem_take hy))
     rw [List.length_take] at hT
     have hI:=itoa_len hx.1 hx.2
     clear hstep hc i3
     generalize L.getD j 0=x at *
     generalize (L.take j).flatMap (fun v=>32 :: Lib.itoa v)=T at *
     have z1:(⟨(Lib.itoa x).toArray⟩:ByteArray).size=(Lib.itoa x).length:=by simp [ByteArray.size]
     have z2:(⟨(wd.data.toList++T).toArray⟩:ByteArray).size=wd.size + T.length:=size_two wd T
     have z3:((⟨#[32]⟩:ByteArray)++⟨(Lib.itoa x).toArray⟩).size=1 + (Lib.itoa x).length:=by rw [ByteArray.size_append,z1];rfl
     have z4:¬ ((⟨#[32]⟩:ByteArray).size + (⟨(Lib.itoa x).toArray⟩:ByteArray).size > 9223372036854775807):=by rw [z1];show ¬ (1 + _ > _);omega
     have z5:¬ ((⟨(wd.data.toList++T).toArray⟩:ByteArray).size + ((⟨#[32]⟩:ByteArray)++⟨(Lib.itoa x).toArray⟩).size > 9223372036854775807):=by rw [z2,z3];omega
     have HA:Hid ((⟨(wd.data.toList++T).toArray⟩:ByteArray)++((⟨#[32]⟩:ByteArray)++⟨(Lib.itoa x).toArray⟩)=⟨(wd.data.toList++(T++32 :: Lib.itoa x)).toArray⟩):=hide (by
      rw [show (⟨#[32]⟩:ByteArray)=⟨([32]:List UInt8).toArray⟩ from rfl,mk_append,mk_append]
      simp)
     have HI:=hide (fun w' h'=>Itoa_c x (by omega) w' h')
     unfold textV
     generalize (⟨(wd.data.toList++T).toArray⟩:ByteArray)=S1 at *
     generalize (⟨(Lib.itoa x).toArray⟩:ByteArray)=S2 at *
     go_wp2_with fail
     refine (HI.out _ E3).mono ?_
     rintro e w3 ⟨rfl,hb3⟩
     go_wp2
     refine ⟨⟨j + 1,by omega,by go_num,?_,by (repeat first|exact bel0|assumption|refine bel1 ?_|refine bel2 ?_|refine bel3 ?_|refine belowT ?_ (by assumption)|refine bel5 ?_ (by simp;try omega))⟩,by simp only [intOf];omega⟩
     rw [HS.out,HA.out]
   ·obtain rfl:j=L.length:=by omega
    have HF:Hid (textC ⟨k,z,n,t,d⟩=wd.data.toList++(L.take L.length).flatMap fun v=>32 :: Lib.itoa v):=hide (by rw [HT.out,List.take_length])
    generalize (L.take L.length).flatMap (fun v=>32 :: Lib.itoa v)=T at *
    unfold textV
    go_wp2
    refine bodyPost_ret (v:=.tuple #[textV (wd.data.toList++T),.int .i64 0]) (by simp [results,Tryz.results223,go_sem,textV]) rfl ⟨?_,by (repeat first|exact bel0|assumption|refine bel1 ?_|refine bel2 ?_|refine bel3 ?_|refine belowT ?_ (by assumption)|refine bel5 ?_ (by simp;try omega))⟩
    rw [HP.out,HF.out]
 ·have HP:Hid (printC b=([],checkC b)):=hide (by unfold printC;rw [if_neg hck])
  have hcb:(checkC b !=0)=true:=by simpa using hck
  have HC2:=hide (HC.out)
  clear hck HC
  generalize checkC b=cb at *
  go_enter Tryz.func223,Tryz.ntmps223
  go_wp2_with fail
  refine (HC2.out _ (hE.shp.below (by (repeat first|exact bel0|assumption|refine bel1 ?_|refine bel2 ?_|refine bel3 ?_|refine belowT ?_ (by assumption)|refine bel5 ?_ (by simp;try omega)))) (h.below (B:=w.heap.size) (by (repeat first|exact bel0|assumption|refine bel1 ?_|refine bel2 ?_|refine bel3 ?_|refine belowT ?_ (by assumption)|refine bel5 ?_ (by simp;try omega))) (Nat.le_refl _))).mono ?_
  rintro e w1 ⟨rfl,hb1⟩
  go_wp2
  exact bodyPost_ret (v:=.tuple #[textV [],.int .i64 cb]) (by simp [results,Tryz.results223,go_sem,textV]) rfl ⟨by rw [HP.out],by (repeat first|exact bel0|assumption|refine bel1 ?_|refine bel2 ?_|refine bel3 ?_|refine belowT ?_ (by assumption)|refine bel5 ?_ (by simp;try omega))⟩
end Go.Proofs.YtabafikicbkkdaaGreatDoor
namespace Go.Proofs.YtabafikicbkkdaaGreatDoor
open Go.RowKit
set_option linter.unusedVariables false
set_option maxHeartbeats 2000000
set_option maxRecDepth 100000
set_option linter.unusedSimpArgs false
theorem bytes_eq {a b:ByteArray} (h:a.data.toList=b.data.toList):a=b:=by
 rw [ByteArray.ext_iff]
 exact Array.toList_inj.1 h
theorem pieces_toks (s:ByteArray):(pieces s).map (·.data.toList)=toks s.data.toList:=splitB_toks s
theorem lay3_pick (hz ha hn:Bool) (z t n:Int) (d:List Int):lay3 [hz,ha,hn] (pickN hz ha hn z t n 3++d)=some ([if hz then z else 0,if ha then t else 0,if hn then n else 0],d):=by
 cases hz<;>cases ha<;>cases hn<;>simp [lay3,pickN]
theorem lay3_inv {hz ha hn:Bool} {l s r:List Int} (h:lay3 [hz,ha,hn] l=some (s,r)):l=pickN hz ha hn (s.getD 0 0) (s.getD 1 0) (s.getD 2 0) 3++r:=by
 cases hz<;>cases ha<;>cases hn<;>rcases l with _|⟨x,_|⟨y,_|⟨u,l⟩⟩⟩<;>simp [lay3] at h<;>obtain ⟨rfl,rfl⟩:=h<;>simp [pickN]
theorem checkC_zero {b:PC} (h:checkC b=0):(hasZ b.k=false→b.z=0)∧(hasA b.k=false→b.at'=0)∧(hasN b.k=false→b.n=0)∧hasD b.k=decide (b.d≠[]):=by
 unfold checkC at h
 split at h
 ·cases h
 ·split at h
  ·cases h
  ·rename_i hno
   split at h
   ·cases h
   ·rename_i hd
    refine ⟨fun e=>?_,fun e=>?_,fun e=>?_,?_⟩
    ·exact Decidable.byContradiction fun hz=>hno (.inl ⟨hz,e⟩)
    ·exact Decidable.byContradiction fun hz=>hno (.inr (.inl ⟨hz,e⟩))
    ·exact Decidable.byContradiction fun hz=>hno (.inr (.inr ⟨hz,e⟩))
    ·cases hh:hasD b.k<;>by_cases e:b.d=[]<;>simp [hh,e] at hd ⊢
theorem hasL_eq (k:Nat):hasL k=[hasZ k,hasA k,hasN k]:=rfl
theorem lay_list {b:PC} (h:checkC b=0):layC b.k.toNat (listC b)=some b:=by
 obtain ⟨k1,k2,_,_⟩:=checkC_ok h
 obtain ⟨hz,ha,hn,hd⟩:=checkC_zero h
 obtain ⟨k,z,n,t,d⟩:=b
 dsimp only at *
 obtain ⟨i,rfl⟩:∃ i:Nat,k=i:=⟨k.toNat,by omega⟩
 unfold layC listC
 rw [hasL_eq,show ((i:Int).toNat)=i from rfl]
 dsimp only
 rw [lay3_pick]
 dsimp only
 rw [if_pos hd]
 congr 2
 ·cases e:hasZ i
  ·simp [hz e]
  ·simp
 ·cases e:hasN i
  ·simp [hn e]
  ·simp
 ·cases e:hasA i
  ·simp [ha e]
  ·simp
theorem list_lay {k:Nat} {l:List Int} {b:PC} (h:layC k l=some b):b.k=k∧listC b=l:=by
 unfold layC at h
 split at h
 ·cases h
 ·rename_i s r hl
  split at h
  ·cases h
   refine ⟨rfl,?_⟩
   unfold listC
   dsimp only
   exact (lay3_inv hl).symm
  ·cases h
theorem word_no_blank (k:Nat):(32:UInt8)∉(word k).data.toList:=by
 unfold word
 split<;>decide
theorem text_glue (b:PC):textC b=glue ((word b.k.toNat).data.toList :: (listC b).map Lib.itoa):=by
 rw [glue_flat]
 unfold textC
 congr 1
 induction listC b with
 |nil=>rfl
 |cons x l ih=>simp [ih]
theorem toks_text (b:PC):toks (textC b)=(word b.k.toNat).data.toList :: (listC b).map Lib.itoa:=by
 rw [text_glue]
 refine toks_glue _ (by simp) (fun t ht=>?_)
 rcases List.mem_cons.1 ht with rfl|ht
 ·exact word_no_blank _
 ·obtain ⟨v,_,rfl⟩:=List.mem_map.1 ht
  exact itoa_no_blank v
theorem readC_text {s:ByteArray} {b:PC} (h:checkC b=0) (hs:s.data.toList=textC b):readC (pieces s)=some b:=by
 have ht:=pieces_toks s
 rw [hs,toks_text] at ht
 obtain ⟨k1,k2,_,_⟩:=checkC_ok h
 cases hp:pieces s with
 |nil=>rw [hp] at ht;simp at ht
 |cons t ts=>
  rw [hp] at ht
  simp only [List.map_cons,List.cons.injEq] at ht
  have e1:t=word b.k.toNat:=bytes_eq ht.1
  subst e1
  simp only [readC]
  rw [kindOfS_word _ (by omega) (by omega)]
  dsimp only
  rw [ht.2,nums_of _ (fun v hv=>by have:=listC_wf h v hv;omega)]
  exact lay_list h
theorem textC_len {b:PC} (h:checkC b=0):(textC b).length≤60:=by
 have h1:=flat_len (listC b) (listC_wf h)
 have h2:=listC_len h
 have h3:=word_len b.k.toNat
 rw [Lib.size_eq] at h3
 unfold textC
 rw [List.length_append]
 omega
theorem parse_text {b:PC} (h:checkC b=0):parseC ⟨(textC b).toArray⟩=(b,0):=by
 have hl:=textC_len h
 unfold parseC
 rw [if_neg (by rw [Lib.size_eq];simp;omega),readC_text h (by simp)]
 simp [h]
theorem text_parse {s:ByteArray} (h:(parseC s).2=0):checkC (parseC s).1=0∧textC (parseC s).1=s.data.toList:=by
 unfold parseC at h ⊢
 split at h
 ·cases h
 ·rename_i hlong
  rw [if_neg hlong]
  cases hr:readC (pieces s) with
  |none=>rw [hr] at h;cases h
  |some b=>
   rw [hr] at h
   dsimp only at h ⊢
   by_cases hc:checkC b=0
   ·rw [if_pos hc]
    refine ⟨hc,?_⟩
    dsimp only
    have ht:=pieces_toks s
    rw [text_glue]
    cases hp:pieces s with
    |nil=>rw [hp] at hr;cases hr
    |cons t ts=>
     rw [hp] at hr ht
     simp only [readC] at hr
     cases hk:kindOfS t with
     |none=>rw [hk] at hr;cases hr
     |some k=>
      rw [hk] at hr
      dsimp only at hr
      cases hn:nums (ts.map (·.data.toList)) with
      |none=>rw [hn] at hr;cases hr
      |some l=>
       rw [hn] at hr
       dsimp only at hr
       obtain ⟨e1,e2⟩:=list_lay hr
       have e3:=nums_itoa hn
       have e4:=(kindOfS_some hk).1
       rw [e1,e2,← e3,show ((k:Int).toNat)=k from rfl,e4]
       rw [← glue_toks s.data.toList,← ht]
       rfl
   ·rw [if_neg hc] at h
    exact absurd h hc
end Go.Proofs.YtabafikicbkkdaaGreatDoor
namespace Go.Proofs.YtabafikicbkkdaaGreatDoor
open Go.RowKit
set_option linter.unusedVariables false
set_option maxHeartbeats 2000000
set_option maxRecDepth 100000
set_option linter.unusedSimpArgs false
def textR (r:PR):List UInt8:=Lib.itoa r.w++32 :: (Lib.itoa r.s++58 :: 32 :: textC r.c)
def printR (r:PR):List UInt8×Int:=if checkR r=0 then (textR r,0) else ([],checkR r)
def cutC:List UInt8→Option (List UInt8×List UInt8)
 |[]=>none
 |58 :: 32 :: r=>some ([],r)
 |a :: r=>(cutC r).map fun p=>(a :: p.1,p.2)
def cutB:List UInt8→Option (List UInt8×List UInt8)
 |[]=>none
 |a :: r=>if a=32 then some ([],r) else (cutB r).map fun p=>(a :: p.1,p.2)
def headR (l:List UInt8):Option (Int×Int):=match cutB l with
 |none=>none
 |some (a,b)=>match num a,num b with
  |some v,some u=>some (v,u)
  |_,_=>none
def parseR (s:List UInt8):PR×Int:=
 if 60000 < s.length then (zeroR,2) else match cutC s with
  |none=>(zeroR,1)
  |some (h,t)=>match headR h with
   |none=>(zeroR,1)
   |some (v,u)=>
    if (parseC ⟨t.toArray⟩).2≠0 then (zeroR,(parseC ⟨t.toArray⟩).2)
    else if checkR ⟨v,u,(parseC ⟨t.toArray⟩).1⟩≠0 then (zeroR,checkR ⟨v,u,(parseC ⟨t.toArray⟩).1⟩) else (⟨v,u,(parseC ⟨t.toArray⟩).1⟩,0)
theorem cutB_word:∀ (l r:List UInt8),(32:UInt8)∉l→cutB (l++32 :: r)=some (l,r)
 |[],r,_=>by simp [cutB]
 |a :: l,r,h=>by
  have h1:a≠32:=fun e=>h (by simp [e])
  have h2:(32:UInt8)∉l:=fun e=>h (by simp [e])
  simp [cutB,h1,cutB_word l r h2]
theorem cutB_some:∀ {l a b:List UInt8},cutB l=some (a,b)→l=a++32 :: b
 |[],a,b,h=>by simp [cutB] at h
 |x :: l,a,b,h=>by
  by_cases e:x=32
  ·subst e
   simp [cutB] at h
   obtain ⟨rfl,rfl⟩:=h
   rfl
  ·simp only [cutB,if_neg e] at h
   cases hc:cutB l with
   |none=>rw [hc] at h;cases h
   |some p=>
    obtain ⟨p1,p2⟩:=p
    rw [hc] at h
    simp at h
    obtain ⟨rfl,rfl⟩:=h
    rw [cutB_some hc]
    rfl
theorem cutC_word:∀ (l r:List UInt8),(58:UInt8)∉l→cutC (l++58 :: 32 :: r)=some (l,r)
 |[],r,_=>by simp [cutC]
 |a :: l,r,h=>by
  have h1:a≠58:=fun e=>h (by simp [e])
  have h2:(58:UInt8)∉l:=fun e=>h (by simp [e])
  have ih:=cutC_word l r h2
  have e:cutC (a :: (l++58 :: 32 :: r))=(cutC (l++58 :: 32 :: r)).map fun p=>(a :: p.1,p.2):=by
   rw [cutC.eq_def]
   split
   ·rename_i q;cases q
   ·rename_i q;simp at q;exact absurd q.1 h1
   ·rename_i hne q;simp at q;rw [q.1,q.2]
  rw [List.cons_append,e,ih]
  rfl
theorem cutC_some:∀ {l a b:List UInt8},cutC l=some (a,b)→l=a++58 :: 32 :: b
 |[],a,b,h=>by simp [cutC] at h
 |x :: l,a,b,h=>by
  rw [cutC.eq_def] at h
  split at h
  ·rename_i q;cases q
  ·rename_i r q
   simp at q h
   obtain ⟨rfl,rfl⟩:=h
   simp [q]
  ·rename_i y r hne q
   simp at q
   obtain ⟨rfl,rfl⟩:=q
   cases hc:cutC l with
   |none=>rw [hc] at h;cases h
   |some p=>
    obtain ⟨p1,p2⟩:=p
    rw [hc] at h
    simp at h
    obtain ⟨rfl,rfl⟩:=h
    rw [cutC_some hc]
    rfl
theorem itoa_no_colon (v:Int):(58:UInt8)∉Lib.itoa v:=by
 unfold Lib.itoa
 intro h
 split at h
 ·simp at h
  have:=digits_range _ _ h
  simp at this
 ·have:=digits_range _ _ h
  simp at this
theorem headR_text {v u:Int} (hv:-9223372036854775808≤v∧v≤9223372036854775807) (hu:-9223372036854775808≤u∧u≤9223372036854775807):headR (Lib.itoa v++32 :: Lib.itoa u)=some (v,u):=by
 unfold headR
 rw [cutB_word _ _ (itoa_no_blank v)]
 simp only [num_itoa v hv.1 hv.2,num_itoa u hu.1 hu.2]
theorem headR_some {l:List UInt8} {v u:Int} (h:headR l=some (v,u)):l=Lib.itoa v++32 :: Lib.itoa u:=by
 unfold headR at h
 cases hc:cutB l with
 |none=>rw [hc] at h;cases h
 |some p=>
  obtain ⟨a,b⟩:=p
  rw [hc] at h
  simp only at h
  cases ha:num a with
  |none=>rw [ha] at h;cases h
  |some x=>
   cases hb:num b with
   |none=>rw [ha,hb] at h;cases h
   |some y=>
    rw [ha,hb] at h
    simp at h
    obtain ⟨rfl,rfl⟩:=h
    rw [cutB_some hc,num_some ha,num_some hb]
theorem textR_len {r:PR} (h:checkR r=0):(textR r).length≤100:=by
 obtain ⟨h1,h2,h3⟩:=checkR_facts h
 have a:=itoa_len (v:=r.w) h1.1 (by omega)
 have b:=itoa_len (v:=r.s) (by omega) (by omega)
 have c:=textC_len h3
 simp [textR]
 omega
theorem parse_textR {r:PR} (h:checkR r=0):parseR (textR r)=(r,0):=by
 obtain ⟨h1,h2,h3⟩:=checkR_facts h
 have hl:=textR_len h
 have hc:cutC (textR r)=some (Lib.itoa r.w++32 :: Lib.itoa r.s,textC r.c):=by
  have e:textR r=(Lib.itoa r.w++32 :: Lib.itoa r.s)++58 :: 32 :: textC r.c:=by simp [textR]
  rw [e]
  refine cutC_word _ _ ?_
  intro q
  rcases List.mem_append.1 q with q|q
  ·exact itoa_no_colon _ q
  ·rcases List.mem_cons.1 q with q|q
   ·cases q
   ·exact itoa_no_colon _ q
 unfold parseR
 rw [if_neg (by omega),hc]
 simp only
 rw [headR_text (by omega) (by omega)]
 simp only
 rw [parse_text h3]
 simp [h]
theorem text_parseR {s:List UInt8} (h:(parseR s).2=0):checkR (parseR s).1=0∧textR (parseR s).1=s:=by
 unfold parseR at h ⊢
 split
 ·rename_i q;rw [if_pos q] at h;cases h
 ·rename_i q
  rw [if_neg q] at h
  cases hc:cutC s with
  |none=>rw [hc] at h;cases h
  |some p=>
   obtain ⟨a,t⟩:=p
   rw [hc] at h
   simp only at h ⊢
   cases hh:headR a with
   |none=>rw [hh] at h;cases h
   |some p=>
    obtain ⟨v,u⟩:=p
    rw [hh] at h
    simp only at h ⊢
    by_cases hp:(parseC ⟨t.toArray⟩).2=0
    ·by_cases hk:checkR ⟨v,u,(parseC ⟨t.toArray⟩).1⟩=0
     ·rw [if_neg (by simp [hp]),if_neg (by simp [hk])]
      refine ⟨hk,?_⟩
      have e:=(text_parse hp).2
      simp only [textR]
      rw [e,cutC_some hc,headR_some hh]
      simp
     ·rw [if_neg (by simp [hp]),if_pos hk] at h
      exact absurd h hk
    ·rw [if_pos hp] at h
     exact absurd h hp
end Go.Proofs.YtabafikicbkkdaaGreatDoor
namespace Go.Proofs.YtabafikicbkkdaaGreatDoor
open Go.RowKit
set_option linter.unusedVariables false
set_option maxHeartbeats 2000000
set_option maxRecDepth 100000
set_option linter.unusedSimpArgs false
def itoaB (v:Int):ByteArray:=⟨(Lib.itoa v).toArray⟩
theorem atoiAll_wf {l:List UInt8} {v:Int} (h:Lib.atoiAll l=.ok v):-9223372036854775808≤v∧v≤9223372036854775807:=by
 have:=Lib.parseIntB_bounds (show Lib.parseIntB 64 l=.ok v by rw [Lib.parseIntB_64];exact h)
 simp at this
 omega
def NumRes (s:ByteArray) (e:Ending):Prop:=∃ v f,e=.returned (.tuple #[.int .i64 v,.bool f])∧(f=true→num s.data.toList=some v)∧(f=false→num s.data.toList=none)
theorem number_c (s:ByteArray) (hs:s.size≤281474976710656) (w:World) (hE:Env w):Calls Tryz.prog 127 #[.string s] w fun e w'=>NumRes s e∧Below w.heap.size w w':=by
 by_cases hok:∃ v,Lib.atoiAll s.data.toList=.ok v
 ·obtain ⟨v,hv⟩:=hok
  have hw:=atoiAll_wf hv
  have HN:Hid (num s.data.toList=if Lib.itoa v=s.data.toList then some v else none):=hide (by rw [num_eq,hv])
  have HI:=hide (fun w' h'=>Itoa_c v hw w' h')
  have HE:Hid (((⟨(Lib.itoa v).toArray⟩:ByteArray)==s)=decide (Lib.itoa v=s.data.toList)):=hide (by
   by_cases e:Lib.itoa v=s.data.toList
   ·rw [beq_t (bytes_eq e)];simp [e]
   ·rw [beq_f (fun e'=>e (by rw [← e']))];simp [e])
  generalize hx:(⟨(Lib.itoa v).toArray⟩:ByteArray)=x at *
  clear hx
  go_enter Tryz.func127,Tryz.ntmps127
  go_wp2_with fail
  refine (Atoi_ok_c s hs v hv _).mono ?_
  rintro e w1 ⟨rfl,hb1⟩
  have E1:=hE.below hb1
  go_wp2_with fail
  refine (HI.out _ E1).mono ?_
  rintro e w2 ⟨rfl,hb2⟩
  have he:=HE.out
  cases hd:decide (Lib.itoa v=s.data.toList)
  ·rw [hd] at he
   have he2:(x.toList==s.toList)=false:=by rw [← beq_toListBytes];exact he
   have he3:¬ (x.toList=s.toList):=by simpa using he2
   go_wp2
   refine bodyPost_ret (v:=.tuple #[.int .i64 v,.bool false]) (by simp [results,Tryz.results127,go_sem,he3]) rfl ⟨⟨v,false,rfl,(fun h=>by cases h),fun _=>?_⟩,by (repeat first|exact bel0|assumption|refine bel1 ?_|refine bel2 ?_|refine bel3 ?_|refine belowT ?_ (by assumption)|refine bel5 ?_ (by simp;try omega))⟩
   rw [HN.out,if_neg (of_decide_eq_false hd)]
  ·rw [hd] at he
   have he2:(x.toList==s.toList)=true:=by rw [← beq_toListBytes];exact he
   have he3:x.toList=s.toList:=by simpa using he2
   go_wp2
   refine bodyPost_ret (v:=.tuple #[.int .i64 v,.bool true]) (by simp [results,Tryz.results127,go_sem,he3]) rfl ⟨⟨v,true,rfl,fun _=>?_,(fun h=>by cases h)⟩,by (repeat first|exact bel0|assumption|refine bel1 ?_|refine bel2 ?_|refine bel3 ?_|refine belowT ?_ (by assumption)|refine bel5 ?_ (by simp;try omega))⟩
   rw [HN.out,if_pos (of_decide_eq_true hd)]
 ·have hn:∀ v,Lib.atoiAll s.data.toList≠.ok v:=fun v h=>hok ⟨v,h⟩
  have HN:Hid (num s.data.toList=none):=hide (by
   rw [num_eq]
   cases h:Lib.atoiAll s.data.toList with
   |ok v=>exact absurd h (hn v)
   |«syntax»=>rfl
   |range=>rfl)
  go_enter Tryz.func127,Tryz.ntmps127
  go_wp2_with fail
  refine (Atoi_bad_c s hs hn _ hE).mono ?_
  rintro e w1 ⟨⟨v,N,rfl⟩,hb1⟩
  go_wp2
  exact bodyPost_ret (v:=.tuple #[.int .i64 v,.bool false]) (by simp [results,Tryz.results127,go_sem]) rfl ⟨⟨v,false,rfl,(fun h=>by cases h),fun _=>HN.out⟩,by (repeat first|exact bel0|assumption|refine bel1 ?_|refine bel2 ?_|refine bel3 ?_|refine belowT ?_ (by assumption)|refine bel5 ?_ (by simp;try omega))⟩
end Go.Proofs.YtabafikicbkkdaaGreatDoor
