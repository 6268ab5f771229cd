/- Disks as plain data: bytes that are safe, bytes that wait, the records that they tell; plain mathematics, no condition. -/
import Derived.Test.YtabafikicbkkdaaGreatDoorSV7
import Derived.Test.YtabafikicbkkdaaGreatDoorSV2
import Derived.Test.YtabafikicbkkdaaGreatDoorSV3
import Derived.Deep.AppendLies
import Derived.Shelf.Bytes.SlEqualAll
import Derived.SizedLaws
import Derived.Test.YtabafikicbkkdaaGreatDoorSV1
import Derived.Deep.Slices
import Derived.Test.YtabafikicbkkdaaGreatDoorSV6
namespace Go.Proofs.YtabafikicbkkdaaGreatDoor
open Go.RowKit
set_option linter.unusedVariables false
set_option maxRecDepth 100000
set_option linter.unusedSimpArgs false
structure PK where
 s:List UInt8
 w:List UInt8
def zeroK:PK:=⟨[],[]⟩
def cutN:List UInt8→Option (List UInt8×List UInt8)
 |[]=>none
 |a :: r=>if a=10 then some ([],r) else (cutN r).map fun p=>(a :: p.1,p.2)
theorem cutN_word:∀ (l r:List UInt8),(10:UInt8)∉l→cutN (l++10 :: r)=some (l,r)
 |[],r,_=>by simp [cutN]
 |a :: l,r,h=>by
  have h1:a≠10:=fun e=>h (by simp [e])
  have h2:(10:UInt8)∉l:=fun e=>h (by simp [e])
  simp [cutN,h1,cutN_word l r h2]
theorem cutN_free:∀ (l:List UInt8),(10:UInt8)∉l→cutN l=none
 |[],_=>rfl
 |a :: l,h=>by
  have h1:a≠10:=fun e=>h (by simp [e])
  have h2:(10:UInt8)∉l:=fun e=>h (by simp [e])
  simp [cutN,h1,cutN_free l h2]
theorem cutN_some:∀ {l a b:List UInt8},cutN l=some (a,b)→l=a++10 :: b∧(10:UInt8)∉a
 |[],a,b,h=>by simp [cutN] at h
 |x :: l,a,b,h=>by
  by_cases e:x=10
  ·subst e
   simp [cutN] at h
   obtain ⟨rfl,rfl⟩:=h
   exact ⟨rfl,by simp⟩
  ·simp only [cutN,if_neg e] at h
   cases hc:cutN l with
   |none=>rw [hc] at h;cases h
   |some p=>
    obtain ⟨p1,p2⟩:=p
    rw [hc] at h
    simp at h
    obtain ⟨rfl,rfl⟩:=h
    obtain ⟨h1,h2⟩:=cutN_some hc
    refine ⟨by rw [h1];rfl,?_⟩
    intro q
    rcases List.mem_cons.1 q with q|q
    ·exact e q.symm
    ·exact h2 q
def linesF:Nat→Nat→List UInt8→List PR×Nat×Int
 |0,_,_=>([],0,0)
 |f + 1,most,l=>if l=[] then ([],0,0) else match cutN l with
  |none=>([],0,9)
  |some (a,r)=>if (parseR a).2≠0 then ([],0,(parseR a).2) else match most with
   |0=>([],0,2)
   |m + 1=>((parseR a).1 :: (linesF f m r).1,a.length + 1 + (linesF f m r).2.1,(linesF f m r).2.2)
def linesP (most:Nat) (l:List UInt8):List PR×Nat×Int:=linesF l.length most l
theorem linesF_fuel:∀ (f g most:Nat) (l:List UInt8),l.length≤f→l.length≤g→linesF f most l=linesF g most l
 |0,0,_,_,_,_=>rfl
 |0,g + 1,most,l,h,_=>by
  obtain rfl:l=[]:=List.eq_nil_of_length_eq_zero (by omega)
  simp [linesF]
 |f + 1,0,most,l,_,h=>by
  obtain rfl:l=[]:=List.eq_nil_of_length_eq_zero (by omega)
  simp [linesF]
 |f + 1,g + 1,most,l,h1,h2=>by
  by_cases hl:l=[]
  ·simp [linesF,hl]
  ·simp only [linesF,if_neg hl]
   cases hc:cutN l with
   |none=>rfl
   |some p=>
    obtain ⟨a,r⟩:=p
    have hlen:=congrArg List.length (cutN_some hc).1
    simp only [List.length_append,List.length_cons] at hlen
    cases most with
    |zero=>rfl
    |succ m=>
     simp only
     rw [linesF_fuel f g m r (by omega) (by omega)]
theorem linesP_nil (most:Nat):linesP most []=([],0,0):=rfl
theorem linesP_torn {l:List UInt8} (h:l≠[]) (hc:cutN l=none) (most:Nat):linesP most l=([],0,9):=by
 unfold linesP
 cases l with
 |nil=>exact absurd rfl h
 |cons a l=>simp [linesF,hc]
theorem linesP_line {l a r:List UInt8} (hc:cutN l=some (a,r)) (most:Nat):linesP most l=if (parseR a).2≠0 then ([],0,(parseR a).2) else match most with
  |0=>([],0,2)
  |m + 1=>((parseR a).1 :: (linesP m r).1,a.length + 1 + (linesP m r).2.1,(linesP m r).2.2):=by
 have hlen:=congrArg List.length (cutN_some hc).1
 simp only [List.length_append,List.length_cons] at hlen
 unfold linesP
 obtain ⟨f,hf⟩:∃ f,l.length=f + 1:=⟨l.length - 1,by omega⟩
 have hl:l≠[]:=by rintro rfl;simp at hf
 rw [hf]
 simp only [linesF,if_neg hl,hc]
 cases most with
 |zero=>rfl
 |succ m=>
  simp only
  rw [linesF_fuel f r.length m r (by omega) (Nat.le_refl _)]
theorem word_no_lf (k:Nat):(10:UInt8)∉(word k).data.toList:=by
 unfold word
 split<;>decide
theorem itoa_no_lf (v:Int):(10:UInt8)∉Lib.itoa v:=by
 unfold Lib.itoa
 intro h
 split at h
 ·simp at h
  have:=digits_range _ _ h
  simp at this
 ·have:=digits_range _ _ h
  simp at this
theorem textC_no_lf (b:PC):(10:UInt8)∉textC b:=by
 unfold textC
 intro h
 rcases List.mem_append.1 h with h|h
 ·exact word_no_lf _ h
 ·obtain ⟨v,_,hv⟩:=List.mem_flatMap.1 h
  rcases List.mem_cons.1 hv with q|q
  ·cases q
  ·exact itoa_no_lf _ q
theorem textR_no_lf (r:PR):(10:UInt8)∉textR r:=by
 unfold textR
 intro h
 rcases List.mem_append.1 h with h|h
 ·exact itoa_no_lf _ h
 rcases List.mem_cons.1 h with h|h
 ·cases h
 rcases List.mem_append.1 h with h|h
 ·exact itoa_no_lf _ h
 rcases List.mem_cons.1 h with h|h
 ·cases h
 rcases List.mem_cons.1 h with h|h
 ·cases h
 exact textC_no_lf _ h
def textL (rs:List PR):List UInt8:=rs.flatMap fun r=>textR r++[10]
theorem textL_nil:textL []=[]:=rfl
theorem textL_cons (r:PR) (rs:List PR):textL (r :: rs)=textR r++10 :: textL rs:=by simp [textL]
theorem textL_append (a b:List PR):textL (a++b)=textL a++textL b:=by simp [textL]
theorem lines_ahead:∀ (rs:List PR) (most:Nat) (l:List UInt8),(∀ r∈rs,checkR r=0)→rs.length≤most→
  linesP most (textL rs++l)=(rs++(linesP (most - rs.length) l).1,(textL rs).length + (linesP (most - rs.length) l).2.1,(linesP (most - rs.length) l).2.2)
 |[],most,l,_,_=>by simp [textL_nil]
 |r :: rs,most,l,h,hm=>by
  obtain ⟨m,rfl⟩:∃ m,most=m + 1:=⟨most - 1,by simp at hm;omega⟩
  have hr:=h r (by simp)
  have hc:cutN (textL (r :: rs)++l)=some (textR r,textL rs++l):=by
   rw [textL_cons,List.append_assoc,List.cons_append]
   exact cutN_word _ _ (textR_no_lf r)
  rw [linesP_line hc,parse_textR hr,if_neg (by simp)]
  simp only
  rw [lines_ahead rs m l (fun x hx=>h x (by simp [hx])) (by simpa using hm)]
  simp only [List.length_cons,Nat.add_sub_add_right,textL_cons,List.cons_append,List.length_append,Prod.mk.injEq,and_true,true_and]
  omega
theorem lines_text (rs:List PR) (most:Nat) (h:∀ r∈rs,checkR r=0) (hm:rs.length≤most):linesP most (textL rs)=(rs,(textL rs).length,0):=by
 have:=lines_ahead rs most [] h hm
 simpa [linesP_nil] using this
theorem lines_facts:∀ (n most:Nat) (l:List UInt8),l.length≤n→(linesP most l).1.length≤most∧(∀ r∈(linesP most l).1,checkR r=0)∧l=textL (linesP most l).1++l.drop (linesP most l).2.1∧(linesP most l).2.1=(textL (linesP most l).1).length∧((linesP most l).2.2=0→(linesP most l).2.1=l.length)
 |n,most,[],_=>by simp [linesP_nil,textL_nil]
 |0,most,a :: l,h=>by simp at h
 |n + 1,most,b :: l,h=>by
  cases hc:cutN (b :: l) with
  |none=>simp [linesP_torn (by simp) hc,textL_nil]
  |some p=>
   obtain ⟨a,r⟩:=p
   obtain ⟨hl,_⟩:=cutN_some hc
   have hlen:=congrArg List.length hl
   simp only [List.length_append,List.length_cons] at hlen h
   rw [linesP_line hc]
   by_cases hp:(parseR a).2=0
   ·rw [if_neg (by simp [hp])]
    cases most with
    |zero=>simp [textL_nil]
    |succ m=>
     obtain ⟨f1,f2,f3,f4,f5⟩:=lines_facts n m r (by omega)
     obtain ⟨g1,g2⟩:=text_parseR hp
     simp only
     refine ⟨by simpa using f1,?_,?_,?_,?_⟩
     ·intro x hx
      rcases List.mem_cons.1 hx with rfl|hx
      ·exact g1
      ·exact f2 x hx
     ·rw [textL_cons,g2]
      conv=>lhs;rw [hl,f3]
      rw [hl]
      simp [List.drop_append,Nat.add_assoc,Nat.add_sub_cancel_left,Nat.add_comm 1]
     ·rw [textL_cons,g2,f4]
      simp
      omega
     ·intro he
      have:=f5 he
      simp
      omega
   ·rw [if_pos hp]
    simp [textL_nil,hp]
end Go.Proofs.YtabafikicbkkdaaGreatDoor
namespace Go.Proofs.YtabafikicbkkdaaGreatDoor
open Go.RowKit
set_option linter.unusedVariables false
set_option maxRecDepth 100000
set_option linter.unusedSimpArgs false
theorem lines_take:∀ (rs:List PR) (most n:Nat),(∀ r∈rs,checkR r=0)→rs.length≤most→
  ∃ j,j≤rs.length∧(linesP most ((textL rs).take n)).1=rs.take j∧(linesP most ((textL rs).take n)).2.1=(textL (rs.take j)).length
 |[],most,n,_,_=>⟨0,Nat.le_refl _,by simp [textL_nil,linesP_nil],by simp [textL_nil,linesP_nil]⟩
 |r :: rs,most,n,h,hm=>by
  by_cases hn:n≤(textR r).length
  ·have ht:(textL (r :: rs)).take n=(textR r).take n:=by
    rw [textL_cons,List.take_append_of_le_length hn]
   refine ⟨0,Nat.zero_le _,?_⟩
   rw [ht]
   by_cases he:(textR r).take n=[]
   ·rw [he]
    simp [linesP_nil,textL_nil]
   ·rw [linesP_torn he (cutN_free _ (fun q=>textR_no_lf r (List.mem_of_mem_take q)))]
    simp [textL_nil]
  ·obtain ⟨m,rfl⟩:∃ m,n=(textR r).length + 1 + m:=⟨n - (textR r).length - 1,by omega⟩
   have ht:(textL (r :: rs)).take ((textR r).length + 1 + m)=textL [r]++(textL rs).take m:=by
    rw [textL_cons,textL_cons,textL_nil,Nat.add_assoc,List.take_length_add_append,Nat.add_comm 1 m,List.take_succ_cons,List.append_assoc]
    rfl
   obtain ⟨j,hj,h1,h2⟩:=lines_take rs (most - 1) m (fun x hx=>h x (by simp [hx])) (by simp at hm;omega)
   refine ⟨j + 1,by simpa using hj,?_⟩
   rw [ht,lines_ahead [r] most _ (fun x hx=>h x (by simp at hx;simp [hx])) (by simp at hm ⊢;omega)]
   simp only [List.length_singleton,h1,h2,List.take_succ_cons]
   refine ⟨rfl,?_⟩
   simp [textL_cons,textL_nil]
   omega
theorem textL_len:∀ (rs:List PR),(∀ r∈rs,checkR r=0)→(textL rs).length≤101 * rs.length
 |[],_=>by simp [textL_nil]
 |r :: rs,h=>by
  have h1:=textR_len (h r (by simp))
  have h2:=textL_len rs (fun x hx=>h x (by simp [hx]))
  simp [textL_cons]
  omega
def checkK (d:PK):Int:=if 60000 < d.s.length + d.w.length then 2 else (linesP 80 d.s).2.2
def putK (d:PK) (r:PR):PK×Int:=if checkK d≠0 then (zeroK,checkK d) else if checkR r≠0 then (zeroK,checkR r)
 else if 60000 < d.s.length + d.w.length + (textR r).length + 1 then (zeroK,2) else (⟨d.s,d.w++(textR r++[10])⟩,0)
def syncK (d:PK):PK×Int:=if checkK d≠0 then (zeroK,checkK d) else if checkK ⟨d.s++d.w,[]⟩≠0 then (zeroK,checkK ⟨d.s++d.w,[]⟩) else (⟨d.s++d.w,[]⟩,0)
def recK (d:PK):PK×List PR×Int:=if checkK d≠0 then (zeroK,[],checkK d)
 else (⟨d.s++d.w.take (linesP (80 - (linesP 80 d.s).1.length) d.w).2.1,[]⟩,(linesP 80 d.s).1++(linesP (80 - (linesP 80 d.s).1.length) d.w).1,0)
theorem checkK_text {a:List PR} {w:List UInt8} (h:∀ r∈a,checkR r=0) (ha:a.length≤80) (hl:(textL a).length + w.length≤60000):checkK ⟨textL a,w⟩=0:=by
 unfold checkK
 rw [if_neg (by simp only;omega)]
 simp only
 rw [lines_text a 80 h ha]
theorem putK_text {a b:List PR} {r:PR} (h:∀ r∈a,checkR r=0) (hb:∀ r∈b,checkR r=0) (ha:a.length + b.length < 80) (hr:checkR r=0):putK ⟨textL a,textL b⟩ r=(⟨textL a,textL (b++[r])⟩,0):=by
 have l1:=textL_len a h
 have l2:=textL_len b hb
 have l3:=textR_len hr
 unfold putK
 rw [checkK_text h (by omega) (by omega),if_neg (by simp),hr,if_neg (by simp)]
 simp only
 rw [if_neg (by omega),textL_append]
 simp [textL]
theorem syncK_text {a b:List PR} (h:∀ r∈a,checkR r=0) (hb:∀ r∈b,checkR r=0) (ha:a.length + b.length≤80):syncK ⟨textL a,textL b⟩=(⟨textL (a++b),[]⟩,0):=by
 have l1:=textL_len a h
 have l2:=textL_len b hb
 have hab:∀ r∈a++b,checkR r=0:=fun r hr=>(List.mem_append.1 hr).elim (h r) (hb r)
 have l3:=textL_len (a++b) hab
 rw [List.length_append] at l3
 unfold syncK
 rw [checkK_text h (by omega) (by omega),if_neg (by simp)]
 simp only
 rw [← textL_append,checkK_text hab (by rw [List.length_append];omega) (by simp;omega),if_neg (by simp)]
theorem recK_text {a b:List PR} (n:Nat) (h:∀ r∈a,checkR r=0) (hb:∀ r∈b,checkR r=0) (ha:a.length + b.length≤80) :
  ∃ j,j≤b.length∧recK ⟨textL a,(textL b).take n⟩=(⟨textL (a++b.take j),[]⟩,a++b.take j,0):=by
 have l1:=textL_len a h
 have l2:=textL_len b hb
 obtain ⟨j,hj,h1,h2⟩:=lines_take b (80 - a.length) n hb (by omega)
 obtain ⟨_,_,h3,h4,_⟩:=lines_facts _ (80 - a.length) ((textL b).take n) (Nat.le_refl _)
 refine ⟨j,hj,?_⟩
 unfold recK
 rw [checkK_text h (by omega) (by rw [List.length_take];omega),if_neg (by simp)]
 simp only
 rw [lines_text a 80 h (by omega)]
 simp only
 rw [h1]
 have ht:((textL b).take n).take (linesP (80 - a.length) ((textL b).take n)).2.1=textL (b.take j):=by
  rw [h2]
  rw [h1,h2] at h3
  generalize (textL b).take n=x at *
  generalize x.drop (textL (b.take j)).length=y at *
  rw [h3,List.take_left' rfl]
 rw [ht,textL_append]
theorem recK_again {a:List PR} (h:∀ r∈a,checkR r=0) (ha:a.length≤80):recK ⟨textL a,[]⟩=(⟨textL a,[]⟩,a,0):=by
 obtain ⟨j,hj,e⟩:=recK_text (b:=[]) 0 h (by simp) (by simpa using ha)
 simp [textL_nil] at e
 exact e
end Go.Proofs.YtabafikicbkkdaaGreatDoor
namespace Go.Proofs.YtabafikicbkkdaaGreatDoor
open Go.RowKit
set_option linter.unusedVariables false
set_option maxRecDepth 100000
set_option linter.unusedSimpArgs false
structure Cel (w:World) (a:Option Addr) (n c:Nat) (vs:List Value):Prop where
 len:vs.length=n
 le:n≤c
 max:c≤9223372036854775807
 nil:a=none→c=0
 row:n=0∨∃ b off,a=some ⟨b,off,none⟩∧b < w.heap.size∧∀ i v,vs[i]?=some v→w.cell? ⟨b,off + i,none⟩=some v
theorem Cel.below {w w':World} {a:Option Addr} {n c:Nat} {vs:List Value} (h:Cel w a n c vs) {B:Nat} (hb:Below B w w') (hB:w.heap.size≤B):Cel w' a n c vs:=by
 refine ⟨h.len,h.le,h.max,h.nil,?_⟩
 rcases h.row with h0|⟨b,off,ha,hlt,hc⟩
 ·exact .inl h0
 ·refine .inr ⟨b,off,ha,Nat.lt_of_lt_of_le hlt hb.size,fun i v hv=>?_⟩
  rw [hb.cell (p:=⟨b,off + i,none⟩) (Nat.lt_of_lt_of_le hlt hB)]
  exact hc i v hv
theorem Cel.drewN {w:World} {a:Option Addr} {n c:Nat} {vs:List Value} (h:Cel w a n c vs) (k:Nat):Cel (w.drewN k) a n c vs:=⟨h.len,h.le,h.max,h.nil,h.row⟩
theorem Cel.nilSlice (w:World):Cel w none 0 0 []:=⟨rfl,Nat.le_refl _,by omega,fun _=>rfl,.inl rfl⟩
theorem Cel.but {w w':World} {g:Nat} {a:Option Addr} {n c:Nat} {vs:List Value} (h:Cel w a n c vs) (hb:But g w w') (hne:n=0∨∀ x,a=some x→x.block≠g):Cel w' a n c vs:=by
 refine ⟨h.len,h.le,h.max,h.nil,?_⟩
 rcases hne with h0|hne
 ·exact .inl h0
 ·rcases h.row with h0|⟨b,off,ha,hlt,hc⟩
  ·exact .inl h0
  ·refine .inr ⟨b,off,ha,Nat.lt_of_lt_of_le hlt hb.size,fun i v hv=>?_⟩
   rw [hb.cell ⟨b,off + i,none⟩ hlt (by have:=hne _ ha;exact this)]
   exact hc i v hv
theorem Cel.offs {w:World} {a:Option Addr} {n c:Nat} {vs:List Value} (h:Cel w a n c vs) {R:Nat} (hR:w.heap.size≤R):n=0∨∀ x,a=some x→x.block≠R:=by
 rcases h.row with h0|⟨b,off,ha,hlt,hc⟩
 ·exact .inl h0
 ·right
  intro x hx
  rw [ha] at hx
  cases hx
  exact Nat.ne_of_lt (Nat.lt_of_lt_of_le hlt hR)
theorem Cel.src {w:World} {a:Option Addr} {n c:Nat} {vs:List Value} (h:Cel w a n c vs) (hp:0 < n):∃ ad,a=some ad∧∀ j v,vs[j]?=some v→w.cell? (ad.add j)=some v:=by
 rcases h.row with h0|⟨b,off,ha,hlt,hc⟩
 ·omega
 ·exact ⟨_,ha,fun j v hv=>by rw [addr_add];exact hc j v hv⟩
theorem Cel.nils {w:World} {a:Option Addr} {n c:Nat} {vs:List Value} (h:Cel w a n c vs) (e:a=none):n=0∧c=0:=by
 have h1:=h.nil e
 have h2:=h.le
 omega
theorem Cel.of_row {w:World} {g:Nat} {vs:List Value} {t:TypeId} {fr:Nat×Nat} (hg:w.heap[g]?=some (.cells vs.toArray t fr)) (hmax:vs.length≤9223372036854775807) {n:Nat} (hn:vs.length=n):Cel w (some ⟨g,0,none⟩) n n vs:=by
 subst hn
 refine ⟨rfl,Nat.le_refl _,hmax,fun h=>(by cases h),.inr ⟨g,0,rfl,(Array.getElem?_eq_some_iff.1 hg).1,fun i v hv=>?_⟩⟩
 rw [cell_of_row w g _ _ t fr hg,Nat.zero_add]
 simpa using hv
theorem Cel.take {w:World} {a:Option Addr} {n c:Nat} {vs:List Value} (h:Cel w a n c vs) {k:Nat} (hk:k≤n):Cel w a k c (vs.take k):=by
 refine ⟨by rw [List.length_take,h.len];omega,Nat.le_trans hk h.le,h.max,h.nil,?_⟩
 rcases h.row with h0|⟨b,off,ha,hlt,hc⟩
 ·exact .inl (by omega)
 ·exact .inr ⟨b,off,ha,hlt,fun i v hv=>hc i v (by
   have hi:=(List.getElem?_eq_some_iff.1 hv).1
   rw [List.length_take] at hi
   rwa [List.getElem?_take_of_lt (by omega)] at hv)⟩
def bytC (l:List UInt8):List Value:=l.map fun b=>Value.int .u8 (b.toNat:Int)
theorem bytC_len (l:List UInt8):(bytC l).length=l.length:=by simp [bytC]
theorem bytC_app (l k:List UInt8):bytC l++bytC k=bytC (l++k):=by simp [bytC]
theorem bytC_take (l:List UInt8) (k:Nat):(bytC l).take k=bytC (l.take k):=by simp [bytC]
theorem bytC_one (l:List UInt8):∀ v∈bytC l,v.oneCell'=true:=by
 intro v hv
 simp only [bytC,List.mem_map] at hv
 obtain ⟨x,_,rfl⟩:=hv
 rfl
theorem bytC_get (l:List UInt8) (i:Nat) (hi:i < l.length):(bytC l)[i]?=some (.int .u8 ((l.getD i 0).toNat:Int)):=by
 simp [bytC,List.getD,hi]
def Byts (w:World) (a:Option Addr) (n c:Nat) (l:List UInt8):Prop:=Cel w a n c (bytC l)
theorem Byts.below {w w':World} {a:Option Addr} {n c:Nat} {l:List UInt8} (h:Byts w a n c l) {B:Nat} (hb:Below B w w') (hB:w.heap.size≤B):Byts w' a n c l:=Cel.below h hb hB
theorem Byts.but {w w':World} {g:Nat} {a:Option Addr} {n c:Nat} {l:List UInt8} (h:Byts w a n c l) (hb:But g w w') (hne:n=0∨∀ x,a=some x→x.block≠g):Byts w' a n c l:=Cel.but h hb hne
theorem Byts.offs {w:World} {a:Option Addr} {n c:Nat} {l:List UInt8} (h:Byts w a n c l) {R:Nat} (hR:w.heap.size≤R):n=0∨∀ x,a=some x→x.block≠R:=Cel.offs h hR
theorem Byts.nilSlice (w:World):Byts w none 0 0 []:=Cel.nilSlice w
theorem Byts.len {w:World} {a:Option Addr} {n c:Nat} {l:List UInt8} (h:Byts w a n c l):l.length=n:=by rw [← bytC_len];exact Cel.len h
theorem Byts.take {w:World} {a:Option Addr} {n c:Nat} {l:List UInt8} (h:Byts w a n c l) {k:Nat} (hk:k≤n):Byts w a k c (l.take k):=by
 unfold Byts
 rw [← bytC_take]
 exact Cel.take h hk
end Go.Proofs.YtabafikicbkkdaaGreatDoor
namespace Go.Proofs.YtabafikicbkkdaaGreatDoor
open Go.RowKit
set_option linter.unusedVariables false
set_option maxRecDepth 100000
set_option linter.unusedSimpArgs false
theorem bytC_drop (l:List UInt8) (k:Nat):(bytC l).drop k=bytC (l.drop k):=by simp [bytC]
theorem Byts.drop {w:World} {a:Option Addr} {n c:Nat} {l:List UInt8} (h:Byts w a n c l) {j:Nat} (hj:j≤n):Byts w (if c=j then a else a.map (fun x=>x.add j)) (n - j) (c - j) (l.drop j):=by
 have hlen:=h.len
 have hle:n≤c:=Cel.le h
 have hmax:=Cel.max h
 refine ⟨by rw [bytC_len,List.length_drop,hlen],by omega,by omega,fun e=>?_,?_⟩
 ·by_cases hcj:c=j
  ·omega
  ·rw [if_neg hcj] at e
   cases ha:a with
   |none=>have:=Cel.nil h ha;omega
   |some x=>rw [ha] at e;cases e
 ·rcases Cel.row h with h0|⟨b,off,ha,hlt,hc⟩
  ·exact .inl (by omega)
  ·by_cases hcj:c=j
   ·exact .inl (by omega)
   ·refine .inr ⟨b,off + j,by rw [if_neg hcj,ha];simp [addr_add],hlt,fun i v hv=>?_⟩
    rw [← bytC_drop,List.getElem?_drop] at hv
    rw [Nat.add_assoc]
    exact hc (j + i) v hv
def numsB (l:List UInt8):List Int:=l.map fun b=>(b.toNat:Int)
theorem numsB_len (l:List UInt8):(numsB l).length=l.length:=by simp [numsB]
theorem bytesOf_nums (l:List UInt8):Lib.bytesOf (numsB l)=l:=by simp [numsB,Lib.bytesOf,Function.comp_def]
theorem strOf_nums (l:List UInt8):strOfNums (numsB l)=⟨l.toArray⟩:=by simp [numsB,strOfNums,Function.comp_def]
theorem numsB_byte (l:List UInt8):∀ x∈numsB l,0≤x∧x < 256:=by
 intro x hx
 simp only [numsB,List.mem_map] at hx
 obtain ⟨b,_,rfl⟩:=hx
 have:=b.toNat_lt
 omega
theorem Byts.into {w:World} {a:Option Addr} {n c:Nat} {l:List UInt8} (h:Byts w a n c l):Lib.BytesIn w a n (numsB l):=by
 intro hn
 have hlen:=h.len
 rcases Cel.row h with h0|⟨b,off,ha,hlt,hc⟩
 ·omega
 ·refine ⟨b,off,ha,fun i hi=>?_⟩
  rw [hc i _ (bytC_get l i (by omega))]
  simp [numsB,List.getD,hlen,hi]
theorem Byts.text {w:World} {a:Option Addr} {n c:Nat} {l:List UInt8} (h:Byts w a n c l) {P:Program} {src e dst:TypeId} (hs:P.underlying src=some (.slice e)) (he:P.underlying e=some (.int .u8)) (hd:P.underlying dst=some .string) :
  (convert src dst (.slice a n c)).run P w=.ok (.string ⟨l.toArray⟩) w:=by
 rw [← strOf_nums]
 exact h.into.convert (by rw [numsB_len,h.len]) c src e dst hs he hd
structure KV where
 p:PK
 a:Option Addr
 n:Nat
 c:Nat
 b:Option Addr
 m:Nat
 d:Nat
def KV.v (x:KV):Value:=.agg #[.slice x.a x.n x.c,.slice x.b x.m x.d]
def KV.cells (x:KV):List Value:=[.slice x.a x.n x.c,.slice x.b x.m x.d]
structure KV.ok (w:World) (x:KV):Prop where
 s:Byts w x.a x.n x.c x.p.s
 w:Byts w x.b x.m x.d x.p.w
def KV.zero:KV:=⟨zeroK,none,0,0,none,0,0⟩
theorem KV.zero_ok (w:World):KV.zero.ok w:=⟨Byts.nilSlice w,Byts.nilSlice w⟩
theorem KV.ok.below {w w':World} {x:KV} (h:x.ok w) (hb:Below w.heap.size w w'):x.ok w':=⟨h.s.below hb (Nat.le_refl _),h.w.below hb (Nat.le_refl _)⟩
structure KV.fresh (B:Nat) (x:KV):Prop where
 s:∀ y,x.a=some y→B≤y.block
 w:∀ y,x.b=some y→B≤y.block
theorem KV.zero_fresh (B:Nat):KV.zero.fresh B:=⟨fun y e=>(by cases e),fun y e=>(by cases e)⟩
theorem KV.fresh.mono {B B':Nat} {x:KV} (h:x.fresh B) (hB:B'≤B):x.fresh B':=⟨fun y e=>Nat.le_trans hB (h.s y e),fun y e=>Nat.le_trans hB (h.w y e)⟩
theorem KV.ok.but {w w':World} {g:Nat} {x:KV} (h:x.ok w) (hb:But g w w') {B:Nat} (hn:x.fresh B) (hg:g < B):x.ok w':=
 ⟨h.s.but hb (.inr fun y e=>by have:=hn.s y e;omega),h.w.but hb (.inr fun y e=>by have:=hn.w y e;omega)⟩
end Go.Proofs.YtabafikicbkkdaaGreatDoor
namespace Go.Proofs.YtabafikicbkkdaaGreatDoor
open Go.ChangeShapes Go.WideShapes Go.ChangeAt Go.RowKit Go.Joins Go.ChangeMaps
set_option linter.unusedVariables false
set_option maxRecDepth 100000
set_option linter.unusedSimpArgs false
end Go.Proofs.YtabafikicbkkdaaGreatDoor
namespace Go.Proofs.YtabafikicbkkdaaGreatDoor
open Go.RowKit
set_option linter.unusedVariables false
set_option maxRecDepth 100000
set_option linter.unusedSimpArgs false
structure ZV where
 s:Int
 a:Option Addr
 n:Nat
 c:Nat
 l:List Int
def ZV.p (z:ZV):Int×List Int:=(z.s,z.l)
def ZV.ok (w:World) (z:ZV):Prop:=Ints w z.a z.n z.c z.l
structure Zones (w:World) (a:Option Addr) (n c:Nat) (Z:List ZV):Prop where
 len:Z.length=n
 le:n≤c
 max:c≤9223372036854775807
 nil:a=none→c=0
 row:n=0∨∃ b off,a=some ⟨b,off,none⟩∧b < w.heap.size∧∀ i z,Z[i]?=some z→w.cell? ⟨b,off + i * 2,none⟩=some (.int .i64 z.s)∧w.cell? ⟨b,off + i * 2 + 1,none⟩=some (.slice z.a z.n z.c)
 ok:∀ z∈Z,z.ok w
theorem Zones.below {w w':World} {a:Option Addr} {n c:Nat} {Z:List ZV} (h:Zones w a n c Z) {B:Nat} (hb:Below B w w') (hB:w.heap.size≤B):Zones w' a n c Z:=by
 refine ⟨h.len,h.le,h.max,h.nil,?_,fun z hz=>(h.ok z hz).below hb hB⟩
 rcases h.row with h0|⟨b,off,ha,hlt,hc⟩
 ·exact .inl h0
 ·refine .inr ⟨b,off,ha,Nat.lt_of_lt_of_le hlt hb.size,fun i z hz=>?_⟩
  rw [hb.cell (p:=⟨b,off + i * 2,none⟩) (Nat.lt_of_lt_of_le hlt hB),hb.cell (p:=⟨b,off + i * 2 + 1,none⟩) (Nat.lt_of_lt_of_le hlt hB)]
  exact hc i z hz
def isO (s:Int):Bool:=s==1 || s==2
def isA (s:Int):Bool:=isO s || s==3
def cnt (f:Int→Bool) (Z:List ZV):Nat:=(Z.filter fun z=>f z.s).length
theorem cnt_le (f:Int→Bool) (Z:List ZV):cnt f Z≤Z.length:=List.length_filter_le _ _
theorem take_snoc (Z:List ZV) (k:Nat) (z:ZV) (h:Z[k]?=some z):Z.take (k + 1)=Z.take k++[z]:=by
 obtain ⟨hk,rfl⟩:=List.getElem?_eq_some_iff.1 h
 exact List.take_succ_eq_append_getElem hk
theorem cnt_snoc (f:Int→Bool) (Z:List ZV) (k:Nat) (z:ZV) (h:Z[k]?=some z):cnt f (Z.take (k + 1))=cnt f (Z.take k) + if f z.s then 1 else 0:=by
 unfold cnt
 rw [take_snoc Z k z h,List.filter_append,List.length_append]
 cases hf:f z.s<;>simp [List.filter_cons,hf]
theorem map_take_step (Z Y:List ZV) (k:Nat) (z y:ZV) (hz:Z[k]?=some z) (hy:Y[k]?=some y) (h:(Z.take k).map ZV.p=(Y.take k).map ZV.p) (hx:z.s=y.s∧z.l=y.l):(Z.take (k + 1)).map ZV.p=(Y.take (k + 1)).map ZV.p:=by
 rw [take_snoc Z k z hz,take_snoc Y k y hy,List.map_append,List.map_append,h]
 simp [ZV.p,hx.1,hx.2]
theorem map_ne (Z Y:List ZV) (k:Nat) (z y:ZV) (hz:Z[k]?=some z) (hy:Y[k]?=some y) (hx:¬ (z.s=y.s∧z.l=y.l)):Z.map ZV.p≠Y.map ZV.p:=by
 intro h
 have:=congrArg (fun L=>L[k]?) h
 simp [List.getElem?_map,hz,hy,ZV.p] at this
 exact hx this
theorem map_len (Z Y:List ZV) (h:Z.length≠Y.length):Z.map ZV.p≠Y.map ZV.p:=fun e=>h (by have:=congrArg List.length e;simpa using this)
def firstE:List (Int×List Int)→Int
 |[]=>0
 |z :: r=>if checkZ z.1 z.2≠0 then checkZ z.1 z.2 else firstE r
def cntP (f:Int→Bool) (P:List (Int×List Int)):Nat:=(P.filter fun z=>f z.1).length
def checkZs (P:List (Int×List Int)):Int:=
 if P.length≠4 then 4 else if firstE P≠0 then firstE P else if 2 < cntP isO P∨3 < cntP isA P then 7 else 0
theorem cnt_map (f:Int→Bool) (Z:List ZV):cnt f Z=cntP f (Z.map ZV.p):=by
 unfold cnt cntP
 rw [List.filter_map,List.length_map]
 rfl
theorem firstE_append (P Q:List (Int×List Int)) (h:firstE P=0):firstE (P++Q)=firstE Q:=by
 induction P with
 |nil=>rfl
 |cons z r ih=>
  simp only [firstE] at h
  by_cases hz:checkZ z.1 z.2=0
  ·simp [hz] at h
   simp only [List.cons_append,firstE,hz]
   simpa using ih h
  ·simp [hz] at h
theorem firstE_step (Z:List ZV) (k:Nat) (z:ZV) (hz:Z[k]?=some z) (h:firstE ((Z.take k).map ZV.p)=0) (hc:checkZ z.s z.l=0):firstE ((Z.take (k + 1)).map ZV.p)=0:=by
 rw [take_snoc Z k z hz,List.map_append,firstE_append _ _ h]
 simp [firstE,ZV.p,hc]
theorem firstE_at (Z:List ZV) (k:Nat) (z:ZV) (hz:Z[k]?=some z) (h:firstE ((Z.take k).map ZV.p)=0) (hc:checkZ z.s z.l≠0):firstE (Z.map ZV.p)=checkZ z.s z.l:=by
 have e:Z=Z.take k++z :: Z.drop (k + 1):=by
  obtain ⟨hk,rfl⟩:=List.getElem?_eq_some_iff.1 hz
  rw [List.getElem_cons_drop,List.take_append_drop]
 rw [e,List.map_append,firstE_append _ _ h]
 simp [firstE,ZV.p,hc]
theorem firstE_all (P:List (Int×List Int)) (h:firstE P=0):∀ z∈P,checkZ z.1 z.2=0:=by
 induction P with
 |nil=>simp
 |cons z r ih=>
  simp only [firstE] at h
  by_cases hz:checkZ z.1 z.2=0
  ·simp [hz] at h
   intro y hy
   rcases List.mem_cons.1 hy with rfl|hy
   ·exact hz
   ·exact ih h y hy
  ·simp [hz] at h
theorem checkZs_1 {Z:List ZV} (h:Z.length≠4):4=checkZs (Z.map ZV.p):=by simp [checkZs,h]
theorem checkZs_2 {Z:List ZV} (h:Z.length=4) {x:Int} (hx:firstE (Z.map ZV.p)=x) (h0:x≠0):x=checkZs (Z.map ZV.p):=by simp [checkZs,h,hx,h0]
theorem checkZs_3 {Z:List ZV} (h:Z.length=4) (hx:firstE (Z.map ZV.p)=0) (h0:2 < cnt isO Z∨3 < cnt isA Z):7=checkZs (Z.map ZV.p):=by
 rw [cnt_map,cnt_map] at h0
 simp [checkZs,h,hx,h0]
theorem checkZs_0 {Z:List ZV} (h:Z.length=4) (hx:firstE (Z.map ZV.p)=0) (h0:¬ (2 < cnt isO Z∨3 < cnt isA Z)):0=checkZs (Z.map ZV.p):=by
 rw [cnt_map,cnt_map] at h0
 simp only [checkZs,List.length_map,h,hx,h0]
 simp
end Go.Proofs.YtabafikicbkkdaaGreatDoor
namespace Go.Proofs.YtabafikicbkkdaaGreatDoor
open Go.ChangeShapes Go.WideShapes Go.ChangeAt Go.RowKit Go.Joins
set_option linter.unusedVariables false
set_option maxRecDepth 100000
set_option linter.unusedSimpArgs false
end Go.Proofs.YtabafikicbkkdaaGreatDoor
namespace Go.Proofs.YtabafikicbkkdaaGreatDoor
open Go.RowKit
set_option linter.unusedVariables false
set_option maxRecDepth 100000
set_option linter.unusedSimpArgs false
structure PB where
 k:List Int
 h:Int
 t:Int
def zeroB:PB:=⟨[],0,0⟩
def freshB:PB:=⟨[0,0,0],-1,0⟩
def keyOf (b:PB) (i:Int):Int:=b.k.getD i.toNat 0
def checkB (b:PB):Int:=
 if b.k.length≠3 then 4
 else if b.k.any (outB 0 9)∨outB (-1) 2 b.h∨outB 0 4 b.t then 3
 else if b.h=-1∧b.t≠0∨b.h≠-1∧(b.t=0∨keyOf b b.h=0) then 4 else 0
def preB (b:PB) (who:Int):Int:=if checkB b≠0 then checkB b else if inB who 0 2 then 0 else 5
def sameB (a b:PB):Bool:=decide (a.k=b.k∧a.h=b.h∧a.t=b.t)
def registerB (b:PB) (who key:Int):PB×Int:=
 if preB b who≠0 then (zeroB,preB b who)
 else if inB key 0 9=false then (zeroB,3)
 else if key=0∧b.h=who then (⟨b.k.set who.toNat key,-1,0⟩,0) else (⟨b.k.set who.toNat key,b.h,b.t⟩,0)
def reserveB (b:PB) (who kind:Int):PB×Int:=
 if preB b who≠0 then (zeroB,preB b who)
 else if inB kind 1 4=false then (zeroB,3)
 else if keyOf b who=0∨b.h≠-1∧¬ (b.h=who∧b.t=kind) then (zeroB,8) else (⟨b.k,who,kind⟩,0)
def releaseB (b:PB) (who:Int):PB×Int:=
 if preB b who≠0 then (zeroB,preB b who)
 else if keyOf b who=0 then (zeroB,8)
 else if b.h=who then (⟨b.k,-1,0⟩,0) else (b,0)
def strike (l:List Int) (who key:Int):List Int:=l.mapIdx fun i x=>if x=key∧(i:Int)≠who then 0 else x
def preemptB (b:PB) (who key:Int):PB×Int:=
 if preB b who≠0 then (zeroB,preB b who)
 else if inB key 1 9=false then (zeroB,3)
 else if keyOf b who=0 then (zeroB,8)
 else (⟨strike b.k who key,if b.h≠-1∧b.h≠who∧keyOf b b.h=key then who else b.h,b.t⟩,0)
def clearB (b:PB) (who:Int):PB×Int:=
 if preB b who≠0 then (zeroB,preB b who)
 else if keyOf b who=0 then (zeroB,8) else (freshB,0)
def mightB (b:PB) (who:Int) (write:Bool):Bool:=
 decide (b.h=-1∨b.h=who∨(write=false∧(b.t=1∨b.t=3))∨((b.t=3∨b.t=4)∧keyOf b who≠0))
def mayB (b:PB) (who:Int) (write:Bool):Bool×Int:=
 if preB b who≠0 then (false,preB b who) else (mightB b who write,0)
def bookV (a:Option Addr) (n c:Nat) (b:PB):Value:=.agg #[.slice a n c,.int .i64 b.h,.int .i64 b.t]
theorem three {l:List Int} (h:l.length=3):∃ x y z,l=[x,y,z]:=by
 match l,h with
 |[x,y,z],_=>exact ⟨x,y,z,rfl⟩
theorem checkB_ok {b:PB} (h:checkB b=0):∃ x y z,b.k=[x,y,z]∧(0≤x∧x≤9)∧(0≤y∧y≤9)∧(0≤z∧z≤9)∧(b.h=-1∧b.t=0∨(b.h=0∨b.h=1∨b.h=2)∧(1≤b.t∧b.t≤4)∧keyOf b b.h≠0):=by
 unfold checkB at h
 by_cases h3:b.k.length=3
 ·obtain ⟨x,y,z,e⟩:=three h3
  refine ⟨x,y,z,e,?_⟩
  simp only [h3,ne_eq,not_true_eq_false,if_false] at h
  split at h
  ·omega
  ·rename_i h1
   split at h
   ·omega
   ·rename_i h2
    rw [e] at h1
    simp [outB] at h1
    omega
 ·simp [h3] at h
theorem Ints.three {w:World} {a:Option Addr} {c:Nat} {x y z:Int} (h:Ints w a 3 c [x,y,z]):∃ g off,a=some ⟨g,off,none⟩∧w.cell? ⟨g,off,none⟩=some (.int .i64 x)∧w.cell? ⟨g,off + 1,none⟩=some (.int .i64 y)∧w.cell? ⟨g,off + 2,none⟩=some (.int .i64 z):=by
 rcases h.row with h0|⟨g,off,ha,_,hc⟩
 ·omega
 ·exact ⟨g,off,ha,hc 0 (by omega),hc 1 (by omega),hc 2 (by omega)⟩
theorem checkB_len {b:PB} (h:b.k.length≠3):checkB b=4:=by simp [checkB,h]
theorem checkB_3 {b:PB} (h:b.k.length=3) (h2:b.k.any (outB 0 9)=true∨outB (-1) 2 b.h=true∨outB 0 4 b.t=true):checkB b=3:=by
 unfold checkB
 rw [if_neg (by simp [h]),if_pos h2]
theorem checkB_4 {b:PB} (h:b.k.length=3) (h2:¬ (b.k.any (outB 0 9)=true∨outB (-1) 2 b.h=true∨outB 0 4 b.t=true)) (h3:b.h=-1∧b.t≠0∨b.h≠-1∧(b.t=0∨keyOf b b.h=0)):checkB b=4:=by
 unfold checkB
 rw [if_neg (by simp [h]),if_neg h2,if_pos h3]
theorem checkB_0 {b:PB} (h:b.k.length=3) (h2:¬ (b.k.any (outB 0 9)=true∨outB (-1) 2 b.h=true∨outB 0 4 b.t=true)) (h3:¬ (b.h=-1∧b.t≠0∨b.h≠-1∧(b.t=0∨keyOf b b.h=0))):checkB b=0:=by
 unfold checkB
 rw [if_neg (by simp [h]),if_neg h2,if_neg h3]
end Go.Proofs.YtabafikicbkkdaaGreatDoor
namespace Go.Proofs.YtabafikicbkkdaaGreatDoor
open Go.ChangeShapes Go.WideShapes Go.ChangeAt Go.RowKit Go.Joins
set_option linter.unusedVariables false
set_option maxRecDepth 100000
set_option linter.unusedSimpArgs false
end Go.Proofs.YtabafikicbkkdaaGreatDoor
namespace Go.Proofs.YtabafikicbkkdaaGreatDoor
open Go.RowKit
set_option linter.unusedVariables false
set_option maxRecDepth 100000
set_option linter.unusedSimpArgs false
theorem vint {a b:Int} (h:a=b):Value.int .i64 a=Value.int .i64 b:=by rw [h]
end Go.Proofs.YtabafikicbkkdaaGreatDoor
namespace Go.Proofs.YtabafikicbkkdaaGreatDoor
open Go.RowKit
set_option linter.unusedVariables false
set_option maxRecDepth 100000
set_option linter.unusedSimpArgs false
def ZV.off (g:Nat) (z:ZV):Prop:=z.n=0∨∀ x,z.a=some x→x.block≠g
structure Mine (w:World) (base g n c:Nat) (Z:List ZV):Prop where
 zs:Zones w (some ⟨g,0,none⟩) n c Z
 base:base≤g
 lt:g < w.heap.size
 cells:∀ i z,Z[i]?=some z→w.cell? ⟨g,i * 2,none⟩=some (.int .i64 z.s)∧w.cell? ⟨g,i * 2 + 1,none⟩=some (.slice z.a z.n z.c)
 soft:∀ j,j < n * 2→w.frozen? ⟨g,j,none⟩=false
 off:∀ z∈Z,z.off g
theorem Ints.setCell' {w:World} {a:Option Addr} {n c:Nat} {l:List Int} (h:Ints w a n c l) (p:Addr) (v:Value) (hne:n=0∨∀ x,a=some x→x.block≠p.block):Ints (w.setCell p v) a n c l:=by
 rcases hne with h0|hne
 ·exact ⟨h.len,h.le,h.max,h.nil,.inl h0,h.wf⟩
 ·exact h.setCell p v hne
theorem Mine.below {w w':World} {base g n c:Nat} {Z:List ZV} (h:Mine w base g n c Z) (hb:Below w.heap.size w w'):Mine w' base g n c Z:=by
 refine ⟨h.zs.below hb (Nat.le_refl _),h.base,Nat.lt_of_lt_of_le h.lt hb.size,fun i z hz=>?_,fun j hj=>?_,h.off⟩
 ·rw [hb.cell (p:=⟨g,i * 2,none⟩) h.lt,hb.cell (p:=⟨g,i * 2 + 1,none⟩) h.lt]
  exact h.cells i z hz
 ·rw [hb.frozen (p:=⟨g,j,none⟩) h.lt]
  exact h.soft j hj
theorem Mine.set {w:World} {base g n c:Nat} {Z:List ZV} (h:Mine w base g n c Z) (i:Nat) (hi:i < n) (z:ZV) (hz:z.ok w) (ho:z.off g) :
  Mine ((w.setCell ⟨g,i * 2,none⟩ (.int .i64 z.s)).setCell ⟨g,i * 2 + 1,none⟩ (.slice z.a z.n z.c)) base g n c (Z.set i z):=by
 have hlen:=h.zs.len
 obtain ⟨y,hy⟩:∃ y,Z[i]?=some y:=⟨Z[i]'(by omega),by simp⟩
 obtain ⟨y0,y1⟩:=h.cells i y hy
 have hc:∀ j u,(Z.set i z)[j]?=some u→((w.setCell ⟨g,i * 2,none⟩ (.int .i64 z.s)).setCell ⟨g,i * 2 + 1,none⟩ (.slice z.a z.n z.c)).cell? ⟨g,j * 2,none⟩=some (.int .i64 u.s)∧((w.setCell ⟨g,i * 2,none⟩ (.int .i64 z.s)).setCell ⟨g,i * 2 + 1,none⟩ (.slice z.a z.n z.c)).cell? ⟨g,j * 2 + 1,none⟩=some (.slice u.a u.n u.c):=by
  intro j u hu
  by_cases hij:i=j
  ·subst hij
   rw [List.getElem?_set_self (by omega)] at hu
   cases hu
   refine ⟨?_,?_⟩
   ·rw [World.cell?_setCell_other _ _ _ _ (by simp)]
    exact World.cell?_setCell_same _ _ _ y0
   ·exact World.cell?_setCell_same _ _ _ (by rw [World.cell?_setCell_other _ _ _ _ (by simp)];exact y1)
  ·rw [List.getElem?_set_ne hij] at hu
   obtain ⟨u0,u1⟩:=h.cells j u hu
   refine ⟨?_,?_⟩
   ·rw [World.cell?_setCell_other _ _ _ _ (by (first|(simp;done)|(simp;omega))),World.cell?_setCell_other _ _ _ _ (by (first|(simp;done)|(simp;omega)))]
    exact u0
   ·rw [World.cell?_setCell_other _ _ _ _ (by (first|(simp;done)|(simp;omega))),World.cell?_setCell_other _ _ _ _ (by (first|(simp;done)|(simp;omega)))]
    exact u1
 have hoff:∀ u∈Z.set i z,u.off g:=fun u hu=>by
  rcases List.mem_or_eq_of_mem_set hu with hu|rfl
  ·exact h.off u hu
  ·exact ho
 have hok:∀ u∈Z.set i z,u.ok ((w.setCell ⟨g,i * 2,none⟩ (.int .i64 z.s)).setCell ⟨g,i * 2 + 1,none⟩ (.slice z.a z.n z.c)):=fun u hu=>by
  have hw:u.ok w:=by
   rcases List.mem_or_eq_of_mem_set hu with hu|rfl
   ·exact h.zs.ok u hu
   ·exact hz
  exact (Ints.setCell' hw ⟨g,i * 2,none⟩ _ (hoff u hu)).setCell' ⟨g,i * 2 + 1,none⟩ _ (hoff u hu)
 refine ⟨⟨by simp [hlen],h.zs.le,h.zs.max,fun e=>(by cases e),.inr ⟨g,0,rfl,by simpa [World.setCell] using h.lt,fun j u hu=>by simpa using hc j u hu⟩,hok⟩,h.base,by simpa [World.setCell] using h.lt,hc,fun j hj=>?_,hoff⟩
 rw [World.frozen?_setCell,World.frozen?_setCell]
 exact h.soft j hj
theorem Mine.mono {w:World} {base base' g n c:Nat} {Z:List ZV} (h:Mine w base g n c Z) (hb:base'≤base):Mine w base' g n c Z:=⟨h.zs,Nat.le_trans hb h.base,h.lt,h.cells,h.soft,h.off⟩
def zcells:List ZV→List Value
 |[]=>[]
 |z :: r=>.int .i64 z.s :: .slice z.a z.n z.c :: zcells r
theorem zcells_get (Z:List ZV):∀ i z,Z[i]?=some z→(zcells Z)[i * 2]?=some (.int .i64 z.s)∧(zcells Z)[i * 2 + 1]?=some (.slice z.a z.n z.c):=by
 induction Z with
 |nil=>intro i z h;simp at h
 |cons y r ih=>
  intro i z h
  cases i with
  |zero=>simp at h;subst h;simp [zcells]
  |succ i=>
   simp at h
   have:=ih i z h
   simp [zcells,show (i + 1) * 2=i * 2 + 1 + 1 by omega]
   exact this
theorem frozen_row {w:World} {g j:Nat} {cs:Array Value} {t:TypeId} (h:w.heap[g]?=some (.cells cs t (0,0))):w.frozen? ⟨g,j,none⟩=false:=by
 simp [World.frozen?,h]
end Go.Proofs.YtabafikicbkkdaaGreatDoor
