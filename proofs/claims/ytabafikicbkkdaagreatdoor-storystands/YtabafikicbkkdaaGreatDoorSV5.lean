/- The contract of cmd.numbers; no condition but that the pieces read, and the package-level variables are as their texts lay them. -/
import Derived.Test.YtabafikicbkkdaaGreatDoorSV4
import Derived.Lib.BufferMore
namespace Go.Proofs.YtabafikicbkkdaaGreatDoor
open Go.RowKit
set_option linter.unusedVariables false
set_option maxHeartbeats 4000000
set_option maxRecDepth 100000
set_option linter.unusedSimpArgs false
theorem frozen_rowQ {w:World} {g j:Nat} {cs:Array Value} {t:TypeId} (hg:w.heap[g]?=some (.cells cs t (0,0))):w.frozen? ⟨g,j,none⟩=false:=by
 simp [World.frozen?,hg]
theorem cells_set (l:List Int) (n:Nat) (v:Int) (h:l.length < n):(cellsOf (l++List.replicate (n - l.length) 0)).toArray.setIfInBounds l.length (.int .i64 v)=(cellsOf ((l++[v])++List.replicate (n - (l++[v]).length) 0)).toArray:=by
 obtain ⟨m,rfl⟩:∃ m,n=l.length + 1 + m:=⟨n - l.length - 1,by omega⟩
 simp [cellsOf,show l.length + 1 + m - l.length=m + 1 by omega,List.replicate_succ]
theorem getD_take {α:Type} (l:List α) (d:α) (k:Nat) (h:k < l.length):l.take (k + 1)=l.take k++[l.getD k d]:=by
 rw [List.take_succ_eq_append_getElem h];simp [List.getD,h]
theorem split_at {α:Type} (l:List α) (d:α) (k:Nat) (h:k < l.length):l=l.take k++l.getD k d :: l.drop (k + 1):=by
 conv=>lhs;rw [← List.take_append_drop k l]
 congr 1
 rw [List.drop_eq_getElem_cons h]
 simp [List.getD,h]
theorem made_zero (n:Nat):madeCells #[Value.int IntKind.i64 0] n=(cellsOf ([]++List.replicate (n - 0) 0)).toArray:=by
 apply Array.ext
 ·simp [madeCells,cellsOf]
 ·intro i h1 h2
  simp [madeCells,cellsOf,Nat.mod_one]
def numsV (a:Option Addr) (n:Nat):Value:=.tuple #[.slice a n n,.bool true]
def noNums:Value:=.tuple #[.slice none 0 0,.bool false]
def NumsRes (B:Nat) (w':World) (n:Nat) (e:Ending):Option (List Int)→Prop
 |some l=>e=.returned (numsV (some ⟨B,0,none⟩) n)∧Ints w' (some ⟨B,0,none⟩) n n l
 |none=>e=.returned noNums
theorem numbers_c (g off n c:Nat) (ts:List ByteArray) (w:World) (hE:Env w) (hl:ts.length=n) (hn:n≤100000)
  (hsz:∀ t∈ts,t.size≤100000)
  (hr:∀ i,i < n→w.cell? ⟨g,off + i,none⟩=some (.string (ts.getD i ByteArray.empty))) :
  Calls Tryz.prog 147 #[.slice (some ⟨g,off,none⟩) n c] w fun e w'=>NumsRes w.heap.size w' n e (nums (ts.map (·.data.toList)))∧Below w.heap.size w w':=by
 have hmk:=run_make_row' (P:=Tryz.prog) 26 3 (.int .i64 0) 8 Tryz.underlying26 infoInt rfl .i64 .i64 n (by omega) (by omega)
 have n2:(n:Int)≤100000:=by omega
 go_enter Tryz.func147,Tryz.ntmps147
 go_wp2
 go_loopw [14] (fun x wr=>∃ (k:Nat) (l:List Int),k≤n∧x=.int .i64 k∧l.length=k∧nums ((ts.map (·.data.toList)).take k)=some l∧wr.heap[w.heap.size]?=some (.cells (cellsOf (l++List.replicate (n - k) 0)).toArray 3 (0,0))∧Below w.heap.size w wr) (fun x _=>n - (intOf x).toNat)
 case atStart=>
  refine ⟨0,[],by omega,rfl,rfl,rfl,?_,belowA (Below.refl _ _) _⟩
  rw [heap_new]
  congr 2
  exact made_zero n
 case round=>
  obtain ⟨k,l,hk,rfl,hlk,hns,hrow,hbr⟩:=hrel
  rename_i wr
  have HNS:=hide hns
  have HROW:=hide hrow
  clear hns hrow hmk
  by_cases hlt:k < n
  ·have hi:=keepc hbr (hr k hlt)
   have hk1:(k:Int) < (n:Int):=by omega
   have hk0:(0:Int)≤(k:Int):=by omega
   have hEr:=hE.below hbr
   have hts:(ts.getD k ByteArray.empty).size≤100000:=hsz _ (by simp [List.getD,hl,hlt])
   have htk:(ts.map (·.data.toList)).take (k + 1)=(ts.map (·.data.toList)).take k++[(ts.getD k ByteArray.empty).data.toList]:=by
    rw [getD_take _ [] k (by simp;omega)]
    simp [List.getD,hl,hlt]
   have hsp:ts.map (·.data.toList)=(ts.map (·.data.toList)).take k++(ts.getD k ByteArray.empty).data.toList :: (ts.map (·.data.toList)).drop (k + 1):=by
    conv=>lhs;rw [split_at (ts.map (·.data.toList)) [] k (by simp;omega)]
    simp [List.getD,hl,hlt]
   have HTK:=hide htk
   have HSP:=hide hsp
   generalize ts.getD k ByteArray.empty=s at hi hts HTK HSP
   clear htk hsp hr
   by_cases hok:∃ v,Lib.atoiAll s.data.toList=.ok v
   ·obtain ⟨v,hv⟩:=hok
    have hvb:=Lib.atoiAll_bounds hv
    go_wp2_with fail
    refine (Atoi_ok_c s (by omega) v hv _).mono ?_
    rintro e w1 ⟨rfl,hb1⟩
    go_wp2_with fail
    have hEr1:=hEr.below hb1
    refine (Itoa_c v hvb _ hEr1).mono ?_
    rintro e w2 ⟨rfl,hb2⟩
    have bw2:Below w.heap.size w w2:=by (repeat first|exact bel0|assumption|refine bel1 ?_|refine bel2 ?_|refine bel3 ?_|refine belowT ?_ (by assumption)|refine bel5 ?_ (by simp;try omega))
    have hlt0:w.heap.size < wr.heap.size:=by
     have:=(Array.getElem?_eq_some_iff.1 HROW.out).1
     exact this
    have hrow2:w2.heap[w.heap.size]?=some (.cells (cellsOf (l++List.replicate (n - k) 0)).toArray 3 (0,0)):=by
     rw [(belowT hb1 hb2).block _ hlt0]
     exact HROW.out
    have HR2:=hide hrow2
    have hc2:w2.cell? ⟨w.heap.size,k,none⟩=some (.int .i64 0):=by
     rw [cell_of_row _ _ _ _ _ _ hrow2]
     obtain ⟨m,rfl⟩:∃ m,n=k + 1 + m:=⟨n - k - 1,by omega⟩
     have hm:k + 1 + m - k=m + 1:=by omega
     rw [hm]
     simp [cellsOf,← hlk,List.replicate_succ]
    have hf2:w2.frozen? ⟨w.heap.size,k,none⟩=false:=frozen_rowQ hrow2
    clear hb1 hb2 hrow2 hEr1 hEr
    by_cases hit:(⟨(Lib.itoa v).toArray⟩:ByteArray)=s
    ·have e1:=beq_t hit
     have e2:=(Lib.bytes_beq_iff _ _).2 hit
     have hnum:num s.data.toList=some v:=by
      rw [num_eq,hv]
      simp [← hit]
     have HV:=hide hnum
     clear hit hnum hv
     generalize (⟨(Lib.itoa v).toArray⟩:ByteArray)=u at e1 e2
     go_wp2
     refine ⟨⟨k + 1,l++[v],by omega,by go_num,by simp [hlk],?_,?_,bw2.setCell (Nat.le_refl _) _⟩,by simp [intOf];omega⟩
     ·rw [HTK.out]
      exact nums_snoc HNS.out _ HV.out
     ·have:=Lib.heap_setCell_same (i:=k) HR2.out (.int .i64 v)
      rw [this]
      have hs:=cells_set l n v (by omega)
      rw [hlk] at hs
      rw [hs]
      simp [hlk]
    ·have e1:=beq_f hit
     have e2:=(Lib.bytes_beq_false_iff _ _).2 hit
     have hnum:num s.data.toList=none:=by
      rw [num_eq,hv]
      dsimp only
      rw [if_neg (fun e=>hit (by rw [e]))]
     have HV:Hid (nums (ts.map (·.data.toList))=none):=hide (by rw [HSP.out];exact nums_bad hnum)
     clear hit hnum hv
     generalize (⟨(Lib.itoa v).toArray⟩:ByteArray)=u at e1 e2
     go_wp2
     refine bodyPost_ret (v:=noNums) (by simp [results,Tryz.results147,go_sem,noNums]) rfl ⟨?_,bw2⟩
     rw [HV.out]
     exact rfl
   ·have hnum:num s.data.toList=none:=by
     rw [num_eq]
     cases ha:Lib.atoiAll s.data.toList with
     |ok v=>exact absurd ⟨v,ha⟩ hok
     |«syntax»=>rfl
     |range=>rfl
    have HV:Hid (nums (ts.map (·.data.toList))=none):=hide (by rw [HSP.out];exact nums_bad hnum)
    clear hnum
    go_wp2_with fail
    refine (Atoi_bad_c s (by omega) (fun v e=>hok ⟨v,e⟩) _ hEr).mono ?_
    rintro e w1 ⟨⟨v,N,rfl⟩,hb1⟩
    have bw2:Below w.heap.size w w1:=by (repeat first|exact bel0|assumption|refine bel1 ?_|refine bel2 ?_|refine bel3 ?_|refine belowT ?_ (by assumption)|refine bel5 ?_ (by simp;try omega))
    go_wp2
    refine bodyPost_ret (v:=noNums) (by simp [results,Tryz.results147,go_sem,noNums]) rfl ⟨?_,bw2⟩
    rw [HV.out]
    exact rfl
  ·obtain rfl:k=n:=by omega
   have hns:=HNS.out
   rw [List.take_of_length_le (by simp;omega)] at hns
   have HN2:=hide hns
   clear hns
   go_wp2
   refine bodyPost_ret (v:=numsV (some ⟨w.heap.size,0,none⟩) k) (by simp [results,Tryz.results147,go_sem,numsV]) rfl ⟨?_,hbr⟩
   rw [HN2.out]
   refine ⟨rfl,?_⟩
   have hrow:=HROW.out
   simp at hrow
   exact Ints.of_row hrow (by omega) (nums_wf HN2.out) hlk
end Go.Proofs.YtabafikicbkkdaaGreatDoor
namespace Go.Proofs.YtabafikicbkkdaaGreatDoor
open Go.RowKit
set_option linter.unusedVariables false
set_option maxHeartbeats 4000000
set_option maxRecDepth 100000
set_option linter.unusedSimpArgs false
def lay3:List Bool→List Int→Option (List Int×List Int)
 |[],l=>some ([],l)
 |false :: hs,l=>(lay3 hs l).map fun p=>(0 :: p.1,p.2)
 |true :: _,[]=>none
 |true :: hs,x :: l=>(lay3 hs l).map fun p=>(x :: p.1,p.2)
def hasL (k:Nat):List Bool:=[hasZ k,hasA k,hasN k]
def layC (k:Nat) (l:List Int):Option PC:=match lay3 (hasL k) l with
 |none=>none
 |some (s,r)=>if hasD k=decide (r≠[]) then some ⟨k,s.getD 0 0,s.getD 2 0,s.getD 1 0,r⟩ else none
def LaidRes (B:Nat) (w':World) (e:Ending):Option PC→Prop
 |some b=>∃ a n,e=.returned (.tuple #[cmdV a n n b,.bool true])∧Ints w' a n n b.d∧∀ x,a=some x→B≤x.block
 |none=>e=.returned (.tuple #[cmdV none 0 0 zeroC,.bool false])
theorem lay_false {hs:List Bool} {l:List Int} {i j:Nat} {s:List Int} (hi:i < hs.length) (hh:hs.getD i false=false)
  (h:lay3 hs l=(lay3 (hs.drop i) (l.drop j)).map (fun p=>(s++p.1,p.2))):lay3 hs l=(lay3 (hs.drop (i + 1)) (l.drop j)).map (fun p=>((s++[0])++p.1,p.2)):=by
 have hd:hs.drop i=false :: hs.drop (i + 1):=by
  rw [List.drop_eq_getElem_cons hi]
  simp [List.getD,hi] at hh
  rw [hh]
 rw [h,hd,lay3]
 cases lay3 (hs.drop (i + 1)) (l.drop j)<;>simp
theorem lay_none {hs:List Bool} {l:List Int} {i j:Nat} {s:List Int} (hi:i < hs.length) (hh:hs.getD i false=true) (hj:l.length≤j)
  (h:lay3 hs l=(lay3 (hs.drop i) (l.drop j)).map (fun p=>(s++p.1,p.2))):lay3 hs l=none:=by
 have hd:hs.drop i=true :: hs.drop (i + 1):=by
  rw [List.drop_eq_getElem_cons hi]
  simp [List.getD,hi] at hh
  rw [hh]
 rw [h,hd,List.drop_of_length_le hj,lay3]
 rfl
theorem lay_true {hs:List Bool} {l:List Int} {i j:Nat} {s:List Int} (hi:i < hs.length) (hh:hs.getD i false=true) (hj:j < l.length)
  (h:lay3 hs l=(lay3 (hs.drop i) (l.drop j)).map (fun p=>(s++p.1,p.2))):lay3 hs l=(lay3 (hs.drop (i + 1)) (l.drop (j + 1))).map (fun p=>((s++[l.getD j 0])++p.1,p.2)):=by
 have hd:hs.drop i=true :: hs.drop (i + 1):=by
  rw [List.drop_eq_getElem_cons hi]
  simp [List.getD,hi] at hh
  rw [hh]
 have hl:l.drop j=l.getD j 0 :: l.drop (j + 1):=by
  rw [List.drop_eq_getElem_cons hj]
  simp [List.getD,hj]
 rw [h,hd,hl,lay3]
 cases lay3 (hs.drop (i + 1)) (l.drop (j + 1))<;>simp
theorem laid_c (k:Nat) (g off n c:Nat) (l:List Int) (w:World) (hS:Shapes w) (h:Ints w (some ⟨g,off,none⟩) n c l) (hn:n≤100000) (hk1:1≤k) (hk2:k≤12) :
  Calls Tryz.prog 148 #[.int .i64 k,.slice (some ⟨g,off,none⟩) n c] w fun e w'=>LaidRes w.heap.size w' e (layC k l)∧Below w.heap.size w w':=by
 have s1:=hS.hz k hk2
 have s2:w.cell? ⟨0,k * 5 + 1 + 1,none⟩=some (.bool (hasA k)):=hS.ha k hk2
 have s3:w.cell? ⟨0,k * 5 + 1 + 2,none⟩=some (.bool (hasN k)):=hS.hn k hk2
 have s4:w.cell? ⟨0,k * 5 + 1 + 3,none⟩=some (.bool (hasD k)):=hS.hd k hk2
 have HL:Hid (layC k l=match lay3 [hasZ k,hasA k,hasN k] l with
  |none=>none
  |some (s,r)=>if hasD k=decide (r≠[]) then some ⟨k,s.getD 0 0,s.getD 2 0,s.getD 1 0,r⟩ else none):=hide rfl
 have k1:(1:Int)≤(k:Int):=by omega
 have k2:(k:Int) < 13:=by omega
 have k0:(0:Int)≤(k:Int):=by omega
 clear hS
 generalize hasZ k=hz at *
 generalize hasA k=ha at *
 generalize hasN k=hn' at *
 generalize hasD k=hd at *
 replace s1:=fun o=>past1 s1 o
 replace s2:=fun o=>past1 s2 o
 replace s3:=fun o=>past1 s3 o
 replace s4:=fun o=>past1 s4 o
 go_enter Tryz.func148,Tryz.ntmps148
 go_wp2
 have bw:Below w.heap.size w (((w.alloc (.cells #[.int .i64 0,.int .i64 0,.int .i64 0,.int .i64 0,.slice none 0 0] 50)).alloc (.cells #[.bool hz,.bool ha,.bool hn',.bool hd] 66)).alloc (.cells #[.int .i64 0,.int .i64 0,.int .i64 0] 119)):=by (repeat first|exact bel0|assumption|refine bel1 ?_|refine bel2 ?_|refine bel3 ?_|refine belowT ?_ (by assumption)|refine bel5 ?_ (by simp;try omega))
 have r0:(((w.alloc (.cells #[.int .i64 0,.int .i64 0,.int .i64 0,.int .i64 0,.slice none 0 0] 50)).alloc (.cells #[.bool hz,.bool ha,.bool hn',.bool hd] 66)).alloc (.cells #[.int .i64 0,.int .i64 0,.int .i64 0] 119)).heap[w.heap.size]?=some (.cells #[.int .i64 0,.int .i64 0,.int .i64 0,.int .i64 0,.slice none 0 0] 50 (0,0)):=by
  rw [Below.heap_alloc _ _ _ (by simp;omega),Below.heap_alloc _ _ _ (by simp)]
  exact heap_new _ _
 have r1:(((w.alloc (.cells #[.int .i64 0,.int .i64 0,.int .i64 0,.int .i64 0,.slice none 0 0] 50)).alloc (.cells #[.bool hz,.bool ha,.bool hn',.bool hd] 66)).alloc (.cells #[.int .i64 0,.int .i64 0,.int .i64 0] 119)).heap[w.heap.size + 1]?=some (.cells #[.bool hz,.bool ha,.bool hn',.bool hd] 66 (0,0)):=by
  rw [Below.heap_alloc _ _ _ (by simp)]
  exact heap_new2 _ _ _
 have r2:(((w.alloc (.cells #[.int .i64 0,.int .i64 0,.int .i64 0,.int .i64 0,.slice none 0 0] 50)).alloc (.cells #[.bool hz,.bool ha,.bool hn',.bool hd] 66)).alloc (.cells #[.int .i64 0,.int .i64 0,.int .i64 0] 119)).heap[w.heap.size + 1 + 1]?=some (.cells (cellsOf ([]++List.replicate (3 - 0) 0)).toArray 119 (0,0)):=by
  have:=heap_new ((w.alloc (.cells #[.int .i64 0,.int .i64 0,.int .i64 0,.int .i64 0,.slice none 0 0] 50)).alloc (.cells #[.bool hz,.bool ha,.bool hn',.bool hd] 66)) (.cells #[.int .i64 0,.int .i64 0,.int .i64 0] 119)
  simpa [cellsOf] using this
 generalize ((w.alloc (.cells #[.int .i64 0,.int .i64 0,.int .i64 0,.int .i64 0,.slice none 0 0] 50)).alloc (.cells #[.bool hz,.bool ha,.bool hn',.bool hd] 66)).alloc (.cells #[.int .i64 0,.int .i64 0,.int .i64 0] 119)=w3 at *
 have hmax:=h.max
 have hle:=h.le
 have hlen:=h.len
 have h0:=h
 replace h:=h.below bw (Nat.le_refl _)
 have R0:=hide r0
 have R1:=hide r1
 have R2:=hide r2
 clear r0 r1 r2 s1 s2 s3 s4
 go_loopw [1,13] (fun x y wr=>∃ (i j:Nat) (s:List Int) (p:Addr),i≤3∧j≤n∧x=.slice (some p) (n - j) (c - j)∧(j < n→p=⟨g,off + j,none⟩)∧y=.int .i64 i∧s.length=i∧lay3 [hz,ha,hn'] l=(lay3 ([hz,ha,hn'].drop i) (l.drop j)).map (fun p=>(s++p.1,p.2))∧wr.heap[w.heap.size + 1 + 1]?=some (.cells (cellsOf (s++List.replicate (3 - i) 0)).toArray 119 (0,0))∧Below (w.heap.size + 1 + 1) w3 wr) (fun _ y _=>3 - (intOf y).toNat)
 case atStart=>
  refine ⟨0,0,[],⟨g,off,none⟩,by omega,by omega,by simp,fun _=>rfl,rfl,rfl,?_,R2.out,Below.refl _ _⟩
  simp
 case round=>
  obtain ⟨i,j,s,p,hi,hj,rfl,hp,rfl,hsi,hlay,hrow,hbr⟩:=hrel
  rename_i wr
  have HLAY:=hide hlay
  have HROW:=hide hrow
  clear hlay hrow
  by_cases hlt:i < 3
  ·have i1:(i:Int) < 3:=by omega
   have i0:(0:Int)≤(i:Int):=by omega
   have i4:(i:Int) < 4:=by omega
   have hc:wr.cell? ⟨w.heap.size + 1,i,none⟩=some (.bool ([hz,ha,hn'].getD i false)):=by
    rw [hbr.cell (p:=⟨w.heap.size + 1,i,none⟩) (by simp),cell_of_row _ _ _ _ _ _ R1.out]
    rcases (by omega:i=0∨i=1∨i=2) with rfl|rfl|rfl<;>rfl
   cases hh:[hz,ha,hn'].getD i false
   ·rw [hh] at hc
    go_wp2
    refine ⟨⟨i + 1,j,s++[0],p,by omega,by omega,rfl,hp,by go_num,by simp [hsi],lay_false hlt hh HLAY.out,?_,hbr⟩,by simp [intOf];omega⟩
    rw [HROW.out]
    obtain ⟨m,hm⟩:∃ m,3 - i=m + 1:=⟨3 - i - 1,by omega⟩
    rw [hm,show 3 - (i + 1)=m by omega,List.replicate_succ]
    simp
   ·rw [hh] at hc
    by_cases hjn:j < n
    ·obtain ⟨m,hm⟩:∃ m,n - j=m + 1:=⟨n - j - 1,by omega⟩
     obtain ⟨d,hd'⟩:∃ d,c - j=d + 1:=⟨c - j - 1,by omega⟩
     have m0:(((m + 1:Nat):Int)==0)=false:=by simp;omega
     have m1:(0:Int) < ((m + 1:Nat):Int):=by omega
     have m2:(1:Int)≤((m + 1:Nat):Int):=by omega
     have m3:((m + 1:Nat):Int)≤((d + 1:Nat):Int):=by omega
     obtain rfl:=hp hjn
     have hcl:wr.cell? ⟨g,off + j,none⟩=some (.int .i64 (l.getD j 0)):=by
      rcases h0.row with h0|⟨b,o,e,hb,hc'⟩
      ·omega
      ·cases e
       rw [hbr.cell (p:=⟨g,off + j,none⟩) (by simp;omega)]
       exact keepc bw (hc' j hjn)
     have hcr:wr.cell? ⟨w.heap.size + 1 + 1,i,none⟩=some (.int .i64 0):=by
      rw [cell_of_row _ _ _ _ _ _ HROW.out]
      obtain ⟨q,hq⟩:∃ q,3 - i=q + 1:=⟨3 - i - 1,by omega⟩
      rw [hq]
      simp [cellsOf,← hsi,List.replicate_succ]
     have hfr:wr.frozen? ⟨w.heap.size + 1 + 1,i,none⟩=false:=frozen_rowQ HROW.out
     rw [hm,hd']
     have HT:=hide (lay_true (j:=j) hlt hh (by omega) HLAY.out)
     have HC:=hide (cells_set s 3 (l.getD j 0) (by omega))
     generalize l.getD j 0=x at *
     go_wp2
     go_region
     go_wp2
     refine ⟨⟨i + 1,j + 1,s++[x],if d=0 then ⟨g,off + j,none⟩ else ⟨g,off + j + 1,none⟩,by omega,by omega,?_,?_,by go_num,by simp [hsi],HT.out,?_,?_⟩,by simp [intOf];omega⟩
     ·rw [show n - (j + 1)=m by omega,show c - (j + 1)=d by omega]
      congr 1
      split<;>rfl
     ·intro hj2
      rw [if_neg (by omega)]
      rfl
     ·have:=Lib.heap_setCell_same (i:=i) HROW.out (.int .i64 x)
      have h2:=HC.out
      rw [hsi] at h2
      rw [h2] at this
      refine Eq.trans (show _=(wr.setCell ⟨w.heap.size + 1 + 1,i,none⟩ (.int .i64 x)).heap[w.heap.size + 1 + 1]? from rfl) (this.trans ?_)
      simp [hsi]
     ·exact (hbr.setCell (Nat.le_refl _) _).drew
    ·obtain rfl:j=n:=by omega
     have HN:=hide (lay_none (j:=j) hlt hh (by omega) HLAY.out)
     have c0:wr.heap[w.heap.size]?=some (.cells #[.int .i64 0,.int .i64 0,.int .i64 0,.int .i64 0,.slice none 0 0] 50 (0,0)):=by
      rw [hbr.block _ (by omega)]
      exact R0.out
     have f0:∀ i,wr.frozen? ⟨w.heap.size,i,none⟩=false:=fun i=>frozen_rowQ c0
     have d0:∀ i,wr.cell? ⟨w.heap.size,i,none⟩=_:=fun i=>cell_of_row _ _ _ _ _ _ c0
     rw [Nat.sub_self]
     go_wp2
     refine bodyPost_ret (v:=.tuple #[cmdV none 0 0 zeroC,.bool false]) (by simp [results,Tryz.results148,go_sem,cmdV,zeroC,d0]) rfl ⟨?_,?_⟩
     ·rw [HL.out,HN.out]
      exact rfl
     ·have b2:Below w.heap.size w wr:=bw.trans (hbr.mono (by omega))
      exact ((((b2.setCell (p:=⟨w.heap.size,0,none⟩) (Nat.le_refl _) _).setCell (p:=⟨w.heap.size,1,none⟩) (Nat.le_refl _) _).setCell (p:=⟨w.heap.size,2,none⟩) (Nat.le_refl _) _).setCell (p:=⟨w.heap.size,3,none⟩) (Nat.le_refl _) _).setCell (p:=⟨w.heap.size,4,none⟩) (Nat.le_refl _) _
  ·obtain rfl:i=3:=by omega
   have hlay:lay3 [hz,ha,hn'] l=some (s,l.drop j):=by
    rw [HLAY.out]
    simp [lay3]
   have hrow:=HROW.out
   obtain ⟨x0,x1,x2,rfl⟩:∃ x0 x1 x2,s=[x0,x1,x2]:=by
    rcases s with _|⟨x0,_|⟨x1,_|⟨x2,_|⟨x3,s⟩⟩⟩⟩<;>simp at hsi
    exact ⟨x0,x1,x2,rfl⟩
   have e0:wr.cell? ⟨w.heap.size + 1 + 1,0,none⟩=some (.int .i64 x0):=by rw [cell_of_row _ _ _ _ _ _ hrow];rfl
   have e1:wr.cell? ⟨w.heap.size + 1 + 1,1,none⟩=some (.int .i64 x1):=by rw [cell_of_row _ _ _ _ _ _ hrow];rfl
   have e2:wr.cell? ⟨w.heap.size + 1 + 1,2,none⟩=some (.int .i64 x2):=by rw [cell_of_row _ _ _ _ _ _ hrow];rfl
   have e3:wr.cell? ⟨w.heap.size + 1,3,none⟩=some (.bool hd):=by
    rw [hbr.cell (p:=⟨w.heap.size + 1,3,none⟩) (by simp),cell_of_row _ _ _ _ _ _ R1.out]
    rfl
   have c0:wr.heap[w.heap.size]?=some (.cells #[.int .i64 0,.int .i64 0,.int .i64 0,.int .i64 0,.slice none 0 0] 50 (0,0)):=by
    rw [hbr.block _ (by omega)]
    exact R0.out
   have bwr:Below w.heap.size w wr:=bw.trans (hbr.mono (by omega))
   have hdr:decide ((0:Int) < ((n - j:Nat):Int))=decide (l.drop j≠[]):=by
    rw [Bool.eq_iff_iff]
    simp
    omega
   have hIr:Ints wr (some p) (n - j) (c - j) (l.drop j):=by
    refine ⟨by simp;omega,by omega,by omega,(fun e=>by cases e),?_,fun x hx=>h0.wf x (List.mem_of_mem_drop hx)⟩
    by_cases hj2:j < n
    ·obtain rfl:=hp hj2
     rcases h0.row with h00|⟨b,o,e,hb,hc'⟩
     ·omega
     ·cases e
      refine .inr ⟨_,_,rfl,Nat.lt_of_lt_of_le hb bwr.size,fun i hi=>?_⟩
      have:=keepc bwr (hc' (j + i) (by omega))
      rw [Nat.add_assoc,this]
      simp [List.getD]
    ·exact .inl (by omega)
   have HL2:Hid (layC k l=if hd=decide (l.drop j≠[]) then some ⟨k,x0,x2,x1,l.drop j⟩ else none):=hide (by rw [HL.out,hlay];rfl)
   have n3:n - j≤100000:=by omega
   clear HL hlay HLAY HROW hrow h hbr R0 R1 R2 h0 hp
   generalize l.drop j=r at *
   generalize n - j=m at *
   generalize c - j=cc at *
   generalize decide (r≠[])=dd at hdr HL2
   have f0:∀ i,wr.frozen? ⟨w.heap.size,i,none⟩=false:=fun i=>frozen_rowQ c0
   have d0:∀ i,wr.cell? ⟨w.heap.size,i,none⟩=_:=fun i=>cell_of_row _ _ _ _ _ _ c0
   have hlt9:w.heap.size < wr.heap.size:=(Array.getElem?_eq_some_iff.1 c0).1
   have C0:=hide c0
   clear c0
   by_cases hm0:0 < m
   ·obtain rfl:dd=true:=by rw [← hdr];simpa using hm0
    clear hdr
    cases hd
    ·skip
     go_wp2
     refine bodyPost_ret (v:=.tuple #[cmdV none 0 0 zeroC,.bool false]) (by simp [results,Tryz.results148,go_sem,cmdV,zeroC,d0]) rfl ⟨?_,?_⟩
     ·rw [HL2.out]
      exact rfl
     ·exact ((((bwr.setCell (p:=⟨w.heap.size,0,none⟩) (Nat.le_refl _) _).setCell (p:=⟨w.heap.size,1,none⟩) (Nat.le_refl _) _).setCell (p:=⟨w.heap.size,2,none⟩) (Nat.le_refl _) _).setCell (p:=⟨w.heap.size,3,none⟩) (Nat.le_refl _) _).setCell (p:=⟨w.heap.size,4,none⟩) (Nat.le_refl _) _
    ·skip
     go_wp2
     go_region_held3 (fun w'=>w'.cell? ⟨w.heap.size + 1 + 1,0,none⟩=some (.int .i64 x0)∧w'.cell? ⟨w.heap.size + 1 + 1,1,none⟩=some (.int .i64 x1)∧w'.cell? ⟨w.heap.size + 1 + 1,2,none⟩=some (.int .i64 x2)) ((first|(go_simp;done)|(simp [*,World.cell?_alloc_at,World.cell?_alloc_past,World.cell?_alloc_some,World.cell?_setCell_far];done))) (first|(go_at_call 164;refine (cwhole_c (some p) m cc r _ (by refine Ints.below hIr (B:=wr.heap.size) ?_ (Nat.le_refl _);(repeat first|exact bel0|assumption|refine bel1 ?_|refine bel2 ?_|refine bel3 ?_|refine belowT ?_ (by assumption)|refine bel5 ?_ (by simp;try omega))) n3).mono ?_;rintro e w9 ⟨⟨b9,rfl,i9,x9⟩,hb9⟩;(have r9:=(hb9.block w.heap.size hlt9).trans C0.out);(have f9:=fun i=>frozen_rowQ (j:=i) r9);(have d9:=fun i=>cell_of_row w9 w.heap.size i _ _ _ r9);(have R9:=hide r9);clear r9;(have f0:=keepc hb9 (p:=⟨w.heap.size + 1 + 1,0,none⟩) (u:=.int .i64 x0) (by (first|(go_simp;done)|(simp [*,World.cell?_alloc_at,World.cell?_alloc_past,World.cell?_alloc_some,World.cell?_setCell_far];done))));(have f1:=keepc hb9 (p:=⟨w.heap.size + 1 + 1,1,none⟩) (u:=.int .i64 x1) (by (first|(go_simp;done)|(simp [*,World.cell?_alloc_at,World.cell?_alloc_past,World.cell?_alloc_some,World.cell?_setCell_far];done))));(have f2:=keepc hb9 (p:=⟨w.heap.size + 1 + 1,2,none⟩) (u:=.int .i64 x2) (by (first|(go_simp;done)|(simp [*,World.cell?_alloc_at,World.cell?_alloc_past,World.cell?_alloc_some,World.cell?_setCell_far];done))))))
     go_wp2
     have hne:∀ x,b9=some x→x.block≠w.heap.size:=fun x e=>by
      have:=x9 x e
      simp at this
      omega
     refine bodyPost_ret (v:=.tuple #[cmdV b9 m m ⟨k,x0,x2,x1,r⟩,.bool true]) (by simp [results,Tryz.results148,go_sem,cmdV,d9]) rfl ⟨?_,?_⟩
     ·rw [HL2.out]
      refine ⟨_,_,rfl,?_,fun x e=>?_⟩
      ·exact ((((i9.setCell _ _ hne).setCell _ _ hne).setCell _ _ hne).setCell _ _ hne).setCell _ _ hne
      ·have:=x9 x e
       simp at this
       omega
     ·have b9':Below w.heap.size w w9:=by (repeat first|exact bel0|assumption|refine bel1 ?_|refine bel2 ?_|refine bel3 ?_|refine belowT ?_ (by assumption)|refine bel5 ?_ (by simp;try omega))
      exact ((((b9'.setCell (p:=⟨w.heap.size,0,none⟩) (Nat.le_refl _) _).setCell (p:=⟨w.heap.size,1,none⟩) (Nat.le_refl _) _).setCell (p:=⟨w.heap.size,2,none⟩) (Nat.le_refl _) _).setCell (p:=⟨w.heap.size,3,none⟩) (Nat.le_refl _) _).setCell (p:=⟨w.heap.size,4,none⟩) (Nat.le_refl _) _
   ·obtain rfl:m=0:=by omega
    obtain rfl:dd=false:=by rw [← hdr];rfl
    clear hdr
    cases hd
    ·skip
     go_wp2
     go_region_held3 (fun w'=>w'.cell? ⟨w.heap.size + 1 + 1,0,none⟩=some (.int .i64 x0)∧w'.cell? ⟨w.heap.size + 1 + 1,1,none⟩=some (.int .i64 x1)∧w'.cell? ⟨w.heap.size + 1 + 1,2,none⟩=some (.int .i64 x2)) ((first|(go_simp;done)|(simp [*,World.cell?_alloc_at,World.cell?_alloc_past,World.cell?_alloc_some,World.cell?_setCell_far];done))) (first|(go_at_call 164;refine (cwhole_c (some p) 0 cc r _ (by refine Ints.below hIr (B:=wr.heap.size) ?_ (Nat.le_refl _);(repeat first|exact bel0|assumption|refine bel1 ?_|refine bel2 ?_|refine bel3 ?_|refine belowT ?_ (by assumption)|refine bel5 ?_ (by simp;try omega))) n3).mono ?_;rintro e w9 ⟨⟨b9,rfl,i9,x9⟩,hb9⟩;(have r9:=(hb9.block w.heap.size hlt9).trans C0.out);(have f9:=fun i=>frozen_rowQ (j:=i) r9);(have d9:=fun i=>cell_of_row w9 w.heap.size i _ _ _ r9);(have R9:=hide r9);clear r9;(have f0:=keepc hb9 (p:=⟨w.heap.size + 1 + 1,0,none⟩) (u:=.int .i64 x0) (by (first|(go_simp;done)|(simp [*,World.cell?_alloc_at,World.cell?_alloc_past,World.cell?_alloc_some,World.cell?_setCell_far];done))));(have f1:=keepc hb9 (p:=⟨w.heap.size + 1 + 1,1,none⟩) (u:=.int .i64 x1) (by (first|(go_simp;done)|(simp [*,World.cell?_alloc_at,World.cell?_alloc_past,World.cell?_alloc_some,World.cell?_setCell_far];done))));(have f2:=keepc hb9 (p:=⟨w.heap.size + 1 + 1,2,none⟩) (u:=.int .i64 x2) (by (first|(go_simp;done)|(simp [*,World.cell?_alloc_at,World.cell?_alloc_past,World.cell?_alloc_some,World.cell?_setCell_far];done))))))
     go_wp2
     have hne:∀ x,b9=some x→x.block≠w.heap.size:=fun x e=>by
      have:=x9 x e
      simp at this
      omega
     refine bodyPost_ret (v:=.tuple #[cmdV b9 0 0 ⟨k,x0,x2,x1,r⟩,.bool true]) (by simp [results,Tryz.results148,go_sem,cmdV,d9]) rfl ⟨?_,?_⟩
     ·rw [HL2.out]
      refine ⟨_,_,rfl,?_,fun x e=>?_⟩
      ·exact ((((i9.setCell _ _ hne).setCell _ _ hne).setCell _ _ hne).setCell _ _ hne).setCell _ _ hne
      ·have:=x9 x e
       simp at this
       omega
     ·have b9':Below w.heap.size w w9:=by (repeat first|exact bel0|assumption|refine bel1 ?_|refine bel2 ?_|refine bel3 ?_|refine belowT ?_ (by assumption)|refine bel5 ?_ (by simp;try omega))
      exact ((((b9'.setCell (p:=⟨w.heap.size,0,none⟩) (Nat.le_refl _) _).setCell (p:=⟨w.heap.size,1,none⟩) (Nat.le_refl _) _).setCell (p:=⟨w.heap.size,2,none⟩) (Nat.le_refl _) _).setCell (p:=⟨w.heap.size,3,none⟩) (Nat.le_refl _) _).setCell (p:=⟨w.heap.size,4,none⟩) (Nat.le_refl _) _
    ·skip
     go_wp2
     refine bodyPost_ret (v:=.tuple #[cmdV none 0 0 zeroC,.bool false]) (by simp [results,Tryz.results148,go_sem,cmdV,zeroC,d0]) rfl ⟨?_,?_⟩
     ·rw [HL2.out]
      exact rfl
     ·exact ((((bwr.setCell (p:=⟨w.heap.size,0,none⟩) (Nat.le_refl _) _).setCell (p:=⟨w.heap.size,1,none⟩) (Nat.le_refl _) _).setCell (p:=⟨w.heap.size,2,none⟩) (Nat.le_refl _) _).setCell (p:=⟨w.heap.size,3,none⟩) (Nat.le_refl _) _).setCell (p:=⟨w.heap.size,4,none⟩) (Nat.le_refl _) _
end Go.Proofs.YtabafikicbkkdaaGreatDoor
namespace Go.Proofs.YtabafikicbkkdaaGreatDoor
open Go.RowKit
set_option linter.unusedVariables false
set_option maxHeartbeats 4000000
set_option maxRecDepth 100000
set_option linter.unusedSimpArgs false
def readC (ts:List ByteArray):Option PC:=match ts with
 |[]=>none
 |t :: r=>match kindOfS t with
  |none=>none
  |some k=>match nums (r.map (·.data.toList)) with
   |none=>none
   |some l=>layC k l
theorem five_below {w w':World} (h:Below w.heap.size w w') (v0 v1 v2 v3 v4:Value):Below w.heap.size w (((((w'.setCell ⟨w.heap.size,0,none⟩ v0).setCell ⟨w.heap.size,1,none⟩ v1).setCell ⟨w.heap.size,2,none⟩ v2).setCell ⟨w.heap.size,3,none⟩ v3).setCell ⟨w.heap.size,4,none⟩ v4):=
 ((((h.setCell (p:=⟨w.heap.size,0,none⟩) (Nat.le_refl _) _).setCell (p:=⟨w.heap.size,1,none⟩) (Nat.le_refl _) _).setCell (p:=⟨w.heap.size,2,none⟩) (Nat.le_refl _) _).setCell (p:=⟨w.heap.size,3,none⟩) (Nat.le_refl _) _).setCell (p:=⟨w.heap.size,4,none⟩) (Nat.le_refl _) _
theorem Ints.five {w:World} {a:Option Addr} {n c:Nat} {l:List Int} (h:Ints w a n c l) (g:Nat) (hne:∀ x,a=some x→x.block≠g) (v0 v1 v2 v3 v4:Value):Ints (((((w.setCell ⟨g,0,none⟩ v0).setCell ⟨g,1,none⟩ v1).setCell ⟨g,2,none⟩ v2).setCell ⟨g,3,none⟩ v3).setCell ⟨g,4,none⟩ v4) a n c l:=
 ((((h.setCell _ _ hne).setCell _ _ hne).setCell _ _ hne).setCell _ _ hne).setCell _ _ hne
theorem read_c (g n:Nat) (t:ByteArray) (ts:List ByteArray) (w:World) (hE:Env w) (hl:ts.length=n) (hn:n≤100000 - 1)
  (hsz:∀ t∈ts,t.size≤100000) (ht:w.cell? ⟨g,0,none⟩=some (.string t))
  (hr:∀ i,i < n→w.cell? ⟨g,1 + i,none⟩=some (.string (ts.getD i ByteArray.empty))) :
  Calls Tryz.prog 128 #[.slice (some ⟨g,0,none⟩) (n + 1) (n + 1)] w fun e w'=>LaidRes w.heap.size w' e (readC (t :: ts))∧Below w.heap.size w w':=by
 have n0:(0:Int) < ((n:Int) + 1):=by omega
 have n1:(1:Int)≤((n:Int) + 1):=by omega
 have n2:(n:Int)≤100000:=by omega
 have ht1:=fun o=>past1 ht o
 have hE1:=fun o=>hE.below (belowA (Below.refl w.heap.size w) o)
 go_enter Tryz.func128,Tryz.ntmps128
 go_wp2_with fail
 refine (kindOf_c t _ (hE1 _).shp).mono ?_
 rintro e w1 ⟨rfl,rfl⟩
 cases hk:kindOfS t with
 |none=>
  have HR:Hid (readC (t :: ts)=none):=hide (by simp [readC,hk])
  unfold kindV
  go_wp2
  refine bodyPost_ret (v:=.tuple #[cmdV none 0 0 zeroC,.bool false]) (by simp [results,Tryz.results128,go_sem,cmdV,zeroC]) rfl ⟨?_,?_⟩
  ·rw [HR.out]
   exact rfl
  ·(repeat first|exact bel0|assumption|refine bel1 ?_|refine bel2 ?_|refine bel3 ?_|refine belowT ?_ (by assumption)|refine bel5 ?_ (by simp;try omega))
 |some k=>
  obtain ⟨_,hk1,hk2⟩:=kindOfS_some hk
  have HR:Hid (readC (t :: ts)=match nums (ts.map (·.data.toList)) with
   |none=>none
   |some l=>layC k l):=hide (by simp [readC,hk])
  have key:∀ p:Addr,(0 < n→p=⟨g,1,none⟩)→p.spot=none→Calls Tryz.prog 147 #[.slice (some p) n n] (w.alloc (.cells #[.int .i64 0,.int .i64 0,.int .i64 0,.int .i64 0,.slice none 0 0] 50)) fun e w'=>NumsRes (w.heap.size + 1) w' n e (nums (ts.map (·.data.toList)))∧Below (w.heap.size + 1) (w.alloc (.cells #[.int .i64 0,.int .i64 0,.int .i64 0,.int .i64 0,.slice none 0 0] 50)) w':=by
   intro p hp hs
   obtain ⟨pb,po,ps⟩:=p
   obtain rfl:ps=none:=hs
   have:=numbers_c pb po n n ts (w.alloc (.cells #[.int .i64 0,.int .i64 0,.int .i64 0,.int .i64 0,.slice none 0 0] 50)) (hE1 _) hl (by omega) hsz (fun i hi=>by
    cases hp (by omega)
    exact past1 (hr i hi) _)
   rw [show (w.alloc (.cells #[.int .i64 0,.int .i64 0,.int .i64 0,.int .i64 0,.slice none 0 0] 50)).heap.size=w.heap.size + 1 by simp] at this
   exact this
  have KEY:=hide key
  clear key hr
  unfold kindV
  dsimp only
  cases hnm:nums (ts.map (·.data.toList)) with
  |none=>
   rw [hnm] at HR
   have K2:=KEY.out
   rw [hnm] at K2
   have KEY2:=hide K2
   clear K2 KEY hnm
   rcases Nat.eq_zero_or_pos n with h00|hpos
   ·have KEY3:=hide (KEY2.out ⟨g,0,none⟩ (fun h=>by omega) rfl)
    rw [h00] at KEY3 ⊢
    clear KEY2 hl hsz h00
    go_wp2_with fail
    refine KEY3.out.mono ?_
    rintro e w2 ⟨rfl,hb2⟩
    have c0:∀ i,w2.cell? ⟨w.heap.size,i,none⟩=_:=fun i=>(hb2.cell (p:=⟨w.heap.size,i,none⟩) (by simp)).trans (cell_of_row _ _ _ _ _ _ (heap_new w (.cells #[.int .i64 0,.int .i64 0,.int .i64 0,.int .i64 0,.slice none 0 0] 50)))
    have f0:∀ i,w2.frozen? ⟨w.heap.size,i,none⟩=false:=fun i=>(hb2.frozen (p:=⟨w.heap.size,i,none⟩) (by simp)).trans (frozen_rowQ (heap_new w (.cells #[.int .i64 0,.int .i64 0,.int .i64 0,.int .i64 0,.slice none 0 0] 50)))
    unfold noNums
    go_wp2
    refine bodyPost_ret (v:=.tuple #[cmdV none 0 0 zeroC,.bool false]) (by simp [results,Tryz.results128,go_sem,cmdV,zeroC,c0]) rfl ⟨?_,five_below ((belowA (Below.refl _ _) _).trans (hb2.mono (by omega))) _ _ _ _ _⟩
    rw [HR.out]
    exact rfl
   ·have KEY3:=hide (KEY2.out ⟨g,1,none⟩ (fun h=>rfl) rfl)
    clear KEY2 hl hsz
    go_wp2_with fail
    refine KEY3.out.mono ?_
    rintro e w2 ⟨rfl,hb2⟩
    have c0:∀ i,w2.cell? ⟨w.heap.size,i,none⟩=_:=fun i=>(hb2.cell (p:=⟨w.heap.size,i,none⟩) (by simp)).trans (cell_of_row _ _ _ _ _ _ (heap_new w (.cells #[.int .i64 0,.int .i64 0,.int .i64 0,.int .i64 0,.slice none 0 0] 50)))
    have f0:∀ i,w2.frozen? ⟨w.heap.size,i,none⟩=false:=fun i=>(hb2.frozen (p:=⟨w.heap.size,i,none⟩) (by simp)).trans (frozen_rowQ (heap_new w (.cells #[.int .i64 0,.int .i64 0,.int .i64 0,.int .i64 0,.slice none 0 0] 50)))
    unfold noNums
    go_wp2
    refine bodyPost_ret (v:=.tuple #[cmdV none 0 0 zeroC,.bool false]) (by simp [results,Tryz.results128,go_sem,cmdV,zeroC,c0]) rfl ⟨?_,five_below ((belowA (Below.refl _ _) _).trans (hb2.mono (by omega))) _ _ _ _ _⟩
    rw [HR.out]
    exact rfl
  |some l=>
   rw [hnm] at HR
   have K2:=KEY.out
   rw [hnm] at K2
   have KEY2:=hide K2
   clear K2 KEY hnm
   rcases Nat.eq_zero_or_pos n with h00|hpos
   ·have KEY3:=hide (KEY2.out ⟨g,0,none⟩ (fun h=>by omega) rfl)
    rw [h00] at KEY3 ⊢
    clear KEY2 hl hsz h00
    go_wp2_with fail
    refine KEY3.out.mono ?_
    rintro e w2 ⟨⟨rfl,i2⟩,hb2⟩
    have sz2:w.heap.size + 1≤w2.heap.size:=by
     have:=hb2.size
     simpa using this
    have E2:=(hE1 (.cells #[.int .i64 0,.int .i64 0,.int .i64 0,.int .i64 0,.slice none 0 0] 50)).below (by simpa using hb2)
    unfold numsV
    go_wp2_with fail
    refine (laid_c k (w.heap.size + 1) 0 0 0 l w2 E2.shp i2 (by omega) hk1 hk2).mono ?_
    cases hly:layC k l with
    |none=>
     rw [hly] at HR
     rintro e w3 ⟨rfl,hb3⟩
     have hb4:Below (w.heap.size + 1) (w.alloc (.cells #[.int .i64 0,.int .i64 0,.int .i64 0,.int .i64 0,.slice none 0 0] 50)) w3:=hb2.trans (hb3.mono sz2)
     have c0:∀ i,w3.cell? ⟨w.heap.size,i,none⟩=_:=fun i=>(hb4.cell (p:=⟨w.heap.size,i,none⟩) (by simp)).trans (cell_of_row _ _ _ _ _ _ (heap_new w (.cells #[.int .i64 0,.int .i64 0,.int .i64 0,.int .i64 0,.slice none 0 0] 50)))
     have f0:∀ i,w3.frozen? ⟨w.heap.size,i,none⟩=false:=fun i=>(hb4.frozen (p:=⟨w.heap.size,i,none⟩) (by simp)).trans (frozen_rowQ (heap_new w (.cells #[.int .i64 0,.int .i64 0,.int .i64 0,.int .i64 0,.slice none 0 0] 50)))
     unfold cmdV zeroC
     go_wp2
     refine bodyPost_ret (v:=.tuple #[cmdV none 0 0 zeroC,.bool false]) (by simp [results,Tryz.results128,go_sem,cmdV,zeroC,c0]) rfl ⟨?_,five_below ((belowA (Below.refl _ _) _).trans (hb4.mono (by omega))) _ _ _ _ _⟩
     rw [HR.out]
     exact rfl
    |some b=>
     rw [hly] at HR
     rintro e w3 ⟨⟨a3,n3,rfl,i3,x3⟩,hb3⟩
     have hb4:Below (w.heap.size + 1) (w.alloc (.cells #[.int .i64 0,.int .i64 0,.int .i64 0,.int .i64 0,.slice none 0 0] 50)) w3:=hb2.trans (hb3.mono sz2)
     have c0:∀ i,w3.cell? ⟨w.heap.size,i,none⟩=_:=fun i=>(hb4.cell (p:=⟨w.heap.size,i,none⟩) (by simp)).trans (cell_of_row _ _ _ _ _ _ (heap_new w (.cells #[.int .i64 0,.int .i64 0,.int .i64 0,.int .i64 0,.slice none 0 0] 50)))
     have f0:∀ i,w3.frozen? ⟨w.heap.size,i,none⟩=false:=fun i=>(hb4.frozen (p:=⟨w.heap.size,i,none⟩) (by simp)).trans (frozen_rowQ (heap_new w (.cells #[.int .i64 0,.int .i64 0,.int .i64 0,.int .i64 0,.slice none 0 0] 50)))
     unfold cmdV
     have hne:∀ x,a3=some x→x.block≠w.heap.size:=fun x e=>by
      have:=x3 x e
      omega
     go_wp2
     refine bodyPost_ret (v:=.tuple #[cmdV a3 n3 n3 b,.bool true]) (by simp [results,Tryz.results128,go_sem,cmdV,c0]) rfl ⟨?_,five_below ((belowA (Below.refl _ _) _).trans (hb4.mono (by omega))) _ _ _ _ _⟩
     rw [HR.out]
     refine ⟨_,_,rfl,i3.five _ hne _ _ _ _ _,fun x e=>?_⟩
     have:=x3 x e
     omega
   ·have KEY3:=hide (KEY2.out ⟨g,1,none⟩ (fun h=>rfl) rfl)
    clear KEY2 hl hsz
    go_wp2_with fail
    refine KEY3.out.mono ?_
    rintro e w2 ⟨⟨rfl,i2⟩,hb2⟩
    have sz2:w.heap.size + 1≤w2.heap.size:=by
     have:=hb2.size
     simpa using this
    have E2:=(hE1 (.cells #[.int .i64 0,.int .i64 0,.int .i64 0,.int .i64 0,.slice none 0 0] 50)).below (by simpa using hb2)
    unfold numsV
    go_wp2_with fail
    refine (laid_c k (w.heap.size + 1) 0 n n l w2 E2.shp i2 (by omega) hk1 hk2).mono ?_
    cases hly:layC k l with
    |none=>
     rw [hly] at HR
     rintro e w3 ⟨rfl,hb3⟩
     have hb4:Below (w.heap.size + 1) (w.alloc (.cells #[.int .i64 0,.int .i64 0,.int .i64 0,.int .i64 0,.slice none 0 0] 50)) w3:=hb2.trans (hb3.mono sz2)
     have c0:∀ i,w3.cell? ⟨w.heap.size,i,none⟩=_:=fun i=>(hb4.cell (p:=⟨w.heap.size,i,none⟩) (by simp)).trans (cell_of_row _ _ _ _ _ _ (heap_new w (.cells #[.int .i64 0,.int .i64 0,.int .i64 0,.int .i64 0,.slice none 0 0] 50)))
     have f0:∀ i,w3.frozen? ⟨w.heap.size,i,none⟩=false:=fun i=>(hb4.frozen (p:=⟨w.heap.size,i,none⟩) (by simp)).trans (frozen_rowQ (heap_new w (.cells #[.int .i64 0,.int .i64 0,.int .i64 0,.int .i64 0,.slice none 0 0] 50)))
     unfold cmdV zeroC
     go_wp2
     refine bodyPost_ret (v:=.tuple #[cmdV none 0 0 zeroC,.bool false]) (by simp [results,Tryz.results128,go_sem,cmdV,zeroC,c0]) rfl ⟨?_,five_below ((belowA (Below.refl _ _) _).trans (hb4.mono (by omega))) _ _ _ _ _⟩
     rw [HR.out]
     exact rfl
    |some b=>
     rw [hly] at HR
     rintro e w3 ⟨⟨a3,n3,rfl,i3,x3⟩,hb3⟩
     have hb4:Below (w.heap.size + 1) (w.alloc (.cells #[.int .i64 0,.int .i64 0,.int .i64 0,.int .i64 0,.slice none 0 0] 50)) w3:=hb2.trans (hb3.mono sz2)
     have c0:∀ i,w3.cell? ⟨w.heap.size,i,none⟩=_:=fun i=>(hb4.cell (p:=⟨w.heap.size,i,none⟩) (by simp)).trans (cell_of_row _ _ _ _ _ _ (heap_new w (.cells #[.int .i64 0,.int .i64 0,.int .i64 0,.int .i64 0,.slice none 0 0] 50)))
     have f0:∀ i,w3.frozen? ⟨w.heap.size,i,none⟩=false:=fun i=>(hb4.frozen (p:=⟨w.heap.size,i,none⟩) (by simp)).trans (frozen_rowQ (heap_new w (.cells #[.int .i64 0,.int .i64 0,.int .i64 0,.int .i64 0,.slice none 0 0] 50)))
     unfold cmdV
     have hne:∀ x,a3=some x→x.block≠w.heap.size:=fun x e=>by
      have:=x3 x e
      omega
     go_wp2
     refine bodyPost_ret (v:=.tuple #[cmdV a3 n3 n3 b,.bool true]) (by simp [results,Tryz.results128,go_sem,cmdV,c0]) rfl ⟨?_,five_below ((belowA (Below.refl _ _) _).trans (hb4.mono (by omega))) _ _ _ _ _⟩
     rw [HR.out]
     refine ⟨_,_,rfl,i3.five _ hne _ _ _ _ _,fun x e=>?_⟩
     have:=x3 x e
     omega
end Go.Proofs.YtabafikicbkkdaaGreatDoor
