/- Reading the document's own parse. -/

import Derived.Test.YtjhjdiaomnpkmaaGreatDoorZ32
set_option maxRecDepth 100000
set_option maxHeartbeats 8000000
set_option linter.unusedVariables false
set_option linter.unusedSimpArgs false
namespace Go.Proofs.YtjhjdiaomnpkmaaGreatDoor
open Go.RowKit Go.Lib
theorem find_hit(p:Int→Bool)(n:Nat):∀(s k:Nat),s≤k→k<s+n→(∀q:Nat,s≤q→q<k→p (q:Int)=false)→p (k:Int)=true→((List.range' s n).map fun q:Nat=>(q:Int)).find? p=some (k:Int):=by
 induction n with
 |zero=>intro s k h1 h2;omega
 |succ n ih=>
  intro s k h1 h2 hq hk
  rw[List.range'_succ,List.map_cons]
  by_cases e:s=k
  ·subst e;rw[List.find?_cons_of_pos hk]
  ·rw[List.find?_cons_of_neg (by rw[hq s (Nat.le_refl _) (by omega)];simp)]
   exact ih (s+1) k (by omega) (by omega) (fun q a b=>hq q (by omega) b) hk
theorem find_none(p:Int→Bool)(n:Nat):∀(s:Nat),(∀q:Nat,s≤q→q<s+n→p (q:Int)=false)→((List.range' s n).map fun q:Nat=>(q:Int)).find? p=none:=by
 induction n with
 |zero=>intro s _;rfl
 |succ n ih=>
  intro s hq
  rw[List.range'_succ,List.map_cons,List.find?_cons_of_neg (by rw[hq s (Nat.le_refl _) (by omega)];simp)]
  exact ih (s+1) (fun q a b=>hq q (by omega) (by omega))
def Not3(cb:Bool)(t:Tok):Prop:= ¬(t.1=3∧cb=false)
def hitK(cb:Bool)(x:List UInt8)(k:Int):Bool:=wordK k==x&&isCond k==cb
theorem kindW_list(cb:Bool)(x:List UInt8):kindW cb x=(((List.range' 1 12).map fun q:Nat=>(q:Int)).find? (hitK cb x)).getD 0:=rfl
theorem kindW_hit{cb:Bool}{x:List UInt8}{k:Nat}(h1:1≤k)(h2:k≤12)(hq:∀q:Nat,1≤q→q<k→hitK cb x (q:Int)=false)(hk:hitK cb x (k:Int)=true):kindW cb x=(k:Int):=by
 rw[kindW_list,find_hit _ 12 1 k h1 (by omega) hq hk];rfl
theorem kindW_none{cb:Bool}{x:List UInt8}(hq:∀q:Nat,1≤q→q<13→hitK cb x (q:Int)=false):kindW cb x=0:=by
 rw[kindW_list,find_none _ 12 1 (fun q a b=>hq q a (by omega))];rfl
theorem rkind_any(V:World)(A:Option Addr)(c:Nat)(all:List Tok)(g:Nat)(s:PS)(cb:Bool)(w:World)(h:StR V A c all w g s):
  Calls Tryz.prog 73 #[.pointer (some ⟨g,0,none⟩),.bool cb] w fun e w'=>e= .returned (.int .i64 (kindT cb (hdT s.1)))∧Rel w w':=by
 obtain⟨j,h1,h2,h3,h4,h5,h6,h7⟩:=h
 obtain⟨ts,e⟩:=s
 have hgl:=h5.lt
 have HW1:=yH h1.self
 have HB:=yH h5
 obtain⟨gT,off,rfl,hb,_⟩:=h3 j h7
 obtain⟨t,ht⟩:∃t,all[j]=t:=⟨_,rfl⟩
 have hhd:hdT ts=t:=by have:=h6;simp only at this;rw[this,hd_drop h7,ht]
 have HT:=yH (show ∀w',Rel w w'→w'.cell? ⟨gT,off+j*4,none⟩=some (.int .i64 t.1)∧w'.cell? ⟨gT,off+j*4+1,none⟩=some (.string (B t.2.1))∧w'.cell? ⟨gT,off+j*4+2,none⟩=some (.int .i64 t.2.2.1)∧w'.cell? ⟨gT,off+j*4+3,none⟩=some (.int .i64 t.2.2.2) from fun w' hr=>by
  obtain⟨g',off',e',_,a0,a1,a2,a3⟩:=(h3.rel (h1.trans hr)) j h7
  cases e'
  rw[ht] at a0 a1 a2 a3
  exact⟨a0,a1,a2,a3⟩)
 show Calls Tryz.prog 73 #[.pointer (some ⟨g,0,none⟩),.bool cb] w fun e w'=>e= .returned (.int .i64 (kindT cb (hdT ts)))∧Rel w w'
 rw[hhd]
 obtain⟨W1,hW1⟩:∃W1,w=W1:=⟨_,rfl⟩
 subst hW1
 clear h1 h3 h4 h5 h6 ht hhd
 go_enter Tryz.func73,Tryz.ntmps73
 go_wp2_with (fail)
 refine wp_region_held_drew (S:=(fun w'=>Rel w w')) (by kernel_rfl) HW1.out.drew (fun hH=> ?_)
 refine yL [0,1,2,3,4,5,6,7,8,9] (by kernel_rfl) hH (fun _ _ _ _ _=>id) ?_
 iterate 10
  refine yS rfl rfl (by rfl) ?_ ?_ ?_
  rotate_left
  ·intro w' (h:Rel w w');obtain⟨⟨x0,x1,x2⟩,_⟩:=(HB.out.rel h).three;obtain⟨y0,y1,y2,y3⟩:=HT.out w' h;go_simp;try with_reducible rfl
  try simp only[Act.put,yA,yB,yC]
 refine yZ ?_
 refine held_one (j:=10) (by kernel_rfl) rfl (fun K hK=> ?_)
 try simp only[yD,yE,yF]
 rw[if_pos (by rfl)]
 go_simp
 refine hK.out _ _ (hH.alloc _) (fun hH=> ?_)
 clear hK K
 try simp only[Act.put,yA,yB,yC]
 refine held_one (j:=11) (by kernel_rfl) rfl (fun K hK=> ?_)
 try simp only[yD,yE,yF]
 rw[if_pos (by rfl)]
 go_simp
 refine hK.out _ _ (HW1.out.alloc _).drew (fun hH=> ?_)
 clear hK K
 try simp only[Act.put,yA,yB,yC]
 refine wpAnyH_done (by kernel_rfl) ?_ _
 have HW2:=yH (HW1.out.alloc (.cells #[.int .i64 t.1,.string (B t.2.1),.int .i64 t.2.2.1,.int .i64 t.2.2.2] 87)).drew
 have HN2:=yH (Bk.new w 87 #[.int .i64 t.1,.string (B t.2.1),.int .i64 t.2.2.1,.int .i64 t.2.2.2])
 obtain⟨W2,hW2⟩:∃W,(w.alloc (.cells #[.int .i64 t.1,.string (B t.2.1),.int .i64 t.2.2.1,.int .i64 t.2.2.2] 87)).drew=W:=⟨_,rfl⟩
 rw[hW2] at HW2
 have HN:=yH (show Bk W2 w.heap.size 87 #[.int .i64 t.1,.string (B t.2.1),.int .i64 t.2.2.1,.int .i64 t.2.2.2] from by rw[←hW2];exact HN2.out)
 obtain⟨⟨b0,b1,b2,b3⟩,_⟩:=HN.out.four
 have HWW:=yH HW2.out.self
 rw[hW2]
 clear hW2 HN2
 cases hk3:(t.1==3)
 ·have HK:=yH (show Not3 cb t from fun h=>by rw[h.1] at hk3;cases hk3)
  cases cb
  ·cases hk1:(t.1==1)
   ·go_wp2_with (fail)
    go_loopw [6] (fun i wr=>∃q:Nat,1≤q∧q≤13∧i= .int .i64 (q:Int)∧Rel W2 wr∧Hid (∀p:Nat,1≤p→p<q→hitK false t.2.1 (p:Int)=false)) (fun i _=>13-(RowKit.intOf i).toNat)
    case atStart=>exact⟨1,by omega,by omega,rfl,HWW.out,yH (fun p a b=>by omega)⟩
    case round=>
     obtain⟨q,hq1,hq2,rfl,hRq,HQ⟩:=hrel
     obtain⟨⟨d0,d1,d2,d3⟩,_⟩:=(HN.out.rel hRq).four
     have HF:=yH (show kindT false t=0 by unfold kindT;rw[if_neg HK.out,if_neg (fun h=>by rw[h] at hk1;cases hk1)])
     by_cases hq12:q≤12
     all_goals
      go_wp2_with (fail)
      go_ret
      exact⟨ret_int HF.out.symm,HW2.out.trans hRq⟩
   ·go_wp2_with (fail)
    go_loopw [6] (fun i wr=>∃q:Nat,1≤q∧q≤13∧i= .int .i64 (q:Int)∧Rel W2 wr∧Hid (∀p:Nat,1≤p→p<q→hitK false t.2.1 (p:Int)=false)) (fun i _=>13-(RowKit.intOf i).toNat)
    case atStart=>exact⟨1,by omega,by omega,rfl,HWW.out,yH (fun p a b=>by omega)⟩
    case round=>
     obtain⟨q,hq1,hq2,rfl,hRq,HQ⟩:=hrel
     obtain⟨⟨d0,d1,d2,d3⟩,_⟩:=(HN.out.rel hRq).four
     by_cases hq12:q≤12
     ·obtain⟨X,hX⟩:∃X,B (wordK (q:Int))=X:=⟨_,rfl⟩
      have HWd:Hid (∀w',Rel W2 w'→Calls Tryz.prog 46 #[.int .i64 (q:Int)] w' fun e w''=>e= .returned (.string X)∧Rel W2 w''):=yH (fun w' hr=>by have:=rword7_any (q:Int) ⟨by omega,by omega⟩ W2 w' hr;rw[hX] at this;exact this)
      obtain⟨y,hy⟩:∃y,isCond (q:Int)=y:=⟨_,rfl⟩
      have HCd:Hid (∀w',Calls Tryz.prog 44 #[.int .i64 (q:Int)] w' fun e w''=>e= .returned (.bool y)∧w'=w''):=yH (fun w'=>by have:=rcond_any (q:Int) w';rw[hy] at this;exact this)
      have HY:=yH hy
      have HX:=yH hX
      clear hy hX
      have htx:(X.toList==(B t.2.1).toList)=(wordK (q:Int)==t.2.1):=by rw[←HX.out,B_toList,B_toList]
      have hwr:IntKind.i64.wrap ((q:Int)+1)=(q:Int)+1:=by rw[IntKind.wrap_i64];omega
      cases hwb:(wordK (q:Int)==t.2.1)
      ·rw[hwb] at htx
       have HNx:=yH (show ∀p:Nat,1≤p→p<q+1→hitK false t.2.1 (p:Int)=false from fun p a b=>by
        rcases Nat.lt_or_ge p q with h|h
        ·exact HQ.out p a h
        ·obtain rfl:p=q:=by omega
         unfold hitK;rw[hwb];rfl)
       clear hwb
       go_wp2_with (fail)
       refine wp_region_held_drew (S:=(fun w'=>Rel W2 w')) (by kernel_rfl) hRq.drew (fun hH=> ?_)
       refine yL [0,2,3] (by kernel_rfl) hH (fun _ _ _ _ _=>id) ?_
       iterate 3
        refine yS rfl rfl (by rfl) ?_ ?_ ?_
        rotate_left
        ·intro w' (h:Rel W2 w');obtain⟨⟨x0,x1,x2,x3⟩,_⟩:=(HN.out.rel h).four;go_simp;try with_reducible rfl
        try simp only[Act.put,yA,yB,yC]
       refine yZ ?_
       refine held_one (j:=1) (by kernel_rfl) rfl (fun K hK=> ?_)
       try simp only[yD,yE,yF]
       rw[if_pos (by rfl)]
       go_simp
       go_at_call 46
       (with_reducible refine(HWd.out _ hH).mono ?_)
       rintro e w2 ⟨rfl,h2⟩
       refine hK.out _ _ h2 (fun hH=> ?_)
       clear hK K
       try simp only[Act.put,yA,yB,yC]
       refine yL [4,5,6,7,8,9,10] (by kernel_rfl) hH (fun _ _ _ _ _=>id) ?_
       iterate 2
        refine yS rfl rfl (by rfl) ?_ ?_ ?_
        rotate_left
        ·intro w' (h:Rel W2 w');obtain⟨⟨x0,x1,x2,x3⟩,_⟩:=(HN.out.rel h).four;go_simp;try with_reducible rfl
        try simp only[Act.put,yA,yB,yC]
       iterate 4
        refine yV rfl rfl (by rfl) ?_
        try simp only[Act.put,yA,yB,yC]
       refine yS rfl rfl (by rfl) ?_ ?_ ?_
       rotate_left
       ·intro w' (h:Rel W2 w');obtain⟨⟨x0,x1,x2,x3⟩,_⟩:=(HN.out.rel h).four;go_simp;try with_reducible rfl
       try simp only[Act.put,yA,yB,yC]
       refine yZ ?_
       refine wpAnyH_done (by kernel_rfl) ?_ _
       go_wp2_with (fail)
       go_roundw
       case rel=>exact⟨q+1,by omega,by omega,by go_num,hH,HNx⟩
       case measure=>simp[RowKit.intOf];omega
      ·rw[hwb] at htx
       cases y
       ·have HF:=yH (show kindT false t=(q:Int) by
         unfold kindT;rw[if_neg HK.out,if_pos (by simpa using hk1)]
         exact kindW_hit hq1 hq12 HQ.out (by unfold hitK;rw[hwb,HY.out];rfl))
        clear hwb
        go_wp2_with (fail)
        refine wp_region_held_drew (S:=(fun w'=>Rel W2 w')) (by kernel_rfl) hRq.drew (fun hH=> ?_)
        refine yL [0,2,3] (by kernel_rfl) hH (fun _ _ _ _ _=>id) ?_
        iterate 3
         refine yS rfl rfl (by rfl) ?_ ?_ ?_
         rotate_left
         ·intro w' (h:Rel W2 w');obtain⟨⟨x0,x1,x2,x3⟩,_⟩:=(HN.out.rel h).four;go_simp;try with_reducible rfl
         try simp only[Act.put,yA,yB,yC]
        refine yZ ?_
        refine held_one (j:=1) (by kernel_rfl) rfl (fun K hK=> ?_)
        try simp only[yD,yE,yF]
        rw[if_pos (by rfl)]
        go_simp
        go_at_call 46
        (with_reducible refine(HWd.out _ hH).mono ?_)
        rintro e w2 ⟨rfl,h2⟩
        refine hK.out _ _ h2 (fun hH=> ?_)
        clear hK K
        try simp only[Act.put,yA,yB,yC]
        refine yL [4,5,6,8] (by kernel_rfl) hH (fun _ _ _ _ _=>id) ?_
        iterate 4
         refine yS rfl rfl (by rfl) ?_ ?_ ?_
         rotate_left
         ·intro w' (h:Rel W2 w');obtain⟨⟨x0,x1,x2,x3⟩,_⟩:=(HN.out.rel h).four;go_simp;try with_reducible rfl
         try simp only[Act.put,yA,yB,yC]
        refine yZ ?_
        refine held_one (j:=7) (by kernel_rfl) rfl (fun K hK=> ?_)
        try simp only[yD,yE,yF]
        rw[if_pos (by rfl)]
        go_simp
        go_at_call 44
        (with_reducible refine(HCd.out _).mono ?_)
        rintro e w2 ⟨rfl,rfl⟩
        refine hK.out _ _ hH (fun hH=> ?_)
        clear hK K
        try simp only[Act.put,yA,yB,yC]
        refine yL [9,10] (by kernel_rfl) hH (fun _ _ _ _ _=>id) ?_
        iterate 2
         refine yS rfl rfl (by rfl) ?_ ?_ ?_
         rotate_left
         ·intro w' (h:Rel W2 w');obtain⟨⟨x0,x1,x2,x3⟩,_⟩:=(HN.out.rel h).four;go_simp;try with_reducible rfl
         try simp only[Act.put,yA,yB,yC]
        refine yZ ?_
        refine wpAnyH_done (by kernel_rfl) ?_ _
        go_wp2_with (fail)
        go_ret
        exact⟨ret_int HF.out.symm,HW2.out.trans hH⟩
       ·have HNx:=yH (show ∀p:Nat,1≤p→p<q+1→hitK false t.2.1 (p:Int)=false from fun p a b=>by
         rcases Nat.lt_or_ge p q with h|h
         ·exact HQ.out p a h
         ·obtain rfl:p=q:=by omega
          unfold hitK;rw[hwb,HY.out];rfl)
        clear hwb
        go_wp2_with (fail)
        refine wp_region_held_drew (S:=(fun w'=>Rel W2 w')) (by kernel_rfl) hRq.drew (fun hH=> ?_)
        refine yL [0,2,3] (by kernel_rfl) hH (fun _ _ _ _ _=>id) ?_
        iterate 3
         refine yS rfl rfl (by rfl) ?_ ?_ ?_
         rotate_left
         ·intro w' (h:Rel W2 w');obtain⟨⟨x0,x1,x2,x3⟩,_⟩:=(HN.out.rel h).four;go_simp;try with_reducible rfl
         try simp only[Act.put,yA,yB,yC]
        refine yZ ?_
        refine held_one (j:=1) (by kernel_rfl) rfl (fun K hK=> ?_)
        try simp only[yD,yE,yF]
        rw[if_pos (by rfl)]
        go_simp
        go_at_call 46
        (with_reducible refine(HWd.out _ hH).mono ?_)
        rintro e w2 ⟨rfl,h2⟩
        refine hK.out _ _ h2 (fun hH=> ?_)
        clear hK K
        try simp only[Act.put,yA,yB,yC]
        refine yL [4,5,6,8] (by kernel_rfl) hH (fun _ _ _ _ _=>id) ?_
        iterate 4
         refine yS rfl rfl (by rfl) ?_ ?_ ?_
         rotate_left
         ·intro w' (h:Rel W2 w');obtain⟨⟨x0,x1,x2,x3⟩,_⟩:=(HN.out.rel h).four;go_simp;try with_reducible rfl
         try simp only[Act.put,yA,yB,yC]
        refine yZ ?_
        refine held_one (j:=7) (by kernel_rfl) rfl (fun K hK=> ?_)
        try simp only[yD,yE,yF]
        rw[if_pos (by rfl)]
        go_simp
        go_at_call 44
        (with_reducible refine(HCd.out _).mono ?_)
        rintro e w2 ⟨rfl,rfl⟩
        refine hK.out _ _ hH (fun hH=> ?_)
        clear hK K
        try simp only[Act.put,yA,yB,yC]
        refine yL [9,10] (by kernel_rfl) hH (fun _ _ _ _ _=>id) ?_
        iterate 2
         refine yS rfl rfl (by rfl) ?_ ?_ ?_
         rotate_left
         ·intro w' (h:Rel W2 w');obtain⟨⟨x0,x1,x2,x3⟩,_⟩:=(HN.out.rel h).four;go_simp;try with_reducible rfl
         try simp only[Act.put,yA,yB,yC]
        refine yZ ?_
        refine wpAnyH_done (by kernel_rfl) ?_ _
        go_wp2_with (fail)
        go_roundw
        case rel=>exact⟨q+1,by omega,by omega,by go_num,hH,HNx⟩
        case measure=>simp[RowKit.intOf];omega
     ·obtain rfl:q=13:=by omega
      have HF:=yH (show kindT false t=0 by unfold kindT;rw[if_neg HK.out,if_pos (by simpa using hk1)];exact kindW_none HQ.out)
      go_wp2_with (fail)
      go_ret
      exact⟨ret_int HF.out.symm,HW2.out.trans hRq⟩
  ·cases hk1:(t.1==1)
   ·go_wp2_with (fail)
    go_loopw [6] (fun i wr=>∃q:Nat,1≤q∧q≤13∧i= .int .i64 (q:Int)∧Rel W2 wr∧Hid (∀p:Nat,1≤p→p<q→hitK true t.2.1 (p:Int)=false)) (fun i _=>13-(RowKit.intOf i).toNat)
    case atStart=>exact⟨1,by omega,by omega,rfl,HWW.out,yH (fun p a b=>by omega)⟩
    case round=>
     obtain⟨q,hq1,hq2,rfl,hRq,HQ⟩:=hrel
     obtain⟨⟨d0,d1,d2,d3⟩,_⟩:=(HN.out.rel hRq).four
     have HF:=yH (show kindT true t=0 by unfold kindT;rw[if_neg HK.out,if_neg (fun h=>by rw[h] at hk1;cases hk1)])
     by_cases hq12:q≤12
     all_goals
      go_wp2_with (fail)
      go_ret
      exact⟨ret_int HF.out.symm,HW2.out.trans hRq⟩
   ·go_wp2_with (fail)
    go_loopw [6] (fun i wr=>∃q:Nat,1≤q∧q≤13∧i= .int .i64 (q:Int)∧Rel W2 wr∧Hid (∀p:Nat,1≤p→p<q→hitK true t.2.1 (p:Int)=false)) (fun i _=>13-(RowKit.intOf i).toNat)
    case atStart=>exact⟨1,by omega,by omega,rfl,HWW.out,yH (fun p a b=>by omega)⟩
    case round=>
     obtain⟨q,hq1,hq2,rfl,hRq,HQ⟩:=hrel
     obtain⟨⟨d0,d1,d2,d3⟩,_⟩:=(HN.out.rel hRq).four
     by_cases hq12:q≤12
     ·obtain⟨X,hX⟩:∃X,B (wordK (q:Int))=X:=⟨_,rfl⟩
      have HWd:Hid (∀w',Rel W2 w'→Calls Tryz.prog 46 #[.int .i64 (q:Int)] w' fun e w''=>e= .returned (.string X)∧Rel W2 w''):=yH (fun w' hr=>by have:=rword7_any (q:Int) ⟨by omega,by omega⟩ W2 w' hr;rw[hX] at this;exact this)
      obtain⟨y,hy⟩:∃y,isCond (q:Int)=y:=⟨_,rfl⟩
      have HCd:Hid (∀w',Calls Tryz.prog 44 #[.int .i64 (q:Int)] w' fun e w''=>e= .returned (.bool y)∧w'=w''):=yH (fun w'=>by have:=rcond_any (q:Int) w';rw[hy] at this;exact this)
      have HY:=yH hy
      have HX:=yH hX
      clear hy hX
      have htx:(X.toList==(B t.2.1).toList)=(wordK (q:Int)==t.2.1):=by rw[←HX.out,B_toList,B_toList]
      have hwr:IntKind.i64.wrap ((q:Int)+1)=(q:Int)+1:=by rw[IntKind.wrap_i64];omega
      cases hwb:(wordK (q:Int)==t.2.1)
      ·rw[hwb] at htx
       have HNx:=yH (show ∀p:Nat,1≤p→p<q+1→hitK true t.2.1 (p:Int)=false from fun p a b=>by
        rcases Nat.lt_or_ge p q with h|h
        ·exact HQ.out p a h
        ·obtain rfl:p=q:=by omega
         unfold hitK;rw[hwb];rfl)
       clear hwb
       go_wp2_with (fail)
       refine wp_region_held_drew (S:=(fun w'=>Rel W2 w')) (by kernel_rfl) hRq.drew (fun hH=> ?_)
       refine yL [0,2,3] (by kernel_rfl) hH (fun _ _ _ _ _=>id) ?_
       iterate 3
        refine yS rfl rfl (by rfl) ?_ ?_ ?_
        rotate_left
        ·intro w' (h:Rel W2 w');obtain⟨⟨x0,x1,x2,x3⟩,_⟩:=(HN.out.rel h).four;go_simp;try with_reducible rfl
        try simp only[Act.put,yA,yB,yC]
       refine yZ ?_
       refine held_one (j:=1) (by kernel_rfl) rfl (fun K hK=> ?_)
       try simp only[yD,yE,yF]
       rw[if_pos (by rfl)]
       go_simp
       go_at_call 46
       (with_reducible refine(HWd.out _ hH).mono ?_)
       rintro e w2 ⟨rfl,h2⟩
       refine hK.out _ _ h2 (fun hH=> ?_)
       clear hK K
       try simp only[Act.put,yA,yB,yC]
       refine yL [4,5,6,7,8,9,10] (by kernel_rfl) hH (fun _ _ _ _ _=>id) ?_
       iterate 2
        refine yS rfl rfl (by rfl) ?_ ?_ ?_
        rotate_left
        ·intro w' (h:Rel W2 w');obtain⟨⟨x0,x1,x2,x3⟩,_⟩:=(HN.out.rel h).four;go_simp;try with_reducible rfl
        try simp only[Act.put,yA,yB,yC]
       iterate 4
        refine yV rfl rfl (by rfl) ?_
        try simp only[Act.put,yA,yB,yC]
       refine yS rfl rfl (by rfl) ?_ ?_ ?_
       rotate_left
       ·intro w' (h:Rel W2 w');obtain⟨⟨x0,x1,x2,x3⟩,_⟩:=(HN.out.rel h).four;go_simp;try with_reducible rfl
       try simp only[Act.put,yA,yB,yC]
       refine yZ ?_
       refine wpAnyH_done (by kernel_rfl) ?_ _
       go_wp2_with (fail)
       go_roundw
       case rel=>exact⟨q+1,by omega,by omega,by go_num,hH,HNx⟩
       case measure=>simp[RowKit.intOf];omega
      ·rw[hwb] at htx
       cases y
       ·have HNx:=yH (show ∀p:Nat,1≤p→p<q+1→hitK true t.2.1 (p:Int)=false from fun p a b=>by
         rcases Nat.lt_or_ge p q with h|h
         ·exact HQ.out p a h
         ·obtain rfl:p=q:=by omega
          unfold hitK;rw[hwb,HY.out];rfl)
        clear hwb
        go_wp2_with (fail)
        refine wp_region_held_drew (S:=(fun w'=>Rel W2 w')) (by kernel_rfl) hRq.drew (fun hH=> ?_)
        refine yL [0,2,3] (by kernel_rfl) hH (fun _ _ _ _ _=>id) ?_
        iterate 3
         refine yS rfl rfl (by rfl) ?_ ?_ ?_
         rotate_left
         ·intro w' (h:Rel W2 w');obtain⟨⟨x0,x1,x2,x3⟩,_⟩:=(HN.out.rel h).four;go_simp;try with_reducible rfl
         try simp only[Act.put,yA,yB,yC]
        refine yZ ?_
        refine held_one (j:=1) (by kernel_rfl) rfl (fun K hK=> ?_)
        try simp only[yD,yE,yF]
        rw[if_pos (by rfl)]
        go_simp
        go_at_call 46
        (with_reducible refine(HWd.out _ hH).mono ?_)
        rintro e w2 ⟨rfl,h2⟩
        refine hK.out _ _ h2 (fun hH=> ?_)
        clear hK K
        try simp only[Act.put,yA,yB,yC]
        refine yL [4,5,6,8] (by kernel_rfl) hH (fun _ _ _ _ _=>id) ?_
        iterate 4
         refine yS rfl rfl (by rfl) ?_ ?_ ?_
         rotate_left
         ·intro w' (h:Rel W2 w');obtain⟨⟨x0,x1,x2,x3⟩,_⟩:=(HN.out.rel h).four;go_simp;try with_reducible rfl
         try simp only[Act.put,yA,yB,yC]
        refine yZ ?_
        refine held_one (j:=7) (by kernel_rfl) rfl (fun K hK=> ?_)
        try simp only[yD,yE,yF]
        rw[if_pos (by rfl)]
        go_simp
        go_at_call 44
        (with_reducible refine(HCd.out _).mono ?_)
        rintro e w2 ⟨rfl,rfl⟩
        refine hK.out _ _ hH (fun hH=> ?_)
        clear hK K
        try simp only[Act.put,yA,yB,yC]
        refine yL [9,10] (by kernel_rfl) hH (fun _ _ _ _ _=>id) ?_
        iterate 2
         refine yS rfl rfl (by rfl) ?_ ?_ ?_
         rotate_left
         ·intro w' (h:Rel W2 w');obtain⟨⟨x0,x1,x2,x3⟩,_⟩:=(HN.out.rel h).four;go_simp;try with_reducible rfl
         try simp only[Act.put,yA,yB,yC]
        refine yZ ?_
        refine wpAnyH_done (by kernel_rfl) ?_ _
        go_wp2_with (fail)
        go_roundw
        case rel=>exact⟨q+1,by omega,by omega,by go_num,hH,HNx⟩
        case measure=>simp[RowKit.intOf];omega
       ·have HF:=yH (show kindT true t=(q:Int) by
         unfold kindT;rw[if_neg HK.out,if_pos (by simpa using hk1)]
         exact kindW_hit hq1 hq12 HQ.out (by unfold hitK;rw[hwb,HY.out];rfl))
        clear hwb
        go_wp2_with (fail)
        refine wp_region_held_drew (S:=(fun w'=>Rel W2 w')) (by kernel_rfl) hRq.drew (fun hH=> ?_)
        refine yL [0,2,3] (by kernel_rfl) hH (fun _ _ _ _ _=>id) ?_
        iterate 3
         refine yS rfl rfl (by rfl) ?_ ?_ ?_
         rotate_left
         ·intro w' (h:Rel W2 w');obtain⟨⟨x0,x1,x2,x3⟩,_⟩:=(HN.out.rel h).four;go_simp;try with_reducible rfl
         try simp only[Act.put,yA,yB,yC]
        refine yZ ?_
        refine held_one (j:=1) (by kernel_rfl) rfl (fun K hK=> ?_)
        try simp only[yD,yE,yF]
        rw[if_pos (by rfl)]
        go_simp
        go_at_call 46
        (with_reducible refine(HWd.out _ hH).mono ?_)
        rintro e w2 ⟨rfl,h2⟩
        refine hK.out _ _ h2 (fun hH=> ?_)
        clear hK K
        try simp only[Act.put,yA,yB,yC]
        refine yL [4,5,6,8] (by kernel_rfl) hH (fun _ _ _ _ _=>id) ?_
        iterate 4
         refine yS rfl rfl (by rfl) ?_ ?_ ?_
         rotate_left
         ·intro w' (h:Rel W2 w');obtain⟨⟨x0,x1,x2,x3⟩,_⟩:=(HN.out.rel h).four;go_simp;try with_reducible rfl
         try simp only[Act.put,yA,yB,yC]
        refine yZ ?_
        refine held_one (j:=7) (by kernel_rfl) rfl (fun K hK=> ?_)
        try simp only[yD,yE,yF]
        rw[if_pos (by rfl)]
        go_simp
        go_at_call 44
        (with_reducible refine(HCd.out _).mono ?_)
        rintro e w2 ⟨rfl,rfl⟩
        refine hK.out _ _ hH (fun hH=> ?_)
        clear hK K
        try simp only[Act.put,yA,yB,yC]
        refine yL [9,10] (by kernel_rfl) hH (fun _ _ _ _ _=>id) ?_
        iterate 2
         refine yS rfl rfl (by rfl) ?_ ?_ ?_
         rotate_left
         ·intro w' (h:Rel W2 w');obtain⟨⟨x0,x1,x2,x3⟩,_⟩:=(HN.out.rel h).four;go_simp;try with_reducible rfl
         try simp only[Act.put,yA,yB,yC]
        refine yZ ?_
        refine wpAnyH_done (by kernel_rfl) ?_ _
        go_wp2_with (fail)
        go_ret
        exact⟨ret_int HF.out.symm,HW2.out.trans hH⟩
     ·obtain rfl:q=13:=by omega
      have HF:=yH (show kindT true t=0 by unfold kindT;rw[if_neg HK.out,if_pos (by simpa using hk1)];exact kindW_none HQ.out)
      go_wp2_with (fail)
      go_ret
      exact⟨ret_int HF.out.symm,HW2.out.trans hRq⟩
 ·have hk1:(t.1==1)=false:=by simp only[beq_iff_eq] at hk3;rw[hk3];rfl
  cases cb
  ·have HF:=yH (show kindT false t=4 by unfold kindT;rw[if_pos ⟨by simpa using hk3,rfl⟩])
   go_wp2_with (fail)
   go_ret
   exact⟨ret_int HF.out.symm,HW2.out⟩
  ·have HK:=yH (show Not3 true t from fun h=>by cases h.2)
   go_wp2_with (fail)
   go_loopw [6] (fun i wr=>∃q:Nat,1≤q∧q≤13∧i= .int .i64 (q:Int)∧Rel W2 wr∧Hid (∀p:Nat,1≤p→p<q→hitK true t.2.1 (p:Int)=false)) (fun i _=>13-(RowKit.intOf i).toNat)
   case atStart=>exact⟨1,by omega,by omega,rfl,HWW.out,yH (fun p a b=>by omega)⟩
   case round=>
    obtain⟨q,hq1,hq2,rfl,hRq,HQ⟩:=hrel
    obtain⟨⟨d0,d1,d2,d3⟩,_⟩:=(HN.out.rel hRq).four
    have HF:=yH (show kindT true t=0 by unfold kindT;rw[if_neg HK.out,if_neg (fun h=>by rw[h] at hk1;cases hk1)])
    by_cases hq12:q≤12
    all_goals
     go_wp2_with (fail)
     go_ret
     exact⟨ret_int HF.out.symm,HW2.out.trans hRq⟩
end Go.Proofs.YtjhjdiaomnpkmaaGreatDoor
