/- Reading the document's own parse. -/

import Derived.Test.YtfekhbeaphpelaaGreatDoorY03
set_option maxRecDepth 100000
set_option maxHeartbeats 8000000
set_option linter.unusedVariables false
set_option linter.unusedSimpArgs false
namespace Go.Proofs.YtfekhbeaphpelaaGreatDoor
open Go.RowKit Go.Lib
theorem find_hit(p:Int→Bool)(n:Nat):∀(s k:Nat),s≤k→k<s+n→(∀q:Nat,s≤q→q<k→p (q:Int)=false)→p (k:Int)=true→((List.range' s n).map fun q:Nat=>(q:Int)).find? p=some (k:Int):=by
 induction n with
 |zero=>intro s k h1 h2;omega
 |succ n ih=>
  intro s k h1 h2 hq hk
  rw[List.range'_succ,List.map_cons]
  by_cases e:s=k
  ·subst e;rw[List.find?_cons_of_pos hk]
  ·rw[List.find?_cons_of_neg (by rw[hq s (Nat.le_refl _) (by omega)];simp)]
   exact ih (s+1) k (by omega) (by omega) (fun q a b=>hq q (by omega) b) hk
theorem find_none(p:Int→Bool)(n:Nat):∀(s:Nat),(∀q:Nat,s≤q→q<s+n→p (q:Int)=false)→((List.range' s n).map fun q:Nat=>(q:Int)).find? p=none:=by
 induction n with
 |zero=>intro s _;rfl
 |succ n ih=>
  intro s hq
  rw[List.range'_succ,List.map_cons,List.find?_cons_of_neg (by rw[hq s (Nat.le_refl _) (by omega)];simp)]
  exact ih (s+1) (fun q a b=>hq q (by omega) (by omega))
def Not3(cb:Bool)(t:Tok):Prop:= ¬(t.1=3∧cb=false)
def hitK(cb:Bool)(x:List UInt8)(k:Int):Bool:=wordK k==x&&isCond k==cb
theorem kindW_list(cb:Bool)(x:List UInt8):kindW cb x=(((List.range' 1 12).map fun q:Nat=>(q:Int)).find? (hitK cb x)).getD 0:=rfl
theorem kindW_hit{cb:Bool}{x:List UInt8}{k:Nat}(h1:1≤k)(h2:k≤12)(hq:∀q:Nat,1≤q→q<k→hitK cb x (q:Int)=false)(hk:hitK cb x (k:Int)=true):kindW cb x=(k:Int):=by
 rw[kindW_list,find_hit _ 12 1 k h1 (by omega) hq hk];rfl
theorem kindW_none{cb:Bool}{x:List UInt8}(hq:∀q:Nat,1≤q→q<13→hitK cb x (q:Int)=false):kindW cb x=0:=by
 rw[kindW_list,find_none _ 12 1 (fun q a b=>hq q a (by omega))];rfl
theorem rkind_any(V:World)(A:Option Addr)(c:Nat)(all:List Tok)(g:Nat)(s:PS)(cb:Bool)(w:World)(h:StR V A c all w g s):
  Calls Tryz.prog 61 #[.pointer (some ⟨g,0,none⟩),.bool cb] w fun e w'=>e= .returned (yI (kindT cb (hdT s.1)))∧Rel w w':=by
 obtain⟨j,h1,h2,h3,h4,h5,h6,h7⟩:=h
 obtain⟨ts,e⟩:=s
 have hgl:=h5.lt
 have HW1:=yH h1.self
 have HB:=yH h5
 obtain⟨gT,off,rfl,hb,_⟩:=h3 j h7
 obtain⟨t,ht⟩:∃t,all[j]=t:=⟨_,rfl⟩
 have hhd:hdT ts=t:=by have:=h6;simp only at this;rw[this,hd_drop h7,ht]
 have HT:=yH (show ∀w',Rel w w'→w'.cell? ⟨gT,off+j*4,none⟩=some (yI t.1)∧w'.cell? ⟨gT,off+j*4+1,none⟩=some (.string (B t.2.1))∧w'.cell? ⟨gT,off+j*4+2,none⟩=some (yI t.2.2.1)∧w'.cell? ⟨gT,off+j*4+3,none⟩=some (yI t.2.2.2) from fun w' hr=>by
  obtain⟨g',off',e',_,a0,a1,a2,a3⟩:=(h3.rel (h1.trans hr)) j h7
  cases e'
  rw[ht] at a0 a1 a2 a3
  exact⟨a0,a1,a2,a3⟩)
 show Calls Tryz.prog 61 #[.pointer (some ⟨g,0,none⟩),.bool cb] w fun e w'=>e= .returned (yI (kindT cb (hdT ts)))∧Rel w w'
 rw[hhd]
 obtain⟨W1,hW1⟩:∃W1,w=W1:=⟨_,rfl⟩
 subst hW1
 clear h1 h3 h4 h5 h6 ht hhd
 go_enter Tryz.func61,Tryz.ntmps61
 go_wp2_with (fail)
 refine wp_region_held_drew (S:=(fun w'=>Rel w w')) (by kernel_rfl) HW1.out.drew (fun hH=> ?_)
 refine yL [0,1,2,3,4,5,6,7,8,9] (by kernel_rfl) hH (fun _ _ _ _ _=>id) ?_
 iterate 10
  refine yS rfl rfl (by rfl) ?_ ?_ ?_
  rotate_left
  ·intro w' (h:Rel w w');obtain⟨⟨x0,x1,x2⟩,_⟩:=(HB.out.rel h).three;obtain⟨y0,y1,y2,y3⟩:=HT.out w' h;go_simp;try with_reducible rfl
  try simp only[Act.put,yA,yB,yC]
 refine yZ ?_
 refine held_one (j:=10) (by kernel_rfl) rfl (fun K hK=> ?_)
 try simp only[yD,yE,yF]
 rw[if_pos (by rfl)]
 go_simp
 refine hK.out _ _ (hH.alloc _) (fun hH=> ?_)
 clear hK K
 try simp only[Act.put,yA,yB,yC]
 refine held_one (j:=11) (by kernel_rfl) rfl (fun K hK=> ?_)
 try simp only[yD,yE,yF]
 rw[if_pos (by rfl)]
 go_simp
 refine hK.out _ _ (HW1.out.alloc _).drew (fun hH=> ?_)
 clear hK K
 try simp only[Act.put,yA,yB,yC]
 refine wpAnyH_done (by kernel_rfl) ?_ _
 have HW2:=yH (HW1.out.alloc (.cells #[yI t.1,.string (B t.2.1),yI t.2.2.1,yI t.2.2.2] 78)).drew
 have HN2:=yH (Bk.new w 78 #[yI t.1,.string (B t.2.1),yI t.2.2.1,yI t.2.2.2])
 obtain⟨W2,hW2⟩:∃W,(w.alloc (.cells #[yI t.1,.string (B t.2.1),yI t.2.2.1,yI t.2.2.2] 78)).drew=W:=⟨_,rfl⟩
 rw[hW2] at HW2
 have HN:=yH (show Bk W2 w.heap.size 78 #[yI t.1,.string (B t.2.1),yI t.2.2.1,yI t.2.2.2] from by rw[←hW2];exact HN2.out)
 obtain⟨⟨b0,b1,b2,b3⟩,_⟩:=HN.out.four
 have HWW:=yH HW2.out.self
 rw[hW2]
 clear hW2 HN2
 cases hk3:(t.1==3)
 ·have HK:=yH (show Not3 cb t from fun h=>by rw[h.1] at hk3;cases hk3)
  cases cb
  ·cases hk1:(t.1==1)
   ·go_wp2_with (fail)
    go_loopw [6] (fun i wr=>∃q:Nat,1≤q∧q≤13∧i=yI (q:Int)∧Rel W2 wr∧Hid (∀p:Nat,1≤p→p<q→hitK false t.2.1 (p:Int)=false)) (fun i _=>13-(RowKit.intOf i).toNat)
    case atStart=>exact⟨1,by omega,by omega,rfl,HWW.out,yH (fun p a b=>by omega)⟩
    case round=>
     obtain⟨q,hq1,hq2,rfl,hRq,HQ⟩:=hrel
     obtain⟨⟨d0,d1,d2,d3⟩,_⟩:=(HN.out.rel hRq).four
     have HF:=yH (show kindT false t=0 by unfold kindT;rw[if_neg HK.out,if_neg (fun h=>by rw[h] at hk1;cases hk1)])
     by_cases hq12:q≤12
     all_goals
      go_wp2_with (fail)
      go_ret
      exact⟨ret_int HF.out.symm,HW2.out.trans hRq⟩
   ·go_wp2_with (fail)
    go_loopw [6] (fun i wr=>∃q:Nat,1≤q∧q≤13∧i=yI (q:Int)∧Rel W2 wr∧Hid (∀p:Nat,1≤p→p<q→hitK false t.2.1 (p:Int)=false)) (fun i _=>13-(RowKit.intOf i).toNat)
    case atStart=>exact⟨1,by omega,by omega,rfl,HWW.out,yH (fun p a b=>by omega)⟩
    case round=>
     obtain⟨q,hq1,hq2,rfl,hRq,HQ⟩:=hrel
     obtain⟨⟨d0,d1,d2,d3⟩,_⟩:=(HN.out.rel hRq).four
     by_cases hq12:q≤12
     ·obtain⟨X,hX⟩:∃X,B (wordK (q:Int))=X:=⟨_,rfl⟩
      have HWd:Hid (∀w',Rel W2 w'→Calls Tryz.prog 49 #[yI (q:Int)] w' fun e w''=>e= .returned (.string X)∧Rel W2 w''):=yH (fun w' hr=>by have:=rword7_any (q:Int) ⟨by omega,by omega⟩ W2 w' hr;rw[hX] at this;exact this)
      obtain⟨y,hy⟩:∃y,isCond (q:Int)=y:=⟨_,rfl⟩
      have HCd:Hid (∀w',Calls Tryz.prog 41 #[yI (q:Int)] w' fun e w''=>e= .returned (.bool y)∧w'=w''):=yH (fun w'=>by have:=rcond_any (q:Int) w';rw[hy] at this;exact this)
      have HY:=yH hy
      have HX:=yH hX
      clear hy hX
      have htx:(X.toList==(B t.2.1).toList)=(wordK (q:Int)==t.2.1):=by rw[←HX.out,B_toList,B_toList]
      have hwr:IntKind.i64.wrap ((q:Int)+1)=(q:Int)+1:=by rw[IntKind.wrap_i64];omega
      cases hwb:(wordK (q:Int)==t.2.1)
      ·rw[hwb] at htx
       have HNx:=yH (show ∀p:Nat,1≤p→p<q+1→hitK false t.2.1 (p:Int)=false from fun p a b=>by
        rcases Nat.lt_or_ge p q with h|h
        ·exact HQ.out p a h
        ·obtain rfl:p=q:=by omega
         unfold hitK;rw[hwb];rfl)
       clear hwb
       go_wp2_with (fail)
       refine wp_region_held_drew (S:=(fun w'=>Rel W2 w')) (by kernel_rfl) hRq.drew (fun hH=> ?_)
       refine yL [0,2,3] (by kernel_rfl) hH (fun _ _ _ _ _=>id) ?_
       iterate 3
        refine yS rfl rfl (by rfl) ?_ ?_ ?_
        rotate_left
        ·intro w' (h:Rel W2 w');obtain⟨⟨x0,x1,x2,x3⟩,_⟩:=(HN.out.rel h).four;go_simp;try with_reducible rfl
        try simp only[Act.put,yA,yB,yC]
       refine yZ ?_
       refine held_one (j:=1) (by kernel_rfl) rfl (fun K hK=> ?_)
       try simp only[yD,yE,yF]
       rw[if_pos (by rfl)]
       go_simp
       go_at_call 49
       (with_reducible refine(HWd.out _ hH).mono ?_)
       rintro e w2 ⟨rfl,h2⟩
       refine hK.out _ _ h2 (fun hH=> ?_)
       clear hK K
       try simp only[Act.put,yA,yB,yC]
       refine yL [4,5,6,7,8,9,10] (by kernel_rfl) hH (fun _ _ _ _ _=>id) ?_
       iterate 2
        refine yS rfl rfl (by rfl) ?_ ?_ ?_
        rotate_left
        ·intro w' (h:Rel W2 w');obtain⟨⟨x0,x1,x2,x3⟩,_⟩:=(HN.out.rel h).four;go_simp;try with_reducible rfl
        try simp only[Act.put,yA,yB,yC]
       iterate 4
        refine yV rfl rfl (by rfl) ?_
        try simp only[Act.put,yA,yB,yC]
       refine yS rfl rfl (by rfl) ?_ ?_ ?_
       rotate_left
       ·intro w' (h:Rel W2 w');obtain⟨⟨x0,x1,x2,x3⟩,_⟩:=(HN.out.rel h).four;go_simp;try with_reducible rfl
       try simp only[Act.put,yA,yB,yC]
       refine yZ ?_
       refine wpAnyH_done (by kernel_rfl) ?_ _
       go_wp2_with (fail)
       go_roundw
       case rel=>exact⟨q+1,by omega,by omega,by go_num,hH,HNx⟩
       case measure=>simp[RowKit.intOf];omega
      ·rw[hwb] at htx
       cases y
       ·have HF:=yH (show kindT false t=(q:Int) by
         unfold kindT;rw[if_neg HK.out,if_pos (by simpa using hk1)]
         exact kindW_hit hq1 hq12 HQ.out (by unfold hitK;rw[hwb,HY.out];rfl))
        clear hwb
        go_wp2_with (fail)
        refine wp_region_held_drew (S:=(fun w'=>Rel W2 w')) (by kernel_rfl) hRq.drew (fun hH=> ?_)
        refine yL [0,2,3] (by kernel_rfl) hH (fun _ _ _ _ _=>id) ?_
        iterate 3
         refine yS rfl rfl (by rfl) ?_ ?_ ?_
         rotate_left
         ·intro w' (h:Rel W2 w');obtain⟨⟨x0,x1,x2,x3⟩,_⟩:=(HN.out.rel h).four;go_simp;try with_reducible rfl
         try simp only[Act.put,yA,yB,yC]
        refine yZ ?_
        refine held_one (j:=1) (by kernel_rfl) rfl (fun K hK=> ?_)
        try simp only[yD,yE,yF]
        rw[if_pos (by rfl)]
        go_simp
        go_at_call 49
        (with_reducible refine(HWd.out _ hH).mono ?_)
        rintro e w2 ⟨rfl,h2⟩
        refine hK.out _ _ h2 (fun hH=> ?_)
        clear hK K
        try simp only[Act.put,yA,yB,yC]
        refine yL [4,5,6,8] (by kernel_rfl) hH (fun _ _ _ _ _=>id) ?_
        iterate 4
         refine yS rfl rfl (by rfl) ?_ ?_ ?_
         rotate_left
         ·intro w' (h:Rel W2 w');obtain⟨⟨x0,x1,x2,x3⟩,_⟩:=(HN.out.rel h).four;go_simp;try with_reducible rfl
         try simp only[Act.put,yA,yB,yC]
        refine yZ ?_
        refine held_one (j:=7) (by kernel_rfl) rfl (fun K hK=> ?_)
        try simp only[yD,yE,yF]
        rw[if_pos (by rfl)]
        go_simp
        go_at_call 41
        (with_reducible refine(HCd.out _).mono ?_)
        rintro e w2 ⟨rfl,rfl⟩
        refine hK.out _ _ hH (fun hH=> ?_)
        clear hK K
        try simp only[Act.put,yA,yB,yC]
        refine yL [9,10] (by kernel_rfl) hH (fun _ _ _ _ _=>id) ?_
        iterate 2
         refine yS rfl rfl (by rfl) ?_ ?_ ?_
         rotate_left
         ·intro w' (h:Rel W2 w');obtain⟨⟨x0,x1,x2,x3⟩,_⟩:=(HN.out.rel h).four;go_simp;try with_reducible rfl
         try simp only[Act.put,yA,yB,yC]
        refine yZ ?_
        refine wpAnyH_done (by kernel_rfl) ?_ _
        go_wp2_with (fail)
        go_ret
        exact⟨ret_int HF.out.symm,HW2.out.trans hH⟩
       ·have HNx:=yH (show ∀p:Nat,1≤p→p<q+1→hitK false t.2.1 (p:Int)=false from fun p a b=>by
         rcases Nat.lt_or_ge p q with h|h
         ·exact HQ.out p a h
         ·obtain rfl:p=q:=by omega
          unfold hitK;rw[hwb,HY.out];rfl)
        clear hwb
        go_wp2_with (fail)
        refine wp_region_held_drew (S:=(fun w'=>Rel W2 w')) (by kernel_rfl) hRq.drew (fun hH=> ?_)
        refine yL [0,2,3] (by kernel_rfl) hH (fun _ _ _ _ _=>id) ?_
        iterate 3
         refine yS rfl rfl (by rfl) ?_ ?_ ?_
         rotate_left
         ·intro w' (h:Rel W2 w');obtain⟨⟨x0,x1,x2,x3⟩,_⟩:=(HN.out.rel h).four;go_simp;try with_reducible rfl
         try simp only[Act.put,yA,yB,yC]
        refine yZ ?_
        refine held_one (j:=1) (by kernel_rfl) rfl (fun K hK=> ?_)
        try simp only[yD,yE,yF]
        rw[if_pos (by rfl)]
        go_simp
        go_at_call 49
        (with_reducible refine(HWd.out _ hH).mono ?_)
        rintro e w2 ⟨rfl,h2⟩
        refine hK.out _ _ h2 (fun hH=> ?_)
        clear hK K
        try simp only[Act.put,yA,yB,yC]
        refine yL [4,5,6,8] (by kernel_rfl) hH (fun _ _ _ _ _=>id) ?_
        iterate 4
         refine yS rfl rfl (by rfl) ?_ ?_ ?_
         rotate_left
         ·intro w' (h:Rel W2 w');obtain⟨⟨x0,x1,x2,x3⟩,_⟩:=(HN.out.rel h).four;go_simp;try with_reducible rfl
         try simp only[Act.put,yA,yB,yC]
        refine yZ ?_
        refine held_one (j:=7) (by kernel_rfl) rfl (fun K hK=> ?_)
        try simp only[yD,yE,yF]
        rw[if_pos (by rfl)]
        go_simp
        go_at_call 41
        (with_reducible refine(HCd.out _).mono ?_)
        rintro e w2 ⟨rfl,rfl⟩
        refine hK.out _ _ hH (fun hH=> ?_)
        clear hK K
        try simp only[Act.put,yA,yB,yC]
        refine yL [9,10] (by kernel_rfl) hH (fun _ _ _ _ _=>id) ?_
        iterate 2
         refine yS rfl rfl (by rfl) ?_ ?_ ?_
         rotate_left
         ·intro w' (h:Rel W2 w');obtain⟨⟨x0,x1,x2,x3⟩,_⟩:=(HN.out.rel h).four;go_simp;try with_reducible rfl
         try simp only[Act.put,yA,yB,yC]
        refine yZ ?_
        refine wpAnyH_done (by kernel_rfl) ?_ _
        go_wp2_with (fail)
        go_roundw
        case rel=>exact⟨q+1,by omega,by omega,by go_num,hH,HNx⟩
        case measure=>simp[RowKit.intOf];omega
     ·obtain rfl:q=13:=by omega
      have HF:=yH (show kindT false t=0 by unfold kindT;rw[if_neg HK.out,if_pos (by simpa using hk1)];exact kindW_none HQ.out)
      go_wp2_with (fail)
      go_ret
      exact⟨ret_int HF.out.symm,HW2.out.trans hRq⟩
  ·cases hk1:(t.1==1)
   ·go_wp2_with (fail)
    go_loopw [6] (fun i wr=>∃q:Nat,1≤q∧q≤13∧i=yI (q:Int)∧Rel W2 wr∧Hid (∀p:Nat,1≤p→p<q→hitK true t.2.1 (p:Int)=false)) (fun i _=>13-(RowKit.intOf i).toNat)
    case atStart=>exact⟨1,by omega,by omega,rfl,HWW.out,yH (fun p a b=>by omega)⟩
    case round=>
     obtain⟨q,hq1,hq2,rfl,hRq,HQ⟩:=hrel
     obtain⟨⟨d0,d1,d2,d3⟩,_⟩:=(HN.out.rel hRq).four
     have HF:=yH (show kindT true t=0 by unfold kindT;rw[if_neg HK.out,if_neg (fun h=>by rw[h] at hk1;cases hk1)])
     by_cases hq12:q≤12
     all_goals
      go_wp2_with (fail)
      go_ret
      exact⟨ret_int HF.out.symm,HW2.out.trans hRq⟩
   ·go_wp2_with (fail)
    go_loopw [6] (fun i wr=>∃q:Nat,1≤q∧q≤13∧i=yI (q:Int)∧Rel W2 wr∧Hid (∀p:Nat,1≤p→p<q→hitK true t.2.1 (p:Int)=false)) (fun i _=>13-(RowKit.intOf i).toNat)
    case atStart=>exact⟨1,by omega,by omega,rfl,HWW.out,yH (fun p a b=>by omega)⟩
    case round=>
     obtain⟨q,hq1,hq2,rfl,hRq,HQ⟩:=hrel
     obtain⟨⟨d0,d1,d2,d3⟩,_⟩:=(HN.out.rel hRq).four
     by_cases hq12:q≤12
     ·obtain⟨X,hX⟩:∃X,B (wordK (q:Int))=X:=⟨_,rfl⟩
      have HWd:Hid (∀w',Rel W2 w'→Calls Tryz.prog 49 #[yI (q:Int)] w' fun e w''=>e= .returned (.string X)∧Rel W2 w''):=yH (fun w' hr=>by have:=rword7_any (q:Int) ⟨by omega,by omega⟩ W2 w' hr;rw[hX] at this;exact this)
      obtain⟨y,hy⟩:∃y,isCond (q:Int)=y:=⟨_,rfl⟩
      have HCd:Hid (∀w',Calls Tryz.prog 41 #[yI (q:Int)] w' fun e w''=>e= .returned (.bool y)∧w'=w''):=yH (fun w'=>by have:=rcond_any (q:Int) w';rw[hy] at this;exact this)
      have HY:=yH hy
      have HX:=yH hX
      clear hy hX
      have htx:(X.toList==(B t.2.1).toList)=(wordK (q:Int)==t.2.1):=by rw[←HX.out,B_toList,B_toList]
      have hwr:IntKind.i64.wrap ((q:Int)+1)=(q:Int)+1:=by rw[IntKind.wrap_i64];omega
      cases hwb:(wordK (q:Int)==t.2.1)
      ·rw[hwb] at htx
       have HNx:=yH (show ∀p:Nat,1≤p→p<q+1→hitK true t.2.1 (p:Int)=false from fun p a b=>by
        rcases Nat.lt_or_ge p q with h|h
        ·exact HQ.out p a h
        ·obtain rfl:p=q:=by omega
         unfold hitK;rw[hwb];rfl)
       clear hwb
       go_wp2_with (fail)
       refine wp_region_held_drew (S:=(fun w'=>Rel W2 w')) (by kernel_rfl) hRq.drew (fun hH=> ?_)
       refine yL [0,2,3] (by kernel_rfl) hH (fun _ _ _ _ _=>id) ?_
       iterate 3
        refine yS rfl rfl (by rfl) ?_ ?_ ?_
        rotate_left
        ·intro w' (h:Rel W2 w');obtain⟨⟨x0,x1,x2,x3⟩,_⟩:=(HN.out.rel h).four;go_simp;try with_reducible rfl
        try simp only[Act.put,yA,yB,yC]
       refine yZ ?_
       refine held_one (j:=1) (by kernel_rfl) rfl (fun K hK=> ?_)
       try simp only[yD,yE,yF]
       rw[if_pos (by rfl)]
       go_simp
       go_at_call 49
       (with_reducible refine(HWd.out _ hH).mono ?_)
       rintro e w2 ⟨rfl,h2⟩
       refine hK.out _ _ h2 (fun hH=> ?_)
       clear hK K
       try simp only[Act.put,yA,yB,yC]
       refine yL [4,5,6,7,8,9,10] (by kernel_rfl) hH (fun _ _ _ _ _=>id) ?_
       iterate 2
        refine yS rfl rfl (by rfl) ?_ ?_ ?_
        rotate_left
        ·intro w' (h:Rel W2 w');obtain⟨⟨x0,x1,x2,x3⟩,_⟩:=(HN.out.rel h).four;go_simp;try with_reducible rfl
        try simp only[Act.put,yA,yB,yC]
       iterate 4
        refine yV rfl rfl (by rfl) ?_
        try simp only[Act.put,yA,yB,yC]
       refine yS rfl rfl (by rfl) ?_ ?_ ?_
       rotate_left
       ·intro w' (h:Rel W2 w');obtain⟨⟨x0,x1,x2,x3⟩,_⟩:=(HN.out.rel h).four;go_simp;try with_reducible rfl
       try simp only[Act.put,yA,yB,yC]
       refine yZ ?_
       refine wpAnyH_done (by kernel_rfl) ?_ _
       go_wp2_with (fail)
       go_roundw
       case rel=>exact⟨q+1,by omega,by omega,by go_num,hH,HNx⟩
       case measure=>simp[RowKit.intOf];omega
      ·rw[hwb] at htx
       cases y
       ·have HNx:=yH (show ∀p:Nat,1≤p→p<q+1→hitK true t.2.1 (p:Int)=false from fun p a b=>by
         rcases Nat.lt_or_ge p q with h|h
         ·exact HQ.out p a h
         ·obtain rfl:p=q:=by omega
          unfold hitK;rw[hwb,HY.out];rfl)
        clear hwb
        go_wp2_with (fail)
        refine wp_region_held_drew (S:=(fun w'=>Rel W2 w')) (by kernel_rfl) hRq.drew (fun hH=> ?_)
        refine yL [0,2,3] (by kernel_rfl) hH (fun _ _ _ _ _=>id) ?_
        iterate 3
         refine yS rfl rfl (by rfl) ?_ ?_ ?_
         rotate_left
         ·intro w' (h:Rel W2 w');obtain⟨⟨x0,x1,x2,x3⟩,_⟩:=(HN.out.rel h).four;go_simp;try with_reducible rfl
         try simp only[Act.put,yA,yB,yC]
        refine yZ ?_
        refine held_one (j:=1) (by kernel_rfl) rfl (fun K hK=> ?_)
        try simp only[yD,yE,yF]
        rw[if_pos (by rfl)]
        go_simp
        go_at_call 49
        (with_reducible refine(HWd.out _ hH).mono ?_)
        rintro e w2 ⟨rfl,h2⟩
        refine hK.out _ _ h2 (fun hH=> ?_)
        clear hK K
        try simp only[Act.put,yA,yB,yC]
        refine yL [4,5,6,8] (by kernel_rfl) hH (fun _ _ _ _ _=>id) ?_
        iterate 4
         refine yS rfl rfl (by rfl) ?_ ?_ ?_
         rotate_left
         ·intro w' (h:Rel W2 w');obtain⟨⟨x0,x1,x2,x3⟩,_⟩:=(HN.out.rel h).four;go_simp;try with_reducible rfl
         try simp only[Act.put,yA,yB,yC]
        refine yZ ?_
        refine held_one (j:=7) (by kernel_rfl) rfl (fun K hK=> ?_)
        try simp only[yD,yE,yF]
        rw[if_pos (by rfl)]
        go_simp
        go_at_call 41
        (with_reducible refine(HCd.out _).mono ?_)
        rintro e w2 ⟨rfl,rfl⟩
        refine hK.out _ _ hH (fun hH=> ?_)
        clear hK K
        try simp only[Act.put,yA,yB,yC]
        refine yL [9,10] (by kernel_rfl) hH (fun _ _ _ _ _=>id) ?_
        iterate 2
         refine yS rfl rfl (by rfl) ?_ ?_ ?_
         rotate_left
         ·intro w' (h:Rel W2 w');obtain⟨⟨x0,x1,x2,x3⟩,_⟩:=(HN.out.rel h).four;go_simp;try with_reducible rfl
         try simp only[Act.put,yA,yB,yC]
        refine yZ ?_
        refine wpAnyH_done (by kernel_rfl) ?_ _
        go_wp2_with (fail)
        go_roundw
        case rel=>exact⟨q+1,by omega,by omega,by go_num,hH,HNx⟩
        case measure=>simp[RowKit.intOf];omega
       ·have HF:=yH (show kindT true t=(q:Int) by
         unfold kindT;rw[if_neg HK.out,if_pos (by simpa using hk1)]
         exact kindW_hit hq1 hq12 HQ.out (by unfold hitK;rw[hwb,HY.out];rfl))
        clear hwb
        go_wp2_with (fail)
        refine wp_region_held_drew (S:=(fun w'=>Rel W2 w')) (by kernel_rfl) hRq.drew (fun hH=> ?_)
        refine yL [0,2,3] (by kernel_rfl) hH (fun _ _ _ _ _=>id) ?_
        iterate 3
         refine yS rfl rfl (by rfl) ?_ ?_ ?_
         rotate_left
         ·intro w' (h:Rel W2 w');obtain⟨⟨x0,x1,x2,x3⟩,_⟩:=(HN.out.rel h).four;go_simp;try with_reducible rfl
         try simp only[Act.put,yA,yB,yC]
        refine yZ ?_
        refine held_one (j:=1) (by kernel_rfl) rfl (fun K hK=> ?_)
        try simp only[yD,yE,yF]
        rw[if_pos (by rfl)]
        go_simp
        go_at_call 49
        (with_reducible refine(HWd.out _ hH).mono ?_)
        rintro e w2 ⟨rfl,h2⟩
        refine hK.out _ _ h2 (fun hH=> ?_)
        clear hK K
        try simp only[Act.put,yA,yB,yC]
        refine yL [4,5,6,8] (by kernel_rfl) hH (fun _ _ _ _ _=>id) ?_
        iterate 4
         refine yS rfl rfl (by rfl) ?_ ?_ ?_
         rotate_left
         ·intro w' (h:Rel W2 w');obtain⟨⟨x0,x1,x2,x3⟩,_⟩:=(HN.out.rel h).four;go_simp;try with_reducible rfl
         try simp only[Act.put,yA,yB,yC]
        refine yZ ?_
        refine held_one (j:=7) (by kernel_rfl) rfl (fun K hK=> ?_)
        try simp only[yD,yE,yF]
        rw[if_pos (by rfl)]
        go_simp
        go_at_call 41
        (with_reducible refine(HCd.out _).mono ?_)
        rintro e w2 ⟨rfl,rfl⟩
        refine hK.out _ _ hH (fun hH=> ?_)
        clear hK K
        try simp only[Act.put,yA,yB,yC]
        refine yL [9,10] (by kernel_rfl) hH (fun _ _ _ _ _=>id) ?_
        iterate 2
         refine yS rfl rfl (by rfl) ?_ ?_ ?_
         rotate_left
         ·intro w' (h:Rel W2 w');obtain⟨⟨x0,x1,x2,x3⟩,_⟩:=(HN.out.rel h).four;go_simp;try with_reducible rfl
         try simp only[Act.put,yA,yB,yC]
        refine yZ ?_
        refine wpAnyH_done (by kernel_rfl) ?_ _
        go_wp2_with (fail)
        go_ret
        exact⟨ret_int HF.out.symm,HW2.out.trans hH⟩
     ·obtain rfl:q=13:=by omega
      have HF:=yH (show kindT true t=0 by unfold kindT;rw[if_neg HK.out,if_pos (by simpa using hk1)];exact kindW_none HQ.out)
      go_wp2_with (fail)
      go_ret
      exact⟨ret_int HF.out.symm,HW2.out.trans hRq⟩
 ·have hk1:(t.1==1)=false:=by simp only[beq_iff_eq] at hk3;rw[hk3];rfl
  cases cb
  ·have HF:=yH (show kindT false t=4 by unfold kindT;rw[if_pos ⟨by simpa using hk3,rfl⟩])
   go_wp2_with (fail)
   go_ret
   exact⟨ret_int HF.out.symm,HW2.out⟩
  ·have HK:=yH (show Not3 true t from fun h=>by cases h.2)
   go_wp2_with (fail)
   go_loopw [6] (fun i wr=>∃q:Nat,1≤q∧q≤13∧i=yI (q:Int)∧Rel W2 wr∧Hid (∀p:Nat,1≤p→p<q→hitK true t.2.1 (p:Int)=false)) (fun i _=>13-(RowKit.intOf i).toNat)
   case atStart=>exact⟨1,by omega,by omega,rfl,HWW.out,yH (fun p a b=>by omega)⟩
   case round=>
    obtain⟨q,hq1,hq2,rfl,hRq,HQ⟩:=hrel
    obtain⟨⟨d0,d1,d2,d3⟩,_⟩:=(HN.out.rel hRq).four
    have HF:=yH (show kindT true t=0 by unfold kindT;rw[if_neg HK.out,if_neg (fun h=>by rw[h] at hk1;cases hk1)])
    by_cases hq12:q≤12
    all_goals
     go_wp2_with (fail)
     go_ret
     exact⟨ret_int HF.out.symm,HW2.out.trans hRq⟩
theorem StR.err{V:World}{A:Option Addr}{c:Nat}{all:List Tok}{w:World}{g:Nat}{s:PS}(h:StR V A c all w g s):w.cell? ⟨g,2,none⟩=some (yI s.2):=by
 obtain⟨j,h1,h2,h3,h4,h5,h6,h7⟩:=h;exact h5.three.1.2.2
theorem Rel.right{w w':World}(h:Rel w w'):Rel w' w':=(Rel.self h)
def ExprS(V:World)(A:Option Addr)(c:Nat)(all:List Tok)(d:Nat):Prop:=∀(cb:Bool)(s:PS)(g:Nat)(w:World),StR V A c all w g s→
 Calls Tryz.prog 38 #[.pointer (some ⟨g,0,none⟩),yI (32-(d:Int)),.bool cb] w fun e w'=>∃v:El,e= .returned (EV v)∧ExAt (fun k=>w.heap.size≤k) w' v (exprR d cb s).1∧StR V A c all w' g (exprR d cb s).2∧w.grownBy w' (some g)
theorem wrongR_81(ts:List Tok)(e:Int):∃e3,wrongR 81 (ts,e)=(ts,e3)∧(e3==0)=false:=by
 unfold wrongR
 by_cases h:e=0
 ·exact⟨81,by rw[if_pos h],rfl⟩
 ·exact⟨e,by rw[if_neg h],by simpa using h⟩
theorem rexpr_zero(V:World)(A:Option Addr)(c:Nat)(all:List Tok):ExprS V A c all 0:=fun cb s g w h=>by
 obtain⟨ts,e⟩:=s
 have HS:=yH h
 have hgl:=h.lt
 have hVw:V.heap.size≤w.heap.size:=by obtain⟨_,a,_⟩:=h;exact a.size
 have hA:Rel w (w.alloc (.cells #[yI 0,yI 0,.string ⟨#[]⟩,.slice none 0 0] 52)):=by obtain⟨_,a,_⟩:=h;exact a.self.alloc _
 have HN:=yH (Bk.new w 52 #[yI 0,yI 0,.string ⟨#[]⟩,.slice none 0 0])
 have HS1:=yH (h.rel hA)
 have HG1:=yH (grown_rel (some g) hA)
 obtain⟨k0,hk0⟩:∃k0,kindT cb (hdT ts)=k0:=⟨_,rfl⟩
 have HKi:Hid (∀(w':World)(s':PS),s'.1=ts→StR V A c all w' g s'→Calls Tryz.prog 61 #[.pointer (some ⟨g,0,none⟩),.bool cb] w' fun e w''=>e= .returned (yI k0)∧Rel w' w''):=yH (fun w' s' h1 h2=>by
  have:=rkind_any V A c all g s' cb w' h2
  rw[h1,hk0] at this
  exact this)
 obtain⟨e1,hw81,he1⟩:=wrongR_81 ts e
 have HW81:=yH hw81
 have HW80:=yH (show wrongR 80 (ts,e1)=(ts,e1) from wrongR_bad (by simpa using he1))
 have HF:=yH (show exprR 0 cb (ts,e)=(zE,(ts,e1)) by unfold exprR;rw[hw81])
 have hd0:(32-((0:Nat):Int))=32:=rfl
 rw[hd0]
 clear hk0 hw81 h hA
 by_cases hk:k0=0
 ·subst hk
  go_enter Tryz.func38,Tryz.ntmps38
  go_wp2_with (first
   |(go_at_call 60;(with_reducible refine(rwrong_any V A c all g (ts,e) 81 _ HS1.out).mono ?_);rintro e' w2 ⟨rfl,s2,g2,z2⟩;rw[HW81.out] at s2;have S1:=yH s2;have N1:=yH (HN.out.grown g2 (fun e=>by injection e;omega));have G1:=yH (grown_trans HG1.out g2))
   |(go_at_call 61;(with_reducible refine(HKi.out _ _ rfl S1.out).mono ?_);rintro e w3 ⟨rfl,h3⟩;have hz3:=h3.size;have h4:=h3.trans ((Rel.right h3).alloc (.cells #[yI 0,yI 0,.string ⟨#[]⟩,.slice none 0 0] 52));have HNW:=yH (N1.out.rel h4);have HSW:=yH (S1.out.rel h4);have HGW:=yH (grown_trans G1.out (grown_rel (some g) h4));have e2:=HSW.out.err;obtain⟨⟨r0,r1,r2,r3⟩,q0,q1,q2,q3⟩:=HNW.out.four)
   |(go_at_call 60;(with_reducible refine(rwrong_any V A c all g (ts,e1) 80 _ HSW.out).mono ?_);rintro e w4 ⟨rfl,s4,g4,z4⟩;rw[HW80.out] at s4;have e4:=s4.err;have HS4:=yH s4;have HN4:=yH (HNW.out.grown g4 (fun e=>by injection e;omega));have HG4:=yH (grown_trans HGW.out g4);obtain⟨⟨p0,p1,p2,p3⟩,v0,v1,v2,v3⟩:=HN4.out.four))
  obtain⟨⟨y0,y1,y2,y3⟩,_⟩:=(HN4.out.put4 (yI 0) (yI 0) (.string ⟨#[]⟩) (.slice none 0 0)).four
  have gp:=put4_grown w4 w.heap.size (yI 0) (yI 0) (.string ⟨#[]⟩) (.slice none 0 0)
  refine bodyPost_ret (v:=EV (0,0,[],none,0,0)) (by simp[results,Tryz.results38,go_sem,y0,y1,y2,y3];rfl) rfl ⟨_,rfl, ?_, ?_, ?_⟩
  ·rw[HF.out];exact ExAt.leaf _ _ 0 0 [] none 0 ⟨by decide,by decide⟩ ⟨by decide,by decide⟩ (by simp)
  ·rw[HF.out];exact HS4.out.grown gp (fun e=>by injection e;omega) (fun k e=>by cases e;exact hVw)
  ·exact grown_of HG4.out gp (fun k e=>by cases e;exact Nat.le_refl _)
 ·have hk':(k0==0)=false:=by simpa using hk
  go_enter Tryz.func38,Tryz.ntmps38
  go_wp2_with (first
   |(go_at_call 60;(with_reducible refine(rwrong_any V A c all g (ts,e) 81 _ HS1.out).mono ?_);rintro e' w2 ⟨rfl,s2,g2,z2⟩;rw[HW81.out] at s2;have S1:=yH s2;have N1:=yH (HN.out.grown g2 (fun e=>by injection e;omega));have G1:=yH (grown_trans HG1.out g2))
   |(go_at_call 61;(with_reducible refine(HKi.out _ _ rfl S1.out).mono ?_);rintro e w3 ⟨rfl,h3⟩;have hz3:=h3.size;have h4:=h3.trans ((Rel.right h3).alloc (.cells #[yI k0,yI 0,.string ⟨#[]⟩,.slice none 0 0] 52));have HNW:=yH (N1.out.rel h4);have HSW:=yH (S1.out.rel h4);have HGW:=yH (grown_trans G1.out (grown_rel (some g) h4));have e2:=HSW.out.err;obtain⟨⟨r0,r1,r2,r3⟩,q0,q1,q2,q3⟩:=HNW.out.four))
  obtain⟨⟨y0,y1,y2,y3⟩,_⟩:=(HNW.out.put4 (yI 0) (yI 0) (.string ⟨#[]⟩) (.slice none 0 0)).four
  have gp:=put4_grown (w3.alloc (.cells #[yI k0,yI 0,.string ⟨#[]⟩,.slice none 0 0] 52)) w.heap.size (yI 0) (yI 0) (.string ⟨#[]⟩) (.slice none 0 0)
  refine bodyPost_ret (v:=EV (0,0,[],none,0,0)) (by simp[results,Tryz.results38,go_sem,y0,y1,y2,y3];rfl) rfl ⟨_,rfl, ?_, ?_, ?_⟩
  ·rw[HF.out];exact ExAt.leaf _ _ 0 0 [] none 0 ⟨by decide,by decide⟩ ⟨by decide,by decide⟩ (by simp)
  ·rw[HF.out];exact HSW.out.grown gp (fun e=>by injection e;omega) (fun k e=>by cases e;exact hVw)
  ·exact grown_of HGW.out gp (fun k e=>by cases e;exact Nat.le_refl _)
theorem rexpr_stop(V:World)(A:Option Addr)(c:Nat)(all:List Tok)(d:Nat)(hd:d+1≤32)(cb:Bool)(s:PS)(g:Nat)(w:World)(h:StR V A c all w g s)(hs:s.2≠0∨kindT cb (hdT s.1)=0):
  Calls Tryz.prog 38 #[.pointer (some ⟨g,0,none⟩),yI (32-((d+1:Nat):Int)),.bool cb] w fun e w'=>∃v:El,e= .returned (EV v)∧ExAt (fun k=>w.heap.size≤k) w' v (exprR (d+1) cb s).1∧StR V A c all w' g (exprR (d+1) cb s).2∧w.grownBy w' (some g):=by
 obtain⟨ts,e1⟩:=s
 have HS:=yH h
 have hgl:=h.lt
 have hVw:V.heap.size≤w.heap.size:=by obtain⟨_,a,_⟩:=h;exact a.size
 have hA:Rel w (w.alloc (.cells #[yI 0,yI 0,.string ⟨#[]⟩,.slice none 0 0] 52)):=by obtain⟨_,a,_⟩:=h;exact a.self.alloc _
 have HN:=yH (Bk.new w 52 #[yI 0,yI 0,.string ⟨#[]⟩,.slice none 0 0])
 have HS1:=yH (h.rel hA)
 have HG1:=yH (grown_rel (some g) hA)
 obtain⟨k0,hk0⟩:∃k0,kindT cb (hdT ts)=k0:=⟨_,rfl⟩
 have HKi:Hid (∀(w':World)(s':PS),s'.1=ts→StR V A c all w' g s'→Calls Tryz.prog 61 #[.pointer (some ⟨g,0,none⟩),.bool cb] w' fun e w''=>e= .returned (yI k0)∧Rel w' w''):=yH (fun w' s' h1 h2=>by
  have:=rkind_any V A c all g s' cb w' h2
  rw[h1,hk0] at this
  exact this)
 obtain⟨e2,hw80,he2⟩:=wrongR_80 ts e1
 have HW80:=yH hw80
 obtain⟨D,hD⟩:∃D:Int,32-((d+1:Nat):Int)=D:=⟨_,rfl⟩
 have hD': ¬(32≤D):=by omega
 have HF:=yH (show exprR (d+1) cb (ts,e1)=(zE,(ts,e2)) by
  unfold exprR
  unfold wrongR at hw80
  by_cases he:e1=0
  ·rw[if_pos he] at hw80
   rw[if_neg (fun hh=>hh he)]
   simp only at hs⊢
   rw[if_pos (by rcases hs with h|h;exact absurd he h;exact h)]
   injection hw80 with a b;rw[b]
  ·rw[if_neg he] at hw80
   rw[if_pos he]
   injection hw80 with a b;rw[b])
 have S1:=HS1
 have N1:=HN
 have G1:=HG1
 rw[hD]
 by_cases hk:k0=0
 ·subst hk
  clear hk0 hw80 h hA hD hs
  go_enter Tryz.func38,Tryz.ntmps38
  go_wp2_with (first
   |(go_at_call 61;(with_reducible refine(HKi.out _ _ rfl S1.out).mono ?_);rintro e w3 ⟨rfl,h3⟩;have hz3:=h3.size;have h4:=h3.trans ((Rel.right h3).alloc (.cells #[yI 0,yI 0,.string ⟨#[]⟩,.slice none 0 0] 52));have HNW:=yH (N1.out.rel h4);have HSW:=yH (S1.out.rel h4);have HGW:=yH (grown_trans G1.out (grown_rel (some g) h4));have e2':=HSW.out.err;obtain⟨⟨r0,r1,r2,r3⟩,q0,q1,q2,q3⟩:=HNW.out.four)
   |(go_at_call 60;(with_reducible refine(rwrong_any V A c all g (ts,e1) 80 _ HSW.out).mono ?_);rintro e w4 ⟨rfl,s4,g4,z4⟩;rw[HW80.out] at s4;have e4:=s4.err;have HS4:=yH s4;have HN4:=yH (HNW.out.grown g4 (fun e=>by injection e;omega));have HG4:=yH (grown_trans HGW.out g4);obtain⟨⟨p0,p1,p2,p3⟩,v0,v1,v2,v3⟩:=HN4.out.four))
  obtain⟨⟨y0,y1,y2,y3⟩,_⟩:=(HN4.out.put4 (yI 0) (yI 0) (.string ⟨#[]⟩) (.slice none 0 0)).four
  have gp:=put4_grown w4 w.heap.size (yI 0) (yI 0) (.string ⟨#[]⟩) (.slice none 0 0)
  refine bodyPost_ret (v:=EV (0,0,[],none,0,0)) (by simp[results,Tryz.results38,go_sem,y0,y1,y2,y3];rfl) rfl ⟨_,rfl, ?_, ?_, ?_⟩
  ·rw[HF.out];exact ExAt.leaf _ _ 0 0 [] none 0 ⟨by decide,by decide⟩ ⟨by decide,by decide⟩ (by simp)
  ·rw[HF.out];exact HS4.out.grown gp (fun e=>by injection e;omega) (fun k e=>by cases e;exact hVw)
  ·exact grown_of HG4.out gp (fun k e=>by cases e;exact Nat.le_refl _)
 ·have hk':(k0==0)=false:=by simpa using hk
  have he1:e1≠0:=by
   rcases hs with h|h
   ·exact h
   ·simp only at h;rw[hk0] at h;exact absurd h hk
  obtain rfl:e2=e1:=by
   have:=hw80;unfold wrongR at this;rw[if_neg he1] at this;injection this with a b;exact b.symm
  clear hk0 hw80 h hA hD hs he1
  go_enter Tryz.func38,Tryz.ntmps38
  go_wp2_with (go_at_call 61;(with_reducible refine(HKi.out _ _ rfl S1.out).mono ?_);rintro e w3 ⟨rfl,h3⟩;have hz3:=h3.size;have h4:=h3.trans ((Rel.right h3).alloc (.cells #[yI k0,yI 0,.string ⟨#[]⟩,.slice none 0 0] 52));have HNW:=yH (N1.out.rel h4);have HSW:=yH (S1.out.rel h4);have HGW:=yH (grown_trans G1.out (grown_rel (some g) h4));have e2':=HSW.out.err;obtain⟨⟨r0,r1,r2,r3⟩,q0,q1,q2,q3⟩:=HNW.out.four)
  obtain⟨⟨y0,y1,y2,y3⟩,_⟩:=(HNW.out.put4 (yI 0) (yI 0) (.string ⟨#[]⟩) (.slice none 0 0)).four
  have gp:=put4_grown (w3.alloc (.cells #[yI k0,yI 0,.string ⟨#[]⟩,.slice none 0 0] 52)) w.heap.size (yI 0) (yI 0) (.string ⟨#[]⟩) (.slice none 0 0)
  refine bodyPost_ret (v:=EV (0,0,[],none,0,0)) (by simp[results,Tryz.results38,go_sem,y0,y1,y2,y3];rfl) rfl ⟨_,rfl, ?_, ?_, ?_⟩
  ·rw[HF.out];exact ExAt.leaf _ _ 0 0 [] none 0 ⟨by decide,by decide⟩ ⟨by decide,by decide⟩ (by simp)
  ·rw[HF.out];exact HSW.out.grown gp (fun e=>by injection e;omega) (fun k e=>by cases e;exact hVw)
  ·exact grown_of HGW.out gp (fun k e=>by cases e;exact Nat.le_refl _)
theorem StR.head{V:World}{A:Option Addr}{c:Nat}{all:List Tok}{w:World}{g:Nat}{s:PS}(h:StR V A c all w g s):i64 (hdT s.1).1∧i64 (hdT s.1).2.2.1∧(hdT s.1).2.1.length≤100∧((hdT s.1).1=1→(hdT s.1).2.1≠[]):=by
 obtain⟨j,h1,h2,h3,h4,h5,h6,h7⟩:=h
 rw[h6,hd_drop h7]
 exact h4.1 _ (List.getElem_mem h7)
theorem kind_amount{cb:Bool}{t:Tok}(h:kindT cb t=4)(hn:t.1=1→t.2.1≠[]):t.1=3:=by
 rcases(kind_tok (by rw[h];decide)).1 h with h3|h1
 ·exact h3
 ·unfold kindT at h
  rw[if_neg (fun hh=>by rw[h1] at hh;exact absurd hh.1 (by decide)),if_pos h1] at h
  exact absurd h (kindW_4 cb _ (hn h1))
theorem rexpr_money(V:World)(A:Option Addr)(c:Nat)(all:List Tok)(d:Nat)(hd:d+1≤32)(cb:Bool)(ts:List Tok)(g:Nat)(w:World)(h:StR V A c all w g (ts,0))(hs:kindT cb (hdT ts)=4):
  Calls Tryz.prog 38 #[.pointer (some ⟨g,0,none⟩),yI (32-((d+1:Nat):Int)),.bool cb] w fun e w'=>∃v:El,e= .returned (EV v)∧ExAt (fun k=>w.heap.size≤k) w' v (exprR (d+1) cb (ts,0)).1∧StR V A c all w' g (exprR (d+1) cb (ts,0)).2∧w.grownBy w' (some g):=by
 have HS:=yH h
 have hgl:=h.lt
 have hVw:V.heap.size≤w.heap.size:=by obtain⟨_,a,_⟩:=h;exact a.size
 have hA:Rel w (w.alloc (.cells #[yI 0,yI 0,.string ⟨#[]⟩,.slice none 0 0] 52)):=by obtain⟨_,a,_⟩:=h;exact a.self.alloc _
 have HN:=yH (Bk.new w 52 #[yI 0,yI 0,.string ⟨#[]⟩,.slice none 0 0])
 have HS1:=yH (h.rel hA)
 have HG1:=yH (grown_rel (some g) hA)
 obtain⟨k0,hk0⟩:∃k0,kindT cb (hdT ts)=k0:=⟨_,rfl⟩
 have HKi:Hid (∀(w':World)(s':PS),s'.1=ts→StR V A c all w' g s'→Calls Tryz.prog 61 #[.pointer (some ⟨g,0,none⟩),.bool cb] w' fun e w''=>e= .returned (yI k0)∧Rel w' w''):=yH (fun w' s' h1 h2=>by
  have:=rkind_any V A c all g s' cb w' h2
  rw[h1,hk0] at this
  exact this)
 have hzA:(w.alloc (.cells #[yI 0,yI 0,.string ⟨#[]⟩,.slice none 0 0] 52)).heap.size=w.heap.size+1:=World.size_alloc ..
 have hh:=h.head
 have h3:=kind_amount hs hh.2.2.2
 obtain⟨N,hN⟩:∃N,(hdT ts).2.2.1=N:=⟨_,rfl⟩
 have HNi:=yH (show i64 N by rw[←hN];exact hh.2.1)
 obtain⟨t,ht⟩:∃t,hdT ts=t:=⟨_,rfl⟩
 have HTk:=yH (show takeR 3 [] (ts,0)=((3,t.2.1,N,t.2.2.2),(ts.tail,0)) by rw[takeR_ok h3 (by decide),←ht,←hN,←h3])
 have HTc:Hid (∀w':World,StR V A c all w' g (ts,0)→Calls Tryz.prog 39 #[.pointer (some ⟨g,0,none⟩),yI 3,.string ⟨#[]⟩] w' fun e w''=>e= .returned (.agg #[yI 3,.string (B t.2.1),yI N,yI t.2.2.2])∧StR V A c all w'' g (ts.tail,0)∧w'.grownBy w'' (some g)):=yH (fun w' h'=>by
  have:=rtake_any V A c all g (ts,0) 3 [] ⟨#[]⟩ (yH rfl) w' h'
  rw[HTk.out] at this
  exact this)
 have HF:=yH (show exprR (d+1) cb (ts,0)=(.mk 4 N [] [],(ts.tail,0)) by
  unfold exprR
  rw[if_neg (fun hh=>hh rfl),if_neg (by rw[hs];decide),if_pos hs]
  exact congrArg (fun n=>(Ex.mk 4 n [] [],(ts.tail,(0:Int)))) hN)
 obtain⟨D,hD⟩:∃D:Int,32-((d+1:Nat):Int)=D:=⟨_,rfl⟩
 have hD': ¬(32≤D):=by omega
 have S1:=HS1
 have N1:=HN
 have G1:=HG1
 rw[hD]
 obtain rfl:k0=4:=by rw[←hk0];exact hs
 clear hk0 h hA hD hs hh h3 hN ht
 have hfd:∀w:World,(Instr.field 78 (.agg #[yI 3,.string (B t.2.1),yI N,yI t.2.2.2]) 2).run Tryz.prog w= .ok (yI N) w:=fun _=>by kernel_rfl
 go_enter Tryz.func38,Tryz.ntmps38
 go_wp2_with (first
  |(go_at_call 61;(with_reducible refine(HKi.out _ _ rfl S1.out).mono ?_);rintro e w3 ⟨rfl,h3⟩;have hz3:=h3.size;have h4:=h3.trans ((Rel.right h3).alloc (.cells #[yI 4,yI 0,.string ⟨#[]⟩,.slice none 0 0] 52));have HNW:=yH (N1.out.rel h4);have HSW:=yH (S1.out.rel h4);have HGW:=yH (grown_trans G1.out (grown_rel (some g) h4));have e2':=HSW.out.err;obtain⟨⟨r0,r1,r2,r3⟩,q0,q1,q2,q3⟩:=HNW.out.four;have hne1: ¬w3.heap.size=w.heap.size:=(by omega);have hne2: ¬w.heap.size=w3.heap.size:=(by omega);have HX:=yH (Bk.new w3 52 #[yI 4,yI 0,.string ⟨#[]⟩,.slice none 0 0]))
  |(go_at_call 39;(with_reducible refine(HTc.out _ HSW.out).mono ?_);rintro e w4 ⟨rfl,s4,g4⟩;have HS4:=yH s4;have HN4:=yH (HNW.out.grown g4 (fun e=>by injection e;omega));have HG4:=yH (grown_trans HGW.out g4);have HX4:=yH (HX.out.grown g4 (fun e=>by injection e;omega));obtain⟨⟨p0,p1,p2,p3⟩,v0,v1,v2,v3⟩:=HN4.out.four;obtain⟨⟨x0,x1,x2,x3⟩,u0,u1,u2,u3⟩:=HX4.out.four))
 have gs:=set_grown w4 w3.heap.size 1 (yI N)
 have hz4:=HG4.out.size
 obtain⟨⟨y0,y1,y2,y3⟩,_⟩:=((HN4.out.far (p:=⟨w3.heap.size,1,none⟩) (by simp only;omega) (yI N)).put4 (yI 4) (yI N) (.string ⟨#[]⟩) (.slice none 0 0)).four
 have gp:=put4_grown (w4.setCell ⟨w3.heap.size,1,none⟩ (yI N)) w.heap.size (yI 4) (yI N) (.string ⟨#[]⟩) (.slice none 0 0)
 refine bodyPost_ret (v:=EV (4,N,[],none,0,0)) (by simp[results,Tryz.results38,go_sem,y0,y1,y2,y3];rfl) rfl ⟨_,rfl, ?_, ?_, ?_⟩
 ·rw[HF.out];exact ExAt.leaf _ _ 4 N [] none 0 (by first|exact HNi.out|exact⟨by decide,by decide⟩) (by first|exact HNi.out|exact⟨by decide,by decide⟩) (by simp)
 ·rw[HF.out];exact(HS4.out.grown gs (fun e=>by injection e;omega) (fun k e=>by cases e;omega)).grown gp (fun e=>by injection e;omega) (fun k e=>by cases e;exact hVw)
 ·exact grown_of (grown_of HG4.out gs (fun k e=>by cases e;omega)) gp (fun k e=>by cases e;exact Nat.le_refl _)
theorem rexpr_leaf(V:World)(A:Option Addr)(c:Nat)(all:List Tok)(d:Nat)(hd:d+1≤32)(cb:Bool)(ts:List Tok)(g:Nat)(w:World)(h:StR V A c all w g (ts,0))(hs:kindT cb (hdT ts)=1∨kindT cb (hdT ts)=2):
  Calls Tryz.prog 38 #[.pointer (some ⟨g,0,none⟩),yI (32-((d+1:Nat):Int)),.bool cb] w fun e w'=>∃v:El,e= .returned (EV v)∧ExAt (fun k=>w.heap.size≤k) w' v (exprR (d+1) cb (ts,0)).1∧StR V A c all w' g (exprR (d+1) cb (ts,0)).2∧w.grownBy w' (some g):=by
 have HS:=yH h
 have hgl:=h.lt
 have hVw:V.heap.size≤w.heap.size:=by obtain⟨_,a,_⟩:=h;exact a.size
 have hA:Rel w (w.alloc (.cells #[yI 0,yI 0,.string ⟨#[]⟩,.slice none 0 0] 52)):=by obtain⟨_,a,_⟩:=h;exact a.self.alloc _
 have HN:=yH (Bk.new w 52 #[yI 0,yI 0,.string ⟨#[]⟩,.slice none 0 0])
 have HS1:=yH (h.rel hA)
 have HG1:=yH (grown_rel (some g) hA)
 obtain⟨k0,hk0⟩:∃k0,kindT cb (hdT ts)=k0:=⟨_,rfl⟩
 have HKi:Hid (∀(w':World)(s':PS),s'.1=ts→StR V A c all w' g s'→Calls Tryz.prog 61 #[.pointer (some ⟨g,0,none⟩),.bool cb] w' fun e w''=>e= .returned (yI k0)∧Rel w' w''):=yH (fun w' s' h1 h2=>by
  have:=rkind_any V A c all g s' cb w' h2
  rw[h1,hk0] at this
  exact this)
 have hzA:(w.alloc (.cells #[yI 0,yI 0,.string ⟨#[]⟩,.slice none 0 0] 52)).heap.size=w.heap.size+1:=World.size_alloc ..
 have h1:=(kind_tok (c:=cb) (t:=hdT ts) (by rcases hs with h|h<;>rw[h]<;>decide)).2 (by rcases hs with h|h<;>rw[h]<;>decide)
 have HNi:Hid (i64 0):=yH ⟨by decide,by decide⟩
 have HTk:=yH (show takeR 1 [] (ts,0)=(hdT ts,(ts.tail,0)) from takeR_ok h1 (by decide))
 obtain⟨t,ht⟩:∃t,hdT ts=t:=⟨_,rfl⟩
 rw[ht] at HTk
 have HTc:Hid (∀w':World,StR V A c all w' g (ts,0)→Calls Tryz.prog 39 #[.pointer (some ⟨g,0,none⟩),yI 1,.string ⟨#[]⟩] w' fun e w''=>e= .returned (.agg #[yI t.1,.string (B t.2.1),yI t.2.2.1,yI t.2.2.2])∧StR V A c all w'' g (ts.tail,0)∧w'.grownBy w'' (some g)):=yH (fun w' h'=>by
  have:=rtake_any V A c all g (ts,0) 1 [] ⟨#[]⟩ (yH rfl) w' h'
  rw[HTk.out] at this
  exact this)
 have HF:=yH (show exprR (d+1) cb (ts,0)=(.mk k0 0 [] [],(ts.tail,0)) by
  unfold exprR
  rw[if_neg (fun hh=>hh rfl),if_neg (by rcases hs with h|h<;>rw[h]<;>decide),if_neg (by rcases hs with h|h<;>rw[h]<;>decide),if_pos hs,HTk.out,hk0])
 clear ht
 obtain⟨D,hD⟩:∃D:Int,32-((d+1:Nat):Int)=D:=⟨_,rfl⟩
 have hD': ¬(32≤D):=by omega
 have S1:=HS1
 have N1:=HN
 have G1:=HG1
 rw[hD]
 rw[hk0] at hs
 clear hk0 h hA hD h1
 rcases hs with rfl|rfl
 ·go_enter Tryz.func38,Tryz.ntmps38
  go_wp2_with (first
   |(go_at_call 61;(with_reducible refine(HKi.out _ _ rfl S1.out).mono ?_);rintro e w3 ⟨rfl,h3⟩;have hz3:=h3.size;have h4:=h3.trans ((Rel.right h3).alloc (.cells #[yI 1,yI 0,.string ⟨#[]⟩,.slice none 0 0] 52));have HNW:=yH (N1.out.rel h4);have HSW:=yH (S1.out.rel h4);have HGW:=yH (grown_trans G1.out (grown_rel (some g) h4));have e2':=HSW.out.err;obtain⟨⟨r0,r1,r2,r3⟩,q0,q1,q2,q3⟩:=HNW.out.four;have hne1: ¬w3.heap.size=w.heap.size:=(by omega);have hne2: ¬w.heap.size=w3.heap.size:=(by omega);have HX:=yH (Bk.new w3 52 #[yI 1,yI 0,.string ⟨#[]⟩,.slice none 0 0]))
   |(go_at_call 39;(with_reducible refine(HTc.out _ HSW.out).mono ?_);rintro e w4 ⟨rfl,s4,g4⟩;have HS4:=yH s4;have HN4:=yH (HNW.out.grown g4 (fun e=>by injection e;omega));have HG4:=yH (grown_trans HGW.out g4);have HX4:=yH (HX.out.grown g4 (fun e=>by injection e;omega));obtain⟨⟨p0,p1,p2,p3⟩,v0,v1,v2,v3⟩:=HN4.out.four;obtain⟨⟨x0,x1,x2,x3⟩,u0,u1,u2,u3⟩:=HX4.out.four))
  obtain⟨⟨y0,y1,y2,y3⟩,_⟩:=(HN4.out.put4 (yI 1) (yI 0) (.string ⟨#[]⟩) (.slice none 0 0)).four
  have gp:=put4_grown w4 w.heap.size (yI 1) (yI 0) (.string ⟨#[]⟩) (.slice none 0 0)
  refine bodyPost_ret (v:=EV (1,0,[],none,0,0)) (by simp[results,Tryz.results38,go_sem,y0,y1,y2,y3];rfl) rfl ⟨_,rfl, ?_, ?_, ?_⟩
  ·rw[HF.out];exact ExAt.leaf _ _ 1 0 [] none 0 (by first|exact HNi.out|exact⟨by decide,by decide⟩) (by first|exact HNi.out|exact⟨by decide,by decide⟩) (by simp)
  ·rw[HF.out];exact HS4.out.grown gp (fun e=>by injection e;omega) (fun k e=>by cases e;exact hVw)
  ·exact grown_of HG4.out gp (fun k e=>by cases e;exact Nat.le_refl _)
 ·go_enter Tryz.func38,Tryz.ntmps38
  go_wp2_with (first
   |(go_at_call 61;(with_reducible refine(HKi.out _ _ rfl S1.out).mono ?_);rintro e w3 ⟨rfl,h3⟩;have hz3:=h3.size;have h4:=h3.trans ((Rel.right h3).alloc (.cells #[yI 2,yI 0,.string ⟨#[]⟩,.slice none 0 0] 52));have HNW:=yH (N1.out.rel h4);have HSW:=yH (S1.out.rel h4);have HGW:=yH (grown_trans G1.out (grown_rel (some g) h4));have e2':=HSW.out.err;obtain⟨⟨r0,r1,r2,r3⟩,q0,q1,q2,q3⟩:=HNW.out.four;have hne1: ¬w3.heap.size=w.heap.size:=(by omega);have hne2: ¬w.heap.size=w3.heap.size:=(by omega);have HX:=yH (Bk.new w3 52 #[yI 2,yI 0,.string ⟨#[]⟩,.slice none 0 0]))
   |(go_at_call 39;(with_reducible refine(HTc.out _ HSW.out).mono ?_);rintro e w4 ⟨rfl,s4,g4⟩;have HS4:=yH s4;have HN4:=yH (HNW.out.grown g4 (fun e=>by injection e;omega));have HG4:=yH (grown_trans HGW.out g4);have HX4:=yH (HX.out.grown g4 (fun e=>by injection e;omega));obtain⟨⟨p0,p1,p2,p3⟩,v0,v1,v2,v3⟩:=HN4.out.four;obtain⟨⟨x0,x1,x2,x3⟩,u0,u1,u2,u3⟩:=HX4.out.four))
  obtain⟨⟨y0,y1,y2,y3⟩,_⟩:=(HN4.out.put4 (yI 2) (yI 0) (.string ⟨#[]⟩) (.slice none 0 0)).four
  have gp:=put4_grown w4 w.heap.size (yI 2) (yI 0) (.string ⟨#[]⟩) (.slice none 0 0)
  refine bodyPost_ret (v:=EV (2,0,[],none,0,0)) (by simp[results,Tryz.results38,go_sem,y0,y1,y2,y3];rfl) rfl ⟨_,rfl, ?_, ?_, ?_⟩
  ·rw[HF.out];exact ExAt.leaf _ _ 2 0 [] none 0 (by first|exact HNi.out|exact⟨by decide,by decide⟩) (by first|exact HNi.out|exact⟨by decide,by decide⟩) (by simp)
  ·rw[HF.out];exact HS4.out.grown gp (fun e=>by injection e;omega) (fun k e=>by cases e;exact hVw)
  ·exact grown_of HG4.out gp (fun k e=>by cases e;exact Nat.le_refl _)
abbrev FLT(c p:Int):Ending:= .panicked [{v:= .iface 122 (.agg #[yI c,yI p]),recovered:=false}]
def FineP(ts:List Tok):Prop:=(∀t∈ts,okP t∧i64 t.1∧i64 t.2.2.1∧i64 t.2.2.2∧t.2.1.length≤100)∧ts.length≤100000∧∃us p,ts=us++[(5,[],0,p)]
theorem FineP.ne{ts:List Tok}(h:FineP ts):0<ts.length:=by
 obtain⟨_,_,us,p,rfl⟩:=h;simp
theorem FineP.tail{ts:List Tok}(h:FineP ts)(hn:ts.tail≠[]):FineP ts.tail:=by
 obtain⟨h1,h2,us,p,rfl⟩:=h
 refine⟨fun t ht=>h1 t (List.mem_of_mem_tail ht),by rw[List.length_tail];omega, ?_⟩
 cases us with
 |nil=>exact absurd rfl hn
 |cons t r=>exact⟨r,p,rfl⟩
theorem FineP.head{ts:List Tok}(h:FineP ts):okP (hdT ts)∧i64 (hdT ts).1∧i64 (hdT ts).2.2.1∧i64 (hdT ts).2.2.2∧(hdT ts).2.1.length≤100:=by
 have hn:=h.ne
 cases ts with
 |nil=>simp at hn
 |cons t r=>exact h.1 t (List.mem_cons_self ..)
theorem FineP.last{ts:List Tok}(h:FineP ts)(h5:(hdT ts).1≠5∨(hdT ts).2.1≠[]):ts.tail≠[]:=by
 obtain⟨_,_,us,p,rfl⟩:=h
 cases us with
 |nil=>simp[hdT] at h5
 |cons t r=>simp
theorem FineP.oks{ts:List Tok}(h:FineP ts):∀t∈ts,okP t:=fun t ht=>(h.1 t ht).1
def StP(V w:World)(g:Nat)(ts:List Tok)(a:Nat):Prop:=
 ∃(A:Option Addr)(c:Nat),Rel V w∧V.heap.size≤g∧ToksAt V A ts∧FineP ts∧ts.length≤c∧c≤9223372036854775807∧a≤100∧Bk w g 125 #[.slice A ts.length c,yI a]
theorem StP.lt{V w:World}{g a:Nat}{ts:List Tok}(h:StP V w g ts a):g<w.heap.size:=by
 obtain⟨_,_,_,_,_,_,_,_,_,hb⟩:=h;exact hb.lt
theorem StP.fine{V w:World}{g a:Nat}{ts:List Tok}(h:StP V w g ts a):FineP ts:=by
 obtain⟨_,_,_,_,_,hf,_⟩:=h;exact hf
theorem StP.V{V w:World}{g a:Nat}{ts:List Tok}(h:StP V w g ts a):Rel V w∧V.heap.size≤g:=by
 obtain⟨_,_,hr,hg,_⟩:=h;exact⟨hr,hg⟩
theorem StP.rel{V w w':World}{g a:Nat}{ts:List Tok}(h:StP V w g ts a)(hr:Rel w w'):StP V w' g ts a:=by
 obtain⟨A,c,h1,h2,h3,h4,h5,h6,h7,h8⟩:=h
 exact⟨A,c,h1.trans hr,h2,h3,h4,h5,h6,h7,h8.rel hr⟩
theorem StP.grown{V w w':World}{g a:Nat}{ts:List Tok}(h:StP V w g ts a){b:Option Nat}(hg:w.grownBy w' b)(hb:some g≠b)(hV:∀k,b=some k→V.heap.size≤k):StP V w' g ts a:=by
 obtain⟨A,c,h1,h2,h3,h4,h5,h6,h7,h8⟩:=h
 exact⟨A,c,h1.grown hg hV,h2,h3,h4,h5,h6,h7,h8.grown hg hb⟩
theorem StP.around{V w:World}{g a:Nat}{ts:List Tok}(h:StP V w g ts a)(a':Nat)(ha:a'≤100):StP V (w.setCell ⟨g,1,none⟩ (yI a')) g ts a'∧w.grownBy (w.setCell ⟨g,1,none⟩ (yI a')) (some g):=by
 obtain⟨A,c,h1,h2,h3,h4,h5,h6,h7,h8⟩:=h
 exact⟨⟨A,c,h1.setCell h2 _,h2,h3,h4,h5,h6,ha,h8.set_ 1 _⟩,set_grown w g 1 _⟩
theorem toks_tail{w:World}{g off:Nat}{t:Tok}{r:List Tok}(h:ToksAt w (some ⟨g,off,none⟩) (t::r)):ToksAt w (some ⟨g,off+4,none⟩) r:=by
 intro i hi
 obtain⟨g',off',e,hl,a0,a1,a2,a3⟩:=h (i+1) (by simpa using hi)
 cases e
 refine⟨g,off+4,rfl,hl, ?_, ?_, ?_, ?_⟩
 ·rw[show off+4+i*4=off+(i+1)*4 by omega];exact a0
 ·rw[show off+4+i*4+1=off+(i+1)*4+1 by omega];exact a1
 ·rw[show off+4+i*4+2=off+(i+1)*4+2 by omega];exact a2
 ·rw[show off+4+i*4+3=off+(i+1)*4+3 by omega];exact a3
theorem StP.step{V w:World}{g a gT off c:Nat}{t:Tok}{r:List Tok}(h1:Rel V w)(h2:V.heap.size≤g)(h3:ToksAt V (some ⟨gT,off,none⟩) (t::r))(h4:FineP (t::r))(h5:(t::r).length≤c)(h6:c≤9223372036854775807)(h7:a≤100)(h8:Bk w g 125 #[.slice (some ⟨gT,off,none⟩) (t::r).length c,yI a])
  (A:Option Addr) (n c':Nat) (hA:r=[]∨A=some ⟨gT,off+4,none⟩) (hn:n=r.length) (hc:c'=c-1) (W:World) (hW:w.setCell ⟨g,0,none⟩ (.slice A n c')=W):
  (r≠[]→StP V W g r a)∧w.grownBy W (some g)∧∃S,Bk W g 125 #[S,yI a]:=by
 subst hW hn hc
 refine⟨fun hr=> ?_,set_grown w g 0 _,_,h8.set_ 0 _⟩
 rcases hA with e|rfl
 ·exact absurd e hr
 ·exact⟨_,_,h1.setCell h2 _,h2,toks_tail h3,h4.tail hr,by simp at h5⊢;omega,by omega,h7,h8.set_ 0 _⟩
theorem StP.fin{V w:World}{g a gT off c:Nat}{t:Tok}{r:List Tok}(h:Rel V w∧V.heap.size≤g∧ToksAt V (some ⟨gT,off,none⟩) (t::r)∧FineP (t::r)∧Bk w g 125 #[.slice (some ⟨gT,off,none⟩) (t::r).length c,yI a])(h5:(t::r).length≤c)(h6:c≤9223372036854775807)(h7:a≤100)
  (A:Option Addr) (n c':Nat) (hA:r=[]∨A=some ⟨gT,off+4,none⟩) (hn:n=r.length) (hc:c'=c-1) (o1 o2:Obj):
  (¬r=[]→StP V (((w.setCell ⟨g,0,none⟩ (.slice A n c')).alloc o1).alloc o2) g r a)∧w.grownBy (((w.setCell ⟨g,0,none⟩ (.slice A n c')).alloc o1).alloc o2) (some g)∧∃S,Bk (((w.setCell ⟨g,0,none⟩ (.slice A n c')).alloc o1).alloc o2) g 125 #[S,yI a]:=by
 obtain⟨h1,h2,h3,h4,h8⟩:=h
 obtain⟨k1,k2,S,k3⟩:=StP.step h1 h2 h3 h4 h5 h6 h7 h8 A n c' hA hn hc _ rfl
 have R:=((h1.setCell (p:=⟨g,0,none⟩) h2 (.slice A n c')).self.alloc o1).alloc o2
 exact⟨fun hr=>(k1 hr).rel R,grown_trans k2 (grown_rel (some g) R),S,k3.rel R⟩
theorem pnext_any(V:World)(g a:Nat)(ts:List Tok)(w:World)(h:StP V w g ts a):
  Calls Tryz.prog 103 #[.pointer (some ⟨g,0,none⟩)] w fun e w'=>e= .returned (TK (hdT ts))∧(ts.tail≠[]→StP V w' g ts.tail a)∧w.grownBy w' (some g)∧∃S,Bk w' g 125 #[S,yI a]:=by
 obtain⟨A,c,h1,h2,h3,h4,h5,h6,h7,h8⟩:=h
 have hn:=h4.ne
 cases ts with
 |nil=>simp at hn
 |cons t r=>
  have hgl:=h8.lt
  obtain⟨gT,off,rfl,hb,x0,x1,x2,x3⟩:=(h3.rel h1) 0 (by simp)
  simp only[Nat.zero_mul,Nat.add_zero,List.getElem_cons_zero] at x0 x1 x2 x3
  obtain⟨⟨c0,c1⟩,f0,f1⟩:=h8.two
  have HH:=yH (And.intro h1 (And.intro h2 (And.intro h3 (And.intro h4 h8))))
  have hl1:1≤(t::r).length:=by simp
  have HL:=yH (show(t::r).length-1=r.length by simp)
  have HNil:=yH (show c=1→r=[] from fun e=>by subst e;simp at h5;exact h5)
  have h5':=h5
  have H5:=yH h5'
  obtain⟨m,hm⟩:∃m,(t::r).length=m:=⟨_,rfl⟩
  rw[hm] at c0 hl1 h5 HL
  clear h1 h2 h3 h4 h8 hm h5'
  go_enter Tryz.func103,Tryz.ntmps103
  go_wp2_with (fail)
  all_goals
   refine bodyPost_ret (v:=TK t) (by simp[results,Tryz.results103,go_sem]) rfl ⟨rfl, ?_⟩
   first
    |exact StP.fin HH.out H5.out h6 h7 _ _ _ (.inr rfl) HL.out rfl _ _
    |exact StP.fin HH.out H5.out h6 h7 _ _ _ (.inl (HNil.out (by omega))) HL.out (by omega) _ _
theorem pwrong_any(t:Tok)(w:World):Calls Tryz.prog 102 #[TK t] w fun e w'=>e= .returned (.agg #[yI 80,yI t.2.2.2])∧w'=(w.alloc (.cells #[yI t.1,.string (B t.2.1),yI t.2.2.1,yI t.2.2.2] 78)).alloc (.cells #[yI 80,yI t.2.2.2] 122):=by
 go_enter Tryz.func102,Tryz.ntmps102
 go_wp2_with (fail)
 refine bodyPost_ret (v:= .agg #[yI 80,yI t.2.2.2]) (by simp[results,Tryz.results102,go_sem]) rfl ⟨rfl,rfl⟩
theorem fail_grown{w w2:World}{g:Nat}(h:w.grownBy w2 (some g))(V:World)(hV:Rel V w2)(o1 o2 o3:Obj):w.grownBy (((w2.alloc o1).alloc o2).alloc o3) (some g):=
 grown_trans h (grown_rel (some g) (((hV.self.alloc o1).alloc o2).alloc o3))
theorem psign_yes(V:World)(g a:Nat)(ts:List Tok)(c:List UInt8)(C:ByteArray)(hC:Hid (C=B c))(w:World)(h:StP V w g ts a)(hc:(hdT ts).2.1=c)(h0:c≠[]):
  Calls Tryz.prog 134 #[.pointer (some ⟨g,0,none⟩),.string C] w fun e w'=>e= .returned (.tuple #[])∧StP V w' g ts.tail a∧w.grownBy w' (some g):=by
 have HN:=yH (pnext_any V g a ts w h)
 have HT:=yH (h.fine.last (.inr (by rw[hc];exact h0)))
 have HR:=yH h.V.1
 obtain⟨t,ht⟩:∃t,hdT ts=t:=⟨_,rfl⟩
 rw[ht] at HN hc
 obtain rfl:C=B t.2.1:=by rw[hC.out,hc]
 have hb:((B t.2.1).toList==(B t.2.1).toList)=true:=by simp
 clear h ht hc hC
 go_enter Tryz.func134,Tryz.ntmps134
 go_wp2_with (go_at_call 103;(with_reducible refine HN.out.mono ?_);rintro e w2 ⟨rfl,s2,g2,_⟩;have S2:=yH s2;have G2:=yH g2;clear s2 g2)
 go_end0
 have R:=(S2.out HT.out).V.1.self.alloc (.cells #[yI t.1,.string (B t.2.1),yI t.2.2.1,yI t.2.2.2] 78)
 exact⟨rfl,(S2.out HT.out).rel R,grown_trans G2.out (grown_rel (some g) R)⟩
theorem psign_not(V:World)(g a:Nat)(ts:List Tok)(c:List UInt8)(C:ByteArray)(hC:Hid (C=B c))(w:World)(h:StP V w g ts a)(hc:(hdT ts).2.1≠c):
  Calls Tryz.prog 134 #[.pointer (some ⟨g,0,none⟩),.string C] w fun e w'=>e=FLT 80 (atT ts)∧w.grownBy w' (some g):=by
 have HN:=yH (pnext_any V g a ts w h)
 have HV:=yH h.V
 obtain⟨t,ht⟩:∃t,hdT ts=t:=⟨_,rfl⟩
 have HA:=yH (show atT ts=t.2.2.2 by unfold atT;rw[ht])
 rw[ht] at HN hc
 have hb:((B t.2.1).toList==C.toList)=false:=by rw[hC.out,B_toList,B_toList];simpa using hc
 clear h ht hc hC
 go_enter Tryz.func134,Tryz.ntmps134
 go_wp2_with (first
  |(go_at_call 103;(with_reducible refine HN.out.mono ?_);rintro e w2 ⟨rfl,s2,g2,_⟩;have G2:=yH g2;clear s2 g2)
  |(go_at_call 102;(with_reducible refine(pwrong_any t _).mono ?_);rintro e w3 ⟨rfl,rfl⟩))
 exact⟨rfl,by rw[HA.out],fail_grown G2.out V (HV.out.1.grown G2.out (fun k e=>by cases e;exact HV.out.2)) _ _ _⟩
end Go.Proofs.YtfekhbeaphpelaaGreatDoor
