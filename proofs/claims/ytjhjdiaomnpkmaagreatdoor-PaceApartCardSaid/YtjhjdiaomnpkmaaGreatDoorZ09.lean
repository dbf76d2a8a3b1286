/- The document's own fine. -/

import Derived.Test.YtjhjdiaomnpkmaaGreatDoorZ03
set_option maxRecDepth 100000
set_option maxHeartbeats 8000000
set_option linter.unusedVariables false
set_option linter.unusedSimpArgs false
namespace Go.Proofs.YtjhjdiaomnpkmaaGreatDoor
open Go.RowKit Go.Lib
theorem most_as(k m:Int)(h:Hid (mostN k=m))(w:World):Calls Tryz.prog 56 #[.int .i64 k] w fun e w'=>e= .returned (.int .i64 m)∧w=w':=by rw[←h.out];exact rmost_any k w
theorem cond_as(k:Int)(b:Bool)(h:Hid (isCond k=b))(w:World):Calls Tryz.prog 44 #[.int .i64 k] w fun e w'=>e= .returned (.bool b)∧w=w':=by rw[←h.out];exact rcond_any k w
theorem rname_as(S:ByteArray)(b:Bool)(h:Hid (isName S.data.toList=b))(hs:S.size≤100)(w0 w:World)(hr:Rel w0 w):Calls Tryz.prog 57 #[.string S] w fun e w'=>e= .returned (.bool b)∧Rel w0 w':=bool_at b (rname_any S (by omega) w0 w hr) h
theorem rfine_no1(k n:Int)(l:List Ex)(A:Option Addr)(c:Nat)(d:Nat)(hd:d≤40)(hl9:l.length≤1000000)(w0 w:World)(hr:Rel w0 w)(M1 M2:Int)(HM1:Hid (argsN k=M1))(HM2:Hid (mostN k=M2))(NM:ByteArray)(zNM:NM.size≤100)(q0:decide ((d:Int)+1<1)=false)(q1:(M1 !=(l.length:Int))=true)(q1':(M1==(l.length:Int))=false):
  Calls Tryz.prog 43 #[.agg #[.int .i64 k,.int .i64 n,.string NM,.slice A l.length c],.int .i64 ((d:Int)+1)] w fun e w'=>e= .returned (.bool false)∧Rel w0 w':=by
 have HB:=yH (Bk.new w 54 #[.int .i64 k,.int .i64 n,.string NM,.slice A l.length c])
 have HA:=yH (hr.alloc (.cells #[.int .i64 k,.int .i64 n,.string NM,.slice A l.length c] 54))
 go_enter Tryz.func43,Tryz.ntmps43
 go_wp2_with (fail)
 obtain⟨W,hW⟩:∃W,w.alloc (.cells #[.int .i64 k,.int .i64 n,.string NM,.slice A l.length c] 54)=W:=⟨_,rfl⟩
 rw[hW] at HB HA⊢
 clear hW
 obtain⟨⟨c0,c1,c2,c3⟩,_⟩:=HB.out.four
 refine wp_region_held_drew (S:=(fun w'=>w'.cell? ⟨w.heap.size,0,none⟩=some (.int .i64 k)∧w'.cell? ⟨w.heap.size,1,none⟩=some (.int .i64 n)∧w'.cell? ⟨w.heap.size,2,none⟩=some (.string NM)∧w'.cell? ⟨w.heap.size,3,none⟩=some (.slice A l.length c))) (by kernel_rfl) ⟨c0,c1,c2,c3⟩ (fun hH=> ?_)
 refine yL [0,1,2,3,4,6,7,8] (by kernel_rfl) hH (fun _ _ _ _ _=>id) ?_
 iterate 8
  refine yS rfl rfl (by rfl) ?_ ?_ ?_
  rotate_left
  ·rintro w' ⟨s0,s1,s2,s3⟩;go_simp;try with_reducible rfl
  try simp only[Act.put,yA,yB,yC]
 refine yZ ?_
 refine held_one (j:=5) (by kernel_rfl) rfl (fun K hK=> ?_)
 try simp only[yD,yE,yF]
 rw[if_pos (by rfl)]
 go_simp
 go_at_call 50
 (with_reducible refine(args_as k M1 HM1 _).mono ?_)
 rintro e w' ⟨rfl,rfl⟩
 refine hK.out _ _ hH (fun hH=> ?_)
 clear hK K
 try simp only[Act.put,yA,yB,yC]
 refine yL [9,10,11,12,13,14,15,16,17,18,19,20,21,22,23,24,25,26,27,28,29,30,31,32,33,34,35,36,37,38,39,40,41,42,43] (by kernel_rfl) hH (fun _ _ _ _ _=>id) ?_
 iterate 3
  refine yS rfl rfl (by rfl) ?_ ?_ ?_
  rotate_left
  ·rintro w' ⟨s0,s1,s2,s3⟩;go_simp;try with_reducible rfl
  try simp only[Act.put,yA,yB,yC]
 iterate 3
  refine yV rfl rfl (by rfl) ?_
  try simp only[Act.put,yA,yB,yC]
 iterate 2
  refine yS rfl rfl (by rfl) ?_ ?_ ?_
  rotate_left
  ·rintro w' ⟨s0,s1,s2,s3⟩;go_simp;try with_reducible rfl
  try simp only[Act.put,yA,yB,yC]
 iterate 6
  refine yV rfl rfl (by rfl) ?_
  try simp only[Act.put,yA,yB,yC]
 iterate 2
  refine yS rfl rfl (by rfl) ?_ ?_ ?_
  rotate_left
  ·rintro w' ⟨s0,s1,s2,s3⟩;go_simp;try with_reducible rfl
  try simp only[Act.put,yA,yB,yC]
 iterate 7
  refine yV rfl rfl (by rfl) ?_
  try simp only[Act.put,yA,yB,yC]
 iterate 2
  refine yS rfl rfl (by rfl) ?_ ?_ ?_
  rotate_left
  ·rintro w' ⟨s0,s1,s2,s3⟩;go_simp;try with_reducible rfl
  try simp only[Act.put,yA,yB,yC]
 iterate 9
  refine yV rfl rfl (by rfl) ?_
  try simp only[Act.put,yA,yB,yC]
 refine yS rfl rfl (by rfl) ?_ ?_ ?_
 rotate_left
 ·rintro w' ⟨s0,s1,s2,s3⟩;go_simp;try with_reducible rfl
 try simp only[Act.put,yA,yB,yC]
 refine yZ ?_
 refine wpAnyH_done (by kernel_rfl) ?_ _
 go_wp2_with (fail)
 go_ret
 exact⟨rfl,HA.out.drew⟩
theorem rfine_no2(k n:Int)(l:List Ex)(A:Option Addr)(c:Nat)(d:Nat)(hd:d≤40)(hl9:l.length≤1000000)(w0 w:World)(hr:Rel w0 w)(M1 M2:Int)(HM1:Hid (argsN k=M1))(HM2:Hid (mostN k=M2))(NM:ByteArray)(zNM:NM.size≤100)(q0:decide ((d:Int)+1<1)=false)(q1:(M1 !=(l.length:Int))=false)(q1':(M1==(l.length:Int))=true)(q2:decide (n<0)=true):
  Calls Tryz.prog 43 #[.agg #[.int .i64 k,.int .i64 n,.string NM,.slice A l.length c],.int .i64 ((d:Int)+1)] w fun e w'=>e= .returned (.bool false)∧Rel w0 w':=by
 have HB:=yH (Bk.new w 54 #[.int .i64 k,.int .i64 n,.string NM,.slice A l.length c])
 have HA:=yH (hr.alloc (.cells #[.int .i64 k,.int .i64 n,.string NM,.slice A l.length c] 54))
 go_enter Tryz.func43,Tryz.ntmps43
 go_wp2_with (fail)
 obtain⟨W,hW⟩:∃W,w.alloc (.cells #[.int .i64 k,.int .i64 n,.string NM,.slice A l.length c] 54)=W:=⟨_,rfl⟩
 rw[hW] at HB HA⊢
 clear hW
 obtain⟨⟨c0,c1,c2,c3⟩,_⟩:=HB.out.four
 refine wp_region_held_drew (S:=(fun w'=>w'.cell? ⟨w.heap.size,0,none⟩=some (.int .i64 k)∧w'.cell? ⟨w.heap.size,1,none⟩=some (.int .i64 n)∧w'.cell? ⟨w.heap.size,2,none⟩=some (.string NM)∧w'.cell? ⟨w.heap.size,3,none⟩=some (.slice A l.length c))) (by kernel_rfl) ⟨c0,c1,c2,c3⟩ (fun hH=> ?_)
 refine yL [0,1,2,3,4,6,7,8] (by kernel_rfl) hH (fun _ _ _ _ _=>id) ?_
 iterate 8
  refine yS rfl rfl (by rfl) ?_ ?_ ?_
  rotate_left
  ·rintro w' ⟨s0,s1,s2,s3⟩;go_simp;try with_reducible rfl
  try simp only[Act.put,yA,yB,yC]
 refine yZ ?_
 refine held_one (j:=5) (by kernel_rfl) rfl (fun K hK=> ?_)
 try simp only[yD,yE,yF]
 rw[if_pos (by rfl)]
 go_simp
 go_at_call 50
 (with_reducible refine(args_as k M1 HM1 _).mono ?_)
 rintro e w' ⟨rfl,rfl⟩
 refine hK.out _ _ hH (fun hH=> ?_)
 clear hK K
 try simp only[Act.put,yA,yB,yC]
 refine yL [9,10,11,12,13,14,15,16,17,18,19,20,21,22,23,24,25,26,27,28,29,30,31,32,33,34,35,36,37,38,39,40,41,42,43] (by kernel_rfl) hH (fun _ _ _ _ _=>id) ?_
 iterate 8
  refine yS rfl rfl (by rfl) ?_ ?_ ?_
  rotate_left
  ·rintro w' ⟨s0,s1,s2,s3⟩;go_simp;try with_reducible rfl
  try simp only[Act.put,yA,yB,yC]
 iterate 6
  refine yV rfl rfl (by rfl) ?_
  try simp only[Act.put,yA,yB,yC]
 iterate 2
  refine yS rfl rfl (by rfl) ?_ ?_ ?_
  rotate_left
  ·rintro w' ⟨s0,s1,s2,s3⟩;go_simp;try with_reducible rfl
  try simp only[Act.put,yA,yB,yC]
 iterate 7
  refine yV rfl rfl (by rfl) ?_
  try simp only[Act.put,yA,yB,yC]
 iterate 2
  refine yS rfl rfl (by rfl) ?_ ?_ ?_
  rotate_left
  ·rintro w' ⟨s0,s1,s2,s3⟩;go_simp;try with_reducible rfl
  try simp only[Act.put,yA,yB,yC]
 iterate 9
  refine yV rfl rfl (by rfl) ?_
  try simp only[Act.put,yA,yB,yC]
 refine yS rfl rfl (by rfl) ?_ ?_ ?_
 rotate_left
 ·rintro w' ⟨s0,s1,s2,s3⟩;go_simp;try with_reducible rfl
 try simp only[Act.put,yA,yB,yC]
 refine yZ ?_
 refine wpAnyH_done (by kernel_rfl) ?_ _
 go_wp2_with (fail)
 go_ret
 exact⟨rfl,HA.out.drew⟩
theorem rfine_no3(k n:Int)(l:List Ex)(A:Option Addr)(c:Nat)(d:Nat)(hd:d≤40)(hl9:l.length≤1000000)(w0 w:World)(hr:Rel w0 w)(M1 M2:Int)(HM1:Hid (argsN k=M1))(HM2:Hid (mostN k=M2))(NM:ByteArray)(zNM:NM.size≤100)(q0:decide ((d:Int)+1<1)=false)(q1:(M1 !=(l.length:Int))=false)(q1':(M1==(l.length:Int))=true)(q2:decide (n<0)=false)(q3:decide (M2<n)=true):
  Calls Tryz.prog 43 #[.agg #[.int .i64 k,.int .i64 n,.string NM,.slice A l.length c],.int .i64 ((d:Int)+1)] w fun e w'=>e= .returned (.bool false)∧Rel w0 w':=by
 have HB:=yH (Bk.new w 54 #[.int .i64 k,.int .i64 n,.string NM,.slice A l.length c])
 have HA:=yH (hr.alloc (.cells #[.int .i64 k,.int .i64 n,.string NM,.slice A l.length c] 54))
 go_enter Tryz.func43,Tryz.ntmps43
 go_wp2_with (fail)
 obtain⟨W,hW⟩:∃W,w.alloc (.cells #[.int .i64 k,.int .i64 n,.string NM,.slice A l.length c] 54)=W:=⟨_,rfl⟩
 rw[hW] at HB HA⊢
 clear hW
 obtain⟨⟨c0,c1,c2,c3⟩,_⟩:=HB.out.four
 refine wp_region_held_drew (S:=(fun w'=>w'.cell? ⟨w.heap.size,0,none⟩=some (.int .i64 k)∧w'.cell? ⟨w.heap.size,1,none⟩=some (.int .i64 n)∧w'.cell? ⟨w.heap.size,2,none⟩=some (.string NM)∧w'.cell? ⟨w.heap.size,3,none⟩=some (.slice A l.length c))) (by kernel_rfl) ⟨c0,c1,c2,c3⟩ (fun hH=> ?_)
 refine yL [0,1,2,3,4,6,7,8] (by kernel_rfl) hH (fun _ _ _ _ _=>id) ?_
 iterate 8
  refine yS rfl rfl (by rfl) ?_ ?_ ?_
  rotate_left
  ·rintro w' ⟨s0,s1,s2,s3⟩;go_simp;try with_reducible rfl
  try simp only[Act.put,yA,yB,yC]
 refine yZ ?_
 refine held_one (j:=5) (by kernel_rfl) rfl (fun K hK=> ?_)
 try simp only[yD,yE,yF]
 rw[if_pos (by rfl)]
 go_simp
 go_at_call 50
 (with_reducible refine(args_as k M1 HM1 _).mono ?_)
 rintro e w' ⟨rfl,rfl⟩
 refine hK.out _ _ hH (fun hH=> ?_)
 clear hK K
 try simp only[Act.put,yA,yB,yC]
 refine yL [9,10,11,12,13,14,15,16,17,18,19,20] (by kernel_rfl) hH (fun _ _ _ _ _=>id) ?_
 iterate 12
  refine yS rfl rfl (by rfl) ?_ ?_ ?_
  rotate_left
  ·rintro w' ⟨s0,s1,s2,s3⟩;go_simp;try with_reducible rfl
  try simp only[Act.put,yA,yB,yC]
 refine yZ ?_
 refine held_one (j:=21) (by kernel_rfl) rfl (fun K hK=> ?_)
 try simp only[yD,yE,yF]
 rw[if_pos (by rfl)]
 go_simp
 go_at_call 56
 (with_reducible refine(most_as k M2 HM2 _).mono ?_)
 rintro e w' ⟨rfl,rfl⟩
 refine hK.out _ _ hH (fun hH=> ?_)
 clear hK K
 try simp only[Act.put,yA,yB,yC]
 refine yL [22,23,24,25,26,27,28,29,30,31,32,33,34,35,36,37,38,39,40,41,42,43] (by kernel_rfl) hH (fun _ _ _ _ _=>id) ?_
 iterate 3
  refine yS rfl rfl (by rfl) ?_ ?_ ?_
  rotate_left
  ·rintro w' ⟨s0,s1,s2,s3⟩;go_simp;try with_reducible rfl
  try simp only[Act.put,yA,yB,yC]
 iterate 7
  refine yV rfl rfl (by rfl) ?_
  try simp only[Act.put,yA,yB,yC]
 iterate 2
  refine yS rfl rfl (by rfl) ?_ ?_ ?_
  rotate_left
  ·rintro w' ⟨s0,s1,s2,s3⟩;go_simp;try with_reducible rfl
  try simp only[Act.put,yA,yB,yC]
 iterate 9
  refine yV rfl rfl (by rfl) ?_
  try simp only[Act.put,yA,yB,yC]
 refine yS rfl rfl (by rfl) ?_ ?_ ?_
 rotate_left
 ·rintro w' ⟨s0,s1,s2,s3⟩;go_simp;try with_reducible rfl
 try simp only[Act.put,yA,yB,yC]
 refine yZ ?_
 refine wpAnyH_done (by kernel_rfl) ?_ _
 go_wp2_with (fail)
 go_ret
 exact⟨rfl,HA.out.drew⟩
theorem rfine_no4(k n:Int)(l:List Ex)(A:Option Addr)(c:Nat)(d:Nat)(hd:d≤40)(hl9:l.length≤1000000)(w0 w:World)(hr:Rel w0 w)(M1 M2:Int)(HM1:Hid (argsN k=M1))(HM2:Hid (mostN k=M2))(NM:ByteArray)(zNM:NM.size≤100)(q0:decide ((d:Int)+1<1)=false)(q1:(M1 !=(l.length:Int))=false)(q1':(M1==(l.length:Int))=true)(q2:decide (n<0)=false)(q3:decide (M2<n)=false)(q4:(NM.toList !=[])=true)(q4':(NM.toList==[])=false)(q5:(k==3)=false):
  Calls Tryz.prog 43 #[.agg #[.int .i64 k,.int .i64 n,.string NM,.slice A l.length c],.int .i64 ((d:Int)+1)] w fun e w'=>e= .returned (.bool false)∧Rel w0 w':=by
 have HB:=yH (Bk.new w 54 #[.int .i64 k,.int .i64 n,.string NM,.slice A l.length c])
 have HA:=yH (hr.alloc (.cells #[.int .i64 k,.int .i64 n,.string NM,.slice A l.length c] 54))
 go_enter Tryz.func43,Tryz.ntmps43
 go_wp2_with (fail)
 obtain⟨W,hW⟩:∃W,w.alloc (.cells #[.int .i64 k,.int .i64 n,.string NM,.slice A l.length c] 54)=W:=⟨_,rfl⟩
 rw[hW] at HB HA⊢
 clear hW
 obtain⟨⟨c0,c1,c2,c3⟩,_⟩:=HB.out.four
 refine wp_region_held_drew (S:=(fun w'=>w'.cell? ⟨w.heap.size,0,none⟩=some (.int .i64 k)∧w'.cell? ⟨w.heap.size,1,none⟩=some (.int .i64 n)∧w'.cell? ⟨w.heap.size,2,none⟩=some (.string NM)∧w'.cell? ⟨w.heap.size,3,none⟩=some (.slice A l.length c))) (by kernel_rfl) ⟨c0,c1,c2,c3⟩ (fun hH=> ?_)
 refine yL [0,1,2,3,4,6,7,8] (by kernel_rfl) hH (fun _ _ _ _ _=>id) ?_
 iterate 8
  refine yS rfl rfl (by rfl) ?_ ?_ ?_
  rotate_left
  ·rintro w' ⟨s0,s1,s2,s3⟩;go_simp;try with_reducible rfl
  try simp only[Act.put,yA,yB,yC]
 refine yZ ?_
 refine held_one (j:=5) (by kernel_rfl) rfl (fun K hK=> ?_)
 try simp only[yD,yE,yF]
 rw[if_pos (by rfl)]
 go_simp
 go_at_call 50
 (with_reducible refine(args_as k M1 HM1 _).mono ?_)
 rintro e w' ⟨rfl,rfl⟩
 refine hK.out _ _ hH (fun hH=> ?_)
 clear hK K
 try simp only[Act.put,yA,yB,yC]
 refine yL [9,10,11,12,13,14,15,16,17,18,19,20] (by kernel_rfl) hH (fun _ _ _ _ _=>id) ?_
 iterate 12
  refine yS rfl rfl (by rfl) ?_ ?_ ?_
  rotate_left
  ·rintro w' ⟨s0,s1,s2,s3⟩;go_simp;try with_reducible rfl
  try simp only[Act.put,yA,yB,yC]
 refine yZ ?_
 refine held_one (j:=21) (by kernel_rfl) rfl (fun K hK=> ?_)
 try simp only[yD,yE,yF]
 rw[if_pos (by rfl)]
 go_simp
 go_at_call 56
 (with_reducible refine(most_as k M2 HM2 _).mono ?_)
 rintro e w' ⟨rfl,rfl⟩
 refine hK.out _ _ hH (fun hH=> ?_)
 clear hK K
 try simp only[Act.put,yA,yB,yC]
 refine yL [22,23,24,25,26,27,28,29,30,31,32,33,34,35,36,37,38,39,40,41,42,43] (by kernel_rfl) hH (fun _ _ _ _ _=>id) ?_
 iterate 12
  refine yS rfl rfl (by rfl) ?_ ?_ ?_
  rotate_left
  ·rintro w' ⟨s0,s1,s2,s3⟩;go_simp;try with_reducible rfl
  try simp only[Act.put,yA,yB,yC]
 iterate 9
  refine yV rfl rfl (by rfl) ?_
  try simp only[Act.put,yA,yB,yC]
 refine yS rfl rfl (by rfl) ?_ ?_ ?_
 rotate_left
 ·rintro w' ⟨s0,s1,s2,s3⟩;go_simp;try with_reducible rfl
 try simp only[Act.put,yA,yB,yC]
 refine yZ ?_
 refine wpAnyH_done (by kernel_rfl) ?_ _
 go_wp2_with (fail)
 go_ret
 exact⟨rfl,HA.out.drew⟩
theorem rfine_no5(k n:Int)(l:List Ex)(A:Option Addr)(c:Nat)(d:Nat)(hd:d≤40)(hl9:l.length≤1000000)(w0 w:World)(hr:Rel w0 w)(M1 M2:Int)(HM1:Hid (argsN k=M1))(HM2:Hid (mostN k=M2))(NM:ByteArray)(zNM:NM.size≤100)(q0:decide ((d:Int)+1<1)=false)(q1:(M1 !=(l.length:Int))=false)(q1':(M1==(l.length:Int))=true)(q2:decide (n<0)=false)(q3:decide (M2<n)=false)(q4:(NM.toList !=[])=false)(q4':(NM.toList==[])=true)(q5:(k==3)=true):
  Calls Tryz.prog 43 #[.agg #[.int .i64 k,.int .i64 n,.string NM,.slice A l.length c],.int .i64 ((d:Int)+1)] w fun e w'=>e= .returned (.bool false)∧Rel w0 w':=by
 have HB:=yH (Bk.new w 54 #[.int .i64 k,.int .i64 n,.string NM,.slice A l.length c])
 have HA:=yH (hr.alloc (.cells #[.int .i64 k,.int .i64 n,.string NM,.slice A l.length c] 54))
 go_enter Tryz.func43,Tryz.ntmps43
 go_wp2_with (fail)
 obtain⟨W,hW⟩:∃W,w.alloc (.cells #[.int .i64 k,.int .i64 n,.string NM,.slice A l.length c] 54)=W:=⟨_,rfl⟩
 rw[hW] at HB HA⊢
 clear hW
 obtain⟨⟨c0,c1,c2,c3⟩,_⟩:=HB.out.four
 refine wp_region_held_drew (S:=(fun w'=>w'.cell? ⟨w.heap.size,0,none⟩=some (.int .i64 k)∧w'.cell? ⟨w.heap.size,1,none⟩=some (.int .i64 n)∧w'.cell? ⟨w.heap.size,2,none⟩=some (.string NM)∧w'.cell? ⟨w.heap.size,3,none⟩=some (.slice A l.length c))) (by kernel_rfl) ⟨c0,c1,c2,c3⟩ (fun hH=> ?_)
 refine yL [0,1,2,3,4,6,7,8] (by kernel_rfl) hH (fun _ _ _ _ _=>id) ?_
 iterate 8
  refine yS rfl rfl (by rfl) ?_ ?_ ?_
  rotate_left
  ·rintro w' ⟨s0,s1,s2,s3⟩;go_simp;try with_reducible rfl
  try simp only[Act.put,yA,yB,yC]
 refine yZ ?_
 refine held_one (j:=5) (by kernel_rfl) rfl (fun K hK=> ?_)
 try simp only[yD,yE,yF]
 rw[if_pos (by rfl)]
 go_simp
 go_at_call 50
 (with_reducible refine(args_as k M1 HM1 _).mono ?_)
 rintro e w' ⟨rfl,rfl⟩
 refine hK.out _ _ hH (fun hH=> ?_)
 clear hK K
 try simp only[Act.put,yA,yB,yC]
 refine yL [9,10,11,12,13,14,15,16,17,18,19,20] (by kernel_rfl) hH (fun _ _ _ _ _=>id) ?_
 iterate 12
  refine yS rfl rfl (by rfl) ?_ ?_ ?_
  rotate_left
  ·rintro w' ⟨s0,s1,s2,s3⟩;go_simp;try with_reducible rfl
  try simp only[Act.put,yA,yB,yC]
 refine yZ ?_
 refine held_one (j:=21) (by kernel_rfl) rfl (fun K hK=> ?_)
 try simp only[yD,yE,yF]
 rw[if_pos (by rfl)]
 go_simp
 go_at_call 56
 (with_reducible refine(most_as k M2 HM2 _).mono ?_)
 rintro e w' ⟨rfl,rfl⟩
 refine hK.out _ _ hH (fun hH=> ?_)
 clear hK K
 try simp only[Act.put,yA,yB,yC]
 refine yL [22,23,24,25,26,27,28,29,30,31,32,33,34,35,36,37,38,39,40,41,42,43] (by kernel_rfl) hH (fun _ _ _ _ _=>id) ?_
 iterate 12
  refine yS rfl rfl (by rfl) ?_ ?_ ?_
  rotate_left
  ·rintro w' ⟨s0,s1,s2,s3⟩;go_simp;try with_reducible rfl
  try simp only[Act.put,yA,yB,yC]
 iterate 9
  refine yV rfl rfl (by rfl) ?_
  try simp only[Act.put,yA,yB,yC]
 refine yS rfl rfl (by rfl) ?_ ?_ ?_
 rotate_left
 ·rintro w' ⟨s0,s1,s2,s3⟩;go_simp;try with_reducible rfl
 try simp only[Act.put,yA,yB,yC]
 refine yZ ?_
 refine wpAnyH_done (by kernel_rfl) ?_ _
 go_wp2_with (fail)
 go_ret
 exact⟨rfl,HA.out.drew⟩
theorem rfine_no6(k n:Int)(l:List Ex)(A:Option Addr)(c:Nat)(d:Nat)(hd:d≤40)(hl9:l.length≤1000000)(w0 w:World)(hr:Rel w0 w)(M1 M2:Int)(HM1:Hid (argsN k=M1))(HM2:Hid (mostN k=M2))(NM:ByteArray)(zNM:NM.size≤100)(q0:decide ((d:Int)+1<1)=false)(q1:(M1 !=(l.length:Int))=false)(q1':(M1==(l.length:Int))=true)(q2:decide (n<0)=false)(q3:decide (M2<n)=false)(q4:(NM.toList !=[])=true)(q4':(NM.toList==[])=false)(q5:(k==3)=true)(HNb:Hid (isName NM.data.toList=false)):
  Calls Tryz.prog 43 #[.agg #[.int .i64 k,.int .i64 n,.string NM,.slice A l.length c],.int .i64 ((d:Int)+1)] w fun e w'=>e= .returned (.bool false)∧Rel w0 w':=by
 have HB:=yH (Bk.new w 54 #[.int .i64 k,.int .i64 n,.string NM,.slice A l.length c])
 have HA:=yH (hr.alloc (.cells #[.int .i64 k,.int .i64 n,.string NM,.slice A l.length c] 54))
 go_enter Tryz.func43,Tryz.ntmps43
 go_wp2_with (fail)
 obtain⟨W,hW⟩:∃W,w.alloc (.cells #[.int .i64 k,.int .i64 n,.string NM,.slice A l.length c] 54)=W:=⟨_,rfl⟩
 rw[hW] at HB HA⊢
 clear hW
 obtain⟨⟨c0,c1,c2,c3⟩,_⟩:=HB.out.four
 refine wp_region_held_drew (S:=(fun w'=>w'.cell? ⟨w.heap.size,0,none⟩=some (.int .i64 k)∧w'.cell? ⟨w.heap.size,1,none⟩=some (.int .i64 n)∧w'.cell? ⟨w.heap.size,2,none⟩=some (.string NM)∧w'.cell? ⟨w.heap.size,3,none⟩=some (.slice A l.length c))) (by kernel_rfl) ⟨c0,c1,c2,c3⟩ (fun hH=> ?_)
 refine yL [0,1,2,3,4,6,7,8] (by kernel_rfl) hH (fun _ _ _ _ _=>id) ?_
 iterate 8
  refine yS rfl rfl (by rfl) ?_ ?_ ?_
  rotate_left
  ·rintro w' ⟨s0,s1,s2,s3⟩;go_simp;try with_reducible rfl
  try simp only[Act.put,yA,yB,yC]
 refine yZ ?_
 refine held_one (j:=5) (by kernel_rfl) rfl (fun K hK=> ?_)
 try simp only[yD,yE,yF]
 rw[if_pos (by rfl)]
 go_simp
 go_at_call 50
 (with_reducible refine(args_as k M1 HM1 _).mono ?_)
 rintro e w' ⟨rfl,rfl⟩
 refine hK.out _ _ hH (fun hH=> ?_)
 clear hK K
 try simp only[Act.put,yA,yB,yC]
 refine yL [9,10,11,12,13,14,15,16,17,18,19,20] (by kernel_rfl) hH (fun _ _ _ _ _=>id) ?_
 iterate 12
  refine yS rfl rfl (by rfl) ?_ ?_ ?_
  rotate_left
  ·rintro w' ⟨s0,s1,s2,s3⟩;go_simp;try with_reducible rfl
  try simp only[Act.put,yA,yB,yC]
 refine yZ ?_
 refine held_one (j:=21) (by kernel_rfl) rfl (fun K hK=> ?_)
 try simp only[yD,yE,yF]
 rw[if_pos (by rfl)]
 go_simp
 go_at_call 56
 (with_reducible refine(most_as k M2 HM2 _).mono ?_)
 rintro e w' ⟨rfl,rfl⟩
 refine hK.out _ _ hH (fun hH=> ?_)
 clear hK K
 try simp only[Act.put,yA,yB,yC]
 refine yL [22,23,24,25,26,27,28,29,30,31,32,33,34,35,36,37,38,39] (by kernel_rfl) hH (fun _ _ _ _ _=>id) ?_
 iterate 18
  refine yS rfl rfl (by rfl) ?_ ?_ ?_
  rotate_left
  ·rintro w' ⟨s0,s1,s2,s3⟩;go_simp;try with_reducible rfl
  try simp only[Act.put,yA,yB,yC]
 refine yZ ?_
 refine held_one (j:=40) (by kernel_rfl) rfl (fun K hK=> ?_)
 try simp only[yD,yE,yF]
 rw[if_pos (by rfl)]
 go_simp
 go_at_call 57
 (with_reducible refine(rname_as NM false HNb zNM _ _ HA.out.drew.self).mono ?_)
 rintro e w2 ⟨rfl,h2⟩
 obtain⟨⟨d0,d1,d2,d3⟩,_⟩:=(HB.out.drew.rel h2).four
 refine hK.out _ _ ⟨d0,d1,d2,d3⟩ (fun hH=> ?_)
 clear hK K
 try simp only[Act.put,yA,yB,yC]
 refine yL [41,42,43] (by kernel_rfl) hH (fun _ _ _ _ _=>id) ?_
 iterate 3
  refine yS rfl rfl (by rfl) ?_ ?_ ?_
  rotate_left
  ·rintro w' ⟨s0,s1,s2,s3⟩;go_simp;try with_reducible rfl
  try simp only[Act.put,yA,yB,yC]
 refine yZ ?_
 refine wpAnyH_done (by kernel_rfl) ?_ _
 go_wp2_with (fail)
 go_ret
 exact⟨rfl,HA.out.drew.trans h2⟩
theorem rfine_no0(k n:Int)(l:List Ex)(A:Option Addr)(c:Nat)(hl9:l.length≤1000000)(w0 w:World)(hr:Rel w0 w)(M1 M2:Int)(HM1:Hid (argsN k=M1))(HM2:Hid (mostN k=M2))(NM:ByteArray)(zNM:NM.size≤100):
  Calls Tryz.prog 43 #[.agg #[.int .i64 k,.int .i64 n,.string NM,.slice A l.length c],.int .i64 0] w fun e w'=>e= .returned (.bool false)∧Rel w0 w':=by
 have HB:=yH (Bk.new w 54 #[.int .i64 k,.int .i64 n,.string NM,.slice A l.length c])
 have HA:=yH (hr.alloc (.cells #[.int .i64 k,.int .i64 n,.string NM,.slice A l.length c] 54))
 go_enter Tryz.func43,Tryz.ntmps43
 go_wp2_with (fail)
 obtain⟨W,hW⟩:∃W,w.alloc (.cells #[.int .i64 k,.int .i64 n,.string NM,.slice A l.length c] 54)=W:=⟨_,rfl⟩
 rw[hW] at HB HA⊢
 clear hW
 obtain⟨⟨c0,c1,c2,c3⟩,_⟩:=HB.out.four
 refine wp_region_held_drew (S:=(fun w'=>w'.cell? ⟨w.heap.size,0,none⟩=some (.int .i64 k)∧w'.cell? ⟨w.heap.size,1,none⟩=some (.int .i64 n)∧w'.cell? ⟨w.heap.size,2,none⟩=some (.string NM)∧w'.cell? ⟨w.heap.size,3,none⟩=some (.slice A l.length c))) (by kernel_rfl) ⟨c0,c1,c2,c3⟩ (fun hH=> ?_)
 refine yL [0,1,2,3,4,5,6,7,8,9,10,11,12,13,14,15,16,17,18,19,20,21,22,23,24,25,26,27,28,29,30,31,32,33,34,35,36,37,38,39,40,41,42,43] (by kernel_rfl) hH (fun _ _ _ _ _=>id) ?_
 iterate 3
  refine yS rfl rfl (by rfl) ?_ ?_ ?_
  rotate_left
  ·rintro w' ⟨s0,s1,s2,s3⟩;go_simp;try with_reducible rfl
  try simp only[Act.put,yA,yB,yC]
 iterate 7
  refine yV rfl rfl (by rfl) ?_
  try simp only[Act.put,yA,yB,yC]
 iterate 2
  refine yS rfl rfl (by rfl) ?_ ?_ ?_
  rotate_left
  ·rintro w' ⟨s0,s1,s2,s3⟩;go_simp;try with_reducible rfl
  try simp only[Act.put,yA,yB,yC]
 iterate 3
  refine yV rfl rfl (by rfl) ?_
  try simp only[Act.put,yA,yB,yC]
 iterate 2
  refine yS rfl rfl (by rfl) ?_ ?_ ?_
  rotate_left
  ·rintro w' ⟨s0,s1,s2,s3⟩;go_simp;try with_reducible rfl
  try simp only[Act.put,yA,yB,yC]
 iterate 6
  refine yV rfl rfl (by rfl) ?_
  try simp only[Act.put,yA,yB,yC]
 iterate 2
  refine yS rfl rfl (by rfl) ?_ ?_ ?_
  rotate_left
  ·rintro w' ⟨s0,s1,s2,s3⟩;go_simp;try with_reducible rfl
  try simp only[Act.put,yA,yB,yC]
 iterate 7
  refine yV rfl rfl (by rfl) ?_
  try simp only[Act.put,yA,yB,yC]
 iterate 2
  refine yS rfl rfl (by rfl) ?_ ?_ ?_
  rotate_left
  ·rintro w' ⟨s0,s1,s2,s3⟩;go_simp;try with_reducible rfl
  try simp only[Act.put,yA,yB,yC]
 iterate 9
  refine yV rfl rfl (by rfl) ?_
  try simp only[Act.put,yA,yB,yC]
 refine yS rfl rfl (by rfl) ?_ ?_ ?_
 rotate_left
 ·rintro w' ⟨s0,s1,s2,s3⟩;go_simp;try with_reducible rfl
 try simp only[Act.put,yA,yB,yC]
 refine yZ ?_
 refine wpAnyH_done (by kernel_rfl) ?_ _
 go_wp2_with (fail)
 go_ret
 exact⟨rfl,HA.out.drew⟩
end Go.Proofs.YtjhjdiaomnpkmaaGreatDoor
