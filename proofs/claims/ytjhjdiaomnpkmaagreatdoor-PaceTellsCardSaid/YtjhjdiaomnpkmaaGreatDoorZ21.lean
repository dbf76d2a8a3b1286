/- The landed config's strategy. -/

import Derived.Test.YtjhjdiaomnpkmaaGreatDoorZ12
import Derived.Test.YtjhjdiaomnpkmaaGreatDoorZ20
set_option maxRecDepth 100000
set_option maxHeartbeats 8000000
set_option linter.unusedVariables false
set_option linter.unusedSimpArgs false
namespace Go.Proofs.YtjhjdiaomnpkmaaGreatDoor
open Go.RowKit Go.Lib
theorem lstrat_range(f c m o b:Int)(t:List UInt8)(S:ByteArray)(hn:numsOk (f,c,m,o,b,t)=false)(w:World)(hr:Rel w w):
  Calls Tryz.prog 42 #[.agg #[.int .i64 f,.int .i64 c,.int .i64 m,.int .i64 o,.int .i64 b,.string S]] w fun e w'=>e= .returned (.tuple #[.agg #[.int .i64 0,.int .i64 0,.string ⟨#[]⟩,.slice none 0 0],.int .i64 10])∧Hid (Rel w w'):=by
 have HB:=yH (fun(w:World)(hr:Rel w w)=>lbounded_any f c m o b t S w hr)
 rw[hn] at HB
 have HX0:=yH ((Bk.new w 24 #[.int .i64 f,.int .i64 c,.int .i64 m,.int .i64 o,.int .i64 b,.string S]).alloc (.cells #[.int .i64 0,.int .i64 0,.string ⟨#[]⟩,.slice none 0 0] 54))
 have HZ0:=yH (Bk.new (w.alloc (.cells #[.int .i64 f,.int .i64 c,.int .i64 m,.int .i64 o,.int .i64 b,.string S] 24)) 54 #[.int .i64 0,.int .i64 0,.string ⟨#[]⟩,.slice none 0 0])
 have HR0:=yH ((hr.alloc (.cells #[.int .i64 f,.int .i64 c,.int .i64 m,.int .i64 o,.int .i64 b,.string S] 24)).alloc (.cells #[.int .i64 0,.int .i64 0,.string ⟨#[]⟩,.slice none 0 0] 54))
 clear hr hn
 go_enter Tryz.func42,Tryz.ntmps42
 go_upto_region 1 with (fail)
 have HX:=HX0
 have HZ:=HZ0
 have R1:=HR0
 rw[World.size_alloc] at HZ
 obtain⟨W,hW⟩:∃W,(w.alloc (.cells #[.int .i64 f,.int .i64 c,.int .i64 m,.int .i64 o,.int .i64 b,.string S] 24)).alloc (.cells #[.int .i64 0,.int .i64 0,.string ⟨#[]⟩,.slice none 0 0] 54)=W:=⟨_,rfl⟩
 obtain⟨gz,hgz⟩:∃g,w.heap.size+1=g:=⟨_,rfl⟩
 rw[hW] at HX HZ R1
 rw[hgz] at HZ
 have sz:w.heap.size≤gz:=by omega
 try rw[hW]
 try rw[hgz]
 obtain⟨gx,hgx⟩:∃g,w.heap.size=g:=⟨_,rfl⟩
 rw[hgx] at HX
 try rw[hgx]
 clear hW hgz hgx HX0 HZ0 HR0
 obtain⟨⟨x0,x1,x2,x3,x4,x5⟩,_⟩:=six_of HX.out
 obtain⟨⟨z0,z1,z2,z3⟩,⟨zf0,zf1,zf2,zf3⟩⟩:=HZ.out.four
 go_upto_region 2 with (go_at_call 53;(with_reducible refine(HB.out _ R1.out.self).mono ?_);rintro e w2 ⟨rfl,h2⟩;have R2:=yH (R1.out.trans h2.out);have HX2:=yH (HX.out.rel h2.out);have HZ2:=yH (HZ.out.rel h2.out);clear h2;clear x0 x1 x2 x3 x4 x5 z0 z1 z2 z3 zf0 zf1 zf2 zf3;obtain⟨⟨x0,x1,x2,x3,x4,x5⟩,_⟩:=six_of HX2.out;obtain⟨⟨z0,z1,z2,z3⟩,⟨zf0,zf1,zf2,zf3⟩⟩:=HZ2.out.four)
 go_wp2_with (fail)
 obtain⟨⟨y0,y1,y2,y3⟩,_⟩:=(HZ2.out.put4 (.int .i64 0) (.int .i64 0) (.string ⟨#[]⟩) (.slice none 0 0)).four
 have RW:=R2.out.put4 sz (.int .i64 0) (.int .i64 0) (.string ⟨#[]⟩) (.slice none 0 0)
 refine bodyPost_ret (v:= .tuple #[.agg #[.int .i64 0,.int .i64 0,.string ⟨#[]⟩,.slice none 0 0],.int .i64 10]) (by simp[results,Tryz.results42,go_sem,y0,y1,y2,y3];first|done|rfl) rfl ⟨rfl,yH RW⟩
theorem lstrat_no(f c m o b:Int)(t:List UInt8)(S:ByteArray)(hS:B t=S)(ht:t.length≤9223372036854775807)(hn:numsOk (f,c,m,o,b,t)=true)(cd pl:Int)(hcd:(cd !=0)=true)(hx:parseS t= .error (cd,pl))(w:World)(hr:Rel w w):
  Calls Tryz.prog 42 #[.agg #[.int .i64 f,.int .i64 c,.int .i64 m,.int .i64 o,.int .i64 b,.string S]] w fun e w'=>e= .returned (.tuple #[.agg #[.int .i64 0,.int .i64 0,.string ⟨#[]⟩,.slice none 0 0],.int .i64 cd])∧Hid (Rel w w'):=by
 have HB:=yH (fun(w:World)(hr:Rel w w)=>lbounded_any f c m o b t S w hr)
 rw[hn] at HB
 have HP:=yH (fun(w:World)(hr:Rel w w)=>lparse_no14 t S hS ht cd pl hx w hr)
 have HX0:=yH ((Bk.new w 24 #[.int .i64 f,.int .i64 c,.int .i64 m,.int .i64 o,.int .i64 b,.string S]).alloc (.cells #[.int .i64 0,.int .i64 0,.string ⟨#[]⟩,.slice none 0 0] 54))
 have HZ0:=yH (Bk.new (w.alloc (.cells #[.int .i64 f,.int .i64 c,.int .i64 m,.int .i64 o,.int .i64 b,.string S] 24)) 54 #[.int .i64 0,.int .i64 0,.string ⟨#[]⟩,.slice none 0 0])
 have HR0:=yH ((hr.alloc (.cells #[.int .i64 f,.int .i64 c,.int .i64 m,.int .i64 o,.int .i64 b,.string S] 24)).alloc (.cells #[.int .i64 0,.int .i64 0,.string ⟨#[]⟩,.slice none 0 0] 54))
 clear hr hn hS hx ht
 go_enter Tryz.func42,Tryz.ntmps42
 go_upto_region 1 with (fail)
 have HX:=HX0
 have HZ:=HZ0
 have R1:=HR0
 rw[World.size_alloc] at HZ
 obtain⟨W,hW⟩:∃W,(w.alloc (.cells #[.int .i64 f,.int .i64 c,.int .i64 m,.int .i64 o,.int .i64 b,.string S] 24)).alloc (.cells #[.int .i64 0,.int .i64 0,.string ⟨#[]⟩,.slice none 0 0] 54)=W:=⟨_,rfl⟩
 obtain⟨gz,hgz⟩:∃g,w.heap.size+1=g:=⟨_,rfl⟩
 rw[hW] at HX HZ R1
 rw[hgz] at HZ
 have sz:w.heap.size≤gz:=by omega
 try rw[hW]
 try rw[hgz]
 obtain⟨gx,hgx⟩:∃g,w.heap.size=g:=⟨_,rfl⟩
 rw[hgx] at HX
 try rw[hgx]
 clear hW hgz hgx HX0 HZ0 HR0
 obtain⟨⟨x0,x1,x2,x3,x4,x5⟩,_⟩:=six_of HX.out
 obtain⟨⟨z0,z1,z2,z3⟩,⟨zf0,zf1,zf2,zf3⟩⟩:=HZ.out.four
 go_upto_region 3 with (go_at_call 53;(with_reducible refine(HB.out _ R1.out.self).mono ?_);rintro e w2 ⟨rfl,h2⟩;have R2:=yH (R1.out.trans h2.out);have HX2:=yH (HX.out.rel h2.out);have HZ2:=yH (HZ.out.rel h2.out);clear h2;clear x0 x1 x2 x3 x4 x5 z0 z1 z2 z3 zf0 zf1 zf2 zf3;obtain⟨⟨x0,x1,x2,x3,x4,x5⟩,_⟩:=six_of HX2.out;obtain⟨⟨z0,z1,z2,z3⟩,⟨zf0,zf1,zf2,zf3⟩⟩:=HZ2.out.four)
 go_upto_region 4 with (go_at_call 54;(with_reducible refine(HP.out w2 R2.out.self).mono ?_);rintro e w3 ⟨rfl,h3⟩;have R3:=yH (R2.out.trans h3.out);have HX3:=yH (HX2.out.rel h3.out);have HZ3:=yH (HZ2.out.rel h3.out);clear h3;clear x0 x1 x2 x3 x4 x5 z0 z1 z2 z3 zf0 zf1 zf2 zf3;obtain⟨⟨x0,x1,x2,x3,x4,x5⟩,_⟩:=six_of HX3.out;obtain⟨⟨z0,z1,z2,z3⟩,⟨zf0,zf1,zf2,zf3⟩⟩:=HZ3.out.four)
 have HZ4:=yH (HZ3.out.alloc (.cells #[.int .i64 0,.int .i64 0,.string ⟨#[]⟩,.slice none 0 0] 54))
 have R4:=yH (R3.out.alloc (.cells #[.int .i64 0,.int .i64 0,.string ⟨#[]⟩,.slice none 0 0] 54))
 obtain⟨W4,hW4⟩:∃W,w3.alloc (.cells #[.int .i64 0,.int .i64 0,.string ⟨#[]⟩,.slice none 0 0] 54)=W:=⟨_,rfl⟩
 rw[hW4] at HZ4 R4
 try rw[hW4]
 clear hW4
 clear x0 x1 x2 x3 x4 x5 z0 z1 z2 z3 zf0 zf1 zf2 zf3
 obtain⟨⟨z0,z1,z2,z3⟩,⟨zf0,zf1,zf2,zf3⟩⟩:=HZ4.out.four
 go_wp2_with (fail)
 obtain⟨⟨y0,y1,y2,y3⟩,_⟩:=(HZ4.out.put4 (.int .i64 0) (.int .i64 0) (.string ⟨#[]⟩) (.slice none 0 0)).four
 have RW:=R4.out.put4 sz (.int .i64 0) (.int .i64 0) (.string ⟨#[]⟩) (.slice none 0 0)
 refine bodyPost_ret (v:= .tuple #[.agg #[.int .i64 0,.int .i64 0,.string ⟨#[]⟩,.slice none 0 0],.int .i64 cd]) (by simp[results,Tryz.results42,go_sem,y0,y1,y2,y3];first|done|rfl) rfl ⟨rfl,yH RW⟩
theorem lstrat_arg(f c m o b:Int)(t:List UInt8)(S:ByteArray)(hS:B t=S)(ht:t.length≤9223372036854775807)(hn:numsOk (f,c,m,o,b,t)=true)(x:Ex)(hx:parseS t= .ok x)(hb:rightX x=false)(w:World)(hr:Rel w w):
  Calls Tryz.prog 42 #[.agg #[.int .i64 f,.int .i64 c,.int .i64 m,.int .i64 o,.int .i64 b,.string S]] w fun e w'=>e= .returned (.tuple #[.agg #[.int .i64 0,.int .i64 0,.string ⟨#[]⟩,.slice none 0 0],.int .i64 1])∧Hid (Rel w w'):=by
 have HB:=yH (fun(w:World)(hr:Rel w w)=>lbounded_any f c m o b t S w hr)
 rw[hn] at HB
 have hz:=parse_size hx
 have HP:=yH (fun(w:World)(hr:Rel w w)=>lparse_yes14 t S hS ht x hx w hr)
 have HRr:=yH (fun(v:Value)(w:World)(h:XAt w v x)(hr:Rel w w)=>lright14 hb hz w h hr)
 have HX0:=yH ((Bk.new w 24 #[.int .i64 f,.int .i64 c,.int .i64 m,.int .i64 o,.int .i64 b,.string S]).alloc (.cells #[.int .i64 0,.int .i64 0,.string ⟨#[]⟩,.slice none 0 0] 54))
 have HZ0:=yH (Bk.new (w.alloc (.cells #[.int .i64 f,.int .i64 c,.int .i64 m,.int .i64 o,.int .i64 b,.string S] 24)) 54 #[.int .i64 0,.int .i64 0,.string ⟨#[]⟩,.slice none 0 0])
 have HR0:=yH ((hr.alloc (.cells #[.int .i64 f,.int .i64 c,.int .i64 m,.int .i64 o,.int .i64 b,.string S] 24)).alloc (.cells #[.int .i64 0,.int .i64 0,.string ⟨#[]⟩,.slice none 0 0] 54))
 clear hr hn hS hx ht hb hz
 go_enter Tryz.func42,Tryz.ntmps42
 go_upto_region 1 with (fail)
 have HX:=HX0
 have HZ:=HZ0
 have R1:=HR0
 rw[World.size_alloc] at HZ
 obtain⟨W,hW⟩:∃W,(w.alloc (.cells #[.int .i64 f,.int .i64 c,.int .i64 m,.int .i64 o,.int .i64 b,.string S] 24)).alloc (.cells #[.int .i64 0,.int .i64 0,.string ⟨#[]⟩,.slice none 0 0] 54)=W:=⟨_,rfl⟩
 obtain⟨gz,hgz⟩:∃g,w.heap.size+1=g:=⟨_,rfl⟩
 rw[hW] at HX HZ R1
 rw[hgz] at HZ
 have sz:w.heap.size≤gz:=by omega
 try rw[hW]
 try rw[hgz]
 obtain⟨gx,hgx⟩:∃g,w.heap.size=g:=⟨_,rfl⟩
 rw[hgx] at HX
 try rw[hgx]
 clear hW hgz hgx HX0 HZ0 HR0
 obtain⟨⟨x0,x1,x2,x3,x4,x5⟩,_⟩:=six_of HX.out
 obtain⟨⟨z0,z1,z2,z3⟩,⟨zf0,zf1,zf2,zf3⟩⟩:=HZ.out.four
 go_upto_region 3 with (go_at_call 53;(with_reducible refine(HB.out _ R1.out.self).mono ?_);rintro e w2 ⟨rfl,h2⟩;have R2:=yH (R1.out.trans h2.out);have HX2:=yH (HX.out.rel h2.out);have HZ2:=yH (HZ.out.rel h2.out);clear h2;clear x0 x1 x2 x3 x4 x5 z0 z1 z2 z3 zf0 zf1 zf2 zf3;obtain⟨⟨x0,x1,x2,x3,x4,x5⟩,_⟩:=six_of HX2.out;obtain⟨⟨z0,z1,z2,z3⟩,⟨zf0,zf1,zf2,zf3⟩⟩:=HZ2.out.four)
 have szl:gz<w2.heap.size:=HZ2.out.lt
 go_upto_region 4 with (go_at_call 54;(with_reducible refine(HP.out w2 R2.out.self).mono ?_);rintro e w3 ⟨k,n,X,A,l,q,rfl,hv,h3⟩;have R3:=yH (R2.out.trans h3.out);have HX3:=yH (HX2.out.rel h3.out);have HZ3:=yH (HZ2.out.rel h3.out);have HV:=yH hv.out;have s23:=h3.out.size;clear hv;clear h3;clear x0 x1 x2 x3 x4 x5 z0 z1 z2 z3 zf0 zf1 zf2 zf3;obtain⟨⟨x0,x1,x2,x3,x4,x5⟩,_⟩:=six_of HX3.out;obtain⟨⟨z0,z1,z2,z3⟩,⟨zf0,zf1,zf2,zf3⟩⟩:=HZ3.out.four)
 have HY:=yH (Bk.new w3 54 #[.int .i64 k,.int .i64 n,.string X,.slice A l q])
 have HZ4:=yH (HZ3.out.alloc (.cells #[.int .i64 k,.int .i64 n,.string X,.slice A l q] 54))
 have R4:=yH (R3.out.alloc (.cells #[.int .i64 k,.int .i64 n,.string X,.slice A l q] 54))
 have HV4:=yH (HV.out.rel (R3.out.self.alloc (.cells #[.int .i64 k,.int .i64 n,.string X,.slice A l q] 54)))
 have s34:w3.heap.size≤(w3.alloc (.cells #[.int .i64 k,.int .i64 n,.string X,.slice A l q] 54)).heap.size:=by rw[World.size_alloc];omega
 obtain⟨W4,hW4⟩:∃W,w3.alloc (.cells #[.int .i64 k,.int .i64 n,.string X,.slice A l q] 54)=W:=⟨_,rfl⟩
 obtain⟨gy,hgy⟩:∃g,w3.heap.size=g:=⟨_,rfl⟩
 rw[hW4] at HY HZ4 R4 HV4 s34
 rw[hgy] at HY
 try rw[hW4]
 try rw[hgy]
 have s24:w2.heap.size≤W4.heap.size:=Nat.le_trans s23 s34
 clear hW4 hgy s23 s34
 clear x0 x1 x2 x3 x4 x5 z0 z1 z2 z3 zf0 zf1 zf2 zf3
 obtain⟨⟨y0,y1,y2,y3⟩,_⟩:=HY.out.four
 have C5:=yH (HRr.out (.agg #[.int .i64 k,.int .i64 n,.string X,.slice A l q]) W4 HV4.out.at R4.out.self)
 go_upto_region 7 with (go_at_call 55;(with_reducible refine C5.out.mono ?_);rintro e w5 ⟨rfl,h5⟩;have R5:=yH (R4.out.trans h5.out);have HZ5:=yH (HZ4.out.rel h5.out);have HY5:=yH (HY.out.rel h5.out);have HV5:=yH (HV4.out.rel h5.out);have s25:=Nat.le_trans s24 h5.out.size;clear h5)
 clear y0 y1 y2 y3
 obtain⟨⟨y0,y1,y2,y3⟩,_⟩:=HY5.out.four
 obtain⟨⟨z0,z1,z2,z3⟩,⟨zf0,zf1,zf2,zf3⟩⟩:=HZ5.out.four
 clear s24
 go_wp2_with (fail)
 clear y0 y1 y2 y3
 obtain⟨⟨y0,y1,y2,y3⟩,_⟩:=(HZ5.out.put4 (.int .i64 0) (.int .i64 0) (.string ⟨#[]⟩) (.slice none 0 0)).four
 have RW:=R5.out.put4 sz (.int .i64 0) (.int .i64 0) (.string ⟨#[]⟩) (.slice none 0 0)
 refine bodyPost_ret (v:= .tuple #[.agg #[.int .i64 0,.int .i64 0,.string ⟨#[]⟩,.slice none 0 0],.int .i64 1]) (by simp[results,Tryz.results42,go_sem,y0,y1,y2,y3];first|done|rfl) rfl ⟨rfl,yH RW⟩
theorem lstrat_yes(f c m o b:Int)(t:List UInt8)(S:ByteArray)(hS:B t=S)(ht:t.length≤9223372036854775807)(hn:numsOk (f,c,m,o,b,t)=true)(x:Ex)(hx:parseS t= .ok x)(hb:rightX x=true)(w:World)(hr:Rel w w):
  Calls Tryz.prog 42 #[.agg #[.int .i64 f,.int .i64 c,.int .i64 m,.int .i64 o,.int .i64 b,.string S]] w fun e w'=>∃(k n:Int)(X:ByteArray)(A:Option Addr)(l q:Nat),e= .returned (.tuple #[.agg #[.int .i64 k,.int .i64 n,.string X,.slice A l q],.int .i64 0])∧Hid (XAt w' (XV k n X A l q) x)∧Hid (Rel w w'):=by
 have HB:=yH (fun(w:World)(hr:Rel w w)=>lbounded_any f c m o b t S w hr)
 rw[hn] at HB
 have hz:=parse_size hx
 have HP:=yH (fun(w:World)(hr:Rel w w)=>lparse_yes14 t S hS ht x hx w hr)
 have HRr:=yH (fun(v:Value)(w:World)(h:XAt w v x)(hr:Rel w w)=>lright14 hb hz w h hr)
 have HX0:=yH ((Bk.new w 24 #[.int .i64 f,.int .i64 c,.int .i64 m,.int .i64 o,.int .i64 b,.string S]).alloc (.cells #[.int .i64 0,.int .i64 0,.string ⟨#[]⟩,.slice none 0 0] 54))
 have HZ0:=yH (Bk.new (w.alloc (.cells #[.int .i64 f,.int .i64 c,.int .i64 m,.int .i64 o,.int .i64 b,.string S] 24)) 54 #[.int .i64 0,.int .i64 0,.string ⟨#[]⟩,.slice none 0 0])
 have HR0:=yH ((hr.alloc (.cells #[.int .i64 f,.int .i64 c,.int .i64 m,.int .i64 o,.int .i64 b,.string S] 24)).alloc (.cells #[.int .i64 0,.int .i64 0,.string ⟨#[]⟩,.slice none 0 0] 54))
 clear hr hn hS hx ht hb hz
 go_enter Tryz.func42,Tryz.ntmps42
 go_upto_region 1 with (fail)
 have HX:=HX0
 have HZ:=HZ0
 have R1:=HR0
 rw[World.size_alloc] at HZ
 obtain⟨W,hW⟩:∃W,(w.alloc (.cells #[.int .i64 f,.int .i64 c,.int .i64 m,.int .i64 o,.int .i64 b,.string S] 24)).alloc (.cells #[.int .i64 0,.int .i64 0,.string ⟨#[]⟩,.slice none 0 0] 54)=W:=⟨_,rfl⟩
 obtain⟨gz,hgz⟩:∃g,w.heap.size+1=g:=⟨_,rfl⟩
 rw[hW] at HX HZ R1
 rw[hgz] at HZ
 have sz:w.heap.size≤gz:=by omega
 try rw[hW]
 try rw[hgz]
 obtain⟨gx,hgx⟩:∃g,w.heap.size=g:=⟨_,rfl⟩
 rw[hgx] at HX
 try rw[hgx]
 clear hW hgz hgx HX0 HZ0 HR0
 obtain⟨⟨x0,x1,x2,x3,x4,x5⟩,_⟩:=six_of HX.out
 obtain⟨⟨z0,z1,z2,z3⟩,⟨zf0,zf1,zf2,zf3⟩⟩:=HZ.out.four
 go_upto_region 3 with (go_at_call 53;(with_reducible refine(HB.out _ R1.out.self).mono ?_);rintro e w2 ⟨rfl,h2⟩;have R2:=yH (R1.out.trans h2.out);have HX2:=yH (HX.out.rel h2.out);have HZ2:=yH (HZ.out.rel h2.out);clear h2;clear x0 x1 x2 x3 x4 x5 z0 z1 z2 z3 zf0 zf1 zf2 zf3;obtain⟨⟨x0,x1,x2,x3,x4,x5⟩,_⟩:=six_of HX2.out;obtain⟨⟨z0,z1,z2,z3⟩,⟨zf0,zf1,zf2,zf3⟩⟩:=HZ2.out.four)
 have szl:gz<w2.heap.size:=HZ2.out.lt
 go_upto_region 4 with (go_at_call 54;(with_reducible refine(HP.out w2 R2.out.self).mono ?_);rintro e w3 ⟨k,n,X,A,l,q,rfl,hv,h3⟩;have R3:=yH (R2.out.trans h3.out);have HX3:=yH (HX2.out.rel h3.out);have HZ3:=yH (HZ2.out.rel h3.out);have HV:=yH hv.out;have s23:=h3.out.size;clear hv;clear h3;clear x0 x1 x2 x3 x4 x5 z0 z1 z2 z3 zf0 zf1 zf2 zf3;obtain⟨⟨x0,x1,x2,x3,x4,x5⟩,_⟩:=six_of HX3.out;obtain⟨⟨z0,z1,z2,z3⟩,⟨zf0,zf1,zf2,zf3⟩⟩:=HZ3.out.four)
 have HY:=yH (Bk.new w3 54 #[.int .i64 k,.int .i64 n,.string X,.slice A l q])
 have HZ4:=yH (HZ3.out.alloc (.cells #[.int .i64 k,.int .i64 n,.string X,.slice A l q] 54))
 have R4:=yH (R3.out.alloc (.cells #[.int .i64 k,.int .i64 n,.string X,.slice A l q] 54))
 have HV4:=yH (HV.out.rel (R3.out.self.alloc (.cells #[.int .i64 k,.int .i64 n,.string X,.slice A l q] 54)))
 have s34:w3.heap.size≤(w3.alloc (.cells #[.int .i64 k,.int .i64 n,.string X,.slice A l q] 54)).heap.size:=by rw[World.size_alloc];omega
 obtain⟨W4,hW4⟩:∃W,w3.alloc (.cells #[.int .i64 k,.int .i64 n,.string X,.slice A l q] 54)=W:=⟨_,rfl⟩
 obtain⟨gy,hgy⟩:∃g,w3.heap.size=g:=⟨_,rfl⟩
 rw[hW4] at HY HZ4 R4 HV4 s34
 rw[hgy] at HY
 try rw[hW4]
 try rw[hgy]
 have s24:w2.heap.size≤W4.heap.size:=Nat.le_trans s23 s34
 clear hW4 hgy s23 s34
 clear x0 x1 x2 x3 x4 x5 z0 z1 z2 z3 zf0 zf1 zf2 zf3
 obtain⟨⟨y0,y1,y2,y3⟩,_⟩:=HY.out.four
 have C5:=yH (HRr.out (.agg #[.int .i64 k,.int .i64 n,.string X,.slice A l q]) W4 HV4.out.at R4.out.self)
 go_upto_region 8 with (go_at_call 55;(with_reducible refine C5.out.mono ?_);rintro e w5 ⟨rfl,h5⟩;have R5:=yH (R4.out.trans h5.out);have HZ5:=yH (HZ4.out.rel h5.out);have HY5:=yH (HY.out.rel h5.out);have HV5:=yH (HV4.out.rel h5.out);have s25:=Nat.le_trans s24 h5.out.size;clear h5)
 clear y0 y1 y2 y3
 obtain⟨⟨y0,y1,y2,y3⟩,_⟩:=HY5.out.four
 obtain⟨⟨z0,z1,z2,z3⟩,⟨zf0,zf1,zf2,zf3⟩⟩:=HZ5.out.four
 clear s24
 go_wp2_with (fail)
 clear y0 y1 y2 y3
 obtain⟨⟨y0,y1,y2,y3⟩,_⟩:=(HZ5.out.put4 (.int .i64 k) (.int .i64 n) (.string X) (.slice A l q)).four
 have RW:=R5.out.put4 sz (.int .i64 k) (.int .i64 n) (.string X) (.slice A l q)
 refine bodyPost_ret (v:= .tuple #[.agg #[.int .i64 k,.int .i64 n,.string X,.slice A l q],.int .i64 0]) (by simp[results,Tryz.results42,go_sem,y0,y1,y2,y3];first|done|rfl) rfl ⟨_,_,_,_,_,_,rfl,yH ((HV5.out.put4 szl (by omega) _ _ _ _).at),yH RW⟩
theorem lstrat_any(c:Cf)(S:ByteArray)(hS:B (txC c)=S)(hf:CfFit c)(w:World)(hr:Rel w w):
  Calls Tryz.prog 42 #[.agg #[.int .i64 (flC c),.int .i64 (ceC c),.int .i64 (mpC c),.int .i64 (coC c),.int .i64 (bdC c),.string S]] w fun e w'=>∃(k n:Int)(X:ByteArray)(A:Option Addr)(l q:Nat),e= .returned (.tuple #[.agg #[.int .i64 k,.int .i64 n,.string X,.slice A l q],.int .i64 (checkC c)])∧Hid (∀x,checkC c=0→parseS (txC c)= .ok x→XAt w' (XV k n X A l q) x)∧Hid (Rel w w'):=by
 obtain⟨f,ce,m,o,b,t⟩:=c
 have ht:t.length≤9223372036854775807:=hf.2
 cases hn:numsOk (f,ce,m,o,b,t) with
 |false=>
  have hc:checkC (f,ce,m,o,b,t)=10:=by unfold checkC;rw[hn];rfl
  rw[hc]
  exact(lstrat_range f ce m o b t S hn w hr).mono fun e w' ⟨he,h2⟩=>⟨_,_,_,_,_,_,he,yH (fun x h=>absurd h (by decide)),h2⟩
 |true=>
  have hc:checkC (f,ce,m,o,b,t)=textE t:=by unfold checkC;rw[hn];rfl
  rw[hc]
  cases hx:parseS t with
  |error p=>
   obtain⟨cd,pl⟩:=p
   rw[textE_error hx]
   have hne:=((parse_spec t).2 cd pl hx).1
   have h0:(cd !=0)=true:=by simp;omega
   exact(lstrat_no f ce m o b t S hS ht hn cd pl h0 hx w hr).mono fun e w' ⟨he,h2⟩=>⟨_,_,_,_,_,_,he,yH (fun x h _=>absurd h (by omega)),h2⟩
  |ok x=>
   rw[textE_ok hx]
   cases hb:rightX x with
   |true=>
    refine(lstrat_yes f ce m o b t S hS ht hn x hx hb w hr).mono ?_
    rintro e w' ⟨k,n,X,A,l,q,he,hv,h2⟩
    exact⟨k,n,X,A,l,q,he,yH (fun y _ hy=>by
     injection hy with hy;subst hy;exact hv.out),h2⟩
   |false=>exact(lstrat_arg f ce m o b t S hS ht hn x hx hb w hr).mono fun e w' ⟨he,h2⟩=>⟨_,_,_,_,_,_,he,yH (fun y h _=>absurd h (by decide)),h2⟩
theorem lcheck_at{f c m o b:Int}{t:List UInt8}{S:ByteArray}{E:Int}(hS:B t=S)(hf:CfFit (f,c,m,o,b,t))(hE:checkC (f,c,m,o,b,t)=E)(w:World)(hr:Rel w w):
  Calls Tryz.prog 34 #[.agg #[.int .i64 f,.int .i64 c,.int .i64 m,.int .i64 o,.int .i64 b,.string S]] w fun e w'=>e= .returned (.int .i64 E)∧Hid (Rel w w'):=by
 have hK:=fun(w:World)(hr:Rel w w)=>lstrat_any (f,c,m,o,b,t) S hS hf w hr
 rw[hE] at hK
 have HK:=yH hK
 clear hK hE
 obtain⟨gx,hgx,W,hW,HX,R1⟩:=conf_box hr f c m o b S
 go_enter Tryz.func34,Tryz.ntmps34
 go_upto_region 1 with (fail)
 try rw[hW]
 try rw[hgx]
 clear hW hgx hr
 obtain⟨⟨x0,x1,x2,x3,x4,x5⟩,_⟩:=six_of HX.out
 go_upto_region 2 with (go_at_call 42;(with_reducible refine(HK.out _ R1.out.self).mono ?_);rintro e w2 ⟨k,n,X,A,l,q,rfl,_,h2⟩;have R2:=yH (R1.out.trans h2.out);clear h2)
 go_wp2_with (fail)
 go_ret
 exact⟨rfl,yH (R2.out.alloc _)⟩
theorem llow_any(f c m o b:Int)(S:ByteArray)(w:World)(hr:Rel w w):
  Calls Tryz.prog 20 #[.agg #[.int .i64 f,.int .i64 c,.int .i64 m,.int .i64 o,.int .i64 b,.string S]] w fun e w'=>e= .returned (.int .i64 (max f m))∧Rel w w':=by
 by_cases h:f<m
 all_goals
  have HR:=yH hr
  go_enter Tryz.func20,Tryz.ntmps20
  go_wp2_with (fail)
  all_goals
   go_ret
   exact⟨ret_int (by omega),HR.out.alloc _⟩
theorem llow_at(f c m o b:Int)(S:ByteArray)(L:Int)(hL:max f m=L)(w:World)(hr:Rel w w):
  Calls Tryz.prog 20 #[.agg #[.int .i64 f,.int .i64 c,.int .i64 m,.int .i64 o,.int .i64 b,.string S]] w fun e w'=>e= .returned (.int .i64 L)∧Hid (Rel w w'):=by
 rw[←hL]
 exact(llow_any f c m o b S w hr).mono fun e w' ⟨he,h2⟩=>⟨he,yH h2⟩
theorem lwithin_no(f c m o b p E:Int)(t:List UInt8)(S:ByteArray)(hS:B t=S)(hf:CfFit (f,c,m,o,b,t))(hE:checkC (f,c,m,o,b,t)=E)(h0:(E==0)=false)(w:World)(hr:Rel w w):
  Calls Tryz.prog 19 #[.agg #[.int .i64 f,.int .i64 c,.int .i64 m,.int .i64 o,.int .i64 b,.string S],.int .i64 p] w fun e w'=>e= .returned (.bool false)∧Rel w w':=by
 have HC:=yH (fun(w:World)(hr:Rel w w)=>lcheck_at hS hf hE w hr)
 obtain⟨gx,hgx,W,hW,HX,R1⟩:=conf_box hr f c m o b S
 clear hS hf hE hr
 go_enter Tryz.func19,Tryz.ntmps19
 go_upto_region 1 with (fail)
 try rw[hW]
 try rw[hgx]
 clear hW hgx
 obtain⟨⟨x0,x1,x2,x3,x4,x5⟩,_⟩:=six_of HX.out
 go_wp2_with (go_at_call 34;(with_reducible refine(HC.out _ R1.out.self).mono ?_);rintro e w2 ⟨rfl,r2⟩;have R2:=yH (R1.out.trans r2.out);have P2:=yH r2.out;obtain⟨⟨x0,x1,x2,x3,x4,x5⟩,_⟩:=six_of (HX.out.rel r2.out);clear r2)
 go_ret
 exact⟨rfl,R2.out⟩
theorem lwithin_a(f c m o b p L:Int)(t:List UInt8)(S:ByteArray)(hS:B t=S)(hf:CfFit (f,c,m,o,b,t))(hE:checkC (f,c,m,o,b,t)=0)(hL:max f m=L)(h1:decide (L≤p)=false)(w:World)(hr:Rel w w):
  Calls Tryz.prog 19 #[.agg #[.int .i64 f,.int .i64 c,.int .i64 m,.int .i64 o,.int .i64 b,.string S],.int .i64 p] w fun e w'=>e= .returned (.bool false)∧Rel w w':=by
 have HC:=yH (fun(w:World)(hr:Rel w w)=>lcheck_at hS hf hE w hr)
 have HL:=yH (fun(w:World)(hr:Rel w w)=>llow_at f c m o b S L hL w hr)
 obtain⟨gx,hgx,W,hW,HX,R1⟩:=conf_box hr f c m o b S
 clear hS hf hE hr hL
 go_enter Tryz.func19,Tryz.ntmps19
 go_upto_region 1 with (fail)
 try rw[hW]
 try rw[hgx]
 clear hW hgx
 obtain⟨⟨x0,x1,x2,x3,x4,x5⟩,_⟩:=six_of HX.out
 go_wp2_with (first
  |(go_at_call 34;(with_reducible refine(HC.out _ R1.out.self).mono ?_);rintro e w2 ⟨rfl,r2⟩;have R2:=yH (R1.out.trans r2.out);have P2:=yH r2.out;obtain⟨⟨x0,x1,x2,x3,x4,x5⟩,_⟩:=six_of (HX.out.rel r2.out);clear r2)
  |(go_at_call 20;(with_reducible refine(HL.out _ R2.out.self).mono ?_);rintro e w3 ⟨rfl,r3⟩;have R3:=yH (R2.out.trans r3.out);obtain⟨⟨x0,x1,x2,x3,x4,x5⟩,_⟩:=six_of (HX.out.rel (P2.out.trans r3.out));clear r3))
 go_ret
 exact⟨rfl,R3.out⟩
theorem lwithin_b(f c m o b p L:Int)(t:List UInt8)(S:ByteArray)(hS:B t=S)(hf:CfFit (f,c,m,o,b,t))(hE:checkC (f,c,m,o,b,t)=0)(hL:max f m=L)(h1:decide (L≤p)=true)(h2:decide (p≤c)=true)(w:World)(hr:Rel w w):
  Calls Tryz.prog 19 #[.agg #[.int .i64 f,.int .i64 c,.int .i64 m,.int .i64 o,.int .i64 b,.string S],.int .i64 p] w fun e w'=>e= .returned (.bool true)∧Rel w w':=by
 have HC:=yH (fun(w:World)(hr:Rel w w)=>lcheck_at hS hf hE w hr)
 have HL:=yH (fun(w:World)(hr:Rel w w)=>llow_at f c m o b S L hL w hr)
 obtain⟨gx,hgx,W,hW,HX,R1⟩:=conf_box hr f c m o b S
 clear hS hf hE hr hL
 go_enter Tryz.func19,Tryz.ntmps19
 go_upto_region 1 with (fail)
 try rw[hW]
 try rw[hgx]
 clear hW hgx
 obtain⟨⟨x0,x1,x2,x3,x4,x5⟩,_⟩:=six_of HX.out
 go_wp2_with (first
  |(go_at_call 34;(with_reducible refine(HC.out _ R1.out.self).mono ?_);rintro e w2 ⟨rfl,r2⟩;have R2:=yH (R1.out.trans r2.out);have P2:=yH r2.out;obtain⟨⟨x0,x1,x2,x3,x4,x5⟩,_⟩:=six_of (HX.out.rel r2.out);clear r2)
  |(go_at_call 20;(with_reducible refine(HL.out _ R2.out.self).mono ?_);rintro e w3 ⟨rfl,r3⟩;have R3:=yH (R2.out.trans r3.out);obtain⟨⟨x0,x1,x2,x3,x4,x5⟩,_⟩:=six_of (HX.out.rel (P2.out.trans r3.out));clear r3))
 go_ret
 exact⟨rfl,R3.out⟩
theorem lwithin_c(f c m o b p L:Int)(t:List UInt8)(S:ByteArray)(hS:B t=S)(hf:CfFit (f,c,m,o,b,t))(hE:checkC (f,c,m,o,b,t)=0)(hL:max f m=L)(h1:decide (L≤p)=true)(h2:decide (p≤c)=false)(w:World)(hr:Rel w w):
  Calls Tryz.prog 19 #[.agg #[.int .i64 f,.int .i64 c,.int .i64 m,.int .i64 o,.int .i64 b,.string S],.int .i64 p] w fun e w'=>e= .returned (.bool false)∧Rel w w':=by
 have HC:=yH (fun(w:World)(hr:Rel w w)=>lcheck_at hS hf hE w hr)
 have HL:=yH (fun(w:World)(hr:Rel w w)=>llow_at f c m o b S L hL w hr)
 obtain⟨gx,hgx,W,hW,HX,R1⟩:=conf_box hr f c m o b S
 clear hS hf hE hr hL
 go_enter Tryz.func19,Tryz.ntmps19
 go_upto_region 1 with (fail)
 try rw[hW]
 try rw[hgx]
 clear hW hgx
 obtain⟨⟨x0,x1,x2,x3,x4,x5⟩,_⟩:=six_of HX.out
 go_wp2_with (first
  |(go_at_call 34;(with_reducible refine(HC.out _ R1.out.self).mono ?_);rintro e w2 ⟨rfl,r2⟩;have R2:=yH (R1.out.trans r2.out);have P2:=yH r2.out;obtain⟨⟨x0,x1,x2,x3,x4,x5⟩,_⟩:=six_of (HX.out.rel r2.out);clear r2)
  |(go_at_call 20;(with_reducible refine(HL.out _ R2.out.self).mono ?_);rintro e w3 ⟨rfl,r3⟩;have R3:=yH (R2.out.trans r3.out);obtain⟨⟨x0,x1,x2,x3,x4,x5⟩,_⟩:=six_of (HX.out.rel (P2.out.trans r3.out));clear r3))
 go_ret
 exact⟨rfl,R3.out⟩
theorem lwithin_any(c:Cf)(p:Int)(S:ByteArray)(hS:B (txC c)=S)(hf:CfFit c)(w:World)(hr:Rel w w):
  Calls Tryz.prog 19 #[.agg #[.int .i64 (flC c),.int .i64 (ceC c),.int .i64 (mpC c),.int .i64 (coC c),.int .i64 (bdC c),.string S],.int .i64 p] w fun e w'=>e= .returned (.bool (withinC c p))∧Rel w w':=by
 obtain⟨f,ce,m,o,b,t⟩:=c
 by_cases h0:checkC (f,ce,m,o,b,t)=0
 ·by_cases h1:max f m≤p
  ·by_cases h2:p≤ce
   ·have e:withinC (f,ce,m,o,b,t) p=true:=by
     unfold withinC lowC
     exact decide_eq_true ⟨h0,h1,h2⟩
    rw[e]
    exact lwithin_b f ce m o b p _ t S hS hf h0 rfl (decide_eq_true h1) (decide_eq_true h2) w hr
   ·have e:withinC (f,ce,m,o,b,t) p=false:=by
     unfold withinC lowC
     exact decide_eq_false fun h=>h2 h.2.2
    rw[e]
    exact lwithin_c f ce m o b p _ t S hS hf h0 rfl (decide_eq_true h1) (decide_eq_false h2) w hr
  ·have e:withinC (f,ce,m,o,b,t) p=false:=by
    unfold withinC lowC
    exact decide_eq_false fun h=>h1 h.2.1
   rw[e]
   exact lwithin_a f ce m o b p _ t S hS hf h0 rfl (decide_eq_false h1) w hr
 ·have e:withinC (f,ce,m,o,b,t) p=false:=by
   unfold withinC
   exact decide_eq_false fun h=>h0 h.1
  rw[e]
  exact lwithin_no f ce m o b p _ t S hS hf rfl (by simpa using h0) w hr
theorem llowc_any:CLowOk:=by
 intro c S hS hf w hr
 obtain⟨f,ce,m,o,b,t⟩:=c
 exact llow_any f ce m o b S w hr
end Go.Proofs.YtjhjdiaomnpkmaaGreatDoor

namespace Go.Proofs.YtjhjdiaomnpkmaaGreatDoor
open Go.Lib
def clampF15(n l h:Int):Int:=max l (min n h)
theorem by_tick(cool:Int)(k:Nat):byP cool k=tickF (tickF cool*2^k):=by
 induction k with
 |zero=>
  show tickF (tickF cool+tickF 0)=tickF (tickF cool*2^0)
  rw[show tickF 0=0 from by decide,show(2:Int)^0=1 from rfl]
  congr 1;omega
 |succ k ih=>
  have hb:=tick_bd cool
  obtain⟨y,hy⟩:∃y,tickF cool*2^k=y:=⟨_,rfl⟩
  have e:tickF cool*2^(k+1)=y+y:=by rw[Int.pow_succ,←Int.mul_assoc,hy];omega
  have hy0:0≤y:=by rw[←hy];exact Int.mul_nonneg hb.1 (Int.pow_nonneg (by decide))
  show tickF (tickF (byP cool k)+tickF (byP cool k))=_
  rw[ih,hy,e]
  unfold tickF
  split<;>(try split)<;>(try split)<;>(try split)<;>(try split)<;>omega
theorem later_tick(t m:Int):laterF t (tickF m)=laterF t m:=by
 unfold laterF
 congr 2
 unfold tickF
 split<;>(try split)<;>(try split)<;>(try split)<;>omega
theorem lready_eq{c:Cf}{p:Pa15}{x:Int}{k:Nat}(h:laP p≠0)(hx:clampF15 (coC c) 0 1099511627776=x)(hk:swK (swP p)=k):laterF (atP p) (x*2^k)=readyP c p:=by
 unfold readyP
 rw[if_neg h,hk,by_tick,later_tick,←hx]
 congr 2
 unfold clampF15 tickF
 omega
theorem lready_zero{c:Cf}{p:Pa15}(h:laP p=0):readyP c p=0:=by unfold readyP;rw[if_pos h]
theorem sw_clamp(s:Int):clampF15 s 0 6=(swK s:Nat):=by unfold clampF15 swK;omega
def endsP(R:List Int)(la:Int):Bool:=decide (R.length≤3)&&decide (R.getLast?=some la)&&ringOk R
theorem right_empty{la at_ sw:Int}{R:List Int}(h:R.length=0):rightP (la,at_,R,sw)=decide (la=0∧at_=0∧sw=0):=by
 obtain rfl:=List.length_eq_zero_iff.1 h
 unfold rightP
 by_cases e:la=0
 ·rw[if_pos e,Bool.eq_iff_iff,decide_eq_true_eq,decide_eq_true_eq]
  exact⟨fun q=>⟨e,q.1,q.2.2⟩,fun q=>⟨q.2.1,rfl,q.2.2⟩⟩
 ·rw[if_neg e]
  show(ringOk []&&decide (0≤at_∧at_≤1099511627776∧1≤([]:List Int).length∧([]:List Int).length≤3∧([]:List Int).getLast?=some la∧0≤sw∧sw≤6))=_
  rw[decide_eq_false (p:=la=0∧at_=0∧sw=0) (fun q=>e q.1),decide_eq_false (p:=0≤at_∧_) (fun q=>by have:=q.2.2.1;simp at this),Bool.and_false]
theorem right_full{la at_ sw:Int}{R:List Int}(h:1≤R.length):rightP (la,at_,R,sw)=(endsP R la&&decide (0≤at_∧at_≤1099511627776)&&decide (0≤sw∧sw≤6)):=by
 unfold rightP endsP
 by_cases e:la=0
 ·subst e
  rw[if_pos rfl]
  show decide (at_=0∧R.length=0∧sw=0)=_
  rw[decide_eq_false (fun q=>by have:=q.2.1;omega)]
  by_cases hl:R.getLast?=some 0
  ·have hm:(0:Int)∈R:=List.mem_of_getLast? hl
   have:ringOk R=false:=by
    cases hr:ringOk R with
    |false=>rfl
    |true=>have:=ringOk_mem.1 hr 0 hm;omega
   rw[this,Bool.and_false,Bool.false_and,Bool.false_and]
  ·rw[decide_eq_false hl,Bool.and_false,Bool.false_and,Bool.false_and,Bool.false_and]
 ·rw[if_neg e]
  show(ringOk R&&decide (0≤at_∧at_≤1099511627776∧1≤R.length∧R.length≤3∧R.getLast?=some la∧0≤sw∧sw≤6))=_
  rw[Bool.eq_iff_iff]
  simp only[Bool.and_eq_true,decide_eq_true_eq]
  constructor
  ·rintro⟨a,b,c,_,d,q,r,s⟩;exact⟨⟨⟨⟨d,q⟩,a⟩,b,c⟩,r,s⟩
  ·rintro⟨⟨⟨⟨d,q⟩,a⟩,b,c⟩,r,s⟩;exact⟨a,b,c,h,d,q,r,s⟩
theorem lgo_eq{c:Cf}{p:Pa15}{t now:Int}:goP c p t now=(rightP p&&decide (0≤now∧readyP c p≤now∧now≤1099511627776)&&withinC c t&& !(decide (laP p-bdC c≤t∧t≤laP p+bdC c)&&withinC c (laP p))):=by
 cases hr:rightP p with
 |false=>unfold goP;rw[hr];simp
 |true=>
  cases hw:withinC c t with
  |false=>unfold goP;rw[hr,hw];simp
  |true=>
   have hn:=nums_iff.1 (check_zero.1 (within_bd hw).2.2.1).1
   unfold goP
   rw[hr,hw]
   unfold nearP
   by_cases hs:t=laP p
   ·have hw2:withinC c (laP p)=true:=by rw[←hs];exact hw
    rw[hw2,decide_eq_false (show ¬t≠laP p from fun e=>e hs),decide_eq_true (show laP p-bdC c≤t∧t≤laP p+bdC c by omega)]
    simp
   ·rw[decide_eq_true hs,Bool.eq_iff_iff]
    have e1:decide (t-laP p≤bdC c∧laP p-t≤bdC c)=decide (laP p-bdC c≤t∧t≤laP p+bdC c):=by
     rw[Bool.eq_iff_iff,decide_eq_true_eq,decide_eq_true_eq];omega
    have e2:decide (0≤now∧now≤1099511627776∧readyP c p≤now)=decide (0≤now∧readyP c p≤now∧now≤1099511627776):=by
     rw[Bool.eq_iff_iff,decide_eq_true_eq,decide_eq_true_eq];omega
    rw[e1,e2]
    cases decide (laP p-bdC c≤t∧t≤laP p+bdC c)<;>cases withinC c (laP p)<;>cases decide (0≤now∧readyP c p≤now∧now≤1099511627776)<;>simp
theorem ready_bd{c:Cf}(p:Pa15):0≤readyP c p∧readyP c p≤1099511627776:=by
 unfold readyP
 split
 ·omega
 ·exact later_bd _ _
end Go.Proofs.YtjhjdiaomnpkmaaGreatDoor

namespace Go.Proofs.YtjhjdiaomnpkmaaGreatDoor
open Go.RowKit Go.Lib
theorem clamp15_any(n l h:Int)(w:World):Calls Tryz.prog 26 #[.int .i64 n,.int .i64 l,.int .i64 h] w fun e w'=>e= .returned (.int .i64 (clampF15 n l h))∧w=w':=by
 by_cases h1:h<n<;>by_cases h2:h<l<;>by_cases h3:n<l
 all_goals
  go_enter Tryz.func26,Tryz.ntmps26
  go_wp2
  all_goals
   go_ret
   exact⟨ret_int (by unfold clampF15;omega),rfl⟩
theorem clamp15_as(n l h c:Int)(hc:Hid (clampF15 n l h=c))(w:World):Calls Tryz.prog 26 #[.int .i64 n,.int .i64 l,.int .i64 h] w fun e w'=>e= .returned (.int .i64 c)∧w=w':=by
 rw[←hc.out];exact clamp15_any n l h w
theorem pwithin15_any(n l h:Int)(hlh:l≤h)(w:World):Calls Tryz.prog 25 #[.int .i64 n,.int .i64 l,.int .i64 h] w fun e w'=>e= .returned (.bool (decide (l≤n∧n≤h)))∧w=w':=by
 obtain⟨c,hc⟩:∃c,clampF15 n l h=c:=⟨_,rfl⟩
 have HC:=yH hc
 by_cases e:c=n
 ·have b0:(c==n)=true:=by simpa using e
  have HD:=yH (show decide (l≤n∧n≤h)=true from decide_eq_true (by unfold clampF15 at hc;omega))
  clear e hc
  go_enter Tryz.func25,Tryz.ntmps25
  go_wp2_with (go_at_call 26;(with_reducible refine(clamp15_as n l h c HC _).mono ?_);rintro e w' ⟨rfl,rfl⟩)
  go_ret
  exact⟨ret_bool (by rw[HD.out]),rfl⟩
 ·have b0:(c==n)=false:=by simpa using e
  have HD:=yH (show decide (l≤n∧n≤h)=false from decide_eq_false (by unfold clampF15 at hc;omega))
  clear e hc
  go_enter Tryz.func25,Tryz.ntmps25
  go_wp2_with (go_at_call 26;(with_reducible refine(clamp15_as n l h c HC _).mono ?_);rintro e w' ⟨rfl,rfl⟩)
  go_ret
  exact⟨ret_bool (by rw[HD.out]),rfl⟩
theorem pwithin15_as(n l h:Int)(q:Bool)(hlh:Hid (l≤h))(hq:Hid (decide (l≤n∧n≤h)=q))(w:World):Calls Tryz.prog 25 #[.int .i64 n,.int .i64 l,.int .i64 h] w fun e w'=>e= .returned (.bool q)∧w=w':=by
 rw[←hq.out];exact pwithin15_any n l h hlh.out w
theorem astick15_any(n:Int)(w:World):Calls Tryz.prog 38 #[.int .i64 n] w fun e w'=>e= .returned (.int .i64 (tickF n))∧w=w':=by
 have HC:=yH (show clampF15 n 0 1099511627776=tickF n by unfold clampF15 tickF;omega)
 go_enter Tryz.func38,Tryz.ntmps38
 go_wp2_with (go_at_call 26;(with_reducible refine(clamp15_as n 0 1099511627776 (tickF n) HC _).mono ?_);rintro e w' ⟨rfl,rfl⟩)
 go_ret
 exact⟨rfl,rfl⟩
theorem astick15_as(n m:Int)(h:Hid (tickF n=m))(w:World):Calls Tryz.prog 38 #[.int .i64 n] w fun e w'=>e= .returned (.int .i64 m)∧w=w':=by
 rw[←h.out];exact astick15_any n w
theorem later15_any(t m:Int)(w:World):Calls Tryz.prog 27 #[.int .i64 t,.int .i64 m] w fun e w'=>e= .returned (.int .i64 (laterF t m))∧w=w':=by
 have ht:=tick_bd t
 have hm:=tick_bd m
 unfold laterF
 obtain⟨a,ha⟩:∃a,tickF t=a:=⟨_,rfl⟩
 obtain⟨b,hb⟩:∃b,tickF m=b:=⟨_,rfl⟩
 rw[ha] at ht⊢
 rw[hb] at hm⊢
 have HA:=yH ha
 have HB:=yH hb
 obtain⟨a0,a1⟩:=ht
 obtain⟨b0,b1⟩:=hm
 clear ha hb
 by_cases hs:a+b<1099511627776
 all_goals
  go_enter Tryz.func27,Tryz.ntmps27
  go_wp2_with (first
   |(go_at_call 38;(with_reducible refine(astick15_as t a HA _).mono ?_);rintro e w' ⟨rfl,rfl⟩)
   |(go_at_call 38;(with_reducible refine(astick15_as m b HB _).mono ?_);rintro e w' ⟨rfl,rfl⟩))
  all_goals
   go_ret
   exact⟨ret_int (by unfold tickF;omega),rfl⟩
theorem later15_as(t m r:Int)(h:Hid (laterF t m=r))(w:World):Calls Tryz.prog 27 #[.int .i64 t,.int .i64 m] w fun e w'=>e= .returned (.int .i64 r)∧w=w':=by
 rw[←h.out];exact later15_any t m w
theorem shl15{x:Int}(h0:0≤x)(h1:x≤1099511627776){k:Nat}(hk:k≤6):IntKind.i64.wrap (x*2^k)=x*2^k:=by
 have:k=0∨k=1∨k=2∨k=3∨k=4∨k=5∨k=6:=by omega
 rw[IntKind.wrap_i64]
 rcases this with e|e|e|e|e|e|e<;>subst e<;>omega
theorem lready15_any(f c m o b la at_ sw:Int)(S:ByteArray)(t:List UInt8)(L:List Int)(A:Option Addr)(n k:Nat)(w:World)(hr:Rel w w):
  Calls Tryz.prog 12 #[.agg #[.int .i64 f,.int .i64 c,.int .i64 m,.int .i64 o,.int .i64 b,.string S],.agg #[.int .i64 la,.int .i64 at_,.slice A n k,.int .i64 sw]] w fun e w'=>e= .returned (.int .i64 (readyP (f,c,m,o,b,t) (la,at_,L,sw)))∧Hid (Rel w w'):=by
 have HX0:=yH ((Bk.new w 24 #[.int .i64 f,.int .i64 c,.int .i64 m,.int .i64 o,.int .i64 b,.string S]).alloc (.cells #[.int .i64 la,.int .i64 at_,.slice A n k,.int .i64 sw] 27))
 have HY0:=yH (Bk.new (w.alloc (.cells #[.int .i64 f,.int .i64 c,.int .i64 m,.int .i64 o,.int .i64 b,.string S] 24)) 27 #[.int .i64 la,.int .i64 at_,.slice A n k,.int .i64 sw])
 have HR0:=yH ((hr.alloc (.cells #[.int .i64 f,.int .i64 c,.int .i64 m,.int .i64 o,.int .i64 b,.string S] 24)).alloc (.cells #[.int .i64 la,.int .i64 at_,.slice A n k,.int .i64 sw] 27))
 obtain⟨re,hre⟩:∃r,readyP (f,c,m,o,b,t) (la,at_,L,sw)=r:=⟨_,rfl⟩
 rw[hre]
 by_cases h0:la=0
 ·have e0:=lready_zero (c:=(f,c,m,o,b,t)) (p:=(la,at_,L,sw)) h0
  rw[e0] at hre
  subst hre
  subst h0
  clear hr e0
  go_enter Tryz.func12,Tryz.ntmps12
  go_upto_region 1 with (fail)
  have HX:=HX0
  have HY:=HY0
  have HR:=HR0
  rw[World.size_alloc] at HY
  obtain⟨W,hW⟩:∃W,(w.alloc (.cells #[.int .i64 f,.int .i64 c,.int .i64 m,.int .i64 o,.int .i64 b,.string S] 24)).alloc (.cells #[.int .i64 0,.int .i64 at_,.slice A n k,.int .i64 sw] 27)=W:=⟨_,rfl⟩
  obtain⟨gy,hgy⟩:∃g,w.heap.size+1=g:=⟨_,rfl⟩
  rw[hW] at HX HY HR
  rw[hgy] at HY
  try rw[hW]
  try rw[hgy]
  clear hW hgy HX0 HY0 HR0 HX
  obtain⟨⟨p0,p1,p2,p3⟩,_⟩:=four_of HY.out
  go_wp2_with (fail)
  go_ret
  exact⟨rfl,HR⟩
 ·have k0:(la==0)=false:=by simpa using h0
  obtain⟨x,hx⟩:∃x,clampF15 o 0 1099511627776=x:=⟨_,rfl⟩
  obtain⟨s,hs⟩:∃s,swK sw=s:=⟨_,rfl⟩
  have hs6:s≤6:=by rw[←hs];exact swK_le sw
  have hx0:0≤x∧x≤1099511627776:=by rw[←hx];unfold clampF15;omega
  obtain⟨hxa,hxb⟩:=hx0
  have he:=lready_eq (c:=(f,c,m,o,b,t)) (p:=(la,at_,L,sw)) h0 hx hs
  rw[hre] at he
  have HX1:=yH hx
  have HK6:=yH hs6
  have HS1:=yH (show clampF15 sw 0 6=((s:Nat):Int) by rw[sw_clamp,hs])
  obtain⟨y,hy⟩:∃y:Int,x*2^s=y:=⟨_,rfl⟩
  have hw:=shl15 hxa hxb hs6
  rw[hy] at hw he
  have HE:=yH (show laterF at_ y=re from he)
  clear hr he hx hs hre h0 hs6
  go_enter Tryz.func12,Tryz.ntmps12
  go_upto_region 1 with (fail)
  have HX:=HX0
  have HY:=HY0
  have HR:=HR0
  rw[World.size_alloc] at HY
  obtain⟨W,hW⟩:∃W,(w.alloc (.cells #[.int .i64 f,.int .i64 c,.int .i64 m,.int .i64 o,.int .i64 b,.string S] 24)).alloc (.cells #[.int .i64 la,.int .i64 at_,.slice A n k,.int .i64 sw] 27)=W:=⟨_,rfl⟩
  obtain⟨gy,hgy⟩:∃g,w.heap.size+1=g:=⟨_,rfl⟩
  rw[hW] at HX HY HR
  rw[hgy] at HY
  try rw[hW]
  try rw[hgy]
  obtain⟨gx,hgx⟩:∃g,w.heap.size=g:=⟨_,rfl⟩
  rw[hgx] at HX
  try rw[hgx]
  clear hW hgy hgx HX0 HY0 HR0
  obtain⟨⟨x0,x1,x2,x3,x4,x5⟩,_⟩:=six_of HX.out
  obtain⟨⟨p0,p1,p2,p3⟩,_⟩:=four_of HY.out
  go_upto_region 5 with (first
   |(go_at_call 26;(with_reducible refine(clamp15_as sw 0 6 ((s:Nat):Int) HS1 _).mono ?_);rintro e w' ⟨rfl,rfl⟩)
   |(go_at_call 26;(with_reducible refine(clamp15_as o 0 1099511627776 x HX1 _).mono ?_);rintro e w' ⟨rfl,rfl⟩))
  have hsk:(0:Int)≤((s:Nat):Int)∧((s:Nat):Int)≤64:=by have:=HK6.out;omega
  obtain⟨hk0,hk1⟩:=hsk
  have hsn:(((s:Nat):Int)).toNat=s:=by omega
  go_region_held3 (fun w'=>w'.cell? ⟨gy,1,none⟩=some (.int .i64 at_))
   (exact(four_of HY.out.drew).1.2.1)
   ((go_at_call 27;(with_reducible refine(later15_as at_ y re HE _).mono ?_);rintro e w' ⟨rfl,rfl⟩))
  go_wp2_with (fail)
  go_ret
  exact⟨rfl,yH HR.out.drew⟩
theorem lnear15_any(H:ConfOk3)(f c m o b la tg:Int)(t:List UInt8)(S:ByteArray)(hS:B t=S)(hf:CfFit (f,c,m,o,b,t))(hla:0≤la∧la≤1000000000000)(hb:0≤b∧b≤1000000000000)(w:World)(hr:Rel w w):
  Calls Tryz.prog 29 #[.agg #[.int .i64 f,.int .i64 c,.int .i64 m,.int .i64 o,.int .i64 b,.string S],.int .i64 la,.int .i64 tg] w fun e w'=>e= .returned (.bool (decide (la-b≤tg∧tg≤la+b)&&withinC (f,c,m,o,b,t) la))∧Hid (Rel w w'):=by
 obtain⟨la0,la1⟩:=hla
 obtain⟨b0,b1⟩:=hb
 obtain⟨q,hq⟩:∃q,withinC (f,c,m,o,b,t) la=q:=⟨_,rfl⟩
 have KW:=yH (fun(w:World)(hr:Rel w w)=>cwit15 H hS hf (p:=la) ⟨by omega,by omega⟩ hq w hr)
 rw[hq]
 have HLH:=yH (show la-b≤la+b by omega)
 obtain⟨gx,hgx,W,hW,HX,R1⟩:=conf_box hr f c m o b S
 clear H hS hf hq hr
 by_cases hn:la-b≤tg∧tg≤la+b
 ·have HQ:=yH (decide_eq_true hn)
  rw[decide_eq_true hn,Bool.true_and]
  clear hn
  go_enter Tryz.func29,Tryz.ntmps29
  go_upto_region 1 with (fail)
  try rw[hW]
  try rw[hgx]
  clear hW hgx
  obtain⟨⟨x0,x1,x2,x3,x4,x5⟩,_⟩:=six_of HX.out
  go_wp2_with (first
   |(go_at_call 25;(with_reducible refine(pwithin15_as tg (la-b) (la+b) true HLH HQ _).mono ?_);rintro e w' ⟨rfl,rfl⟩)
   |(go_at_call 19;(with_reducible refine(KW.out _ R1.out.self).mono ?_);rintro e w2 ⟨rfl,r2⟩;have R2:=yH (R1.out.trans r2.out);clear r2))
  go_ret
  exact⟨rfl,R2⟩
 ·have HQ:=yH (decide_eq_false hn)
  rw[decide_eq_false hn,Bool.false_and]
  clear hn
  go_enter Tryz.func29,Tryz.ntmps29
  go_upto_region 1 with (fail)
  try rw[hW]
  try rw[hgx]
  clear hW hgx
  obtain⟨⟨x0,x1,x2,x3,x4,x5⟩,_⟩:=six_of HX.out
  go_wp2_with (go_at_call 25;(with_reducible refine(pwithin15_as tg (la-b) (la+b) false HLH HQ _).mono ?_);rintro e w' ⟨rfl,rfl⟩)
  go_ret
  exact⟨rfl,R1⟩
theorem ends_long{L:List Int}{la:Int}(h:3<L.length):endsP L la=false:=by
 unfold endsP;rw[decide_eq_false (by omega)];rfl
theorem ends_last{L:List Int}{la:Int}(h:L.getLast?≠some la):endsP L la=false:=by
 unfold endsP;rw[decide_eq_false h,Bool.and_false];rfl
theorem ends_ring{L:List Int}{la:Int}(h:L.length≤3)(h2:L.getLast?=some la):endsP L la=ringOk L:=by
 unfold endsP;rw[decide_eq_true h,decide_eq_true h2];rfl
theorem ring_not{L:List Int}{j:Nat}(hj:j<L.length)(h: ¬(1≤L[j]∧L[j]≤1000000000000)):ringOk L=false:=by
 cases hr:ringOk L with
 |false=>rfl
 |true=>exact absurd (ringOk_mem.1 hr _ (List.getElem_mem hj)) h
theorem ring_take{L:List Int}{j:Nat}(hj:j<L.length)(h:ringOk (L.take j)=true)(hx:1≤L[j]∧L[j]≤1000000000000):ringOk (L.take (j+1))=true:=by
 rw[List.take_succ_eq_append_getElem hj]
 refine ringOk_mem.2 fun x hx2=> ?_
 rcases List.mem_append.1 hx2 with hx2|hx2
 ·exact ringOk_mem.1 h x hx2
 ·rw[List.mem_singleton] at hx2;subst hx2;exact hx
theorem lends15_any(L:List Int)(A:Option Addr)(n k:Nat)(la:Int)(hn:L.length=n)(h1:1≤n)(w:World)(hi:IntsIn w A k L):
  Calls Tryz.prog 24 #[.slice A n k,.int .i64 la] w fun e w'=>e= .returned (.bool (endsP L la))∧w=w':=by
 have hk:n≤k∧k≤maxLen:=⟨by rw[←hn];exact hi.1,hi.2.1⟩
 obtain⟨hk0,hk1⟩:=hk
 unfold maxLen at hk1
 obtain⟨g,off,rfl,hc⟩:=ints_row hi (by omega)
 have HN:=yH hn
 have HC:=yH hc
 by_cases h3:3<n
 ·have HE:=yH (ends_long (la:=la) (L:=L) (by omega))
  clear hn hc hi
  have d3:decide ((3:Int)<(n:Int))=true:=decide_eq_true (by omega)
  go_enter Tryz.func24,Tryz.ntmps24
  go_wp2_with (fail)
  go_ret
  exact⟨ret_bool HE.out.symm,rfl⟩
 ·have d3:decide ((3:Int)<(n:Int))=false:=decide_eq_false (by omega)
  obtain⟨e,hen⟩:∃e,n=e+1:=⟨n-1,by omega⟩
  have hel:e<L.length:=by omega
  obtain⟨x,hx⟩:∃x,L[e]=x:=⟨_,rfl⟩
  have px:=hc e hel
  rw[hx] at px
  have hlast:L.getLast?=some x:=by
   rw[List.getLast?_eq_getElem?,show L.length-1=e by omega,List.getElem?_eq_getElem hel,hx]
  have i1:((n:Nat):Int)-1=(e:Int):=by omega
  have i2:(0:Int)≤(e:Int):=by omega
  have i3:(e:Int)<((n:Nat):Int):=by omega
  by_cases hxl:x=la
  ·subst hxl
   have b0:(x !=x)=false:=by simp
   have HE:=yH (ends_ring (L:=L) (la:=x) (by omega) hlast)
   rw[HE.out]
   have HL3:=yH (show n≤3 by omega)
   clear hn hc hi hx hlast hel h3 HE hen
   go_enter Tryz.func24,Tryz.ntmps24
   go_wp2_with (fail)
   go_loopw [22] (fun i wr=>∃j:Nat,i= .int .i64 (j:Int)∧j≤n∧Hid (ringOk (L.take j)=true)∧Hid (wr=w)) (fun i _=>n-(RowKit.intOf i).toNat)
   case atStart=>exact⟨0,rfl,by omega,yH rfl,yH rfl⟩
   case round=>
    obtain⟨j,rfl,hj,HT,HW⟩:=hrel
    obtain rfl:=HW.out
    by_cases hlt:j<n
    ·have hjL:j<L.length:=by rw[HN.out];exact hlt
     obtain⟨y,hy⟩:∃y,L[j]=y:=⟨_,rfl⟩
     have py:=HC.out j hjL
     rw[hy] at py
     have j0:(0:Int)≤(j:Int):=by omega
     have j1:(j:Int)<((n:Nat):Int):=by omega
     have HLH:=yH (show(1:Int)≤1000000000000 by decide)
     by_cases hy2:1≤y∧y≤1000000000000
     ·have HQ:=yH (decide_eq_true hy2)
      have HT2:=yH (ring_take hjL HT.out (by rw[hy];exact hy2))
      clear hy2 hy HT
      go_wp2_with (go_at_call 25;(with_reducible refine(pwithin15_as y 1 1000000000000 true HLH HQ _).mono ?_);rintro e w' ⟨rfl,rfl⟩)
      go_roundw
      case rel=>exact⟨j+1,by go_num,by omega,HT2,by first|exact yH rfl|exact yH trivial⟩
      case measure=>simp[RowKit.intOf];omega
     ·have HQ:=yH (decide_eq_false hy2)
      have HF:=yH (ring_not hjL (by rw[hy];exact hy2))
      clear hy2 hy HT
      go_wp2_with (go_at_call 25;(with_reducible refine(pwithin15_as y 1 1000000000000 false HLH HQ _).mono ?_);rintro e w' ⟨rfl,rfl⟩)
      go_ret
      exact⟨ret_bool HF.out.symm,rfl⟩
    ·obtain rfl:j=n:=by omega
     have HR:=yH (show ringOk L=true by have:=HT.out;rwa [List.take_of_length_le (by rw[HN.out];omega)] at this)
     clear HT
     go_wp2_with (fail)
     go_ret
     exact⟨ret_bool HR.out.symm,rfl⟩
  ·have b0:(x !=la)=true:=by simpa using hxl
   have HE:=yH (ends_last (L:=L) (la:=la) (by rw[hlast];intro h;injection h with h;exact hxl h))
   clear hn hc hi hx hlast hel h3 hxl hen
   go_enter Tryz.func24,Tryz.ntmps24
   go_wp2_with (fail)
   go_ret
   exact⟨ret_bool HE.out.symm,rfl⟩
theorem lends15_as(L:List Int)(A:Option Addr)(n k:Nat)(la:Int)(q:Bool)(hn:L.length=n)(h1:1≤n)(hq:endsP L la=q)(w:World)(hi:IntsIn w A k L):
  Calls Tryz.prog 24 #[.slice A n k,.int .i64 la] w fun e w'=>e= .returned (.bool q)∧w=w':=by
 rw[←hq];exact lends15_any L A n k la hn h1 w hi
end Go.Proofs.YtjhjdiaomnpkmaaGreatDoor
