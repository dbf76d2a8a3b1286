/- (Stage 14's. -/

import Derived.Test.YtfekhbeaphpelaaGreatDoorY08
set_option maxRecDepth 100000
set_option maxHeartbeats 8000000
set_option linter.unusedVariables false
set_option linter.unusedSimpArgs false
namespace Go.Proofs.YtfekhbeaphpelaaGreatDoor
open Go.RowKit Go.Lib
def RToldAt(d:Nat):Prop:=∀(x:Ex)(S:Nat→Prop)(e:El)(A:Option Addr)(c:Nat)(os:List Of)(w0 w:World),fine d x=true→isCond x.k=false→Rel w0 w→ExAt S w e x→offsOk os=true→OffArg w A c os→
  Calls Tryz.prog 48 #[EV e,.slice A os.length c] w fun r w'=>r= .returned (RV (toldN os d x))∧Rel w0 w'
def RCondAt(d:Nat):Prop:=∀(x:Ex)(S:Nat→Prop)(e:El)(A:Option Addr)(c:Nat)(os:List Of)(w0 w:World),fine d x=true→isCond x.k=true→Rel w0 w→ExAt S w e x→offsOk os=true→OffArg w A c os→
  Calls Tryz.prog 68 #[EV e,.slice A os.length c] w fun r w'=>r= .returned (CV (condN os d x))∧Rel w0 w'
theorem told_kid{d:Nat}(H:RToldAt d){S:Nat→Prop}{W:World}{el:El}{y:Ex}{A:Option Addr}{c:Nat}{os:List Of}(hx:fine d y=true)(hc:isCond y.k=false)(ha:ExAt S W el y)(hl:offsOk os=true)(ho:OffArg W A c os)(r:Rs)(hr:toldN os d y=r):
  ∀w',Rel W w'→Calls Tryz.prog 48 #[EV el,.slice A os.length c] w' fun e w2=>e= .returned (RV r)∧Rel w' w2:=fun w' h=>by
 rw[←hr];exact H y S el A c os w' w' hx hc h.self (ha.rel h) hl (ho.rel h)
theorem cond_kid{d:Nat}(H:RCondAt d){S:Nat→Prop}{W:World}{el:El}{y:Ex}{A:Option Addr}{c:Nat}{os:List Of}(hx:fine d y=true)(hc:isCond y.k=true)(ha:ExAt S W el y)(hl:offsOk os=true)(ho:OffArg W A c os)(r:Except Int Bool)(hr:condN os d y=r):
  ∀w',Rel W w'→Calls Tryz.prog 68 #[EV el,.slice A os.length c] w' fun e w2=>e= .returned (CV r)∧Rel w' w2:=fun w' h=>by
 rw[←hr];exact H y S el A c os w' w' hx hc h.self (ha.rel h) hl (ho.rel h)
theorem Rel.right2{w w':World}(h:Rel w w'):Rel w' w':=h.self
theorem ret_mm{a b:Int}(h:a=b):Ending.returned (.tuple #[yI a,.bool true,yI 0])= .returned (RV (.ok (some b))):=by rw[h];rfl
def KidAt(W:World)(A':Option Addr)(i:Nat)(el:El):Prop:=∃g off,A'=some ⟨g,off,none⟩∧g<W.heap.size∧W.cell? ⟨g,off+i,none⟩=some (yI el.1)∧W.cell? ⟨g,off+i+1,none⟩=some (yI el.2.1)∧W.cell? ⟨g,off+i+2,none⟩=some (.string (B el.2.2.1))∧W.cell? ⟨g,off+i+3,none⟩=some (.slice el.2.2.2.1 el.2.2.2.2.1 el.2.2.2.2.2)
theorem KidAt.rel{W W':World}{A':Option Addr}{i:Nat}{el:El}(h:KidAt W A' i el)(hr:Rel W W'):KidAt W' A' i el:=by
 obtain⟨g,off,e,hl,h0,h1,h2,h3⟩:=h
 have hk:∀j,W'.cell? ⟨g,j,none⟩=W.cell? ⟨g,j,none⟩:=fun j=>hr.2.cell (p:=⟨g,j,none⟩) hl
 exact⟨g,off,e,by have:=hr.size;omega,by rw[hk];exact h0,by rw[hk];exact h1,by rw[hk];exact h2,by rw[hk];exact h3⟩
theorem kid_of{S:Nat→Prop}{w W:World}{A':Option Addr}{es:List El}{l:List Ex}(hrow:RowE S w A' es)(hsub:∀i (h:i<es.length) (h':i<l.length),ExAt S w es[i] l[i])(hl:es.length=l.length)(hr:Rel w W)(j:Nat)(hj:j<l.length):∃el:El,KidAt W A' (j*4) el∧ExAt S W el l[j]:=by
 obtain⟨g,off,k,n,nm,A2,m,c,hA,h0,h1,h2,h3,ha⟩:=ExAt.arg hrow hsub hl hr j hj
 exact⟨(k,n,nm,A2,m,c),⟨g,off,hA,blk_of_cell h0,h0,h1,h2,h3⟩,ha⟩
theorem KidAt.at0{W:World}{g off:Nat}{el:El}(h:KidAt W (some ⟨g,off,none⟩) 0 el):W.cell? ⟨g,off,none⟩=some (yI el.1)∧W.cell? ⟨g,off+1,none⟩=some (yI el.2.1)∧W.cell? ⟨g,off+2,none⟩=some (.string (B el.2.2.1))∧W.cell? ⟨g,off+3,none⟩=some (.slice el.2.2.2.1 el.2.2.2.2.1 el.2.2.2.2.2):=by
 obtain⟨g',off',e,_,h0,h1,h2,h3⟩:=h
 injection e with e;injection e with e1 e2;subst e1;subst e2
 exact⟨h0,h1,h2,h3⟩
theorem KidAt.at{W:World}{g off i:Nat}{el:El}(h:KidAt W (some ⟨g,off,none⟩) i el):W.cell? ⟨g,off+i,none⟩=some (yI el.1)∧W.cell? ⟨g,off+i+1,none⟩=some (yI el.2.1)∧W.cell? ⟨g,off+i+2,none⟩=some (.string (B el.2.2.1))∧W.cell? ⟨g,off+i+3,none⟩=some (.slice el.2.2.2.1 el.2.2.2.2.1 el.2.2.2.2.2):=by
 obtain⟨g',off',e,_,h0,h1,h2,h3⟩:=h
 injection e with e;injection e with e1 e2;subst e1;subst e2
 exact⟨h0,h1,h2,h3⟩
theorem KidAt.some{W:World}{A':Option Addr}{i:Nat}{el:El}(h:KidAt W A' i el):∃g off,A'=some ⟨g,off,none⟩:=by
 obtain⟨g,off,e,_⟩:=h;exact⟨g,off,e⟩
theorem kid_no{d:Nat}(H:RToldAt d){S:Nat→Prop}{W:World}{el:El}{y:Ex}{A:Option Addr}{c:Nat}{os:List Of}(hx:fine d y=true)(hc:isCond y.k=false)(ha:ExAt S W el y)(hl:offsOk os=true)(ho:OffArg W A c os)(hr:toldN os d y= .ok none):
  Hid (∀w',Rel W w'→Calls Tryz.prog 48 #[EV el,.slice A os.length c] w' fun e w2=>e= .returned (.tuple #[yI 0,.bool false,yI 0])∧Rel w' w2):=yH (told_kid H hx hc ha hl ho _ hr)
theorem kid_er{d:Nat}(H:RToldAt d){S:Nat→Prop}{W:World}{el:El}{y:Ex}{A:Option Addr}{c:Nat}{os:List Of}(hx:fine d y=true)(hc:isCond y.k=false)(ha:ExAt S W el y)(hl:offsOk os=true)(ho:OffArg W A c os){er:Int}(hr:toldN os d y= .error er):
  Hid (∀w',Rel W w'→Calls Tryz.prog 48 #[EV el,.slice A os.length c] w' fun e w2=>e= .returned (.tuple #[yI 0,.bool false,yI er])∧Rel w' w2):=yH (told_kid H hx hc ha hl ho _ hr)
theorem kid_so{d:Nat}(H:RToldAt d){S:Nat→Prop}{W:World}{el:El}{y:Ex}{A:Option Addr}{c:Nat}{os:List Of}(hx:fine d y=true)(hc:isCond y.k=false)(ha:ExAt S W el y)(hl:offsOk os=true)(ho:OffArg W A c os){v:Int}(hr:toldN os d y= .ok (some v)):
  Hid (∀w',Rel W w'→Calls Tryz.prog 48 #[EV el,.slice A os.length c] w' fun e w2=>e= .returned (.tuple #[yI v,.bool true,yI 0])∧Rel w' w2):=yH (told_kid H hx hc ha hl ho _ hr)
theorem pre1{S:Nat→Prop}{w:World}{k n:Int}{nm:List UInt8}{x:Ex}{e:El}(h:ExAt S w e (.mk k n nm [x]))(hr:Rel w w):∃(g off c':Nat)(el0:El)(W:World),e=(k,n,nm,some ⟨g,off,none⟩,1,c')∧i64 k∧i64 n∧nm.length≤100∧w.alloc (.cells #[yI k,yI n,.string (B nm),.slice (some ⟨g,off,none⟩) 1 c'] 52)=W∧Hid (Bk W w.heap.size 52 #[yI k,yI n,.string (B nm),.slice (some ⟨g,off,none⟩) 1 c'])∧Hid (Rel w W)∧Hid (KidAt W (some ⟨g,off,none⟩) 0 el0)∧ExAt S W el0 x:=by
 obtain⟨A',c',es,rfl,hk,hn,hm,hle,hrow,hsub⟩:=h.open
 have HB:=Bk.new w 52 #[yI k,yI n,.string (B nm),.slice A' 1 c']
 have HA:=hr.alloc (.cells #[yI k,yI n,.string (B nm),.slice A' 1 c'] 52)
 obtain⟨el0,hK0,ha0⟩:=kid_of hrow hsub hle HA 0 (by simp)
 obtain⟨g,off,rfl⟩:=hK0.some
 exact⟨g,off,c',el0,_,rfl,hk,hn,hm,rfl,yH HB,yH HA,yH hK0,ha0⟩
theorem pre2{S:Nat→Prop}{w:World}{k n:Int}{nm:List UInt8}{x y:Ex}{e:El}(h:ExAt S w e (.mk k n nm [x,y]))(hr:Rel w w):∃(g off c':Nat)(el0 el1:El)(W:World),e=(k,n,nm,some ⟨g,off,none⟩,2,c')∧i64 k∧i64 n∧nm.length≤100∧w.alloc (.cells #[yI k,yI n,.string (B nm),.slice (some ⟨g,off,none⟩) 2 c'] 52)=W∧Hid (Bk W w.heap.size 52 #[yI k,yI n,.string (B nm),.slice (some ⟨g,off,none⟩) 2 c'])∧Hid (Rel w W)∧Hid (KidAt W (some ⟨g,off,none⟩) 0 el0)∧Hid (KidAt W (some ⟨g,off,none⟩) 4 el1)∧ExAt S W el0 x∧ExAt S W el1 y:=by
 obtain⟨A',c',es,rfl,hk,hn,hm,hle,hrow,hsub⟩:=h.open
 have HB:=Bk.new w 52 #[yI k,yI n,.string (B nm),.slice A' 2 c']
 have HA:=hr.alloc (.cells #[yI k,yI n,.string (B nm),.slice A' 2 c'] 52)
 obtain⟨el0,hK0,ha0⟩:=kid_of hrow hsub hle HA 0 (by simp)
 obtain⟨el1,hK1,ha1⟩:=kid_of hrow hsub hle HA 1 (by simp)
 obtain⟨g,off,rfl⟩:=hK0.some
 exact⟨g,off,c',el0,el1,_,rfl,hk,hn,hm,rfl,yH HB,yH HA,yH hK0,yH hK1,ha0,ha1⟩
theorem pre3{S:Nat→Prop}{w:World}{k n:Int}{nm:List UInt8}{x y z:Ex}{e:El}(h:ExAt S w e (.mk k n nm [x,y,z]))(hr:Rel w w):∃(g off c':Nat)(el0 el1 el2:El)(W:World),e=(k,n,nm,some ⟨g,off,none⟩,3,c')∧i64 k∧i64 n∧nm.length≤100∧w.alloc (.cells #[yI k,yI n,.string (B nm),.slice (some ⟨g,off,none⟩) 3 c'] 52)=W∧Hid (Bk W w.heap.size 52 #[yI k,yI n,.string (B nm),.slice (some ⟨g,off,none⟩) 3 c'])∧Hid (Rel w W)∧Hid (KidAt W (some ⟨g,off,none⟩) 0 el0)∧Hid (KidAt W (some ⟨g,off,none⟩) 4 el1)∧Hid (KidAt W (some ⟨g,off,none⟩) 8 el2)∧ExAt S W el0 x∧ExAt S W el1 y∧ExAt S W el2 z:=by
 obtain⟨A',c',es,rfl,hk,hn,hm,hle,hrow,hsub⟩:=h.open
 have HB:=Bk.new w 52 #[yI k,yI n,.string (B nm),.slice A' 3 c']
 have HA:=hr.alloc (.cells #[yI k,yI n,.string (B nm),.slice A' 3 c'] 52)
 obtain⟨el0,hK0,ha0⟩:=kid_of hrow hsub hle HA 0 (by simp)
 obtain⟨el1,hK1,ha1⟩:=kid_of hrow hsub hle HA 1 (by simp)
 obtain⟨el2,hK2,ha2⟩:=kid_of hrow hsub hle HA 2 (by simp)
 obtain⟨g,off,rfl⟩:=hK0.some
 exact⟨g,off,c',el0,el1,el2,_,rfl,hk,hn,hm,rfl,yH HB,yH HA,yH hK0,yH hK1,yH hK2,ha0,ha1,ha2⟩
theorem rtold_1(d:Nat)(n:Int)(nm:List UInt8)(S:Nat→Prop)(e:El)(A:Option Addr)(c:Nat)(os:List Of)(w0 w:World)(hr:Rel w0 w)(h:ExAt S w e (.mk 1 n nm []))(hl:offsOk os=true)(ho:OffArg w A c os):
  Calls Tryz.prog 48 #[EV e,.slice A os.length c] w fun r w'=>r= .returned (RV (toldN os (d+1) (.mk 1 n nm [])))∧Rel w0 w':=by
 obtain⟨A',c',es,rfl,hk,hn,hm,hle,hrow,hsub⟩:=h.open
 have HR:=yH hr
 have HB:=yH (Bk.new w 52 #[yI 1,yI n,.string (B nm),.slice A' 0 c'])
 have HA:=yH (hr.self.alloc (.cells #[yI 1,yI n,.string (B nm),.slice A' 0 c'] 52))
 have HO:=yH ho
 obtain⟨W,hW⟩:∃W,w.alloc (.cells #[yI 1,yI n,.string (B nm),.slice A' 0 c'] 52)=W:=⟨_,rfl⟩
 rw[hW] at HA HB
 have HF:=yH (show RV (toldN os (d+1) (.mk 1 n nm []))= .tuple #[yI ((rk os 0).getD 0),.bool (rk os 0).isSome,yI 0] by
  rw[told_one _ _ _ rfl]
  cases rk os 0<;>rfl)
 obtain⟨V,hV⟩:∃V,(rk os 0).getD 0=V:=⟨_,rfl⟩
 obtain⟨b,hb⟩:∃b,(rk os 0).isSome=b:=⟨_,rfl⟩
 have hC:∀w',Rel W w'→Calls Tryz.prog 67 #[.slice A os.length c,yI 0] w' fun e w2=>e= .returned (.tuple #[yI ((rk os 0).getD 0),.bool (rk os 0).isSome])∧Rel w' w2:=fun w' hh=>rrank_any A c os 0 (by omega) w' w' hh.self (ho.rel (HA.out.trans hh))
 rw[hV,hb] at hC HF
 have HC:=yH hC
 have HW:=yH hW
 obtain⟨⟨c0,c1,c2,c3⟩,_⟩:=HB.out.four
 clear hrow hsub h hC hV hb ho
 go_enter Tryz.func48,Tryz.ntmps48
 rw[HF.out]
 go_wp2_with (go_at_call 67;(with_reducible refine(HC.out _ HA.out.right2).mono ?_);rintro e w1 ⟨rfl,h1⟩)
 go_ret3
 exact⟨rfl,(HR.out.trans HA.out).trans h1⟩
theorem rtold_2(d:Nat)(n:Int)(nm:List UInt8)(S:Nat→Prop)(e:El)(A:Option Addr)(c:Nat)(os:List Of)(w0 w:World)(hr:Rel w0 w)(h:ExAt S w e (.mk 2 n nm []))(hl:offsOk os=true)(ho:OffArg w A c os):
  Calls Tryz.prog 48 #[EV e,.slice A os.length c] w fun r w'=>r= .returned (RV (toldN os (d+1) (.mk 2 n nm [])))∧Rel w0 w':=by
 obtain⟨A',c',es,rfl,hk,hn,hm,hle,hrow,hsub⟩:=h.open
 have HR:=yH hr
 have HB:=yH (Bk.new w 52 #[yI 2,yI n,.string (B nm),.slice A' 0 c'])
 have HA:=yH (hr.self.alloc (.cells #[yI 2,yI n,.string (B nm),.slice A' 0 c'] 52))
 have HO:=yH ho
 obtain⟨W,hW⟩:∃W,w.alloc (.cells #[yI 2,yI n,.string (B nm),.slice A' 0 c'] 52)=W:=⟨_,rfl⟩
 rw[hW] at HA HB
 have HF:=yH (show RV (toldN os (d+1) (.mk 2 n nm []))= .tuple #[yI ((rk os 1).getD 0),.bool (rk os 1).isSome,yI 0] by
  rw[told_two _ _ _ rfl]
  cases rk os 1<;>rfl)
 obtain⟨V,hV⟩:∃V,(rk os 1).getD 0=V:=⟨_,rfl⟩
 obtain⟨b,hb⟩:∃b,(rk os 1).isSome=b:=⟨_,rfl⟩
 have hC:∀w',Rel W w'→Calls Tryz.prog 67 #[.slice A os.length c,yI 1] w' fun e w2=>e= .returned (.tuple #[yI ((rk os 1).getD 0),.bool (rk os 1).isSome])∧Rel w' w2:=fun w' hh=>rrank_any A c os 1 (by omega) w' w' hh.self (ho.rel (HA.out.trans hh))
 rw[hV,hb] at hC HF
 have HC:=yH hC
 have HW:=yH hW
 obtain⟨⟨c0,c1,c2,c3⟩,_⟩:=HB.out.four
 clear hrow hsub h hC hV hb ho
 go_enter Tryz.func48,Tryz.ntmps48
 rw[HF.out]
 go_wp2_with (go_at_call 67;(with_reducible refine(HC.out _ HA.out.right2).mono ?_);rintro e w1 ⟨rfl,h1⟩)
 go_ret3
 exact⟨rfl,(HR.out.trans HA.out).trans h1⟩
theorem rtold_4(d:Nat)(n:Int)(nm:List UInt8)(S:Nat→Prop)(e:El)(A:Option Addr)(c:Nat)(os:List Of)(w0 w:World)(hr:Rel w0 w)(h:ExAt S w e (.mk 4 n nm []))(hl:offsOk os=true)(ho:OffArg w A c os):
  Calls Tryz.prog 48 #[EV e,.slice A os.length c] w fun r w'=>r= .returned (RV (toldN os (d+1) (.mk 4 n nm [])))∧Rel w0 w':=by
 obtain⟨A',c',es,rfl,hk,hn,hm,hle,hrow,hsub⟩:=h.open
 have HR:=yH hr
 have HB:=yH (Bk.new w 52 #[yI 4,yI n,.string (B nm),.slice A' 0 c'])
 have HA:=yH (hr.self.alloc (.cells #[yI 4,yI n,.string (B nm),.slice A' 0 c'] 52))
 have HO:=yH ho
 obtain⟨W,hW⟩:∃W,w.alloc (.cells #[yI 4,yI n,.string (B nm),.slice A' 0 c'] 52)=W:=⟨_,rfl⟩
 rw[hW] at HA HB
 have HF:=yH (show RV (toldN os (d+1) (.mk 4 n nm []))= .tuple #[yI n,.bool true,yI 0] by
  rw[told_fix _ _ _ rfl];rfl)
 have HW:=yH hW
 obtain⟨⟨c0,c1,c2,c3⟩,_⟩:=HB.out.four
 clear hrow hsub h ho
 go_enter Tryz.func48,Tryz.ntmps48
 rw[HF.out]
 go_wp2_with (fail)
 go_ret3
 exact⟨rfl,HR.out.trans HA.out⟩
theorem rtold_5e(d:Nat)(n:Int)(nm:List UInt8)(y:Ex)(H:RToldAt d)(hf0:fine d y=true)(hc0:isCond y.k=false){er:Int}(he:(er !=0)=true)(S:Nat→Prop)(e:El)(A:Option Addr)(c:Nat)(os:List Of)(w0 w:World)(hr:Rel w0 w)(h:ExAt S w e (.mk 5 n nm [y]))(hl:offsOk os=true)(ho:OffArg w A c os)(q0:toldN os d y= .error er):
  Calls Tryz.prog 48 #[EV e,.slice A os.length c] w fun z w'=>z= .returned (RV (.error er))∧Rel w0 w':=by
 have HR:=yH hr
 have HO:=yH ho
 obtain⟨g,off,c',el0,W,rfl,hk,hn,hm,hW,HB,HA,HK0,ha0⟩:=pre1 h hr.self
 have HC0:=kid_er H hf0 hc0 ha0 hl (ho.rel HA.out) q0
 obtain⟨⟨b0,b1,b2,b3⟩,_⟩:=HB.out.four
 obtain⟨x00,x01,x02,x03⟩:=HK0.out.at0
 clear h ha0 ho
 go_enter Tryz.func48,Tryz.ntmps48
 go_wp2_with (first
  |(go_at_call 48;(with_reducible refine(HC0.out _ (show Rel W W from HA.out.right2)).mono ?_);rintro e w1 ⟨rfl,h1⟩;have R1:=yH h1;obtain⟨⟨d10,d11,d12,d13⟩,_⟩:=(HB.out.rel R1.out).four))
 all_goals
  go_ret3
  exact⟨rfl,(HR.out.trans HA.out).trans R1.out⟩
theorem rtold_5n(d:Nat)(n:Int)(nm:List UInt8)(y:Ex)(H:RToldAt d)(hf0:fine d y=true)(hc0:isCond y.k=false)(S:Nat→Prop)(e:El)(A:Option Addr)(c:Nat)(os:List Of)(w0 w:World)(hr:Rel w0 w)(h:ExAt S w e (.mk 5 n nm [y]))(hl:offsOk os=true)(ho:OffArg w A c os)(q0:toldN os d y= .ok none):
  Calls Tryz.prog 48 #[EV e,.slice A os.length c] w fun z w'=>z= .returned (RV (.ok none))∧Rel w0 w':=by
 have HR:=yH hr
 have HO:=yH ho
 obtain⟨g,off,c',el0,W,rfl,hk,hn,hm,hW,HB,HA,HK0,ha0⟩:=pre1 h hr.self
 have HC0:=kid_no H hf0 hc0 ha0 hl (ho.rel HA.out) q0
 obtain⟨⟨b0,b1,b2,b3⟩,_⟩:=HB.out.four
 obtain⟨x00,x01,x02,x03⟩:=HK0.out.at0
 clear h ha0 ho
 go_enter Tryz.func48,Tryz.ntmps48
 go_wp2_with (first
  |(go_at_call 48;(with_reducible refine(HC0.out _ (show Rel W W from HA.out.right2)).mono ?_);rintro e w1 ⟨rfl,h1⟩;have R1:=yH h1;obtain⟨⟨d10,d11,d12,d13⟩,_⟩:=(HB.out.rel R1.out).four))
 all_goals
  go_ret3
  exact⟨rfl,(HR.out.trans HA.out).trans R1.out⟩
theorem sub_tri(v n:Int):RV (subR v n)= .tuple #[yI (two1 v n (v-n)),.bool (two2 v n (v-n)==0),yI (two2 v n (v-n))]:=by
 unfold subR
 by_cases h:two2 v n (v-n)=0
 ·rw[if_pos h,h];rfl
 ·rw[if_neg h]
  have:two1 v n (v-n)=0:=by
   unfold two1 told1
   unfold two2 told2 at h
   by_cases h1:(rt v&&rt n)=true
   ·rw[if_pos h1] at h⊢
    by_cases h2:rt (v-n)=true
    ·rw[if_pos h2] at h;exact absurd rfl h
    ·rw[if_neg h2]
   ·rw[if_neg h1]
  rw[this,show(two2 v n (v-n)==0)=false by simpa using h];rfl
theorem rtold_5s(d:Nat)(n:Int)(nm:List UInt8)(y:Ex)(H:RToldAt d)(hf0:fine d y=true)(hc0:isCond y.k=false){v:Int}(S:Nat→Prop)(e:El)(A:Option Addr)(c:Nat)(os:List Of)(w0 w:World)(hr:Rel w0 w)(h:ExAt S w e (.mk 5 n nm [y]))(hl:offsOk os=true)(ho:OffArg w A c os)(q0:toldN os d y= .ok (some v)):
  Calls Tryz.prog 48 #[EV e,.slice A os.length c] w fun z w'=>z= .returned (RV (subR v n))∧Rel w0 w':=by
 have HR:=yH hr
 have HO:=yH ho
 obtain⟨g,off,c',el0,W,rfl,hk,hn,hm,hW,HB,HA,HK0,ha0⟩:=pre1 h hr.self
 have HC0:=kid_so H hf0 hc0 ha0 hl (ho.rel HA.out) q0
 obtain⟨U,hU⟩:∃U,two1 v n (v-n)=U:=⟨_,rfl⟩
 obtain⟨E,hE⟩:∃E,two2 v n (v-n)=E:=⟨_,rfl⟩
 have hS:=fun w=>m9rsub_any v n w
 have hF:=sub_tri v n
 unfold Two at hS
 rw[hU,hE] at hS hF
 have HS:=yH hS
 have HF:=yH hF
 clear hU hE hS hF
 obtain⟨⟨b0,b1,b2,b3⟩,_⟩:=HB.out.four
 obtain⟨x00,x01,x02,x03⟩:=HK0.out.at0
 clear h ha0 ho
 go_enter Tryz.func48,Tryz.ntmps48
 go_wp2_with (first
  |(go_at_call 48;(with_reducible refine(HC0.out _ (show Rel W W from HA.out.right2)).mono ?_);rintro e w1 ⟨rfl,h1⟩;have R1:=yH h1;obtain⟨⟨d10,d11,d12,d13⟩,_⟩:=(HB.out.rel R1.out).four)
  |(go_at_call 70;(with_reducible refine(HS.out _).mono ?_);rintro e w9 ⟨rfl,rfl⟩))
 all_goals
  go_ret3
  exact⟨by rw[HF.out];rfl,(HR.out.trans HA.out).trans R1.out⟩
theorem rtold_6e(d:Nat)(n:Int)(nm:List UInt8)(y:Ex)(H:RToldAt d)(hf0:fine d y=true)(hc0:isCond y.k=false){er:Int}(he:(er !=0)=true)(S:Nat→Prop)(e:El)(A:Option Addr)(c:Nat)(os:List Of)(w0 w:World)(hr:Rel w0 w)(h:ExAt S w e (.mk 6 n nm [y]))(hl:offsOk os=true)(ho:OffArg w A c os)(q0:toldN os d y= .error er):
  Calls Tryz.prog 48 #[EV e,.slice A os.length c] w fun z w'=>z= .returned (RV (.error er))∧Rel w0 w':=by
 have HR:=yH hr
 have HO:=yH ho
 obtain⟨g,off,c',el0,W,rfl,hk,hn,hm,hW,HB,HA,HK0,ha0⟩:=pre1 h hr.self
 have HC0:=kid_er H hf0 hc0 ha0 hl (ho.rel HA.out) q0
 obtain⟨⟨b0,b1,b2,b3⟩,_⟩:=HB.out.four
 obtain⟨x00,x01,x02,x03⟩:=HK0.out.at0
 clear h ha0 ho
 go_enter Tryz.func48,Tryz.ntmps48
 go_wp2_with (first
  |(go_at_call 48;(with_reducible refine(HC0.out _ (show Rel W W from HA.out.right2)).mono ?_);rintro e w1 ⟨rfl,h1⟩;have R1:=yH h1;obtain⟨⟨d10,d11,d12,d13⟩,_⟩:=(HB.out.rel R1.out).four))
 all_goals
  go_ret3
  exact⟨rfl,(HR.out.trans HA.out).trans R1.out⟩
theorem rtold_6n(d:Nat)(n:Int)(nm:List UInt8)(y:Ex)(H:RToldAt d)(hf0:fine d y=true)(hc0:isCond y.k=false)(S:Nat→Prop)(e:El)(A:Option Addr)(c:Nat)(os:List Of)(w0 w:World)(hr:Rel w0 w)(h:ExAt S w e (.mk 6 n nm [y]))(hl:offsOk os=true)(ho:OffArg w A c os)(q0:toldN os d y= .ok none):
  Calls Tryz.prog 48 #[EV e,.slice A os.length c] w fun z w'=>z= .returned (RV (.ok none))∧Rel w0 w':=by
 have HR:=yH hr
 have HO:=yH ho
 obtain⟨g,off,c',el0,W,rfl,hk,hn,hm,hW,HB,HA,HK0,ha0⟩:=pre1 h hr.self
 have HC0:=kid_no H hf0 hc0 ha0 hl (ho.rel HA.out) q0
 obtain⟨⟨b0,b1,b2,b3⟩,_⟩:=HB.out.four
 obtain⟨x00,x01,x02,x03⟩:=HK0.out.at0
 clear h ha0 ho
 go_enter Tryz.func48,Tryz.ntmps48
 go_wp2_with (first
  |(go_at_call 48;(with_reducible refine(HC0.out _ (show Rel W W from HA.out.right2)).mono ?_);rintro e w1 ⟨rfl,h1⟩;have R1:=yH h1;obtain⟨⟨d10,d11,d12,d13⟩,_⟩:=(HB.out.rel R1.out).four))
 all_goals
  go_ret3
  exact⟨rfl,(HR.out.trans HA.out).trans R1.out⟩
theorem rtold_6p(d:Nat)(n:Int)(nm:List UInt8)(y:Ex)(H:RToldAt d)(hf0:fine d y=true)(hc0:isCond y.k=false){v P pe:Int}(hp:part1 v n false=P)(hpe:part2 v n false=pe)(he:(pe !=0)=true)(S:Nat→Prop)(e:El)(A:Option Addr)(c:Nat)(os:List Of)(w0 w:World)(hr:Rel w0 w)(h:ExAt S w e (.mk 6 n nm [y]))(hl:offsOk os=true)(ho:OffArg w A c os)(q0:toldN os d y= .ok (some v)):
  Calls Tryz.prog 48 #[EV e,.slice A os.length c] w fun z w'=>z= .returned (RV (.error pe))∧Rel w0 w':=by
 have HR:=yH hr
 have HO:=yH ho
 obtain⟨g,off,c',el0,W,rfl,hk,hn,hm,hW,HB,HA,HK0,ha0⟩:=pre1 h hr.self
 have HC0:=kid_so H hf0 hc0 ha0 hl (ho.rel HA.out) q0
 have hP:=fun w=>m9rpart_any v n false w
 unfold Two at hP
 rw[hp,hpe] at hP
 have HP:=yH hP
 clear hP hp hpe
 obtain⟨⟨b0,b1,b2,b3⟩,_⟩:=HB.out.four
 obtain⟨x00,x01,x02,x03⟩:=HK0.out.at0
 clear h ha0 ho
 go_enter Tryz.func48,Tryz.ntmps48
 go_wp2_with (first
  |(go_at_call 48;(with_reducible refine(HC0.out _ (show Rel W W from HA.out.right2)).mono ?_);rintro e w1 ⟨rfl,h1⟩;have R1:=yH h1;obtain⟨⟨d10,d11,d12,d13⟩,_⟩:=(HB.out.rel R1.out).four)
  |(go_at_call 69;(with_reducible refine(HP.out _).mono ?_);rintro e w8 ⟨rfl,rfl⟩))
 all_goals
  go_ret3
  exact⟨rfl,(HR.out.trans HA.out).trans R1.out⟩
theorem rtold_6s(d:Nat)(n:Int)(nm:List UInt8)(y:Ex)(H:RToldAt d)(hf0:fine d y=true)(hc0:isCond y.k=false){v P:Int}(hp:part1 v n false=P)(hpe:part2 v n false=0)(S:Nat→Prop)(e:El)(A:Option Addr)(c:Nat)(os:List Of)(w0 w:World)(hr:Rel w0 w)(h:ExAt S w e (.mk 6 n nm [y]))(hl:offsOk os=true)(ho:OffArg w A c os)(q0:toldN os d y= .ok (some v)):
  Calls Tryz.prog 48 #[EV e,.slice A os.length c] w fun z w'=>z= .returned (RV (subR v P))∧Rel w0 w':=by
 have HR:=yH hr
 have HO:=yH ho
 obtain⟨g,off,c',el0,W,rfl,hk,hn,hm,hW,HB,HA,HK0,ha0⟩:=pre1 h hr.self
 have HC0:=kid_so H hf0 hc0 ha0 hl (ho.rel HA.out) q0
 have hP:=fun w=>m9rpart_any v n false w
 unfold Two at hP
 rw[hp,hpe] at hP
 have HP:=yH hP
 clear hP hp hpe
 obtain⟨U,hU⟩:∃U,two1 v P (v-P)=U:=⟨_,rfl⟩
 obtain⟨E,hE⟩:∃E,two2 v P (v-P)=E:=⟨_,rfl⟩
 have hS:=fun w=>m9rsub_any v P w
 have hF:=sub_tri v P
 unfold Two at hS
 rw[hU,hE] at hS hF
 have HS:=yH hS
 have HF:=yH hF
 clear hU hE hS hF
 obtain⟨⟨b0,b1,b2,b3⟩,_⟩:=HB.out.four
 obtain⟨x00,x01,x02,x03⟩:=HK0.out.at0
 clear h ha0 ho
 go_enter Tryz.func48,Tryz.ntmps48
 go_wp2_with (first
  |(go_at_call 48;(with_reducible refine(HC0.out _ (show Rel W W from HA.out.right2)).mono ?_);rintro e w1 ⟨rfl,h1⟩;have R1:=yH h1;obtain⟨⟨d10,d11,d12,d13⟩,_⟩:=(HB.out.rel R1.out).four)
  |(go_at_call 69;(with_reducible refine(HP.out _).mono ?_);rintro e w8 ⟨rfl,rfl⟩)
  |(go_at_call 70;(with_reducible refine(HS.out _).mono ?_);rintro e w9 ⟨rfl,rfl⟩))
 all_goals
  go_ret3
  exact⟨by rw[HF.out];rfl,(HR.out.trans HA.out).trans R1.out⟩
theorem rtold_7e(d:Nat)(n:Int)(nm:List UInt8)(x y:Ex)(H:RToldAt d)(hf0:fine d x=true)(hc0:isCond x.k=false){er:Int}(he:(er !=0)=true)(S:Nat→Prop)(e:El)(A:Option Addr)(c:Nat)(os:List Of)(w0 w:World)(hr:Rel w0 w)(h:ExAt S w e (.mk 7 n nm [x,y]))(hl:offsOk os=true)(ho:OffArg w A c os)(q0:toldN os d x= .error er):
  Calls Tryz.prog 48 #[EV e,.slice A os.length c] w fun z w'=>z= .returned (RV (.error er))∧Rel w0 w':=by
 have HR:=yH hr
 have HO:=yH ho
 obtain⟨g,off,c',el0,el1,W,rfl,hk,hn,hm,hW,HB,HA,HK0,HK1,ha0,ha1⟩:=pre2 h hr.self
 have HC0:=kid_er H hf0 hc0 ha0 hl (ho.rel HA.out) q0
 obtain⟨⟨b0,b1,b2,b3⟩,_⟩:=HB.out.four
 obtain⟨x00,x01,x02,x03⟩:=HK0.out.at0
 clear h ha0 ha1 ho
 go_enter Tryz.func48,Tryz.ntmps48
 go_wp2_with (first
  |(go_at_call 48;(with_reducible refine(HC0.out _ (show Rel W W from HA.out.right2)).mono ?_);rintro e w1 ⟨rfl,h1⟩;have R1:=yH h1;obtain⟨⟨d10,d11,d12,d13⟩,_⟩:=(HB.out.rel R1.out).four))
 all_goals
  go_ret3
  exact⟨rfl,(HR.out.trans HA.out).trans R1.out⟩
theorem rtold_7ne(d:Nat)(n:Int)(nm:List UInt8)(x y:Ex)(H:RToldAt d)(hf0:fine d x=true)(hc0:isCond x.k=false)(hf1:fine d y=true)(hc1:isCond y.k=false){er:Int}(he:(er !=0)=true)(S:Nat→Prop)(e:El)(A:Option Addr)(c:Nat)(os:List Of)(w0 w:World)(hr:Rel w0 w)(h:ExAt S w e (.mk 7 n nm [x,y]))(hl:offsOk os=true)(ho:OffArg w A c os)(q0:toldN os d x= .ok none)(q1:toldN os d y= .error er):
  Calls Tryz.prog 48 #[EV e,.slice A os.length c] w fun z w'=>z= .returned (RV (.error er))∧Rel w0 w':=by
 have HR:=yH hr
 have HO:=yH ho
 obtain⟨g,off,c',el0,el1,W,rfl,hk,hn,hm,hW,HB,HA,HK0,HK1,ha0,ha1⟩:=pre2 h hr.self
 have HC0:=kid_no H hf0 hc0 ha0 hl (ho.rel HA.out) q0
 have HC1:=kid_er H hf1 hc1 ha1 hl (ho.rel HA.out) q1
 obtain⟨⟨b0,b1,b2,b3⟩,_⟩:=HB.out.four
 obtain⟨x00,x01,x02,x03⟩:=HK0.out.at0
 clear h ha0 ha1 ho
 go_enter Tryz.func48,Tryz.ntmps48
 go_wp2_with (first
  |(go_at_call 48;(with_reducible refine(HC0.out _ (show Rel W W from HA.out.right2)).mono ?_);rintro e w1 ⟨rfl,h1⟩;have R1:=yH h1;obtain⟨⟨d10,d11,d12,d13⟩,_⟩:=(HB.out.rel R1.out).four;obtain⟨y10,y11,y12,y13⟩:=(HK1.out.rel R1.out).at)
  |(go_at_call 48;(with_reducible refine(HC1.out _ R1.out).mono ?_);rintro e w2 ⟨rfl,h2⟩;have R2:=yH (R1.out.trans h2);obtain⟨⟨d20,d21,d22,d23⟩,_⟩:=(HB.out.rel R2.out).four))
 all_goals
  go_ret3
  exact⟨rfl,(HR.out.trans HA.out).trans R2.out⟩
theorem rtold_7nn(d:Nat)(n:Int)(nm:List UInt8)(x y:Ex)(H:RToldAt d)(hf0:fine d x=true)(hc0:isCond x.k=false)(hf1:fine d y=true)(hc1:isCond y.k=false)(S:Nat→Prop)(e:El)(A:Option Addr)(c:Nat)(os:List Of)(w0 w:World)(hr:Rel w0 w)(h:ExAt S w e (.mk 7 n nm [x,y]))(hl:offsOk os=true)(ho:OffArg w A c os)(q0:toldN os d x= .ok none)(q1:toldN os d y= .ok none):
  Calls Tryz.prog 48 #[EV e,.slice A os.length c] w fun z w'=>z= .returned (RV (.ok none))∧Rel w0 w':=by
 have HR:=yH hr
 have HO:=yH ho
 obtain⟨g,off,c',el0,el1,W,rfl,hk,hn,hm,hW,HB,HA,HK0,HK1,ha0,ha1⟩:=pre2 h hr.self
 have HC0:=kid_no H hf0 hc0 ha0 hl (ho.rel HA.out) q0
 have HC1:=kid_no H hf1 hc1 ha1 hl (ho.rel HA.out) q1
 obtain⟨⟨b0,b1,b2,b3⟩,_⟩:=HB.out.four
 obtain⟨x00,x01,x02,x03⟩:=HK0.out.at0
 clear h ha0 ha1 ho
 go_enter Tryz.func48,Tryz.ntmps48
 go_wp2_with (first
  |(go_at_call 48;(with_reducible refine(HC0.out _ (show Rel W W from HA.out.right2)).mono ?_);rintro e w1 ⟨rfl,h1⟩;have R1:=yH h1;obtain⟨⟨d10,d11,d12,d13⟩,_⟩:=(HB.out.rel R1.out).four;obtain⟨y10,y11,y12,y13⟩:=(HK1.out.rel R1.out).at)
  |(go_at_call 48;(with_reducible refine(HC1.out _ R1.out).mono ?_);rintro e w2 ⟨rfl,h2⟩;have R2:=yH (R1.out.trans h2);obtain⟨⟨d20,d21,d22,d23⟩,_⟩:=(HB.out.rel R2.out).four))
 all_goals
  go_ret3
  exact⟨rfl,(HR.out.trans HA.out).trans R2.out⟩
theorem rtold_7se(d:Nat)(n:Int)(nm:List UInt8)(x y:Ex)(H:RToldAt d)(hf0:fine d x=true)(hc0:isCond x.k=false)(hf1:fine d y=true)(hc1:isCond y.k=false){er:Int}(he:(er !=0)=true){v:Int}(S:Nat→Prop)(e:El)(A:Option Addr)(c:Nat)(os:List Of)(w0 w:World)(hr:Rel w0 w)(h:ExAt S w e (.mk 7 n nm [x,y]))(hl:offsOk os=true)(ho:OffArg w A c os)(q0:toldN os d x= .ok (some v))(q1:toldN os d y= .error er):
  Calls Tryz.prog 48 #[EV e,.slice A os.length c] w fun z w'=>z= .returned (RV (.error er))∧Rel w0 w':=by
 have HR:=yH hr
 have HO:=yH ho
 obtain⟨g,off,c',el0,el1,W,rfl,hk,hn,hm,hW,HB,HA,HK0,HK1,ha0,ha1⟩:=pre2 h hr.self
 have HC0:=kid_so H hf0 hc0 ha0 hl (ho.rel HA.out) q0
 have HC1:=kid_er H hf1 hc1 ha1 hl (ho.rel HA.out) q1
 obtain⟨⟨b0,b1,b2,b3⟩,_⟩:=HB.out.four
 obtain⟨x00,x01,x02,x03⟩:=HK0.out.at0
 clear h ha0 ha1 ho
 go_enter Tryz.func48,Tryz.ntmps48
 go_wp2_with (first
  |(go_at_call 48;(with_reducible refine(HC0.out _ (show Rel W W from HA.out.right2)).mono ?_);rintro e w1 ⟨rfl,h1⟩;have R1:=yH h1;obtain⟨⟨d10,d11,d12,d13⟩,_⟩:=(HB.out.rel R1.out).four;obtain⟨y10,y11,y12,y13⟩:=(HK1.out.rel R1.out).at)
  |(go_at_call 48;(with_reducible refine(HC1.out _ R1.out).mono ?_);rintro e w2 ⟨rfl,h2⟩;have R2:=yH (R1.out.trans h2);obtain⟨⟨d20,d21,d22,d23⟩,_⟩:=(HB.out.rel R2.out).four))
 all_goals
  go_ret3
  exact⟨rfl,(HR.out.trans HA.out).trans R2.out⟩
theorem rtold_7sn(d:Nat)(n:Int)(nm:List UInt8)(x y:Ex)(H:RToldAt d)(hf0:fine d x=true)(hc0:isCond x.k=false)(hf1:fine d y=true)(hc1:isCond y.k=false){v:Int}(S:Nat→Prop)(e:El)(A:Option Addr)(c:Nat)(os:List Of)(w0 w:World)(hr:Rel w0 w)(h:ExAt S w e (.mk 7 n nm [x,y]))(hl:offsOk os=true)(ho:OffArg w A c os)(q0:toldN os d x= .ok (some v))(q1:toldN os d y= .ok none):
  Calls Tryz.prog 48 #[EV e,.slice A os.length c] w fun z w'=>z= .returned (RV (.ok none))∧Rel w0 w':=by
 have HR:=yH hr
 have HO:=yH ho
 obtain⟨g,off,c',el0,el1,W,rfl,hk,hn,hm,hW,HB,HA,HK0,HK1,ha0,ha1⟩:=pre2 h hr.self
 have HC0:=kid_so H hf0 hc0 ha0 hl (ho.rel HA.out) q0
 have HC1:=kid_no H hf1 hc1 ha1 hl (ho.rel HA.out) q1
 obtain⟨⟨b0,b1,b2,b3⟩,_⟩:=HB.out.four
 obtain⟨x00,x01,x02,x03⟩:=HK0.out.at0
 clear h ha0 ha1 ho
 go_enter Tryz.func48,Tryz.ntmps48
 go_wp2_with (first
  |(go_at_call 48;(with_reducible refine(HC0.out _ (show Rel W W from HA.out.right2)).mono ?_);rintro e w1 ⟨rfl,h1⟩;have R1:=yH h1;obtain⟨⟨d10,d11,d12,d13⟩,_⟩:=(HB.out.rel R1.out).four;obtain⟨y10,y11,y12,y13⟩:=(HK1.out.rel R1.out).at)
  |(go_at_call 48;(with_reducible refine(HC1.out _ R1.out).mono ?_);rintro e w2 ⟨rfl,h2⟩;have R2:=yH (R1.out.trans h2);obtain⟨⟨d20,d21,d22,d23⟩,_⟩:=(HB.out.rel R2.out).four))
 all_goals
  go_ret3
  exact⟨rfl,(HR.out.trans HA.out).trans R2.out⟩
theorem rtold_7ns(d:Nat)(n:Int)(nm:List UInt8)(x y:Ex)(H:RToldAt d)(hf0:fine d x=true)(hc0:isCond x.k=false)(hf1:fine d y=true)(hc1:isCond y.k=false){u:Int}(S:Nat→Prop)(e:El)(A:Option Addr)(c:Nat)(os:List Of)(w0 w:World)(hr:Rel w0 w)(h:ExAt S w e (.mk 7 n nm [x,y]))(hl:offsOk os=true)(ho:OffArg w A c os)(q0:toldN os d x= .ok none)(q1:toldN os d y= .ok (some u)):
  Calls Tryz.prog 48 #[EV e,.slice A os.length c] w fun z w'=>z= .returned (RV (.ok none))∧Rel w0 w':=by
 have HR:=yH hr
 have HO:=yH ho
 obtain⟨g,off,c',el0,el1,W,rfl,hk,hn,hm,hW,HB,HA,HK0,HK1,ha0,ha1⟩:=pre2 h hr.self
 have HC0:=kid_no H hf0 hc0 ha0 hl (ho.rel HA.out) q0
 have HC1:=kid_so H hf1 hc1 ha1 hl (ho.rel HA.out) q1
 obtain⟨⟨b0,b1,b2,b3⟩,_⟩:=HB.out.four
 obtain⟨x00,x01,x02,x03⟩:=HK0.out.at0
 clear h ha0 ha1 ho
 go_enter Tryz.func48,Tryz.ntmps48
 go_wp2_with (first
  |(go_at_call 48;(with_reducible refine(HC0.out _ (show Rel W W from HA.out.right2)).mono ?_);rintro e w1 ⟨rfl,h1⟩;have R1:=yH h1;obtain⟨⟨d10,d11,d12,d13⟩,_⟩:=(HB.out.rel R1.out).four;obtain⟨y10,y11,y12,y13⟩:=(HK1.out.rel R1.out).at)
  |(go_at_call 48;(with_reducible refine(HC1.out _ R1.out).mono ?_);rintro e w2 ⟨rfl,h2⟩;have R2:=yH (R1.out.trans h2);obtain⟨⟨d20,d21,d22,d23⟩,_⟩:=(HB.out.rel R2.out).four))
 all_goals
  go_ret3
  exact⟨rfl,(HR.out.trans HA.out).trans R2.out⟩
theorem rtold_7ss(d:Nat)(n:Int)(nm:List UInt8)(x y:Ex)(H:RToldAt d)(hf0:fine d x=true)(hc0:isCond x.k=false)(hf1:fine d y=true)(hc1:isCond y.k=false){v u:Int}(S:Nat→Prop)(e:El)(A:Option Addr)(c:Nat)(os:List Of)(w0 w:World)(hr:Rel w0 w)(h:ExAt S w e (.mk 7 n nm [x,y]))(hl:offsOk os=true)(ho:OffArg w A c os)(q0:toldN os d x= .ok (some v))(q1:toldN os d y= .ok (some u)):
  Calls Tryz.prog 48 #[EV e,.slice A os.length c] w fun z w'=>z= .returned (RV (.ok (some (min v u))))∧Rel w0 w':=by
 have HR:=yH hr
 have HO:=yH ho
 obtain⟨g,off,c',el0,el1,W,rfl,hk,hn,hm,hW,HB,HA,HK0,HK1,ha0,ha1⟩:=pre2 h hr.self
 have HC0:=kid_so H hf0 hc0 ha0 hl (ho.rel HA.out) q0
 have HC1:=kid_so H hf1 hc1 ha1 hl (ho.rel HA.out) q1
 obtain⟨⟨b0,b1,b2,b3⟩,_⟩:=HB.out.four
 obtain⟨x00,x01,x02,x03⟩:=HK0.out.at0
 clear h ha0 ha1 ho
 go_enter Tryz.func48,Tryz.ntmps48
 go_wp2_with (first
  |(go_at_call 48;(with_reducible refine(HC0.out _ (show Rel W W from HA.out.right2)).mono ?_);rintro e w1 ⟨rfl,h1⟩;have R1:=yH h1;obtain⟨⟨d10,d11,d12,d13⟩,_⟩:=(HB.out.rel R1.out).four;obtain⟨y10,y11,y12,y13⟩:=(HK1.out.rel R1.out).at)
  |(go_at_call 48;(with_reducible refine(HC1.out _ R1.out).mono ?_);rintro e w2 ⟨rfl,h2⟩;have R2:=yH (R1.out.trans h2);obtain⟨⟨d20,d21,d22,d23⟩,_⟩:=(HB.out.rel R2.out).four))
 all_goals
  go_ret3
  exact⟨ret_mm (by omega),(HR.out.trans HA.out).trans R2.out⟩
theorem rtold_8e(d:Nat)(n:Int)(nm:List UInt8)(x y:Ex)(H:RToldAt d)(hf0:fine d x=true)(hc0:isCond x.k=false){er:Int}(he:(er !=0)=true)(S:Nat→Prop)(e:El)(A:Option Addr)(c:Nat)(os:List Of)(w0 w:World)(hr:Rel w0 w)(h:ExAt S w e (.mk 8 n nm [x,y]))(hl:offsOk os=true)(ho:OffArg w A c os)(q0:toldN os d x= .error er):
  Calls Tryz.prog 48 #[EV e,.slice A os.length c] w fun z w'=>z= .returned (RV (.error er))∧Rel w0 w':=by
 have HR:=yH hr
 have HO:=yH ho
 obtain⟨g,off,c',el0,el1,W,rfl,hk,hn,hm,hW,HB,HA,HK0,HK1,ha0,ha1⟩:=pre2 h hr.self
 have HC0:=kid_er H hf0 hc0 ha0 hl (ho.rel HA.out) q0
 obtain⟨⟨b0,b1,b2,b3⟩,_⟩:=HB.out.four
 obtain⟨x00,x01,x02,x03⟩:=HK0.out.at0
 clear h ha0 ha1 ho
 go_enter Tryz.func48,Tryz.ntmps48
 go_wp2_with (first
  |(go_at_call 48;(with_reducible refine(HC0.out _ (show Rel W W from HA.out.right2)).mono ?_);rintro e w1 ⟨rfl,h1⟩;have R1:=yH h1;obtain⟨⟨d10,d11,d12,d13⟩,_⟩:=(HB.out.rel R1.out).four))
 all_goals
  go_ret3
  exact⟨rfl,(HR.out.trans HA.out).trans R1.out⟩
theorem rtold_8ne(d:Nat)(n:Int)(nm:List UInt8)(x y:Ex)(H:RToldAt d)(hf0:fine d x=true)(hc0:isCond x.k=false)(hf1:fine d y=true)(hc1:isCond y.k=false){er:Int}(he:(er !=0)=true)(S:Nat→Prop)(e:El)(A:Option Addr)(c:Nat)(os:List Of)(w0 w:World)(hr:Rel w0 w)(h:ExAt S w e (.mk 8 n nm [x,y]))(hl:offsOk os=true)(ho:OffArg w A c os)(q0:toldN os d x= .ok none)(q1:toldN os d y= .error er):
  Calls Tryz.prog 48 #[EV e,.slice A os.length c] w fun z w'=>z= .returned (RV (.error er))∧Rel w0 w':=by
 have HR:=yH hr
 have HO:=yH ho
 obtain⟨g,off,c',el0,el1,W,rfl,hk,hn,hm,hW,HB,HA,HK0,HK1,ha0,ha1⟩:=pre2 h hr.self
 have HC0:=kid_no H hf0 hc0 ha0 hl (ho.rel HA.out) q0
 have HC1:=kid_er H hf1 hc1 ha1 hl (ho.rel HA.out) q1
 obtain⟨⟨b0,b1,b2,b3⟩,_⟩:=HB.out.four
 obtain⟨x00,x01,x02,x03⟩:=HK0.out.at0
 clear h ha0 ha1 ho
 go_enter Tryz.func48,Tryz.ntmps48
 go_wp2_with (first
  |(go_at_call 48;(with_reducible refine(HC0.out _ (show Rel W W from HA.out.right2)).mono ?_);rintro e w1 ⟨rfl,h1⟩;have R1:=yH h1;obtain⟨⟨d10,d11,d12,d13⟩,_⟩:=(HB.out.rel R1.out).four;obtain⟨y10,y11,y12,y13⟩:=(HK1.out.rel R1.out).at)
  |(go_at_call 48;(with_reducible refine(HC1.out _ R1.out).mono ?_);rintro e w2 ⟨rfl,h2⟩;have R2:=yH (R1.out.trans h2);obtain⟨⟨d20,d21,d22,d23⟩,_⟩:=(HB.out.rel R2.out).four))
 all_goals
  go_ret3
  exact⟨rfl,(HR.out.trans HA.out).trans R2.out⟩
theorem rtold_8nn(d:Nat)(n:Int)(nm:List UInt8)(x y:Ex)(H:RToldAt d)(hf0:fine d x=true)(hc0:isCond x.k=false)(hf1:fine d y=true)(hc1:isCond y.k=false)(S:Nat→Prop)(e:El)(A:Option Addr)(c:Nat)(os:List Of)(w0 w:World)(hr:Rel w0 w)(h:ExAt S w e (.mk 8 n nm [x,y]))(hl:offsOk os=true)(ho:OffArg w A c os)(q0:toldN os d x= .ok none)(q1:toldN os d y= .ok none):
  Calls Tryz.prog 48 #[EV e,.slice A os.length c] w fun z w'=>z= .returned (RV (.ok none))∧Rel w0 w':=by
 have HR:=yH hr
 have HO:=yH ho
 obtain⟨g,off,c',el0,el1,W,rfl,hk,hn,hm,hW,HB,HA,HK0,HK1,ha0,ha1⟩:=pre2 h hr.self
 have HC0:=kid_no H hf0 hc0 ha0 hl (ho.rel HA.out) q0
 have HC1:=kid_no H hf1 hc1 ha1 hl (ho.rel HA.out) q1
 obtain⟨⟨b0,b1,b2,b3⟩,_⟩:=HB.out.four
 obtain⟨x00,x01,x02,x03⟩:=HK0.out.at0
 clear h ha0 ha1 ho
 go_enter Tryz.func48,Tryz.ntmps48
 go_wp2_with (first
  |(go_at_call 48;(with_reducible refine(HC0.out _ (show Rel W W from HA.out.right2)).mono ?_);rintro e w1 ⟨rfl,h1⟩;have R1:=yH h1;obtain⟨⟨d10,d11,d12,d13⟩,_⟩:=(HB.out.rel R1.out).four;obtain⟨y10,y11,y12,y13⟩:=(HK1.out.rel R1.out).at)
  |(go_at_call 48;(with_reducible refine(HC1.out _ R1.out).mono ?_);rintro e w2 ⟨rfl,h2⟩;have R2:=yH (R1.out.trans h2);obtain⟨⟨d20,d21,d22,d23⟩,_⟩:=(HB.out.rel R2.out).four))
 all_goals
  go_ret3
  exact⟨rfl,(HR.out.trans HA.out).trans R2.out⟩
theorem rtold_8se(d:Nat)(n:Int)(nm:List UInt8)(x y:Ex)(H:RToldAt d)(hf0:fine d x=true)(hc0:isCond x.k=false)(hf1:fine d y=true)(hc1:isCond y.k=false){er:Int}(he:(er !=0)=true){v:Int}(S:Nat→Prop)(e:El)(A:Option Addr)(c:Nat)(os:List Of)(w0 w:World)(hr:Rel w0 w)(h:ExAt S w e (.mk 8 n nm [x,y]))(hl:offsOk os=true)(ho:OffArg w A c os)(q0:toldN os d x= .ok (some v))(q1:toldN os d y= .error er):
  Calls Tryz.prog 48 #[EV e,.slice A os.length c] w fun z w'=>z= .returned (RV (.error er))∧Rel w0 w':=by
 have HR:=yH hr
 have HO:=yH ho
 obtain⟨g,off,c',el0,el1,W,rfl,hk,hn,hm,hW,HB,HA,HK0,HK1,ha0,ha1⟩:=pre2 h hr.self
 have HC0:=kid_so H hf0 hc0 ha0 hl (ho.rel HA.out) q0
 have HC1:=kid_er H hf1 hc1 ha1 hl (ho.rel HA.out) q1
 obtain⟨⟨b0,b1,b2,b3⟩,_⟩:=HB.out.four
 obtain⟨x00,x01,x02,x03⟩:=HK0.out.at0
 clear h ha0 ha1 ho
 go_enter Tryz.func48,Tryz.ntmps48
 go_wp2_with (first
  |(go_at_call 48;(with_reducible refine(HC0.out _ (show Rel W W from HA.out.right2)).mono ?_);rintro e w1 ⟨rfl,h1⟩;have R1:=yH h1;obtain⟨⟨d10,d11,d12,d13⟩,_⟩:=(HB.out.rel R1.out).four;obtain⟨y10,y11,y12,y13⟩:=(HK1.out.rel R1.out).at)
  |(go_at_call 48;(with_reducible refine(HC1.out _ R1.out).mono ?_);rintro e w2 ⟨rfl,h2⟩;have R2:=yH (R1.out.trans h2);obtain⟨⟨d20,d21,d22,d23⟩,_⟩:=(HB.out.rel R2.out).four))
 all_goals
  go_ret3
  exact⟨rfl,(HR.out.trans HA.out).trans R2.out⟩
theorem rtold_8sn(d:Nat)(n:Int)(nm:List UInt8)(x y:Ex)(H:RToldAt d)(hf0:fine d x=true)(hc0:isCond x.k=false)(hf1:fine d y=true)(hc1:isCond y.k=false){v:Int}(S:Nat→Prop)(e:El)(A:Option Addr)(c:Nat)(os:List Of)(w0 w:World)(hr:Rel w0 w)(h:ExAt S w e (.mk 8 n nm [x,y]))(hl:offsOk os=true)(ho:OffArg w A c os)(q0:toldN os d x= .ok (some v))(q1:toldN os d y= .ok none):
  Calls Tryz.prog 48 #[EV e,.slice A os.length c] w fun z w'=>z= .returned (RV (.ok none))∧Rel w0 w':=by
 have HR:=yH hr
 have HO:=yH ho
 obtain⟨g,off,c',el0,el1,W,rfl,hk,hn,hm,hW,HB,HA,HK0,HK1,ha0,ha1⟩:=pre2 h hr.self
 have HC0:=kid_so H hf0 hc0 ha0 hl (ho.rel HA.out) q0
 have HC1:=kid_no H hf1 hc1 ha1 hl (ho.rel HA.out) q1
 obtain⟨⟨b0,b1,b2,b3⟩,_⟩:=HB.out.four
 obtain⟨x00,x01,x02,x03⟩:=HK0.out.at0
 clear h ha0 ha1 ho
 go_enter Tryz.func48,Tryz.ntmps48
 go_wp2_with (first
  |(go_at_call 48;(with_reducible refine(HC0.out _ (show Rel W W from HA.out.right2)).mono ?_);rintro e w1 ⟨rfl,h1⟩;have R1:=yH h1;obtain⟨⟨d10,d11,d12,d13⟩,_⟩:=(HB.out.rel R1.out).four;obtain⟨y10,y11,y12,y13⟩:=(HK1.out.rel R1.out).at)
  |(go_at_call 48;(with_reducible refine(HC1.out _ R1.out).mono ?_);rintro e w2 ⟨rfl,h2⟩;have R2:=yH (R1.out.trans h2);obtain⟨⟨d20,d21,d22,d23⟩,_⟩:=(HB.out.rel R2.out).four))
 all_goals
  go_ret3
  exact⟨rfl,(HR.out.trans HA.out).trans R2.out⟩
theorem rtold_8ns(d:Nat)(n:Int)(nm:List UInt8)(x y:Ex)(H:RToldAt d)(hf0:fine d x=true)(hc0:isCond x.k=false)(hf1:fine d y=true)(hc1:isCond y.k=false){u:Int}(S:Nat→Prop)(e:El)(A:Option Addr)(c:Nat)(os:List Of)(w0 w:World)(hr:Rel w0 w)(h:ExAt S w e (.mk 8 n nm [x,y]))(hl:offsOk os=true)(ho:OffArg w A c os)(q0:toldN os d x= .ok none)(q1:toldN os d y= .ok (some u)):
  Calls Tryz.prog 48 #[EV e,.slice A os.length c] w fun z w'=>z= .returned (RV (.ok none))∧Rel w0 w':=by
 have HR:=yH hr
 have HO:=yH ho
 obtain⟨g,off,c',el0,el1,W,rfl,hk,hn,hm,hW,HB,HA,HK0,HK1,ha0,ha1⟩:=pre2 h hr.self
 have HC0:=kid_no H hf0 hc0 ha0 hl (ho.rel HA.out) q0
 have HC1:=kid_so H hf1 hc1 ha1 hl (ho.rel HA.out) q1
 obtain⟨⟨b0,b1,b2,b3⟩,_⟩:=HB.out.four
 obtain⟨x00,x01,x02,x03⟩:=HK0.out.at0
 clear h ha0 ha1 ho
 go_enter Tryz.func48,Tryz.ntmps48
 go_wp2_with (first
  |(go_at_call 48;(with_reducible refine(HC0.out _ (show Rel W W from HA.out.right2)).mono ?_);rintro e w1 ⟨rfl,h1⟩;have R1:=yH h1;obtain⟨⟨d10,d11,d12,d13⟩,_⟩:=(HB.out.rel R1.out).four;obtain⟨y10,y11,y12,y13⟩:=(HK1.out.rel R1.out).at)
  |(go_at_call 48;(with_reducible refine(HC1.out _ R1.out).mono ?_);rintro e w2 ⟨rfl,h2⟩;have R2:=yH (R1.out.trans h2);obtain⟨⟨d20,d21,d22,d23⟩,_⟩:=(HB.out.rel R2.out).four))
 all_goals
  go_ret3
  exact⟨rfl,(HR.out.trans HA.out).trans R2.out⟩
theorem rtold_8ss(d:Nat)(n:Int)(nm:List UInt8)(x y:Ex)(H:RToldAt d)(hf0:fine d x=true)(hc0:isCond x.k=false)(hf1:fine d y=true)(hc1:isCond y.k=false){v u:Int}(S:Nat→Prop)(e:El)(A:Option Addr)(c:Nat)(os:List Of)(w0 w:World)(hr:Rel w0 w)(h:ExAt S w e (.mk 8 n nm [x,y]))(hl:offsOk os=true)(ho:OffArg w A c os)(q0:toldN os d x= .ok (some v))(q1:toldN os d y= .ok (some u)):
  Calls Tryz.prog 48 #[EV e,.slice A os.length c] w fun z w'=>z= .returned (RV (.ok (some (max v u))))∧Rel w0 w':=by
 have HR:=yH hr
 have HO:=yH ho
 obtain⟨g,off,c',el0,el1,W,rfl,hk,hn,hm,hW,HB,HA,HK0,HK1,ha0,ha1⟩:=pre2 h hr.self
 have HC0:=kid_so H hf0 hc0 ha0 hl (ho.rel HA.out) q0
 have HC1:=kid_so H hf1 hc1 ha1 hl (ho.rel HA.out) q1
 obtain⟨⟨b0,b1,b2,b3⟩,_⟩:=HB.out.four
 obtain⟨x00,x01,x02,x03⟩:=HK0.out.at0
 clear h ha0 ha1 ho
 go_enter Tryz.func48,Tryz.ntmps48
 go_wp2_with (first
  |(go_at_call 48;(with_reducible refine(HC0.out _ (show Rel W W from HA.out.right2)).mono ?_);rintro e w1 ⟨rfl,h1⟩;have R1:=yH h1;obtain⟨⟨d10,d11,d12,d13⟩,_⟩:=(HB.out.rel R1.out).four;obtain⟨y10,y11,y12,y13⟩:=(HK1.out.rel R1.out).at)
  |(go_at_call 48;(with_reducible refine(HC1.out _ R1.out).mono ?_);rintro e w2 ⟨rfl,h2⟩;have R2:=yH (R1.out.trans h2);obtain⟨⟨d20,d21,d22,d23⟩,_⟩:=(HB.out.rel R2.out).four))
 all_goals
  go_ret3
  exact⟨ret_mm (by omega),(HR.out.trans HA.out).trans R2.out⟩
theorem rtold_9e(d:Nat)(n:Int)(nm:List UInt8)(x y:Ex)(H:RToldAt d)(hf0:fine d x=true)(hc0:isCond x.k=false){er:Int}(he:(er !=0)=true)(S:Nat→Prop)(e:El)(A:Option Addr)(c:Nat)(os:List Of)(w0 w:World)(hr:Rel w0 w)(h:ExAt S w e (.mk 9 n nm [x,y]))(hl:offsOk os=true)(ho:OffArg w A c os)(q0:toldN os d x= .error er):
  Calls Tryz.prog 48 #[EV e,.slice A os.length c] w fun z w'=>z= .returned (RV (.error er))∧Rel w0 w':=by
 have HR:=yH hr
 have HO:=yH ho
 obtain⟨g,off,c',el0,el1,W,rfl,hk,hn,hm,hW,HB,HA,HK0,HK1,ha0,ha1⟩:=pre2 h hr.self
 have HC0:=kid_er H hf0 hc0 ha0 hl (ho.rel HA.out) q0
 obtain⟨⟨b0,b1,b2,b3⟩,_⟩:=HB.out.four
 obtain⟨x00,x01,x02,x03⟩:=HK0.out.at0
 clear h ha0 ha1 ho
 go_enter Tryz.func48,Tryz.ntmps48
 go_wp2_with (first
  |(go_at_call 48;(with_reducible refine(HC0.out _ (show Rel W W from HA.out.right2)).mono ?_);rintro e w1 ⟨rfl,h1⟩;have R1:=yH h1;obtain⟨⟨d10,d11,d12,d13⟩,_⟩:=(HB.out.rel R1.out).four;obtain⟨y10,y11,y12,y13⟩:=(HK1.out.rel R1.out).at))
 all_goals
  go_ret3
  exact⟨rfl,(HR.out.trans HA.out).trans R1.out⟩
theorem rtold_9s(d:Nat)(n:Int)(nm:List UInt8)(x y:Ex)(H:RToldAt d)(hf0:fine d x=true)(hc0:isCond x.k=false){v:Int}(S:Nat→Prop)(e:El)(A:Option Addr)(c:Nat)(os:List Of)(w0 w:World)(hr:Rel w0 w)(h:ExAt S w e (.mk 9 n nm [x,y]))(hl:offsOk os=true)(ho:OffArg w A c os)(q0:toldN os d x= .ok (some v)):
  Calls Tryz.prog 48 #[EV e,.slice A os.length c] w fun z w'=>z= .returned (RV (.ok (some v)))∧Rel w0 w':=by
 have HR:=yH hr
 have HO:=yH ho
 obtain⟨g,off,c',el0,el1,W,rfl,hk,hn,hm,hW,HB,HA,HK0,HK1,ha0,ha1⟩:=pre2 h hr.self
 have HC0:=kid_so H hf0 hc0 ha0 hl (ho.rel HA.out) q0
 obtain⟨⟨b0,b1,b2,b3⟩,_⟩:=HB.out.four
 obtain⟨x00,x01,x02,x03⟩:=HK0.out.at0
 clear h ha0 ha1 ho
 go_enter Tryz.func48,Tryz.ntmps48
 go_wp2_with (first
  |(go_at_call 48;(with_reducible refine(HC0.out _ (show Rel W W from HA.out.right2)).mono ?_);rintro e w1 ⟨rfl,h1⟩;have R1:=yH h1;obtain⟨⟨d10,d11,d12,d13⟩,_⟩:=(HB.out.rel R1.out).four;obtain⟨y10,y11,y12,y13⟩:=(HK1.out.rel R1.out).at))
 all_goals
  go_ret3
  exact⟨rfl,(HR.out.trans HA.out).trans R1.out⟩
theorem rtold_9n(d:Nat)(n:Int)(nm:List UInt8)(x y:Ex)(H:RToldAt d)(hf0:fine d x=true)(hc0:isCond x.k=false)(hf1:fine d y=true)(hc1:isCond y.k=false){r:Rs}(S:Nat→Prop)(e:El)(A:Option Addr)(c:Nat)(os:List Of)(w0 w:World)(hr:Rel w0 w)(h:ExAt S w e (.mk 9 n nm [x,y]))(hl:offsOk os=true)(ho:OffArg w A c os)(q0:toldN os d x= .ok none)(q1:toldN os d y=r):
  Calls Tryz.prog 48 #[EV e,.slice A os.length c] w fun z w'=>z= .returned (RV (r))∧Rel w0 w':=by
 have HR:=yH hr
 have HO:=yH ho
 obtain⟨g,off,c',el0,el1,W,rfl,hk,hn,hm,hW,HB,HA,HK0,HK1,ha0,ha1⟩:=pre2 h hr.self
 have HC0:=kid_no H hf0 hc0 ha0 hl (ho.rel HA.out) q0
 have HC1:Hid (∀w',Rel W w'→Calls Tryz.prog 48 #[EV el1,.slice A os.length c] w' fun e w2=>e= .returned (.tuple #[yI (rsV r),.bool (rsB r),yI (rsE r)])∧Rel w' w2):=yH (told_kid H hf1 hc1 ha1 hl (ho.rel HA.out) (r) q1)
 obtain⟨⟨b0,b1,b2,b3⟩,_⟩:=HB.out.four
 obtain⟨x00,x01,x02,x03⟩:=HK0.out.at0
 clear h ha0 ha1 ho
 go_enter Tryz.func48,Tryz.ntmps48
 go_wp2_with (first
  |(go_at_call 48;(with_reducible refine(HC0.out _ (show Rel W W from HA.out.right2)).mono ?_);rintro e w1 ⟨rfl,h1⟩;have R1:=yH h1;obtain⟨⟨d10,d11,d12,d13⟩,_⟩:=(HB.out.rel R1.out).four;obtain⟨y10,y11,y12,y13⟩:=(HK1.out.rel R1.out).at)
  |(go_at_call 48;(with_reducible refine(HC1.out _ R1.out).mono ?_);rintro e w2 ⟨rfl,h2⟩;have R2:=yH (R1.out.trans h2);obtain⟨⟨d20,d21,d22,d23⟩,_⟩:=(HB.out.rel R2.out).four))
 all_goals
  go_ret3
  exact⟨rfl,(HR.out.trans HA.out).trans R2.out⟩
theorem rtold_10e(d:Nat)(n:Int)(nm:List UInt8)(k x y:Ex)(H:RToldAt d)(HCd:RCondAt d)(hf0:fine d k=true)(hc0:isCond k.k=true){er:Int}(he:(er !=0)=true)(S:Nat→Prop)(e:El)(A:Option Addr)(c:Nat)(os:List Of)(w0 w:World)(hr:Rel w0 w)(h:ExAt S w e (.mk 10 n nm [k,x,y]))(hl:offsOk os=true)(ho:OffArg w A c os)(q0:condN os d k= .error er):
  Calls Tryz.prog 48 #[EV e,.slice A os.length c] w fun z w'=>z= .returned (RV (.error er))∧Rel w0 w':=by
 have HR:=yH hr
 have HO:=yH ho
 obtain⟨g,off,c',el0,el1,el2,W,rfl,hk,hn,hm,hW,HB,HA,HK0,HK1,HK2,ha0,ha1,ha2⟩:=pre3 h hr.self
 have HC0:Hid (∀w',Rel W w'→Calls Tryz.prog 68 #[EV el0,.slice A os.length c] w' fun e w2=>e= .returned (.tuple #[.bool false,yI er])∧Rel w' w2):=yH (cond_kid HCd hf0 hc0 ha0 hl (ho.rel HA.out) (.error er) q0)
 obtain⟨⟨b0,b1,b2,b3⟩,_⟩:=HB.out.four
 obtain⟨x00,x01,x02,x03⟩:=HK0.out.at0
 clear h ha0 ha1 ha2 ho
 go_enter Tryz.func48,Tryz.ntmps48
 go_wp2_with (first
  |(go_at_call 68;(with_reducible refine(HC0.out _ (show Rel W W from HA.out.right2)).mono ?_);rintro e w1 ⟨rfl,h1⟩;have R1:=yH h1;obtain⟨⟨d10,d11,d12,d13⟩,_⟩:=(HB.out.rel R1.out).four;obtain⟨y10,y11,y12,y13⟩:=(HK1.out.rel R1.out).at))
 all_goals
  go_ret3
  exact⟨rfl,(HR.out.trans HA.out).trans R1.out⟩
theorem rtold_10t(d:Nat)(n:Int)(nm:List UInt8)(k x y:Ex)(H:RToldAt d)(HCd:RCondAt d)(hf0:fine d k=true)(hc0:isCond k.k=true)(hf1:fine d x=true)(hc1:isCond x.k=false){r:Rs}(S:Nat→Prop)(e:El)(A:Option Addr)(c:Nat)(os:List Of)(w0 w:World)(hr:Rel w0 w)(h:ExAt S w e (.mk 10 n nm [k,x,y]))(hl:offsOk os=true)(ho:OffArg w A c os)(q0:condN os d k= .ok true)(q1:toldN os d x=r):
  Calls Tryz.prog 48 #[EV e,.slice A os.length c] w fun z w'=>z= .returned (RV (r))∧Rel w0 w':=by
 have HR:=yH hr
 have HO:=yH ho
 obtain⟨g,off,c',el0,el1,el2,W,rfl,hk,hn,hm,hW,HB,HA,HK0,HK1,HK2,ha0,ha1,ha2⟩:=pre3 h hr.self
 have HC0:Hid (∀w',Rel W w'→Calls Tryz.prog 68 #[EV el0,.slice A os.length c] w' fun e w2=>e= .returned (.tuple #[.bool true,yI 0])∧Rel w' w2):=yH (cond_kid HCd hf0 hc0 ha0 hl (ho.rel HA.out) (.ok true) q0)
 have HC1:Hid (∀w',Rel W w'→Calls Tryz.prog 48 #[EV el1,.slice A os.length c] w' fun e w2=>e= .returned (.tuple #[yI (rsV r),.bool (rsB r),yI (rsE r)])∧Rel w' w2):=yH (told_kid H hf1 hc1 ha1 hl (ho.rel HA.out) (r) q1)
 obtain⟨⟨b0,b1,b2,b3⟩,_⟩:=HB.out.four
 obtain⟨x00,x01,x02,x03⟩:=HK0.out.at0
 clear h ha0 ha1 ha2 ho
 go_enter Tryz.func48,Tryz.ntmps48
 go_wp2_with (first
  |(go_at_call 68;(with_reducible refine(HC0.out _ (show Rel W W from HA.out.right2)).mono ?_);rintro e w1 ⟨rfl,h1⟩;have R1:=yH h1;obtain⟨⟨d10,d11,d12,d13⟩,_⟩:=(HB.out.rel R1.out).four;obtain⟨y10,y11,y12,y13⟩:=(HK1.out.rel R1.out).at)
  |(go_at_call 48;(with_reducible refine(HC1.out _ R1.out).mono ?_);rintro e w2 ⟨rfl,h2⟩;have R2:=yH (R1.out.trans h2);obtain⟨⟨d20,d21,d22,d23⟩,_⟩:=(HB.out.rel R2.out).four))
 all_goals
  go_ret3
  exact⟨rfl,(HR.out.trans HA.out).trans R2.out⟩
theorem rtold_10f(d:Nat)(n:Int)(nm:List UInt8)(k x y:Ex)(H:RToldAt d)(HCd:RCondAt d)(hf0:fine d k=true)(hc0:isCond k.k=true)(hf2:fine d y=true)(hc2:isCond y.k=false){r:Rs}(S:Nat→Prop)(e:El)(A:Option Addr)(c:Nat)(os:List Of)(w0 w:World)(hr:Rel w0 w)(h:ExAt S w e (.mk 10 n nm [k,x,y]))(hl:offsOk os=true)(ho:OffArg w A c os)(q0:condN os d k= .ok false)(q2:toldN os d y=r):
  Calls Tryz.prog 48 #[EV e,.slice A os.length c] w fun z w'=>z= .returned (RV (r))∧Rel w0 w':=by
 have HR:=yH hr
 have HO:=yH ho
 obtain⟨g,off,c',el0,el1,el2,W,rfl,hk,hn,hm,hW,HB,HA,HK0,HK1,HK2,ha0,ha1,ha2⟩:=pre3 h hr.self
 have HC0:Hid (∀w',Rel W w'→Calls Tryz.prog 68 #[EV el0,.slice A os.length c] w' fun e w2=>e= .returned (.tuple #[.bool false,yI 0])∧Rel w' w2):=yH (cond_kid HCd hf0 hc0 ha0 hl (ho.rel HA.out) (.ok false) q0)
 have HC2:Hid (∀w',Rel W w'→Calls Tryz.prog 48 #[EV el2,.slice A os.length c] w' fun e w2=>e= .returned (.tuple #[yI (rsV r),.bool (rsB r),yI (rsE r)])∧Rel w' w2):=yH (told_kid H hf2 hc2 ha2 hl (ho.rel HA.out) (r) q2)
 obtain⟨⟨b0,b1,b2,b3⟩,_⟩:=HB.out.four
 obtain⟨x00,x01,x02,x03⟩:=HK0.out.at0
 clear h ha0 ha1 ha2 ho
 go_enter Tryz.func48,Tryz.ntmps48
 go_wp2_with (first
  |(go_at_call 68;(with_reducible refine(HC0.out _ (show Rel W W from HA.out.right2)).mono ?_);rintro e w1 ⟨rfl,h1⟩;have R1:=yH h1;obtain⟨⟨d10,d11,d12,d13⟩,_⟩:=(HB.out.rel R1.out).four;obtain⟨y10,y11,y12,y13⟩:=(HK2.out.rel R1.out).at)
  |(go_at_call 48;(with_reducible refine(HC2.out _ R1.out).mono ?_);rintro e w2 ⟨rfl,h2⟩;have R2:=yH (R1.out.trans h2);obtain⟨⟨d20,d21,d22,d23⟩,_⟩:=(HB.out.rel R2.out).four))
 all_goals
  go_ret3
  exact⟨rfl,(HR.out.trans HA.out).trans R2.out⟩
theorem rcond_12e(d:Nat)(n:Int)(nm:List UInt8)(x y:Ex)(H:RToldAt d)(hf0:fine d x=true)(hc0:isCond x.k=false){er:Int}(he:(er !=0)=true)(S:Nat→Prop)(e:El)(A:Option Addr)(c:Nat)(os:List Of)(w0 w:World)(hr:Rel w0 w)(h:ExAt S w e (.mk 12 n nm [x,y]))(hl:offsOk os=true)(ho:OffArg w A c os)(q0:toldN os d x= .error er):
  Calls Tryz.prog 68 #[EV e,.slice A os.length c] w fun z w'=>z= .returned (CV (.error er))∧Rel w0 w':=by
 have HR:=yH hr
 have HO:=yH ho
 obtain⟨g,off,c',el0,el1,W,rfl,hk,hn,hm,hW,HB,HA,HK0,HK1,ha0,ha1⟩:=pre2 h hr.self
 have HC0:=kid_er H hf0 hc0 ha0 hl (ho.rel HA.out) q0
 obtain⟨⟨b0,b1,b2,b3⟩,_⟩:=HB.out.four
 obtain⟨x00,x01,x02,x03⟩:=HK0.out.at0
 clear h ha0 ha1 ho
 go_enter Tryz.func68,Tryz.ntmps68
 go_wp2_with (first
  |(go_at_call 48;(with_reducible refine(HC0.out _ (show Rel W W from HA.out.right2)).mono ?_);rintro e w1 ⟨rfl,h1⟩;have R1:=yH h1;obtain⟨⟨d10,d11,d12,d13⟩,_⟩:=(HB.out.rel R1.out).four))
 all_goals
  go_ret2
  exact⟨rfl,(HR.out.trans HA.out).trans R1.out⟩
theorem rcond_12ne(d:Nat)(n:Int)(nm:List UInt8)(x y:Ex)(H:RToldAt d)(hf0:fine d x=true)(hc0:isCond x.k=false)(hf1:fine d y=true)(hc1:isCond y.k=false){er:Int}(he:(er !=0)=true)(S:Nat→Prop)(e:El)(A:Option Addr)(c:Nat)(os:List Of)(w0 w:World)(hr:Rel w0 w)(h:ExAt S w e (.mk 12 n nm [x,y]))(hl:offsOk os=true)(ho:OffArg w A c os)(q0:toldN os d x= .ok none)(q1:toldN os d y= .error er):
  Calls Tryz.prog 68 #[EV e,.slice A os.length c] w fun z w'=>z= .returned (CV (.error er))∧Rel w0 w':=by
 have HR:=yH hr
 have HO:=yH ho
 obtain⟨g,off,c',el0,el1,W,rfl,hk,hn,hm,hW,HB,HA,HK0,HK1,ha0,ha1⟩:=pre2 h hr.self
 have HC0:=kid_no H hf0 hc0 ha0 hl (ho.rel HA.out) q0
 have HC1:=kid_er H hf1 hc1 ha1 hl (ho.rel HA.out) q1
 have he2:(er==0)=false:=by simpa using he
 obtain⟨⟨b0,b1,b2,b3⟩,_⟩:=HB.out.four
 obtain⟨x00,x01,x02,x03⟩:=HK0.out.at0
 clear h ha0 ha1 ho
 go_enter Tryz.func68,Tryz.ntmps68
 go_wp2_with (first
  |(go_at_call 48;(with_reducible refine(HC0.out _ (show Rel W W from HA.out.right2)).mono ?_);rintro e w1 ⟨rfl,h1⟩;have R1:=yH h1;obtain⟨⟨d10,d11,d12,d13⟩,_⟩:=(HB.out.rel R1.out).four;obtain⟨y10,y11,y12,y13⟩:=(HK1.out.rel R1.out).at)
  |(go_at_call 48;(with_reducible refine(HC1.out _ R1.out).mono ?_);rintro e w2 ⟨rfl,h2⟩;have R2:=yH (R1.out.trans h2);obtain⟨⟨d20,d21,d22,d23⟩,_⟩:=(HB.out.rel R2.out).four))
 all_goals
  go_ret2
  exact⟨rfl,(HR.out.trans HA.out).trans R2.out⟩
theorem rcond_12nn(d:Nat)(n:Int)(nm:List UInt8)(x y:Ex)(H:RToldAt d)(hf0:fine d x=true)(hc0:isCond x.k=false)(hf1:fine d y=true)(hc1:isCond y.k=false)(S:Nat→Prop)(e:El)(A:Option Addr)(c:Nat)(os:List Of)(w0 w:World)(hr:Rel w0 w)(h:ExAt S w e (.mk 12 n nm [x,y]))(hl:offsOk os=true)(ho:OffArg w A c os)(q0:toldN os d x= .ok none)(q1:toldN os d y= .ok none):
  Calls Tryz.prog 68 #[EV e,.slice A os.length c] w fun z w'=>z= .returned (CV (.ok false))∧Rel w0 w':=by
 have HR:=yH hr
 have HO:=yH ho
 obtain⟨g,off,c',el0,el1,W,rfl,hk,hn,hm,hW,HB,HA,HK0,HK1,ha0,ha1⟩:=pre2 h hr.self
 have HC0:=kid_no H hf0 hc0 ha0 hl (ho.rel HA.out) q0
 have HC1:=kid_no H hf1 hc1 ha1 hl (ho.rel HA.out) q1
 obtain⟨⟨b0,b1,b2,b3⟩,_⟩:=HB.out.four
 obtain⟨x00,x01,x02,x03⟩:=HK0.out.at0
 clear h ha0 ha1 ho
 go_enter Tryz.func68,Tryz.ntmps68
 go_wp2_with (first
  |(go_at_call 48;(with_reducible refine(HC0.out _ (show Rel W W from HA.out.right2)).mono ?_);rintro e w1 ⟨rfl,h1⟩;have R1:=yH h1;obtain⟨⟨d10,d11,d12,d13⟩,_⟩:=(HB.out.rel R1.out).four;obtain⟨y10,y11,y12,y13⟩:=(HK1.out.rel R1.out).at)
  |(go_at_call 48;(with_reducible refine(HC1.out _ R1.out).mono ?_);rintro e w2 ⟨rfl,h2⟩;have R2:=yH (R1.out.trans h2);obtain⟨⟨d20,d21,d22,d23⟩,_⟩:=(HB.out.rel R2.out).four))
 all_goals
  go_ret2
  exact⟨rfl,(HR.out.trans HA.out).trans R2.out⟩
theorem rcond_12se(d:Nat)(n:Int)(nm:List UInt8)(x y:Ex)(H:RToldAt d)(hf0:fine d x=true)(hc0:isCond x.k=false)(hf1:fine d y=true)(hc1:isCond y.k=false){er:Int}(he:(er !=0)=true){v:Int}(S:Nat→Prop)(e:El)(A:Option Addr)(c:Nat)(os:List Of)(w0 w:World)(hr:Rel w0 w)(h:ExAt S w e (.mk 12 n nm [x,y]))(hl:offsOk os=true)(ho:OffArg w A c os)(q0:toldN os d x= .ok (some v))(q1:toldN os d y= .error er):
  Calls Tryz.prog 68 #[EV e,.slice A os.length c] w fun z w'=>z= .returned (CV (.error er))∧Rel w0 w':=by
 have HR:=yH hr
 have HO:=yH ho
 obtain⟨g,off,c',el0,el1,W,rfl,hk,hn,hm,hW,HB,HA,HK0,HK1,ha0,ha1⟩:=pre2 h hr.self
 have HC0:=kid_so H hf0 hc0 ha0 hl (ho.rel HA.out) q0
 have HC1:=kid_er H hf1 hc1 ha1 hl (ho.rel HA.out) q1
 have he2:(er==0)=false:=by simpa using he
 obtain⟨⟨b0,b1,b2,b3⟩,_⟩:=HB.out.four
 obtain⟨x00,x01,x02,x03⟩:=HK0.out.at0
 clear h ha0 ha1 ho
 go_enter Tryz.func68,Tryz.ntmps68
 go_wp2_with (first
  |(go_at_call 48;(with_reducible refine(HC0.out _ (show Rel W W from HA.out.right2)).mono ?_);rintro e w1 ⟨rfl,h1⟩;have R1:=yH h1;obtain⟨⟨d10,d11,d12,d13⟩,_⟩:=(HB.out.rel R1.out).four;obtain⟨y10,y11,y12,y13⟩:=(HK1.out.rel R1.out).at)
  |(go_at_call 48;(with_reducible refine(HC1.out _ R1.out).mono ?_);rintro e w2 ⟨rfl,h2⟩;have R2:=yH (R1.out.trans h2);obtain⟨⟨d20,d21,d22,d23⟩,_⟩:=(HB.out.rel R2.out).four))
 all_goals
  go_ret2
  exact⟨rfl,(HR.out.trans HA.out).trans R2.out⟩
theorem rcond_12sn(d:Nat)(n:Int)(nm:List UInt8)(x y:Ex)(H:RToldAt d)(hf0:fine d x=true)(hc0:isCond x.k=false)(hf1:fine d y=true)(hc1:isCond y.k=false){v:Int}(S:Nat→Prop)(e:El)(A:Option Addr)(c:Nat)(os:List Of)(w0 w:World)(hr:Rel w0 w)(h:ExAt S w e (.mk 12 n nm [x,y]))(hl:offsOk os=true)(ho:OffArg w A c os)(q0:toldN os d x= .ok (some v))(q1:toldN os d y= .ok none):
  Calls Tryz.prog 68 #[EV e,.slice A os.length c] w fun z w'=>z= .returned (CV (.ok false))∧Rel w0 w':=by
 have HR:=yH hr
 have HO:=yH ho
 obtain⟨g,off,c',el0,el1,W,rfl,hk,hn,hm,hW,HB,HA,HK0,HK1,ha0,ha1⟩:=pre2 h hr.self
 have HC0:=kid_so H hf0 hc0 ha0 hl (ho.rel HA.out) q0
 have HC1:=kid_no H hf1 hc1 ha1 hl (ho.rel HA.out) q1
 obtain⟨⟨b0,b1,b2,b3⟩,_⟩:=HB.out.four
 obtain⟨x00,x01,x02,x03⟩:=HK0.out.at0
 clear h ha0 ha1 ho
 go_enter Tryz.func68,Tryz.ntmps68
 go_wp2_with (first
  |(go_at_call 48;(with_reducible refine(HC0.out _ (show Rel W W from HA.out.right2)).mono ?_);rintro e w1 ⟨rfl,h1⟩;have R1:=yH h1;obtain⟨⟨d10,d11,d12,d13⟩,_⟩:=(HB.out.rel R1.out).four;obtain⟨y10,y11,y12,y13⟩:=(HK1.out.rel R1.out).at)
  |(go_at_call 48;(with_reducible refine(HC1.out _ R1.out).mono ?_);rintro e w2 ⟨rfl,h2⟩;have R2:=yH (R1.out.trans h2);obtain⟨⟨d20,d21,d22,d23⟩,_⟩:=(HB.out.rel R2.out).four))
 all_goals
  go_ret2
  exact⟨rfl,(HR.out.trans HA.out).trans R2.out⟩
theorem rcond_12ns(d:Nat)(n:Int)(nm:List UInt8)(x y:Ex)(H:RToldAt d)(hf0:fine d x=true)(hc0:isCond x.k=false)(hf1:fine d y=true)(hc1:isCond y.k=false){u:Int}(S:Nat→Prop)(e:El)(A:Option Addr)(c:Nat)(os:List Of)(w0 w:World)(hr:Rel w0 w)(h:ExAt S w e (.mk 12 n nm [x,y]))(hl:offsOk os=true)(ho:OffArg w A c os)(q0:toldN os d x= .ok none)(q1:toldN os d y= .ok (some u)):
  Calls Tryz.prog 68 #[EV e,.slice A os.length c] w fun z w'=>z= .returned (CV (.ok false))∧Rel w0 w':=by
 have HR:=yH hr
 have HO:=yH ho
 obtain⟨g,off,c',el0,el1,W,rfl,hk,hn,hm,hW,HB,HA,HK0,HK1,ha0,ha1⟩:=pre2 h hr.self
 have HC0:=kid_no H hf0 hc0 ha0 hl (ho.rel HA.out) q0
 have HC1:=kid_so H hf1 hc1 ha1 hl (ho.rel HA.out) q1
 obtain⟨⟨b0,b1,b2,b3⟩,_⟩:=HB.out.four
 obtain⟨x00,x01,x02,x03⟩:=HK0.out.at0
 clear h ha0 ha1 ho
 go_enter Tryz.func68,Tryz.ntmps68
 go_wp2_with (first
  |(go_at_call 48;(with_reducible refine(HC0.out _ (show Rel W W from HA.out.right2)).mono ?_);rintro e w1 ⟨rfl,h1⟩;have R1:=yH h1;obtain⟨⟨d10,d11,d12,d13⟩,_⟩:=(HB.out.rel R1.out).four;obtain⟨y10,y11,y12,y13⟩:=(HK1.out.rel R1.out).at)
  |(go_at_call 48;(with_reducible refine(HC1.out _ R1.out).mono ?_);rintro e w2 ⟨rfl,h2⟩;have R2:=yH (R1.out.trans h2);obtain⟨⟨d20,d21,d22,d23⟩,_⟩:=(HB.out.rel R2.out).four))
 all_goals
  go_ret2
  exact⟨rfl,(HR.out.trans HA.out).trans R2.out⟩
theorem rcond_12ss(d:Nat)(n:Int)(nm:List UInt8)(x y:Ex)(H:RToldAt d)(hf0:fine d x=true)(hc0:isCond x.k=false)(hf1:fine d y=true)(hc1:isCond y.k=false){v u:Int}(S:Nat→Prop)(e:El)(A:Option Addr)(c:Nat)(os:List Of)(w0 w:World)(hr:Rel w0 w)(h:ExAt S w e (.mk 12 n nm [x,y]))(hl:offsOk os=true)(ho:OffArg w A c os)(q0:toldN os d x= .ok (some v))(q1:toldN os d y= .ok (some u)):
  Calls Tryz.prog 68 #[EV e,.slice A os.length c] w fun z w'=>z= .returned (CV (.ok (decide (u<v))))∧Rel w0 w':=by
 have HR:=yH hr
 have HO:=yH ho
 obtain⟨g,off,c',el0,el1,W,rfl,hk,hn,hm,hW,HB,HA,HK0,HK1,ha0,ha1⟩:=pre2 h hr.self
 have HC0:=kid_so H hf0 hc0 ha0 hl (ho.rel HA.out) q0
 have HC1:=kid_so H hf1 hc1 ha1 hl (ho.rel HA.out) q1
 obtain⟨⟨b0,b1,b2,b3⟩,_⟩:=HB.out.four
 obtain⟨x00,x01,x02,x03⟩:=HK0.out.at0
 clear h ha0 ha1 ho
 go_enter Tryz.func68,Tryz.ntmps68
 go_wp2_with (first
  |(go_at_call 48;(with_reducible refine(HC0.out _ (show Rel W W from HA.out.right2)).mono ?_);rintro e w1 ⟨rfl,h1⟩;have R1:=yH h1;obtain⟨⟨d10,d11,d12,d13⟩,_⟩:=(HB.out.rel R1.out).four;obtain⟨y10,y11,y12,y13⟩:=(HK1.out.rel R1.out).at)
  |(go_at_call 48;(with_reducible refine(HC1.out _ R1.out).mono ?_);rintro e w2 ⟨rfl,h2⟩;have R2:=yH (R1.out.trans h2);obtain⟨⟨d20,d21,d22,d23⟩,_⟩:=(HB.out.rel R2.out).four))
 all_goals
  go_ret2
  exact⟨rfl,(HR.out.trans HA.out).trans R2.out⟩
theorem rcond_11(d:Nat)(n:Int)(nm:List UInt8)(S:Nat→Prop)(e:El)(A:Option Addr)(c:Nat)(os:List Of)(w0 w:World)(hr:Rel w0 w)(h:ExAt S w e (.mk 11 n nm []))(hl:offsOk os=true)(ho:OffArg w A c os):
  Calls Tryz.prog 68 #[EV e,.slice A os.length c] w fun r w'=>r= .returned (CV (.ok (decide (n<(os.length:Int)))))∧Rel w0 w':=by
 obtain⟨A',c',es,rfl,hk,hn,hm,hle,hrow,hsub⟩:=h.open
 have HR:=yH hr
 have HB:=yH (Bk.new w 52 #[yI 11,yI n,.string (B nm),.slice A' 0 c'])
 have HA:=yH (hr.self.alloc (.cells #[yI 11,yI n,.string (B nm),.slice A' 0 c'] 52))
 have HO:=yH ho
 obtain⟨W,hW⟩:∃W,w.alloc (.cells #[yI 11,yI n,.string (B nm),.slice A' 0 c'] 52)=W:=⟨_,rfl⟩
 rw[hW] at HA HB
 obtain⟨⟨c0,c1,c2,c3⟩,_⟩:=HB.out.four
 clear hrow hsub h ho
 go_enter Tryz.func68,Tryz.ntmps68
 go_wp2_with (fail)
 go_ret2
 exact⟨rfl,HR.out.trans HA.out⟩
theorem rnumber_at(n:Int)(S:ByteArray)(hS:Hid (B (itoa n)=S))(h0:0≤n)(h1:n≤9223372036854775807)(w0 w:World)(hr:Rel w0 w):
  Calls Tryz.prog 51 #[yI n] w fun e w'=>e= .returned (.string S)∧Rel w0 w':=by
 have HS:=yH (show B (decDigits n.toNat)=S by rw[←hS.out,itoa_pos h0])
 clear hS
 go_enter Tryz.func51,Tryz.ntmps51
 go_wp2_with ((go_at_call 71;(with_reducible refine(digits_any n h0 h1 _ _ hr).mono ?_);rintro e w' ⟨rfl,hr'⟩))
 go_ret
 exact⟨ret_str HS.out,hr'⟩
theorem rtx_at(n:Int)(S:ByteArray)(hS:Hid (tx n=S))(h0: -9223372036854775808≤n)(h1:n≤9223372036854775807)(w0 w:World)(hr:Rel w0 w):
  Calls Tryz.prog 50 #[yI n] w fun e w'=>e= .returned (.string S)∧Rel w0 w':=by
 rw[←hS.out];exact rtext_any n h0 h1 w0 w hr
theorem mores_append(a b:List Ex):mores (a++b)=mores a++mores b:=by
 induction a with
 |nil=>simp[mores_nil]
 |cons x t ih=>rw[List.cons_append,mores_cons,mores_cons,ih];simp
theorem texts_snoc(a:List Ex)(x:Ex):texts (a++[x])=texts a++((if a=[] then [] else [44,32])++text x):=by
 cases a with
 |nil=>simp[texts_nil,texts_cons,mores_nil]
 |cons y t=>rw[List.cons_append,texts_cons,texts_cons,mores_append,mores_cons,mores_nil];simp
theorem texts_take(l:List Ex)(j:Nat)(h:j<l.length):texts (l.take (j+1))=texts (l.take j)++((if j=0 then [] else [44,32])++text l[j]):=by
 rw[List.take_succ_eq_append_getElem h,texts_snoc]
 congr 2
 by_cases e:j=0
 ·subst e;simp
 ·rw[if_neg e,if_neg (by intro h';have:=congrArg List.length h';rw[List.length_take,List.length_nil] at this;omega)]
theorem B_lit40(l:List UInt8):B l++(⟨#[40]⟩:ByteArray)=B (l++[40]):=by rw[show(⟨#[40]⟩:ByteArray)=B [40] from rfl,B_append]
theorem B_lit41(l:List UInt8):B l++(⟨#[41]⟩:ByteArray)=B (l++[41]):=by rw[show(⟨#[41]⟩:ByteArray)=B [41] from rfl,B_append]
theorem rtext7_any:∀(x:Ex)(d:Nat)(S:Nat→Prop)(e:El)(w0 w:World),fine d x=true→Rel w0 w→ExAt S w e x→size x≤2000→
  Calls Tryz.prog 32 #[EV e] w fun r w'=>r= .returned (.string (B (text x)))∧Rel w0 w':=ex_ind fun k n nm l ih d S e w0 w hf hr h hz=>by
 obtain⟨A,c,es,rfl,hk,hn,hm,hl,hrow,hsub⟩:=h.open
 obtain⟨d,rfl⟩:∃e,d=e+1:=by
  cases d with
  |zero=>cases hf
  |succ d=>exact⟨d,rfl⟩
 obtain⟨f1,f2,f3,f4,f5⟩:=fine_parts hf
 have hmk:=most_le k
 have hal:=args_le k
 have n0:=f2.1
 have n1:n≤1000000000000:=by have:=f2.2;have:=hmk.1;omega
 have HB:=yH (Bk.new w 52 #[yI k,yI n,.string (B nm),.slice A l.length c])
 have HA:=yH (hr.self.alloc (.cells #[yI k,yI n,.string (B nm),.slice A l.length c] 52))
 have HR:=yH hr
 have HRow:=yH hrow
 have HSub:=yH hsub
 have HIH:=yH (fun j (hj:j<l.length)=>fun S e w0 w hr h hz=>ih _ (List.getElem_mem (l:=l) (n:=j) hj) d S e w0 w (f5 j hj).2 hr h hz)
 have HTL:=yH (fun j (hj:j<l.length)=>text_len _ d (f5 j hj).2)
 obtain⟨TN,hTN⟩:∃T,tx n=T:=⟨_,rfl⟩
 have HTN:=yH hTN
 have zTN:TN.size≤43:=by rw[←hTN];exact tx_size n
 obtain⟨NN,hNN⟩:∃T,B (itoa n)=T:=⟨_,rfl⟩
 have HNN:=yH hNN
 have zNN:NN.size≤14:=by rw[←hNN,B_size];exact itoa_len n0 n1
 obtain⟨NM,hNM⟩:∃T,B nm=T:=⟨_,rfl⟩
 have HNM:=yH hNM
 have zNM:NM.size≤100:=by rw[←hNM,B_size];exact hm
 obtain⟨WD,hWD⟩:∃T,B (wordK k)=T:=⟨_,rfl⟩
 have HWD:=yH hWD
 have HWc:=yH (fun(w0 w:World)(hr:Rel w0 w)=>rword7_any k hk w0 w hr)
 rw[hWD] at HWc
 have HT:=yH (text_mk k n nm l)
 have hkk:0≤argsN k:=by omega
 have hl3:l.length≤3:=by omega
 have hzl:sizes l≤2000:=by rw[size_mk] at hz;omega
 have hkb:k≤12∧1≤k:=by
  rcases kinds k with h|h
  ·omega
  ·have:=h.2.2.2.2.2.2.2.2.2.2.2.2.1;omega
 have hTXL:∀j,j≤l.length→(texts (l.take j)).length≤60*sizes l+2*l.length:=fun j hj=>by
  have e1:=texts_len (l:=l.take j) fun y hy=>by
   obtain⟨i,hi,rfl⟩:=List.mem_iff_getElem.1 (List.mem_of_mem_take hy)
   exact HTL.out i hi
  have e2:sizes l=sizes (l.take j)+sizes (l.drop j):=by rw[←sizes_append,List.take_append_drop]
  have e3:(l.take j).length≤l.length:=List.length_take_le' ..
  omega
 have HTXL:=yH hTXL
 have hwz:k≠4→WD.size≤6:=fun e=>by rw[←hWD,B_size];exact(word_kind hkk e).2.2
 rw[hNM] at HB HA
 have HEVe:EV (k,n,nm,A,l.length,c)= .agg #[yI k,yI n,.string NM,.slice A l.length c]:=by rw[←hNM]
 rw[HEVe]
 clear ih hf h hrow hsub f5 hTN hNN hWD hNM hTXL HEVe hz hn hm hmk
 by_cases k4:k=4
 ·subst k4
  have HF:=yH (show B (text (.mk 4 n nm l))=TN by rw[HT.out,if_pos rfl,←HTN.out];rfl)
  clear hwz
  go_enter Tryz.func32,Tryz.ntmps32
  go_wp2_with (first
   |(go_at_call 49;(with_reducible refine(HWc.out _ _ HA.out.self).mono ?_);rintro e w1 ⟨rfl,h1⟩;have B1:=HB.out.rel h1;have R1:=HA.out.trans h1;obtain⟨⟨c0,c1,c2,c3⟩,_⟩:=B1.four)
   |(go_at_call 50;(with_reducible refine(rtx_at n TN HTN (by omega) (by omega) _ _ h1.self).mono ?_);rintro e w2 ⟨rfl,h2⟩))
  go_ret
  exact⟨ret_str HF.out.symm,(HR.out.trans R1).trans h2⟩
 ·have hw6:=hwz k4
  have k4':(k==4)=false:=by simpa using k4
  clear hwz
  by_cases k12:k=1∨k=2
  ·have HF:=yH (show B (text (.mk k n nm l))=WD by rw[HT.out,if_neg k4,if_pos k12];exact HWD.out)
   rcases k12 with rfl|rfl
   all_goals
    go_enter Tryz.func32,Tryz.ntmps32
    go_wp2_with ((go_at_call 49;(with_reducible refine(HWc.out _ _ HA.out.self).mono ?_);rintro e w1 ⟨rfl,h1⟩;have B1:=HB.out.rel h1;have R1:=HA.out.trans h1;obtain⟨⟨c0,c1,c2,c3⟩,_⟩:=B1.four))
    go_ret
    exact⟨ret_str HF.out.symm,HR.out.trans R1⟩
  ·have q1:(k==1)=false:=by simp;omega
   have q2:(k==2)=false:=by simp;omega
   have HF0:=yH (show text (.mk k n nm l)=wordK k++([40]++(texts l++(tailK k n nm++[41]))) by rw[HT.out,if_neg k4,if_neg k12])
   have HP0:=yH (show WD++(⟨#[40]⟩:ByteArray)=B (wordK k++[40]++texts (l.take 0)) by rw[←HWD.out,B_lit40,List.take_zero,texts_nil,List.append_nil])
   have hz40: ¬9223372036854775807<WD.size+1:=by omega
   clear k4 k12
   go_enter Tryz.func32,Tryz.ntmps32
   go_wp2_with ((go_at_call 49;(with_reducible refine(HWc.out _ _ HA.out.self).mono ?_);rintro e w1 ⟨rfl,h1⟩;have B1:=HB.out.rel h1;have R1:=HA.out.trans h1;obtain⟨⟨c0,c1,c2,c3⟩,_⟩:=B1.four))
   have HB1:=yH B1
   have HR1:=yH R1
   have hzw:(wordK k).length≤6:=by have:=HWD.out;rw[←this,B_size] at hw6;exact hw6
   have HPZ:=yH (show ∀j,j≤l.length→(B (wordK k++[40]++texts (l.take j))).size≤120013 from fun j hj=>by
    have:=HTXL.out j hj
    rw[B_size]
    simp only[List.length_append,List.length_cons,List.length_nil]
    omega)
   clear c0 c1 c2 c3 B1 R1 hz40
   rw[HP0.out]
   obtain⟨P0,hP0⟩:∃P,B (wordK k++[40]++texts (l.take 0))=P:=⟨_,rfl⟩
   rw[hP0]
   have HQ0:=yH hP0.symm
   clear hP0 HP0
   go_loopw [3,4] (fun s i wr=>∃(j:Nat)(P:ByteArray),j≤l.length∧i=yI (j:Int)∧s= .string P∧Hid (P=B (wordK k++[40]++texts (l.take j)))∧Rel w1 wr) (fun _ i _=>l.length-(RowKit.intOf i).toNat)
   case atStart=>exact⟨0,P0,by omega,rfl,rfl,HQ0,(HR.out.trans HR1.out).self⟩
   case round=>
    obtain⟨j,P,hj,rfl,rfl,HP,hRw⟩:=hrel
    have zP:P.size≤120013:=by rw[HP.out];exact HPZ.out j hj
    obtain⟨⟨c0,c1,c2,c3⟩,_⟩:=(HB1.out.rel hRw).four
    have HRw:=yH hRw
    by_cases hlt:j<l.length
    ·obtain⟨g,off,k1,n1',nm1,A1,m1,c1',hA,a0,a1,a2,a3,ha⟩:=ExAt.arg HRow.out HSub.out hl (HR1.out.trans hRw) j hlt
     subst hA
     have hs1:=size_mem (List.getElem_mem (l:=l) (n:=j) hlt)
     have hs2:size l[j]≤2000:=by omega
     have htl:=HTL.out j hlt
     obtain⟨T,hT⟩:∃T,B (text l[j])=T:=⟨_,rfl⟩
     have zT:T.size≤120000:=by rw[←hT,B_size];omega
     have HC:=yH (HIH.out j hlt S (k1,n1',nm1,A1,m1,c1') wr wr ((HR.out.trans HR1.out).trans hRw).self ha hs2)
     rw[hT] at HC
     have HNx:=yH (show B (wordK k++[40]++texts (l.take (j+1)))=P++((if j=0 then B [] else B [44,32])++T) by
      rw[texts_take l j hlt,HP.out,←hT]
      by_cases e:j=0
      ·rw[if_pos e,if_pos e,B_append,B_append];simp
      ·rw[if_neg e,if_neg e,B_append,B_append];simp)
     clear ha hT htl hs1 hs2
     by_cases e:j=0
     ·subst e
      simp only[Nat.zero_mul,Nat.add_zero] at a0 a1 a2 a3
      have z1: ¬9223372036854775807<P.size+T.size:=by omega
      have HN2:=yH (show P++T=B (wordK k++[40]++texts (l.take (0+1))) by rw[HNx.out,if_pos rfl];rw[show B []++T=T from by apply ByteArray.ext;simp[B]])
      go_wp2_with (go_at_call 32;(with_reducible refine HC.out.mono ?_);rintro e w2 ⟨rfl,h2⟩)
      go_roundw
      case rel=>exact⟨1,P++T,by omega,by go_num,rfl,HN2,HRw.out.trans h2⟩
      case measure=>simp[RowKit.intOf];omega
     ·have z1: ¬9223372036854775807<P.size+2:=by omega
      have z2: ¬9223372036854775807<P.size+2+T.size:=by omega
      have j0:(0:Int)<(j:Int):=by omega
      have HN2:=yH (show P++(⟨#[44,32]⟩:ByteArray)++T=B (wordK k++[40]++texts (l.take (j+1))) by rw[HNx.out,if_neg e,ByteArray.append_assoc];rfl)
      clear e
      go_wp2_with (go_at_call 32;(with_reducible refine HC.out.mono ?_);rintro e w2 ⟨rfl,h2⟩)
      go_roundw
      case rel=>exact⟨j+1,_,by omega,by go_num,rfl,HN2,HRw.out.trans h2⟩
      case measure=>simp[RowKit.intOf];omega
    ·obtain rfl:j=l.length:=by omega
     have HPE:=yH (show P=B (wordK k++[40]++texts l) by rw[HP.out,List.take_length])
     have hways2:k=3∨k=5∨k=6∨k=11∨((k==3)=false∧(k==5)=false∧(k==6)=false∧(k==11)=false):=by simp;omega
     have hfin:∀X:List UInt8,tailK k n nm=X→B (text (.mk k n nm l))=B (wordK k++[40]++texts l)++(B X++(⟨#[41]⟩:ByteArray)):=fun X hX=>by
      rw[HF0.out,hX,B_lit41,B_append];simp
     have HFin:=yH hfin
     have hRR:=(HR.out.trans HR1.out).trans hRw
     have HRR:=yH hRR
     clear hfin hRR
     rcases hways2 with rfl|rfl|rfl|rfl|⟨n3,n5,n6,n11⟩
     ·have z1: ¬9223372036854775807<P.size+NM.size:=by omega
      have z2: ¬9223372036854775807<P.size+NM.size+1:=by omega
      have HE:=yH (show P++NM++(⟨#[41]⟩:ByteArray)=B (text (.mk 3 n nm l)) by rw[HFin.out nm rfl,HPE.out,←HNM.out,ByteArray.append_assoc])
      go_wp2_with (fail)
      go_ret
      exact⟨ret_str HE.out,HRR.out⟩
     ·have z1: ¬9223372036854775807<P.size+2:=by omega
      have z2: ¬9223372036854775807<P.size+2+TN.size:=by omega
      have z3: ¬9223372036854775807<P.size+2+TN.size+1:=by omega
      have HE:=yH (show P++(⟨#[44,32]⟩:ByteArray)++TN++(⟨#[41]⟩:ByteArray)=B (text (.mk 5 n nm l)) by
       rw[HFin.out ([44,32]++txt n) rfl,HPE.out,←HTN.out]
       show B _++B [44,32]++B (txt n)++B [41]=B _++(B _++B [41])
       simp only[B_append,List.append_assoc])
      go_wp2_with (go_at_call 50;(with_reducible refine(rtx_at n TN HTN (by omega) (by omega) _ _ HRR.out.self).mono ?_);rintro e w2 ⟨rfl,h2⟩)
      go_ret
      exact⟨ret_str HE.out,HRR.out.trans h2⟩
     ·have z1: ¬9223372036854775807<P.size+2:=by omega
      have z2: ¬9223372036854775807<P.size+2+NN.size:=by omega
      have z3: ¬9223372036854775807<P.size+2+NN.size+1:=by omega
      have HE:=yH (show P++(⟨#[44,32]⟩:ByteArray)++NN++(⟨#[41]⟩:ByteArray)=B (text (.mk 6 n nm l)) by
       rw[HFin.out ([44,32]++itoa n) rfl,HPE.out,←HNN.out]
       show B _++B [44,32]++B (itoa n)++B [41]=B _++(B _++B [41])
       simp only[B_append,List.append_assoc])
      go_wp2_with (go_at_call 51;(with_reducible refine(rnumber_at n NN HNN n0 (by omega) _ _ HRR.out.self).mono ?_);rintro e w2 ⟨rfl,h2⟩)
      go_ret
      exact⟨ret_str HE.out,HRR.out.trans h2⟩
     ·have z1: ¬9223372036854775807<P.size+NN.size:=by omega
      have z2: ¬9223372036854775807<P.size+NN.size+1:=by omega
      have HE:=yH (show P++NN++(⟨#[41]⟩:ByteArray)=B (text (.mk 11 n nm l)) by rw[HFin.out (itoa n) rfl,HPE.out,←HNN.out,ByteArray.append_assoc])
      go_wp2_with (go_at_call 51;(with_reducible refine(rnumber_at n NN HNN n0 (by omega) _ _ HRR.out.self).mono ?_);rintro e w2 ⟨rfl,h2⟩)
      go_ret
      exact⟨ret_str HE.out,HRR.out.trans h2⟩
     ·have z1: ¬9223372036854775807<P.size+1:=by omega
      have HE:=yH (show P++(⟨#[41]⟩:ByteArray)=B (text (.mk k n nm l)) by
       rw[HFin.out [] (by simp only[beq_eq_false_iff_ne] at n3 n5 n6 n11;unfold tailK;rw[if_neg n3,if_neg n5,if_neg n6,if_neg n11]),HPE.out]
       show B _++B [41]=B _++(B []++B [41])
       simp only[B_append,List.nil_append])
      go_wp2_with (fail)
      go_ret
      exact⟨ret_str HE.out,HRR.out⟩
end Go.Proofs.YtfekhbeaphpelaaGreatDoor
