/- The printer's call. -/

import Derived.Test.YtjhjdiaomnpkmaaGreatDoorZ11
import Derived.Test.YtjhjdiaomnpkmaaGreatDoorZ18
import Derived.Test.YtjhjdiaomnpkmaaGreatDoorZ19
set_option maxRecDepth 100000
set_option maxHeartbeats 8000000
set_option linter.unusedVariables false
set_option linter.unusedSimpArgs false
namespace Go.Proofs.YtjhjdiaomnpkmaaGreatDoor
open Go.RowKit Go.Lib
set_option linter.unusedSimpArgs false

/-! A call's text,piece by piece:plain mathematics. -/
def btw(first:Bool):List UInt8:=if first then [40] else [44,32]
def glue(first:Bool):List (List UInt8)→List UInt8
 |[]=>[]
 |p::t=>btw first++(p++glue false t)
theorem glue_append(a b:List (List UInt8)):∀first,glue first (a++b)=glue first a++glue (first&&a.isEmpty) b:=by
 induction a with
 |nil=>intro first;simp[glue]
 |cons p t ih=>
  intro first
  rw[List.cons_append,glue,glue,ih]
  simp
theorem glue_one(first:Bool)(p:List UInt8):glue first [p]=btw first++p:=by simp[glue]
theorem glue_snoc(a:List (List UInt8))(p:List UInt8):glue true (a++[p])=glue true a++(btw a.isEmpty++p):=by
 rw[glue_append,glue_one,Bool.true_and]
theorem glue_le(a b:List (List UInt8))(first:Bool):(glue first a).length≤(glue first (a++b)).length:=by
 rw[glue_append,List.length_append];omega
theorem btw_le(first:Bool):(btw first).length≤2:=by cases first<;>decide
theorem len_two{α:Type}{l:List α}(h:l.length=2):∃a b,l=[a,b]:=by
 match l,h with
 |[a,b],_=>exact⟨a,b,rfl⟩
theorem len_three{α:Type}{l:List α}(h:l.length=3):∃a b c,l=[a,b,c]:=by
 match l,h with
 |[a,b,c],_=>exact⟨a,b,c,rfl⟩
def beh(k n:Int)(nm:List UInt8):List (List UInt8):=if k=3 then [nm] else if k=5 then [txt n] else if k=6∨k=11 then [itoa n] else []
theorem text_glue{k n:Int}{nm:List UInt8}{l:List Ex}(hl:argsN k=(l.length:Int))(h1:k≠1)(h2:k≠2)(h4:k≠4):text (.mk k n nm l)=wordK k++(glue true (l.map text++beh k n nm)++[41]):=by
 have hk:k=3∨k=5∨k=6∨k=7∨k=8∨k=9∨k=10∨k=11∨k=12:=by
  unfold argsN at hl
  split at hl
  ·omega
  ·split at hl
   ·omega
   ·split at hl
    ·omega
    ·split at hl
     ·omega
     ·omega
 rw[text_mk,if_neg h4,if_neg (by omega)]
 congr 1
 rcases hk with rfl|rfl|rfl|rfl|rfl|rfl|rfl|rfl|rfl
 ·obtain rfl:l=[]:=List.length_eq_zero_iff.1 (by simp[argsN] at hl;omega)
  simp[texts_nil,tailK,beh,glue,btw]
 ·obtain⟨a,rfl⟩:∃a,l=[a]:=List.length_eq_one_iff.1 (by simp[argsN] at hl;omega)
  simp[texts_cons,mores_nil,tailK,beh,glue,btw]
 ·obtain⟨a,rfl⟩:∃a,l=[a]:=List.length_eq_one_iff.1 (by simp[argsN] at hl;omega)
  simp[texts_cons,mores_nil,tailK,beh,glue,btw]
 ·obtain⟨a,b,rfl⟩:∃a b,l=[a,b]:=len_two (by simp[argsN] at hl;omega)
  simp[texts_cons,mores_nil,mores_cons,tailK,beh,glue,btw]
 ·obtain⟨a,b,rfl⟩:∃a b,l=[a,b]:=len_two (by simp[argsN] at hl;omega)
  simp[texts_cons,mores_nil,mores_cons,tailK,beh,glue,btw]
 ·obtain⟨a,b,rfl⟩:∃a b,l=[a,b]:=len_two (by simp[argsN] at hl;omega)
  simp[texts_cons,mores_nil,mores_cons,tailK,beh,glue,btw]
 ·obtain⟨a,b,c,rfl⟩:∃a b c,l=[a,b,c]:=len_three (by simp[argsN] at hl;omega)
  simp[texts_cons,mores_nil,mores_cons,tailK,beh,glue,btw]
 ·obtain rfl:l=[]:=List.length_eq_zero_iff.1 (by simp[argsN] at hl;omega)
  simp[texts_nil,tailK,beh,glue,btw]
 ·obtain⟨a,b,rfl⟩:∃a b,l=[a,b]:=len_two (by simp[argsN] at hl;omega)
  simp[texts_cons,mores_nil,mores_cons,tailK,beh,glue,btw]
theorem text_leaf(k n:Int)(nm:List UInt8)(l:List Ex)(h:k=1∨k=2):text (.mk k n nm l)=wordK k:=by
 rw[text_mk,if_neg (by omega),if_pos h]
theorem text_four(n:Int)(nm:List UInt8)(l:List Ex):text (.mk 4 n nm l)=txt n:=by rw[text_mk,if_pos rfl]
theorem map_take_succ{l:List Ex}{j:Nat}(h:j<l.length):(l.take (j+1)).map text=(l.take j).map text++[text l[j]]:=by
 rw[List.take_succ_eq_append_getElem h,List.map_append];rfl
theorem take_empty{l:List Ex}{j:Nat}(h:j<l.length):((l.take j).map text).isEmpty=decide (j=0):=by
 cases j with
 |zero=>simp
 |succ j=>
  cases l with
  |nil=>simp at h
  |cons a t=>simp
theorem all_empty(l:List Ex):(l.map text).isEmpty=decide (l.length=0):=by cases l<;>simp
theorem glue_take_le{l:List Ex}{j:Nat}(h:j<l.length)(bs:List (List UInt8)):(glue true ((l.take j).map text)).length+(btw (decide (j=0))).length+(text l[j]).length≤(glue true (l.map text++bs)).length:=by
 have e1:l.map text++bs=(l.take (j+1)).map text++((l.drop (j+1)).map text++bs):=by
  rw[←List.append_assoc,←List.map_append,List.take_append_drop]
 have e2:=glue_le ((l.take (j+1)).map text) ((l.drop (j+1)).map text++bs) true
 rw[←e1,map_take_succ h,glue_snoc,take_empty h] at e2
 simp only[List.length_append] at e2
 omega
theorem Pr.open_at{C b:Nat}{l:List UInt8}{d:Nat}{w:World}(h:Pr C b l d w)(e:Nat)(z:Int)(hz:z=(e:Int)):Pr C b l e (w.setCell ⟨b,2,none⟩ (.int .i64 z)):=by subst hz;exact h.open e
theorem Kp.set2{b:Nat}{w w':World}(h:Kp b w w')(i:Nat)(v:Value):Kp b w (w'.setCell ⟨b,i,none⟩ v):=Lib.OthersKept.setCell h ⟨b,i,none⟩ rfl v
def ExprC(x:Ex):Prop:=∀(S:Nat→Prop)(e:El)(b:Nat)(l:List UInt8)(d:Nat)(t:Bool)(w0 w:World),Rel w0 w→ExAt S w0 e x→Pr w0.heap.size b l d w→d≤32→l.length≤2000+8*d→size x≤100000→
  Hid (t=true↔fine (32-d) x=true∧l.length+(text x).length≤2000)→
  Calls Tryz.prog 79 #[.pointer (some ⟨b,0,none⟩),EV e] w fun r w'=>r= .returned (.bool t)∧(t=true→Pr w0.heap.size b (l++text x) d w')∧Rel w0 w'∧Kp b w w'
theorem ExAt.arg0{S:Nat→Prop}{w wr:World}{A:Option Addr}{es:List El}{l:List Ex}(hrow:RowE S w A es)(hsub:∀i (h:i<es.length) (h':i<l.length),ExAt S w es[i] l[i])(hl:es.length=l.length)(hr:Rel w wr)(j:Nat)(hj:j<l.length):
  ∃(g off:Nat)(k n:Int)(nm:List UInt8)(A':Option Addr)(m c:Nat),A=some ⟨g,off,none⟩∧wr.cell? ⟨g,off+j*4,none⟩=some (.int .i64 k)∧wr.cell? ⟨g,off+j*4+1,none⟩=some (.int .i64 n)∧wr.cell? ⟨g,off+j*4+2,none⟩=some (.string (B nm))∧wr.cell? ⟨g,off+j*4+3,none⟩=some (.slice A' m c)∧ExAt S w (k,n,nm,A',m,c) l[j]:=by
 obtain⟨g,off,e,hl2,_,h0,h1,h2,h3⟩:=hrow j (by omega)
 have hs:=hsub j (by omega) hj
 generalize es[j]=e0 at*
 obtain⟨k,n,nm,A',m,c⟩:=e0
 have hk:∀i,wr.cell? ⟨g,i,none⟩=w.cell? ⟨g,i,none⟩:=fun i=>hr.2.cell (p:=⟨g,i,none⟩) hl2
 exact⟨g,off,k,n,nm,A',m,c,e,by rw[hk];exact h0,by rw[hk];exact h1,by rw[hk];exact h2,by rw[hk];exact h3,hs⟩
def StrRow(w:World)(A:Option Addr)(bs:List ByteArray):Prop:=bs=[]∨∃g s,bs=[s]∧A=some ⟨g,0,none⟩∧Bk w g 9 #[.string s]
theorem exprt_ne:(54:TypeId)≠5:=by decide
theorem strt_ne:(9:TypeId)≠5:=by decide
theorem prt_str:(111:TypeId)≠9:=by decide
theorem Pr.bk{C b:Nat}{l:List UInt8}{d:Nat}{w:World}(h:Pr C b l d w):∃cs,Bk w b 111 cs:=by
 obtain⟨p,hC,v,hb,_⟩:∃p,PrAt C b p l d w:=h.elim (fun h=>⟨_,h⟩) (fun h=>⟨_,h⟩)
 exact⟨_,hb⟩
def outs(bs:List ByteArray):List (List UInt8):=bs.map fun s=>s.data.toList
theorem pcall_any(b:Nat)(l0:List UInt8)(d:Nat)(T:ByteArray)(l:List Ex)(bs:List ByteArray)(A A2:Option Addr)(c c2:Nat)(es:List El)(S:Nat→Prop)(t:Bool)(w0 w:World)(hr:Rel w0 w)
  (HRow:Hid (RowE S w0 A es)) (HSub:Hid (∀i (h:i<es.length) (h':i<l.length),ExAt S w0 es[i] l[i])) (hl:es.length=l.length) (HIH:Hid (∀j (hj:j<l.length),ExprC l[j])) (hbs:StrRow w A2 bs)
  (hP:Pr w0.heap.size b l0 d w) (hd:d<32) (hlen:l0.length≤2000+8*d) (zT:T.size≤6) (zS:∀s∈bs,s.size≤100) (hz:sizes l≤100000)
  (ht:Hid (t=true↔(∀i (h:i<l.length),fine (32-(d+1)) l[i]=true)∧l0.length+T.size+(glue true (l.map text++outs bs)).length+1≤2000))
  (M:List UInt8) (hM:Hid (M=l0++(T.data.toList++(glue true (l.map text++outs bs)++[41])))):
  Calls Tryz.prog 100 #[.pointer (some ⟨b,0,none⟩),.string T,.slice A l.length c,.slice A2 bs.length c2] w fun r w'=>r= .returned (.bool t)∧(t=true→Pr w0.heap.size b M d w')∧Rel w0 w'∧Kp b w w':=by
 have HR:=yH hr
 have HP:=yH hP
 have hll:l.length≤100000:=by have:=len_le l;omega
 have HZ:=yH hz
 obtain⟨nb,hnb⟩:∃nb:Nat,bs.length=nb:=⟨_,rfl⟩
 have HNB:=yH hnb
 have hnb1:nb≤1:=by rcases hbs with rfl|⟨_,_,rfl,_⟩<;>simp at hnb<;>omega
 rw[hnb]
 clear hnb
 have zTl:T.data.toList.length=T.size:=by simp
 obtain⟨M1,hM1⟩:∃M1,l0++T.data.toList=M1:=⟨_,rfl⟩
 have HM1:=yH hM1
 have zM1:M1.length=l0.length+T.size:=by rw[←hM1,List.length_append,zTl]
 have HBS:=yH hbs
 have HZS:=yH zS
 have hwd:IntKind.i64.wrap ((d:Int)+1)=(d:Int)+1:=IntWalk.i64_in _ (by omega)
 clear hr hP hbs zS hz hM1 zTl
 go_enter Tryz.func100,Tryz.ntmps100
 go_wp2_with (go_at_call 113;(with_reducible refine(write_as b l0 d T M1 HM1 (by omega) _ _ HR.out HP.out).mono ?_);rintro e w1 ⟨rfl,p1,r1,k1⟩;have P1:=yH p1;obtain⟨pp1,AA1,cc1,x0,x1,x2,x3⟩:=p1.cells)
 have P2:=yH (P1.out.open_at (d+1) ((d:Int)+1) (by omega))
 have R2:=yH (r1.setCell (p:=⟨b,2,none⟩) P1.out.le (.int .i64 ((d:Int)+1)))
 have K2:=yH (k1.set2 2 (.int .i64 ((d:Int)+1)))
 clear p1 r1 k1 x0 x1 x2 x3
 go_loopw [9,28] (fun tb i wr=>∃(j:Nat)(TBa:ByteArray)(N:List UInt8),j≤l.length∧i= .int .i64 (j:Int)∧tb= .string TBa∧TBa.size≤2∧N.length+TBa.size≤2007+8*d∧
  Hid (TBa.data.toList=btw (decide (j=0))∧N=M1++glue true ((l.take j).map text)∧∀i (h:i<l.length),i<j→fine (32-(d+1)) l[i]=true)∧Hid (Pr w0.heap.size b N (d+1) wr∧Rel w0 wr∧Kp b w wr)) (fun _ i _=>l.length-(RowKit.intOf i).toNat)
 case atStart=>exact⟨0,⟨#[40]⟩,M1,by omega,rfl,rfl,by decide,by have:(⟨#[40]⟩:ByteArray).size=1:=rfl;omega,yH ⟨rfl,by simp[glue],fun i h hi=>absurd hi (by omega)⟩,yH ⟨P2.out,R2.out,K2.out⟩⟩
 case round=>
  obtain⟨j,TBa,N,hj,rfl,rfl,zTB,zN,HJ,HW⟩:=hrel
  obtain⟨N1,hN1⟩:∃N1,N++TBa.data.toList=N1:=⟨_,rfl⟩
  have HN1:=yH hN1
  have zN1:N1.length=N.length+TBa.size:=by rw[←hN1,List.length_append];simp
  clear hN1
  by_cases hlt:j<l.length
  ·obtain⟨g,off,k',n',nm',A',m',c',hA,a0,a1,a2,a3,hx⟩:=ExAt.arg0 HRow.out HSub.out hl HW.out.2.1 j hlt
   subst hA
   have BX:=Bk.new wr 54 #[.int .i64 k',.int .i64 n',.string (B nm'),.slice A' m' c']
   have hbx:wr.heap.size≠b:=by have:=HW.out.1.lt;omega
   have HBX:=yH BX
   have HV:=yH (HW.out.2.1.alloc (.cells #[.int .i64 k',.int .i64 n',.string (B nm'),.slice A' m' c'] 54))
   have HPV:=yH (HW.out.1.alloc (.cells #[.int .i64 k',.int .i64 n',.string (B nm'),.slice A' m' c'] 54))
   have HKV:=yH (HW.out.2.2.alloc (.cells #[.int .i64 k',.int .i64 n',.string (B nm'),.slice A' m' c'] 54))
   have zx:size l[j]≤100000:=by have:=size_mem (List.getElem_mem (l:=l) (n:=j) hlt);have:=HZ.out;omega
   obtain⟨tj,htj⟩:∃tj:Bool,tj=true↔(fine (32-(d+1)) l[j]=true∧N1.length+(text l[j]).length≤2000):=⟨decide _,decide_eq_true_iff⟩
   have HC:=yH (fun(w1:World)(hr1:Rel w0 w1)(hp1:Pr w0.heap.size b N1 (d+1) w1)=>HIH.out j hlt S (k',n',nm',A',m',c') b N1 (d+1) tj w0 w1 hr1 hx hp1 (by omega) (by omega) zx (yH htj))
   have HTJ:=yH htj
   have HG:=yH (glue_take_le hlt (outs bs))
   clear BX htj hx
   cases tj with
   |false=>
    have htf:t=false:=by
     cases t with
     |false=>rfl
     |true=>
      obtain⟨f1,f2⟩:=ht.out.1 rfl
      have e1:=HG.out
      have e2:=HJ.out
      have e3:(btw (decide (j=0))).length=TBa.size:=by rw[←e2.1];simp
      have e4:N.length=M1.length+(glue true ((l.take j).map text)).length:=by rw[e2.2.1,List.length_append]
      have:=HTJ.out.2 ⟨f1 j hlt,by omega⟩
      cases this
    subst htf
    go_wp2_with (first
     |(go_at_call 113;(with_reducible refine(write_as b N (d+1) TBa N1 HN1 (by omega) _ _ HV.out HPV.out).mono ?_);rintro e w2 ⟨rfl,p2,r2,k2⟩;obtain⟨⟨x0,x1,x2,x3⟩,_⟩:=(k2.bk HBX.out hbx exprt_ne).four)
     |(go_at_call 79;(with_reducible refine(HC.out _ r2 p2).mono ?_);rintro e w3 ⟨rfl,p3,r3,k3⟩))
    go_ret
    exact⟨rfl,(fun h=>by cases h),r3,(HKV.out.trans k2).trans k3⟩
   |true=>
    have zj:=(HTJ.out.1 rfl).2
    have HNx:=yH (show(⟨#[44,32]⟩:ByteArray).data.toList=btw (decide (j+1=0))∧N1++text l[j]=M1++glue true ((l.take (j+1)).map text)∧∀i (h:i<l.length),i<j+1→fine (32-(d+1)) l[i]=true from by
     have e2:=HJ.out
     refine⟨by simp[btw], ?_,fun i h hi=> ?_⟩
     ·rw[map_take_succ hlt,glue_snoc,take_empty hlt,←HN1.out,e2.1,e2.2.1]
      simp only[List.append_assoc]
     ·rcases Nat.lt_or_ge i j with q|q
      ·exact e2.2.2 i h q
      ·obtain rfl:i=j:=by omega
       exact(HTJ.out.1 rfl).1)
    go_wp2_with (first
     |(go_at_call 113;(with_reducible refine(write_as b N (d+1) TBa N1 HN1 (by omega) _ _ HV.out HPV.out).mono ?_);rintro e w2 ⟨rfl,p2,r2,k2⟩;obtain⟨⟨x0,x1,x2,x3⟩,_⟩:=(k2.bk HBX.out hbx exprt_ne).four)
     |(go_at_call 79;(with_reducible refine(HC.out _ r2 p2).mono ?_);rintro e w3 ⟨rfl,p3,r3,k3⟩))
    go_roundw
    case rel=>exact⟨j+1,⟨#[44,32]⟩,N1++text l[j],by omega,by go_num,rfl,by decide,by rw[List.length_append];have:(⟨#[44,32]⟩:ByteArray).size=2:=rfl;omega,HNx,yH ⟨p3 trivial,r3,(HKV.out.trans k2).trans k3⟩⟩
    case measure=>simp[RowKit.intOf];omega
  ·obtain rfl:j=l.length:=by omega
   obtain⟨wo,hwo⟩:∃wo,wo=wr:=⟨_,rfl⟩
   subst hwo
   have HF:=yH (show ∀i (h:i<l.length),fine (32-(d+1)) l[i]=true from fun i h=>HJ.out.2.2 i h h)
   have HN:=yH (show N=M1++glue true (l.map text) from by have:=HJ.out.2.1;rwa [List.take_length] at this)
   have zM1b:N.length+TBa.size≤2007+8*d:=zN
   have hTB:TBa.data.toList=btw (decide (l.length=0)):=HJ.out.1
   have HTB:=yH hTB
   have hwm:IntKind.i64.wrap (((d+1:Nat):Int)-1)=(d:Int):=by rw[show((d+1:Nat):Int)-1=(d:Int) by omega];exact IntWalk.i64_in _ (by omega)
   clear hTB zN zN1 HN1 zTB HJ
   have zTB:TBa.size≤2:=by
    have h1:=btw_le (decide (l.length=0))
    rw[←HTB.out] at h1
    simpa using h1
   go_wp2_with (fail)
   go_loopw [9,44] (fun tb i wr=>∃(q:Nat)(TBa':ByteArray)(N':List UInt8),q≤nb∧i= .int .i64 (q:Int)∧tb= .string TBa'∧TBa'.size≤2∧N'.length+TBa'.size≤2007+8*d+150*q∧
    Hid (TBa'.data.toList=btw (decide (l.length=0)&&decide (q=0))∧N'=M1++glue true (l.map text++(outs bs).take q))∧Hid (Pr w0.heap.size b N' (d+1) wr∧Rel w0 wr∧Kp b w wr)) (fun _ i _=>nb-(RowKit.intOf i).toNat)
   case atStart=>exact⟨0,TBa,N,by omega,rfl,rfl,zTB,by omega,yH ⟨by rw[HTB.out];simp,by rw[HN.out];simp⟩,yH HW.out⟩
   case round=>
    obtain⟨q,TBa',N',hq,rfl,rfl,zTB',zN',HJ',HW'⟩:=hrel
    by_cases hlt:q<nb
    ·obtain rfl:q=0:=by omega
     obtain rfl:nb=1:=by omega
     obtain⟨g2,s,hbs,hA2,hb2⟩:∃g s,bs=[s]∧A2=some ⟨g,0,none⟩∧Bk w g 9 #[.string s]:=by
      rcases HBS.out with h|h
      ·have:=HNB.out;rw[h] at this;simp at this
      ·exact h
     subst hA2
     have hne2:g2≠b:=by
      obtain⟨cs,hcs⟩:=HP.out.bk
      exact fun e=>Bk.ne hcs hb2 prt_str e.symm
     have hb3:=HW'.out.2.2.bk hb2 hne2 strt_ne
     have a0:wr.cell? ⟨g2,0,none⟩=some (.string s):=by rw[hb3.cell];rfl
     have zs:s.size≤100:=HZS.out s (by rw[hbs];simp)
     obtain⟨N2,hN2⟩:∃N2,N'++TBa'.data.toList=N2:=⟨_,rfl⟩
     have HN2:=yH hN2
     have zN2:N2.length=N'.length+TBa'.size:=by rw[←hN2,List.length_append];simp
     obtain⟨N3,hN3⟩:∃N3,N2++s.data.toList=N3:=⟨_,rfl⟩
     have HN3:=yH hN3
     have zN3:N3.length=N2.length+s.size:=by rw[←hN3,List.length_append];simp
     have HNx:=yH (show(⟨#[44,32]⟩:ByteArray).data.toList=btw (decide (l.length=0)&&decide (0+1=0))∧N3=M1++glue true (l.map text++(outs bs).take (0+1)) from by
      refine⟨by simp[btw], ?_⟩
      rw[←hN3,←hN2,HJ'.out.1,HJ'.out.2,hbs]
      simp only[outs,List.map_cons,List.map_nil,List.take_zero,List.append_nil,Nat.zero_add,List.take_succ_cons,List.take_zero,List.append_assoc]
      rw[glue_snoc,all_empty,decide_true,Bool.and_true]
      try simp only[List.append_assoc])
     clear hN2 hN3 hbs hb2 hb3 hne2
     go_wp2_with (first
      |(go_at_call 113;(with_reducible refine(write_as b N' (d+1) TBa' N2 HN2 (by omega) _ _ HW'.out.2.1 HW'.out.1).mono ?_);rintro e w2 ⟨rfl,p2,r2,k2⟩)
      |(go_at_call 113;(with_reducible refine(write_as b N2 (d+1) s N3 HN3 (by omega) _ _ r2 p2).mono ?_);rintro e w3 ⟨rfl,p3,r3,k3⟩))
     go_roundw
     case rel=>exact⟨_,_,_,_,_,_,_,_,_,_,_,_,_,_,_,_,_,⟨0+1,⟨#[44,32]⟩,N3,by omega,rfl,rfl,by decide,by have:(⟨#[44,32]⟩:ByteArray).size=2:=rfl;omega,HNx,yH ⟨p3,r3,(HW'.out.2.2.trans k2).trans k3⟩⟩,rfl⟩
     case measure=>simp[RowKit.intOf]
    ·obtain rfl:q=nb:=by omega
     have hN4:N'=M1++glue true (l.map text++outs bs):=by
      have h1:=HJ'.out.2
      have h2:(outs bs).take q=outs bs:=List.take_of_length_le (by simp[outs,HNB.out])
      rw[h2] at h1;exact h1
     have hM4:N'++(⟨#[41]⟩:ByteArray).data.toList=M:=by
      rw[hM.out,hN4,←HM1.out];simp
     have HM4:=yH hM4
     have ht4:decide (M.length≤2000)=t:=by
      have e:M.length=l0.length+T.size+(glue true (l.map text++outs bs)).length+1:=by
       rw[hM.out];simp only[List.length_append]
       have:T.data.toList.length=T.size:=by simp
       have h1:([41]:List UInt8).length=1:=rfl
       omega
      rw[e,Bool.eq_iff_iff,decide_eq_true_iff,ht.out]
      exact⟨fun h=>⟨HF.out,h⟩,fun h=>h.2⟩
     have HT4:=yH ht4
     obtain⟨pp2,AA2,cc2,x0,x1,x2,x3⟩:=HW'.out.1.cells
     have P5:=yH (HW'.out.1.open_at d (d:Int) rfl)
     have R5:=yH (HW'.out.2.1.setCell (p:=⟨b,2,none⟩) HW'.out.1.le (.int .i64 (d:Int)))
     have K5:=yH (HW'.out.2.2.set2 2 (.int .i64 (d:Int)))
     have z41:(⟨#[41]⟩:ByteArray).size=1:=rfl
     clear hN4 hM4 ht4
     go_wp2_with (go_at_call 98;(with_reducible refine(put_as b N' d ⟨#[41]⟩ M HM4 (by omega) t HT4 _ _ R5.out P5.out).mono ?_);rintro e w6 ⟨rfl,p6,r6,k6⟩)
     go_ret
     exact⟨rfl,fun _=>p6,r6,K5.out.trans k6⟩
theorem num_any(n:Int)(h0: -9223372036854775808≤n)(h1:n≤9223372036854775807)(w0 w:World)(hr:Rel w0 w):
  Calls Tryz.prog 101 #[.int .i64 n] w fun e w'=>e= .returned (.string (num n))∧Rel w0 w':=by
 have hT:Lib.TabIs Tryz.prog w "internal/strconv.uint64pow10" .u64 Lib.pow10Tab:=hr.tab
 go_enter Tryz.func101,Tryz.ntmps101
 go_wp2_with (go_at_call 116;refine(Tryz.strconv_Itoa n h0 h1 w hT).mono ?_;rintro e w' ⟨rfl,k,os,rfl⟩)
 go_ret
 exact⟨rfl,(hr.drewN k).grow os⟩
theorem tx_of_num(a:Int)(h:0≤a)(h':a≤1000000000000):(⟨#[]⟩:ByteArray)++num (a/100)++(⟨#[46]⟩:ByteArray)++num (a%100/10)++num (a%10)=tx a:=by
 have e:(⟨#[]⟩:ByteArray)++num (a/100)=num (a/100):=B_append [] (itoa (a/100))
 rw[e,num_pos _ (by omega),num_pos _ (by omega),num_pos _ (by omega),←tx_parts a h h',show a%100/10=a/10%10 by omega]
theorem text_as(a:Int)(S:ByteArray)(hS:Hid (B (txt a)=S))(h0:0≤a)(h1:a≤1000000000000)(w0 w:World)(hr:Rel w0 w):
  Calls Tryz.prog 99 #[.int .i64 a] w fun e w'=>e= .returned (.string S)∧Rel w0 w':=by
 have ha:rt a=true:=rt_iff.2 ⟨by omega,by omega⟩
 have z1:=num_size (a/100) (by omega) (by omega)
 have z2:=num_size (a%100/10) (by omega) (by omega)
 have z3:=num_size (a%10) (by omega) (by omega)
 have hn: ¬a<0:=by omega
 have HS:=yH ((tx_of_num a h0 h1).trans hS.out)
 go_enter Tryz.func99,Tryz.ntmps99
 go_wp2_with (first|(go_at_call 115;(with_reducible refine(right_any _ _).mono ?_);rintro e w' ⟨rfl,rfl⟩)|(go_at_call 101;(with_reducible refine(num_any _ (by omega) (by omega) _ _ (by assumption)).mono ?_);rintro e w' ⟨rfl,hr'⟩))
 go_ret
 exact⟨ret_str HS.out,by assumption⟩
theorem number_as(a:Int)(S:ByteArray)(hS:Hid (B (itoa a)=S))(h0:0≤a)(h1:a≤1000000000000)(w0 w:World)(hr:Rel w0 w):
  Calls Tryz.prog 101 #[.int .i64 a] w fun e w'=>e= .returned (.string S)∧Rel w0 w':=by
 rw[←hS.out];exact num_any a (by omega) (by omega) w0 w hr
theorem Kp.rel{b:Nat}{w w':World}(hr:Rel w w'):Kp b w w':=fun k o hk _ _=>(hr.2.block k (Array.getElem?_eq_some_iff.1 hk).1).trans hk
theorem word_len(k:Int):(B (wordK k)).size≤6:=by
 rw[B_size]
 rcases kinds k with h|⟨k1,k2,k3,k4,k5,k6,k7,k8,k9,k10,k11,k12,_⟩
 ·rcases h with rfl|rfl|rfl|rfl|rfl|rfl|rfl|rfl|rfl|rfl|rfl|rfl<;>decide
 ·rw[wordK_other ⟨k1,k2,k3,k5,k6,k7,k8,k9,k10,k11,k12⟩];decide
theorem call_iff{d:Nat}{k n:Int}{nm:List UInt8}{l:List Ex}(hf:fitsP k n nm l)(hd:d<32)(h1:k≠1)(h2:k≠2)(h4:k≠4)(l0:List UInt8):
  (fine (32-d) (.mk k n nm l)=true∧l0.length+(text (.mk k n nm l)).length≤2000)↔(∀i (h:i<l.length),fine (32-(d+1)) l[i]=true)∧l0.length+(B (wordK k)).size+(glue true (l.map text++beh k n nm)).length+1≤2000:=by
 have e:32-d=(32-(d+1))+1:=by omega
 rw[e,fine_fits,text_glue hf.2.2.1 h1 h2 h4,B_size]
 simp only[List.length_append]
 have h1:([41]:List UInt8).length=1:=rfl
 constructor
 ·rintro⟨⟨_,a⟩,b⟩;exact⟨a,by omega⟩
 ·rintro⟨a,b⟩;exact⟨⟨hf,a⟩,by omega⟩
theorem leaf_iff{d:Nat}{k n:Int}{nm:List UInt8}{l:List Ex}(hf:fitsP k n nm l)(hd:d<32)(h:k=1∨k=2∨k=4)(l0:List UInt8):
  (fine (32-d) (.mk k n nm l)=true∧l0.length+(text (.mk k n nm l)).length≤2000)↔(l0++text (.mk k n nm l)).length≤2000:=by
 have e:32-d=(32-(d+1))+1:=by omega
 rw[e,fine_fits,List.length_append]
 have hl:l=[]:=by
  have:=hf.2.2.1
  have a0:argsN k=0:=by rcases h with rfl|rfl|rfl<;>rfl
  rw[a0] at this
  exact List.length_eq_zero_iff.1 (by omega)
 subst hl
 exact⟨fun h=>h.2,fun h=>⟨⟨hf,fun i hi=>absurd hi (by simp)⟩,h⟩⟩
theorem pcall_nil(b:Nat)(l0:List UInt8)(d:Nat)(T:ByteArray)(l:List Ex)(A:Option Addr)(c:Nat)(es:List El)(S:Nat→Prop)(t:Bool)(w0 w:World)(hr:Rel w0 w)
  (HRow:Hid (RowE S w0 A es)) (HSub:Hid (∀i (h:i<es.length) (h':i<l.length),ExAt S w0 es[i] l[i])) (hl:es.length=l.length) (HIH:Hid (∀j (hj:j<l.length),ExprC l[j]))
  (hP:Pr w0.heap.size b l0 d w) (hd:d<32) (hlen:l0.length≤2000+8*d) (zT:T.size≤6) (hz:sizes l≤100000)
  (ht:Hid (t=true↔(∀i (h:i<l.length),fine (32-(d+1)) l[i]=true)∧l0.length+T.size+(glue true (l.map text++[])).length+1≤2000))
  (M:List UInt8) (hM:Hid (M=l0++(T.data.toList++(glue true (l.map text++[])++[41])))):
  Calls Tryz.prog 100 #[.pointer (some ⟨b,0,none⟩),.string T,.slice A l.length c,.slice none 0 0] w fun r w'=>r= .returned (.bool t)∧(t=true→Pr w0.heap.size b M d w')∧Rel w0 w'∧Kp b w w':=
 pcall_any b l0 d T l [] A none c 0 es S t w0 w hr HRow HSub hl HIH (.inl rfl) hP hd hlen zT (by simp) hz ht M hM
theorem pcall_one(b:Nat)(l0:List UInt8)(d:Nat)(T:ByteArray)(l:List Ex)(s:ByteArray)(g:Nat)(A:Option Addr)(c:Nat)(es:List El)(S:Nat→Prop)(t:Bool)(w0 w:World)(hr:Rel w0 w)
  (HRow:Hid (RowE S w0 A es)) (HSub:Hid (∀i (h:i<es.length) (h':i<l.length),ExAt S w0 es[i] l[i])) (hl:es.length=l.length) (HIH:Hid (∀j (hj:j<l.length),ExprC l[j])) (hb:Bk w g 9 #[.string s])
  (hP:Pr w0.heap.size b l0 d w) (hd:d<32) (hlen:l0.length≤2000+8*d) (zT:T.size≤6) (zs:s.size≤100) (hz:sizes l≤100000)
  (ht:Hid (t=true↔(∀i (h:i<l.length),fine (32-(d+1)) l[i]=true)∧l0.length+T.size+(glue true (l.map text++[s.data.toList])).length+1≤2000))
  (M:List UInt8) (hM:Hid (M=l0++(T.data.toList++(glue true (l.map text++[s.data.toList])++[41])))):
  Calls Tryz.prog 100 #[.pointer (some ⟨b,0,none⟩),.string T,.slice A l.length c,.slice (some ⟨g,0,none⟩) 1 1] w fun r w'=>r= .returned (.bool t)∧(t=true→Pr w0.heap.size b M d w')∧Rel w0 w'∧Kp b w w':=
 pcall_any b l0 d T l [s] A (some ⟨g,0,none⟩) c 1 es S t w0 w hr HRow HSub hl HIH (.inr ⟨g,s,rfl,rfl,hb⟩) hP hd hlen zT (by simpa using zs) hz ht M hM
theorem pexpr_any:∀(x:Ex),ExprC x:=ex_ind fun k n nm l ih S e b l0 d t w0 w hr hx hP hd hlen hz ht=>by
 obtain⟨A,c,es,rfl,hk,hn,hm,hl,hrow,hsub⟩:=hx.open
 rw[size_mk] at hz
 have hzl:sizes l≤100000:=by omega
 have hll:l.length≤100000:=by have:=len_le l;omega
 have HR:=yH hr
 have HB:=yH (Bk.new w 54 #[.int .i64 k,.int .i64 n,.string (B nm),.slice A l.length c])
 have HA:=yH (hr.alloc (.cells #[.int .i64 k,.int .i64 n,.string (B nm),.slice A l.length c] 54))
 have HK:=yH ((Kp.refl b w).alloc (.cells #[.int .i64 k,.int .i64 n,.string (B nm),.slice A l.length c] 54))
 have HP:=yH (hP.alloc (.cells #[.int .i64 k,.int .i64 n,.string (B nm),.slice A l.length c] 54))
 obtain⟨pp,AA,cc,y0,y1,y2,y3⟩:=HP.out.cells
 obtain⟨W,hW⟩:∃W,w.alloc (.cells #[.int .i64 k,.int .i64 n,.string (B nm),.slice A l.length c] 54)=W:=⟨_,rfl⟩
 rw[hW] at HB HA HK HP
 have HW:=yH hW
 have HRow:=yH hrow
 have HSub:=yH hsub
 have HIH:=yH (fun j (hj:j<l.length)=>ih _ (List.getElem_mem (l:=l) (n:=j) hj))
 have HRowW:=yH (hrow.mono (S':=S) HA.out.size fun g hS hl=>⟨hS,HA.out.2.block g hl⟩)
 have HSubW:=yH (fun i (h:i<es.length) (h':i<l.length)=>(hsub i h h').rel HA.out)
 clear hrow hsub ih hx hP hr hW
 by_cases hd2:d<32
 ·obtain⟨f,hf⟩:∃f:Bool,f=true↔fitsP k n nm l:=by
   by_cases h:fitsP k n nm l
   ·exact⟨true,by simp[h]⟩
   ·exact⟨false,by simp[h]⟩
  have HFi:=yH (tfits_any k n nm l hm (by omega) A c es S W W HA.out.self hl HRowW HSubW f (yH hf))
  cases f with
  |false=>
   have htf:t=false:=by
    cases t with
    |false=>rfl
    |true=>
     have e:32-d=(32-(d+1))+1:=by omega
     have h1:=(ht.out.1 rfl).1
     rw[e] at h1
     have:=hf.2 ((fine_fits _ k n nm l).1 h1).1
     cases this
   subst htf
   clear hf
   go_enter Tryz.func79,Tryz.ntmps79
   go_wp2_with (go_at_call 96;rw[HW.out];(with_reducible refine HFi.out.mono ?_);rintro e w2 ⟨rfl,h2⟩)
   go_ret
   exact⟨rfl,(fun h=>by cases h),HA.out.trans h2,HK.out.trans (Kp.rel h2)⟩
  |true=>
   have hft:=hf.1 rfl
   have HFt:=yH hft
   obtain⟨T,hT⟩:∃T,B (wordK k)=T:=⟨_,rfl⟩
   obtain⟨mm,hmm⟩:∃m,mostN k=m:=⟨_,rfl⟩
   obtain⟨aa,haa⟩:∃a,argsN k=a:=⟨_,rfl⟩
   have HRo:=yH (And.intro hT (And.intro hmm haa))
   have zT:T.size≤6:=by rw[←hT];exact word_len k
   have hTl:T.data.toList=wordK k:=by rw[←hT,B_list]
   have HTl:=yH hTl
   have n0:0≤n:=hft.1.1
   have n1:n≤1000000000000:=by have:=hft.1.2;have:=(most_le k).1;omega
   have hk12:k=1∨k=2∨k=3∨k=4∨k=5∨k=6∨k=7∨k=8∨k=9∨k=10∨k=11∨k=12:=by
    rcases kinds k with h|⟨_,_,_,_,_,_,_,_,_,_,_,_,ha,_⟩
    ·exact h
    ·have:=hft.2.2.1;omega
   have HR2:=yH (fun(w2:World)(h2:Rel W w2)=>HA.out.trans h2)
   clear hf hT hmm haa
   by_cases g4:k=1∨k=2∨k=4
   ·obtain⟨M,hM⟩:∃M,M=l0++text (.mk k n nm l):=⟨_,rfl⟩
    have HMt:=yH hM
    have HT:=yH (show decide (M.length≤2000)=t by
     rw[Bool.eq_iff_iff,decide_eq_true_iff,ht.out,hM]
     exact(leaf_iff hft hd2 g4 l0).symm)
    by_cases g1:k=1∨k=2
    ·have HM:=yH (show l0++T.data.toList=M by rw[hM,text_leaf k n nm l g1,hTl])
     clear hM hft hTl hk12 g4
     rcases g1 with rfl|rfl
     all_goals
         go_enter Tryz.func79,Tryz.ntmps79
         go_wp2_with (first
          |(go_at_call 96;rw[HW.out];(with_reducible refine HFi.out.mono ?_);rintro e w2 ⟨rfl,h2⟩;obtain⟨⟨c0,c1,c2,c3⟩,_⟩:=(HB.out.rel h2).four)
          |(go_at_call 97;(with_reducible refine(trow_as _ T mm aa HRo _).mono ?_);rintro e w' ⟨rfl,rfl⟩)
          |(go_at_call 98;(with_reducible refine(put_as b l0 d T M HM (by omega) t HT _ _ (HR2.out _ h2) (HP.out.rel h2)).mono ?_);rintro e w3 ⟨rfl,p3,r3,k3⟩))
         go_ret
         exact⟨rfl,(fun _=>by rw[←HMt.out];exact p3),r3,(HK.out.trans (Kp.rel h2)).trans k3⟩
    ·obtain rfl:k=4:=by omega
     obtain⟨s,hs⟩:∃s,B (txt n)=s:=⟨_,rfl⟩
     have HS:=yH hs
     have zs:s.size≤43:=by rw[←hs,B_size];exact txt_len n
     have HM:=yH (show l0++s.data.toList=M by rw[hM,text_four,←hs,B_list])
     clear hM hft hTl hk12 g4 g1 hs
     go_enter Tryz.func79,Tryz.ntmps79
     go_wp2_with (first
         |(go_at_call 96;rw[HW.out];(with_reducible refine HFi.out.mono ?_);rintro e w2 ⟨rfl,h2⟩;obtain⟨⟨c0,c1,c2,c3⟩,_⟩:=(HB.out.rel h2).four)
         |(go_at_call 97;(with_reducible refine(trow_as _ T mm aa HRo _).mono ?_);rintro e w' ⟨rfl,rfl⟩)
         |(go_at_call 99;(with_reducible refine(text_as n s HS n0 n1 _ _ (HR2.out _ h2).self).mono ?_);rintro e w3 ⟨rfl,h3⟩)
         |(go_at_call 98;(with_reducible refine(put_as b l0 d s M HM (by omega) t HT _ _ ((HR2.out _ h2).trans h3) ((HP.out.rel h2).rel h3)).mono ?_);rintro e w4 ⟨rfl,p3,r3,k3⟩))
     go_ret
     exact⟨rfl,(fun _=>by rw[←HMt.out];exact p3),r3,((HK.out.trans (Kp.rel h2)).trans (Kp.rel h3)).trans k3⟩
   ·obtain⟨M,hM⟩:∃M,M=l0++text (.mk k n nm l):=⟨_,rfl⟩
    have HMt:=yH hM
    have hti:t=true↔(∀i (h:i<l.length),fine (32-(d+1)) l[i]=true)∧l0.length+T.size+(glue true (l.map text++beh k n nm)).length+1≤2000:=by
     rw[ht.out,call_iff hft hd2 (by omega) (by omega) (by omega) l0,←hTl,B_size]
     simp
    have hMi:M=l0++(T.data.toList++(glue true (l.map text++beh k n nm)++[41])):=by
     rw[hM,text_glue hft.2.2.1 (by omega) (by omega) (by omega),hTl]
    clear hM
    by_cases g0:k=7∨k=8∨k=9∨k=10∨k=12
    ·have eb:beh k n nm=[]:=by unfold beh;rw[if_neg (by omega),if_neg (by omega),if_neg (by omega)]
     rw[eb] at hti hMi
     have HTi:=yH hti
     have HMi:=yH hMi
     clear hti hMi eb hft hTl hk12 g4
     rcases g0 with rfl|rfl|rfl|rfl|rfl
     all_goals
         go_enter Tryz.func79,Tryz.ntmps79
         go_wp2_with (first
          |(go_at_call 96;rw[HW.out];(with_reducible refine HFi.out.mono ?_);rintro e w2 ⟨rfl,h2⟩;obtain⟨⟨c0,c1,c2,c3⟩,_⟩:=(HB.out.rel h2).four)
          |(go_at_call 97;(with_reducible refine(trow_as _ T mm aa HRo _).mono ?_);rintro e w' ⟨rfl,rfl⟩)
          |(go_at_call 100;(with_reducible refine(pcall_nil b l0 d T l A c es S t _ _ (HR2.out _ h2) HRow HSub hl HIH (HP.out.rel h2) hd2 hlen zT hzl HTi M HMi).mono ?_);rintro e w3 ⟨rfl,p3,r3,k3⟩))
         go_ret
         exact⟨rfl,(fun h=>by rw[←HMt.out];exact p3 h),r3,(HK.out.trans (Kp.rel h2)).trans k3⟩
    ·by_cases g3:k=3
     ·subst g3
      obtain⟨s,hs⟩:∃s,B nm=s:=⟨_,rfl⟩
      have zs:s.size≤100:=by rw[←hs,B_size];exact hm
      have eb:beh 3 n nm=[s.data.toList]:=by rw[←hs,B_list];rfl
      rw[eb] at hti hMi
      rw[hs] at HB HW HFi y2
      have HTi:=yH hti
      have HMi:=yH hMi
      clear hti hMi eb hft hTl hk12 g4 g0
      go_enter Tryz.func79,Tryz.ntmps79
      go_wp2_with (first
       |(go_at_call 96;rw[HW.out];(with_reducible refine HFi.out.mono ?_);rintro e w2 ⟨rfl,h2⟩;obtain⟨⟨c0,c1,c2,c3⟩,_⟩:=(HB.out.rel h2).four)
       |(go_at_call 97;(with_reducible refine(trow_as _ T mm aa HRo _).mono ?_);rintro e w' ⟨rfl,rfl⟩)
       |(go_at_call 100;(with_reducible refine(pcall_one b l0 d T l s w2.heap.size A c es S t _ _ ((HR2.out _ h2).alloc _) HRow HSub hl HIH (Bk.new _ _ _) ((HP.out.rel h2).alloc _) hd2 hlen zT zs hzl HTi M HMi).mono ?_);rintro e w3 ⟨rfl,p3,r3,k3⟩))
      go_ret
      exact⟨rfl,(fun h=>by rw[←HMt.out];exact p3 h),r3,((HK.out.trans (Kp.rel h2)).alloc _).trans k3⟩
     ·by_cases g5:k=5
      ·subst g5
       obtain⟨s,hs⟩:∃s,B (txt n)=s:=⟨_,rfl⟩
       have HS:=yH hs
       have zs:s.size≤100:=by rw[←hs,B_size];have:=txt_len n;omega
       have eb:beh 5 n nm=[s.data.toList]:=by rw[←hs,B_list];rfl
       rw[eb] at hti hMi
       have HTi:=yH hti
       have HMi:=yH hMi
       clear hti hMi eb hft hTl hk12 g4 g0 g3 hs
       go_enter Tryz.func79,Tryz.ntmps79
       go_wp2_with (first
           |(go_at_call 96;rw[HW.out];(with_reducible refine HFi.out.mono ?_);rintro e w2 ⟨rfl,h2⟩;obtain⟨⟨c0,c1,c2,c3⟩,_⟩:=(HB.out.rel h2).four)
           |(go_at_call 97;(with_reducible refine(trow_as _ T mm aa HRo _).mono ?_);rintro e w' ⟨rfl,rfl⟩))
       go_region_law (first
           |(rw[if_pos (by rfl)];go_simp;go_at_call 99;(with_reducible refine(text_as n s HS n0 n1 _ _ (HR2.out _ h2).drew.self).mono ?_);rintro e w3 ⟨rfl,h3⟩;obtain⟨⟨d0,d1,d2,d3⟩,_⟩:=((HB.out.rel h2).drew.rel h3).four;obtain⟨⟨e0,e1,e2,e3⟩,_⟩:=(((HB.out.rel h2).drew.rel h3).alloc (.cells #[.string s] 9)).four)
           |(rw[if_pos (by rfl)];go_simp;go_at_call 100;(with_reducible refine(pcall_one b l0 d T l s w3.heap.size A c es S t _ _ (((HR2.out _ h2).drew.trans h3).alloc _) HRow HSub hl HIH (Bk.new _ _ _) (((HP.out.rel h2).drew.rel h3).alloc _) hd2 hlen zT zs hzl HTi M HMi).mono ?_);rintro e w4 ⟨rfl,p3,r3,k3⟩))
       all_goals
           go_wp2_with (fail)
           go_ret
           exact⟨rfl,(fun h=>by rw[←HMt.out];exact p3 h),r3,(((HK.out.trans (Kp.rel h2.drew)).trans (Kp.rel h3)).alloc _).trans k3⟩
      ·have g6:k=6∨k=11:=by omega
       obtain⟨s,hs⟩:∃s,B (itoa n)=s:=⟨_,rfl⟩
       have HS:=yH hs
       have zs:s.size≤100:=by rw[←hs,B_size];have:=itoa_len n0 n1;omega
       have eb:beh k n nm=[s.data.toList]:=by rw[←hs,B_list];unfold beh;rw[if_neg g3,if_neg g5,if_pos g6]
       rw[eb] at hti hMi
       have HTi:=yH hti
       have HMi:=yH hMi
       clear hti hMi eb hft hTl hk12 g4 g0 g3 g5 hs
       rcases g6 with rfl|rfl
       all_goals
           go_enter Tryz.func79,Tryz.ntmps79
           go_wp2_with (first
            |(go_at_call 96;rw[HW.out];(with_reducible refine HFi.out.mono ?_);rintro e w2 ⟨rfl,h2⟩;obtain⟨⟨c0,c1,c2,c3⟩,_⟩:=(HB.out.rel h2).four)
            |(go_at_call 97;(with_reducible refine(trow_as _ T mm aa HRo _).mono ?_);rintro e w' ⟨rfl,rfl⟩))
           go_region_law (first
            |(rw[if_pos (by rfl)];go_simp;go_at_call 101;(with_reducible refine(number_as n s HS n0 n1 _ _ (HR2.out _ h2).drew.self).mono ?_);rintro e w3 ⟨rfl,h3⟩;obtain⟨⟨d0,d1,d2,d3⟩,_⟩:=((HB.out.rel h2).drew.rel h3).four;obtain⟨⟨e0,e1,e2,e3⟩,_⟩:=(((HB.out.rel h2).drew.rel h3).alloc (.cells #[.string s] 9)).four)
            |(rw[if_pos (by rfl)];go_simp;go_at_call 100;(with_reducible refine(pcall_one b l0 d T l s w3.heap.size A c es S t _ _ (((HR2.out _ h2).drew.trans h3).alloc _) HRow HSub hl HIH (Bk.new _ _ _) (((HP.out.rel h2).drew.rel h3).alloc _) hd2 hlen zT zs hzl HTi M HMi).mono ?_);rintro e w4 ⟨rfl,p3,r3,k3⟩))
           all_goals
            go_wp2_with (fail)
            go_ret
            exact⟨rfl,(fun h=>by rw[←HMt.out];exact p3 h),r3,(((HK.out.trans (Kp.rel h2.drew)).trans (Kp.rel h3)).alloc _).trans k3⟩
 ·obtain rfl:d=32:=by omega
  have htf:t=false:=by
   cases t with
   |false=>rfl
   |true=>have:=(ht.out.1 rfl).1;cases this
  subst htf
  go_enter Tryz.func79,Tryz.ntmps79
  go_wp2_with (fail)
  go_ret
  rw[HW.out]
  exact⟨rfl,(fun h=>by cases h),HA.out,HK.out⟩
theorem pr_new(w:World)(o:Obj):Pr w.heap.size (w.heap.size+1) [] 0 ((w.alloc o).alloc (.cells #[.pointer none,.slice none 0 0,.int .i64 0] 111)):=by
 have hb:=Bk.new (w.alloc o) 111 #[.pointer none,.slice none 0 0,.int .i64 0]
 rw[World.size_alloc] at hb
 exact .inl ⟨by omega,_,hb,World.ownsRowF_of (World.ownsRow_nil _ _ _ _),by simp[Value.ownBlock]⟩
theorem right_of{x:Ex}(hc:isCond x.k=false):rightX x=true↔fine (32-0) x=true∧([]:List UInt8).length+(text x).length≤2000:=by
 simp only[rightX,hc,Bool.and_eq_true,decide_eq_true_eq,List.length_nil,Nat.sub_zero,Nat.zero_add,Bool.not_false,and_true]
 constructor
 ·rintro⟨⟨a,_⟩,b⟩;exact⟨a,b⟩
 ·rintro⟨a,b⟩;exact⟨⟨a,by have:=text_more x 32 a;omega⟩,b⟩
theorem tprint_any:PrintOk:=fun x S e w0 w hr h hz=>by
 have HR:=yH hr
 obtain⟨k,n,nm,A,m,c⟩:=e
 have hke:x.k=k:=h.kind
 have HB:=yH ((Bk.new w 54 #[.int .i64 k,.int .i64 n,.string (B nm),.slice A m c]).alloc (.cells #[.pointer none,.slice none 0 0,.int .i64 0] 111))
 have HA:=yH ((hr.self.alloc (.cells #[.int .i64 k,.int .i64 n,.string (B nm),.slice A m c] 54)).alloc (.cells #[.pointer none,.slice none 0 0,.int .i64 0] 111))
 have HP:=yH (pr_new w (.cells #[.int .i64 k,.int .i64 n,.string (B nm),.slice A m c] 54))
 obtain⟨⟨c0,c1,c2,c3⟩,_⟩:=HB.out.four
 obtain⟨bc,hbc⟩:∃b,isCond k=b:=⟨_,rfl⟩
 have HBc:=yH hbc
 cases bc with
 |true=>
  have HX:=yH (show prT x=[]∧prE x=1 by
   have:rightX x=false:=by unfold rightX;rw[hke,hbc];simp
   unfold prT prE;rw[this];exact⟨rfl,rfl⟩)
  clear h hbc
  go_enter Tryz.func67,Tryz.ntmps67
  go_wp2_with (go_at_call 78;(with_reducible refine(tcond_as k n (B nm) A m c true HBc _ _ HA.out.self).mono ?_);rintro e w2 ⟨rfl,h2⟩;obtain⟨⟨d0,d1,d2,d3⟩,_⟩:=(HB.out.rel h2).four)
  go_ret2
  exact⟨by rw[HX.out.1,HX.out.2];rfl,(HR.out.trans HA.out).trans h2⟩
 |false=>
  obtain⟨t,ht⟩:∃t,rightX x=t:=⟨_,rfl⟩
  have hti:t=true↔fine (32-0) x=true∧([]:List UInt8).length+(text x).length≤2000:=by rw[←ht];exact right_of (by rw[hke];exact hbc)
  have HC:=yH (fun(w2:World)(h2:Rel w w2)(hp:Pr w.heap.size (w.heap.size+1) [] 0 w2)=>pexpr_any x S (k,n,nm,A,m,c) (w.heap.size+1) [] 0 t w w2 h2 h hp (by omega) (by simp) hz (yH hti))
  have HX:=yH (show prT x=(if t then text x else [])∧prE x=(if t then 0 else 1) by unfold prT prE;rw[ht];exact⟨rfl,rfl⟩)
  have HNe:=yH (show t=true→[]++text x≠[] from fun e=>by
   have h1:=text_more x 32 (hti.1 e).1
   have h2:=size_pos x
   intro h
   rw[List.nil_append] at h
   rw[h,List.length_nil] at h1
   omega)
  clear h hbc hti ht
  cases t with
  |false=>
   go_enter Tryz.func67,Tryz.ntmps67
   go_wp2_with (first
    |(go_at_call 78;(with_reducible refine(tcond_as k n (B nm) A m c false HBc _ _ HA.out.self).mono ?_);rintro e w2 ⟨rfl,h2⟩;obtain⟨⟨d0,d1,d2,d3⟩,_⟩:=(HB.out.rel h2).four)
    |(go_at_call 79;(with_reducible refine(HC.out _ (HA.out.trans h2) (HP.out.rel h2)).mono ?_);rintro e w3 ⟨rfl,p3,r3,k3⟩))
   go_ret2
   exact⟨by rw[HX.out.1,HX.out.2];rfl,HR.out.trans r3⟩
  |true=>
   go_enter Tryz.func67,Tryz.ntmps67
   go_wp2_with (first
    |(go_at_call 78;(with_reducible refine(tcond_as k n (B nm) A m c false HBc _ _ HA.out.self).mono ?_);rintro e w2 ⟨rfl,h2⟩;obtain⟨⟨d0,d1,d2,d3⟩,_⟩:=(HB.out.rel h2).four)
    |(go_at_call 79;(with_reducible refine(HC.out _ (HA.out.trans h2) (HP.out.rel h2)).mono ?_);rintro e w3 ⟨rfl,p3,r3,k3⟩)
    |(go_at_call 80;(with_reducible refine(string_any (w.heap.size+1) ([]++text x) 0 w _ r3 (by first|exact p3 rfl|exact p3 trivial) (by first|exact HNe.out rfl|exact HNe.out trivial)).mono ?_);rintro e w4 ⟨rfl,r4⟩))
   go_ret2
   exact⟨by rw[HX.out.1,HX.out.2];rfl,HR.out.trans r4⟩
theorem tright_any:RightOk:=fun x S e w0 w hr h hz=>by
 have HR:=yH hr
 obtain⟨k,n,nm,A,m,c⟩:=e
 have HA:=yH (hr.self.alloc (.cells #[.int .i64 k,.int .i64 n,.string (B nm),.slice A m c] 54))
 have HP:=yH (fun(w':World)(h':Rel w w')=>tprint_any x S (k,n,nm,A,m,c) w' w' (hr.trans h').self (h.rel h') hz)
 obtain⟨T,hT⟩:∃T,B (prT x)=T:=⟨_,rfl⟩
 rw[hT] at HP
 clear hT
 cases hx:rightX x
 ·have he:prE x=1:=by unfold prE;rw[hx];rfl
  rw[he] at HP
  clear h he hx
  go_enter Tryz.func55,Tryz.ntmps55
  go_wp2_with (go_at_call 67;(with_reducible refine(HP.out _ HA.out).mono ?_);rintro e w2 ⟨rfl,h2⟩)
  go_ret
  exact⟨rfl,(HR.out.trans HA.out).trans h2⟩
 ·have he:prE x=0:=by unfold prE;rw[hx];rfl
  rw[he] at HP
  clear h he hx
  go_enter Tryz.func55,Tryz.ntmps55
  go_wp2_with (go_at_call 67;(with_reducible refine(HP.out _ HA.out).mono ?_);rintro e w2 ⟨rfl,h2⟩)
  go_ret
  exact⟨rfl,(HR.out.trans HA.out).trans h2⟩
def XNew(lb:Nat)(w:World)(v:Value)(x:Ex):Prop:=∃e:El,EV e=v∧ExAt (fun k=>lb≤k) w e x
theorem XNew.at{lb:Nat}{w:World}{v:Value}{x:Ex}(h:XNew lb w v x):XAt w v x:=by
 obtain⟨e,he,hx⟩:=h
 exact⟨_,e,he,hx⟩
theorem XNew.rel{lb:Nat}{w w':World}{v:Value}{x:Ex}(h:XNew lb w v x)(hr:Rel w w'):XNew lb w' v x:=by
 obtain⟨e,he,hx⟩:=h
 exact⟨e,he,hx.rel hr⟩
theorem XNew.put4{lb g:Nat}{w:World}{v:Value}{x:Ex}(h:XNew lb w v x)(hg:g<lb)(hlb:lb≤w.heap.size)(a b c d:Value):XNew lb ((((w.setCell ⟨g,0,none⟩ a).setCell ⟨g,1,none⟩ b).setCell ⟨g,2,none⟩ c).setCell ⟨g,3,none⟩ d) v x:=by
 obtain⟨e,he,hx⟩:=h
 exact⟨e,he,hx.grown (put4_grown w g a b c d) (fun k hk=>by
  have hk:lb≤k:=hk
  exact⟨hk,fun e=>by injection e;omega⟩)⟩
theorem lparse_yes14(t:List UInt8)(S:ByteArray)(hS:B t=S)(ht:t.length≤9223372036854775807)(x:Ex)(hx:parseS t= .ok x)(w:World)(hr:Rel w w):
  Calls Tryz.prog 54 #[.string S] w fun e w'=>∃(k n:Int)(X:ByteArray)(A:Option Addr)(l c:Nat),e= .returned (.tuple #[.agg #[.int .i64 k,.int .i64 n,.string X,.slice A l c],.int .i64 0,.int .i64 0])∧Hid (XNew w.heap.size w' (XV k n X A l c) x)∧Hid (Rel w w'):=by
 subst hS
 have h:=parseOk (B t) (by rw[B_size];exact ht) w w hr
 rw[B_list,hx] at h
 refine h.mono ?_
 rintro e w' ⟨v,rfl,hv,hr2⟩
 exact⟨_,_,_,_,_,_,rfl,yH ⟨v,rfl,hv⟩,yH hr2⟩
theorem lparse_no14(t:List UInt8)(S:ByteArray)(hS:B t=S)(ht:t.length≤9223372036854775807)(cd pl:Int)(hx:parseS t= .error (cd,pl))(w:World)(hr:Rel w w):
  Calls Tryz.prog 54 #[.string S] w fun e w'=>e= .returned (.tuple #[.agg #[.int .i64 0,.int .i64 0,.string ⟨#[]⟩,.slice none 0 0],.int .i64 cd,.int .i64 pl])∧Hid (Rel w w'):=by
 subst hS
 have h:=parseOk (B t) (by rw[B_size];exact ht) w w hr
 rw[B_list,hx] at h
 exact h.mono fun e w' ⟨he,hr2⟩=>⟨he,yH hr2⟩
theorem lright14{v:Value}{x:Ex}{b:Bool}(hb:rightX x=b)(hz:size x≤2001)(w:World)(h:XAt w v x)(hr:Rel w w):
  Calls Tryz.prog 55 #[v] w fun e w'=>e= .returned (.bool b)∧Hid (Rel w w'):=by
 obtain⟨S,e,rfl,hx⟩:=h
 subst hb
 exact(tright_any x S e w w hr hx (by omega)).mono fun e w' ⟨he,hr2⟩=>⟨he,yH hr2⟩
def rowB(f c m o b:Int)(k:Nat):Prop:=match k with
 |0=>1≤f∧f≤1000000000000
 |1=>f≤c∧c≤1000000000000
 |2=>0≤m∧m≤c
 |3=>0≤o∧o≤1048576
 |_=>0≤b∧b≤1000000000000
theorem rows_all{f c m o b:Int}{t:List UInt8}(h:∀k,k<5→rowB f c m o b k):numsOk (f,c,m,o,b,t)=true:=by
 have h0:1≤f∧f≤1000000000000:=h 0 (by omega)
 have h1:f≤c∧c≤1000000000000:=h 1 (by omega)
 have h2:0≤m∧m≤c:=h 2 (by omega)
 have h3:0≤o∧o≤1048576:=h 3 (by omega)
 have h4:0≤b∧b≤1000000000000:=h 4 (by omega)
 exact nums_iff.2 (show 1≤f∧f≤c∧c≤1000000000000∧0≤m∧m≤c∧0≤o∧o≤1048576∧0≤b∧b≤1000000000000 by omega)
theorem rows_not{f c m o b:Int}{t:List UInt8}{k:Nat}(h: ¬rowB f c m o b k):numsOk (f,c,m,o,b,t)=false:=by
 cases hn:numsOk (f,c,m,o,b,t) with
 |false=>rfl
 |true=>
  exfalso;apply h
  have hn2:1≤f∧f≤c∧c≤1000000000000∧0≤m∧m≤c∧0≤o∧o≤1048576∧0≤b∧b≤1000000000000:=nums_iff.1 hn
  unfold rowB
  split<;>omega
abbrev RowsV(f c m o b:Int):Array Value:= #[.int .i64 f,.int .i64 1,.int .i64 1000000000000,.int .i64 c,.int .i64 f,.int .i64 1000000000000,.int .i64 m,.int .i64 0,.int .i64 c,.int .i64 o,.int .i64 0,.int .i64 1048576,.int .i64 b,.int .i64 0,.int .i64 1000000000000]
theorem rows_at(f c m o b:Int)(k:Nat)(hk:k<5):∃x y z:Int,(∀w:World,(Instr.index 90 (.agg (RowsV f c m o b)) (.int .i64 (k:Int))).run Tryz.prog w= .ok (.agg #[.int .i64 x,.int .i64 y,.int .i64 z]) w)∧(rowB f c m o b k↔y≤x∧x≤z):=by
 have hc:k=0∨k=1∨k=2∨k=3∨k=4:=by omega
 rcases hc with rfl|rfl|rfl|rfl|rfl
 ·exact⟨f,1,1000000000000,fun _=>by kernel_rfl,Iff.rfl⟩
 ·exact⟨c,f,1000000000000,fun _=>by kernel_rfl,Iff.rfl⟩
 ·exact⟨m,0,c,fun _=>by kernel_rfl,Iff.rfl⟩
 ·exact⟨o,0,1048576,fun _=>by kernel_rfl,Iff.rfl⟩
 ·exact⟨b,0,1000000000000,fun _=>by kernel_rfl,Iff.rfl⟩
theorem lbounded_any(f c m o b:Int)(t:List UInt8)(S:ByteArray)(w:World)(hr:Rel w w):
  Calls Tryz.prog 53 #[.agg #[.int .i64 f,.int .i64 c,.int .i64 m,.int .i64 o,.int .i64 b,.string S]] w fun e w'=>e= .returned (.bool (numsOk (f,c,m,o,b,t)))∧Hid (Rel w w'):=by
 have HX:=yH (Bk.new w 24 #[.int .i64 f,.int .i64 c,.int .i64 m,.int .i64 o,.int .i64 b,.string S])
 have R1:=yH (hr.alloc (.cells #[.int .i64 f,.int .i64 c,.int .i64 m,.int .i64 o,.int .i64 b,.string S] 24))
 obtain⟨gx,hgx⟩:∃g,w.heap.size=g:=⟨_,rfl⟩
 obtain⟨W,hW⟩:∃W,w.alloc (.cells #[.int .i64 f,.int .i64 c,.int .i64 m,.int .i64 o,.int .i64 b,.string S] 24)=W:=⟨_,rfl⟩
 rw[hW] at HX R1
 rw[hgx] at HX
 go_enter Tryz.func53,Tryz.ntmps53
 go_upto_region 1 with (fail)
 try rw[hW]
 try rw[hgx]
 clear hW hgx
 obtain⟨⟨x0,x1,x2,x3,x4,x5⟩,_⟩:=six_of HX.out
 go_upto_region 2 with (fail)
 have R2:=yH (R1.out.alloc (.cells (RowsV f c m o b) 90))
 clear x0 x1 x2 x3 x4 x5
 have HV:=yH (Bk.new W 90 (RowsV f c m o b))
 obtain⟨V,hV⟩:∃V,W.alloc (.cells (RowsV f c m o b) 90)=V:=⟨_,rfl⟩
 obtain⟨gr,hgr⟩:∃g,W.heap.size=g:=⟨_,rfl⟩
 rw[hV] at R2 HV
 rw[hgr] at HV
 try rw[hV]
 try rw[hgr]
 clear hV hgr HX R1
 go_upto_block 0 with (refine wpList_load_row rfl 90 _ rfl gr rfl 90 _ (0,0) _ HV.out Tryz.underlying90 rfl (by kernel_rfl) ?_)
 have hrow:=rows_at f c m o b
 have HRo:=yH hrow
 clear hrow
 go_wp2_with (fail)
 go_loopw [27] (fun i wr=>∃j:Nat,i= .int .i64 (j:Int)∧j≤5∧Hid (∀k,k<j→rowB f c m o b k)∧Hid (Rel V wr)) (fun i _=>5-(RowKit.intOf i).toNat)
 case atStart=>exact⟨0,rfl,by omega,yH (fun k hk=>by omega),yH R2.out.self⟩
 case round=>
  obtain⟨j,rfl,hj,HAll,HW⟩:=hrel
  by_cases hlt:j<5
  ·obtain⟨x,y,z,hix,hrb⟩:=HRo.out j hlt
   have hij:(j:Int)<5:=by omega
   have HRb:=yH hrb
   have HJ:=yH hlt
   have HBk:=yH (Bk.new wr 89 #[.int .i64 x,.int .i64 y,.int .i64 z])
   have RW:=yH (HW.out.alloc (.cells #[.int .i64 x,.int .i64 y,.int .i64 z] 89))
   clear hrb hlt
   by_cases e1:x<y
   ·have d1:decide (x<y)=true:=decide_eq_true e1
    have HN:=yH (rows_not (t:=t) (fun h:rowB f c m o b j=>by have:=HRb.out.1 h;omega))
    clear e1
    go_wp2_with (fail)
    go_ret
    exact⟨ret_bool HN.out.symm,yH (R2.out.trans RW.out)⟩
   ·have d1:decide (x<y)=false:=decide_eq_false e1
    by_cases e2:z<x
    ·have d2:decide (z<x)=true:=decide_eq_true e2
     have HN:=yH (rows_not (t:=t) (fun h:rowB f c m o b j=>by have:=HRb.out.1 h;omega))
     clear e1 e2
     go_wp2_with (fail)
     go_ret
     exact⟨ret_bool HN.out.symm,yH (R2.out.trans RW.out)⟩
    ·have d2:decide (z<x)=false:=decide_eq_false e2
     have HN:=yH (HRb.out.2 ⟨by omega,by omega⟩)
     clear e1 e2
     go_wp2_with (fail)
     go_roundw
     case rel=>exact⟨j+1,by go_num,by have:=HJ.out;omega,yH (fun k hk=>(Nat.lt_or_ge k j).elim (fun h=>HAll.out k h) (fun h=>(show j=k by omega)▸HN.out)),yH RW.out⟩
     case measure=>have:=HJ.out;simp[RowKit.intOf];omega
  ·obtain rfl:j=5:=by omega
   have HN:=yH (rows_all (t:=t) HAll.out)
   go_wp2_with (fail)
   go_ret
   exact⟨ret_bool HN.out.symm,yH (R2.out.trans HW.out)⟩
end Go.Proofs.YtjhjdiaomnpkmaaGreatDoor
