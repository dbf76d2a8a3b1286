/- Plain mathematics of layer 9: what simple expressions tell; offers of raw numbers; lowest and second. No program in this text; Tokens in memory, pairs of raw numbers; which tokens are the same; Offers in memory: to be read, and of the call's own; The document's own answers of layer 9: what any expression that may be tells; Eval and Cond; Raw numbers as an argument, opened; The law's offers of raw numbers, in memory. -/

import Derived.Test.YtfekhbeaphpelaaGreatDoorZ11
set_option maxRecDepth 100000
set_option maxHeartbeats 8000000
namespace Go.Proofs.YtfekhbeaphpelaaGreatDoor
open Go.Lib
set_option linter.unusedVariables false
set_option linter.unusedSimpArgs false
def ofL(z:Int×Int):Of:=(sellerL (pk z.1 60),1+pk z.2 3000)
def hasS(out:List Of)(s:List UInt8):Bool:=out.any fun o=>decide (o.1=s)
def offersL:List (Int×Int)→List Of→List Of
 |[],out=>out
 |z::t,out=>if out.length<8 then (if hasS out (ofL z).1 then offersL t out else offersL t (out++[ofL z])) else out
theorem of_ok(z:Int×Int):offOk (ofL z)=true:=by
 have h1:=pk_bd z.1 60 (by omega)
 have h2:=pk_bd z.2 3000 (by omega)
 unfold offOk ofL
 simp only[Bool.and_eq_true,decide_eq_true_eq]
 exact⟨seller_name _ h1.1 h1.2,by omega,by omega⟩
theorem offers_ok:∀(zs:List (Int×Int)) (out:List Of),offsOk out=true→offsOk (offersL zs out)=true:=by
 intro zs
 induction zs with
 |nil=>intro out h;exact h
 |cons z t ih=>
  intro out h
  rw[offersL]
  split
  ·rename_i hl
   split
   ·exact ih _ h
   ·rename_i hs
    refine ih _ ?_
    rw[offs_nodup] at h⊢
    obtain⟨h1,h2,h3⟩:=h
    refine⟨by simp;omega,fun o ho=> ?_, ?_⟩
    ·rcases List.mem_append.1 ho with ho|ho
     ·exact h2 o ho
     ·obtain rfl:o=ofL z:=by simpa using ho
      exact of_ok z
    ·rw[List.map_append,List.nodup_append]
     refine⟨h3,by simp,fun a ha b hb=> ?_⟩
     obtain rfl:b=(ofL z).1:=by simpa using hb
     obtain⟨o,ho,rfl⟩:=List.mem_map.1 ha
     intro e
     apply hs
     unfold hasS
     rw[List.any_eq_true]
     exact⟨o,ho,by simpa using e⟩
  ·exact h
def offS(zs:List (Int×Int)):List Of:=offersL zs []
theorem offS_ok(zs:List (Int×Int)):offsOk (offS zs)=true:=offers_ok _ _ offsOk_nil
end Go.Proofs.YtfekhbeaphpelaaGreatDoor

namespace Go.Proofs.YtfekhbeaphpelaaGreatDoor
open Go.RowKit Go.Lib
set_option linter.unusedVariables false
set_option linter.unusedSimpArgs false
theorem PairsAt.below{w w':World}{A:Option Addr}{zs:List (Int×Int)}(h:PairsAt w A zs)(hb:Below w.heap.size w w'):PairsAt w' A zs:=by
 intro i hi
 obtain⟨a,e,hl,h0,h1⟩:=h i hi
 have hk:∀j,w'.cell? (a.add j)=w.cell? (a.add j):=fun j=>hb.cell (p:=a.add j) (by rw[block_add];exact hl)
 exact⟨a,e,by have:=hb.size;omega,by rw[hk];exact h0,by rw[hk];exact h1⟩
theorem PairsAt.rel{w w':World}{A:Option Addr}{zs:List (Int×Int)}(h:PairsAt w A zs)(hr:Rel w w'):PairsAt w' A zs:=h.below hr.2
theorem cellsO_snoc(os:List Of)(o:Of):cellsO (os++[o])=cellsO os++cells2 o:=by simp[cellsO]
def OffOwn(w:World)(base:Nat)(v:Value)(os:List Of):Prop:=w.ownsRow base 46 2 v os.length (cellsO os)
theorem OffOwn.nil(w:World)(base:Nat):OffOwn w base (.slice none 0 0) []:=World.ownsRow_nil _ _ _ _
theorem OffOwn.rel{w w':World}{base:Nat}{v:Value}{os:List Of}(h:OffOwn w base v os)(hr:Rel w w'):OffOwn w' base v os:=own_rel h hr
theorem OffOwn.offs{w:World}{base:Nat}{A:Option Addr}{n c:Nat}{os:List Of}(h:OffOwn w base (.slice A n c) os)(hn:n=os.length):OffsAt w A os:=by
 intro i hi
 have h:w.ownsRow base 46 2 (.slice A n c) os.length (cellsO os):=h
 rcases h.2 with ⟨h0,h1⟩|⟨g,cap,cur,hv,hb,hh,_⟩
 ·omega
 ·have hA:A=some ⟨g,0,none⟩:=by injection hv
  obtain⟨c0,c1⟩:=cellsO_at os i hi
  have hc:=h.cells (g:=g) (by rw[hA];rfl)
  have q0:=hc _ _ c0
  have q1:=hc _ _ c1
  rw[addr_at] at q0 q1
  refine⟨g,0,hA,Bk.lt (t:=46) hh, ?_, ?_⟩
  ·exact q0
  ·rw[Nat.add_assoc];exact q1
theorem OffOwn.more{w1:World}{base g cap:Nat}{os:List Of}{o:Of}
  (hown1:w1.ownsRow base 46 2 (.slice (some ⟨g,0,none⟩) (os.length+1) cap) (os.length+1) (cellsO os++cells2 o)):OffOwn w1 base (.slice (some ⟨g,0,none⟩) (os.length+1) cap) (os++[o]):=by
 unfold OffOwn
 rw[cellsO_snoc,show(os++[o]).length=os.length+1 by simp];exact hown1
theorem off_info:(Tryz.prog.info? 46).map (fun i=>(i.zero,i.size,i.bytes))=some (some (.agg #[.string ⟨#[]⟩,.int .i64 0]),2,24):=by kernel_rfl
theorem cells2_one(o:Of):∀u∈cells2 o,u.oneCell'=true:=by
 intro u hu
 simp only[cells2,List.mem_cons,List.not_mem_nil,or_false] at hu
 rcases hu with rfl|rfl<;>rfl
theorem len1{l:List Ex}(h:(1:Int)=(l.length:Int)):∃a,l=[a]:=List.length_eq_one_iff.1 (by omega)
theorem len2{l:List Ex}(h:(2:Int)=(l.length:Int)):∃a b,l=[a,b]:=by
 match l,h with
 |[a,b],_=>exact⟨a,b,rfl⟩
 |[],h=>simp at h
 |[_],h=>simp at h
 |_::_::_::_,h=>simp only[List.length_cons] at h;omega
def IsRow(k:IntKind)(w:World)(a:Option Addr)(len cap:Nat)(zs:List Int):Prop:=
 (a=none∧len=0∧cap=0∧zs=[])∨∃x:Addr,a=some x∧len≤cap∧cap≤maxLen∧zs.length=cap∧(∀j,j<zs.length→w.cell? (x.add j)=some (.int k (zs.getD j 0)))∧∀u∈zs,(Lit.int k u).wf=true
theorem ints_of{w:World}{a:Option Addr}{len cap:Nat}{z:List Int}(h:IsRow .i64 w a len cap z):∃L:List Int,len=L.length∧IntsIn w a cap L:=by
 rcases h with ⟨rfl,rfl,rfl,rfl⟩|⟨x,rfl,hl,hm,hz,hcell,hwz⟩
 ·exact⟨[],rfl,Nat.le_refl _,Nat.zero_le _,fun z hz=>(by cases hz),fun i hi=>absurd hi (by simp)⟩
 ·have e:(z.take len).length=len:=by rw[List.length_take];omega
  refine⟨z.take len,e.symm,by omega,hm,fun u hu=>wf64 (hwz u (List.mem_of_mem_take hu)),fun i hi=> ?_⟩
  rw[e] at hi
  have hc:=hcell i (by omega)
  have eg:z.getD i 0=(z.take len)[i]'(by rw[e];exact hi):=by
   rw[List.getElem_take,List.getD_eq_getElem?_getD,List.getElem?_eq_getElem (by omega)];rfl
  rw[eg] at hc
  exact⟨x,rfl,by have:=blk_of_cell hc;rwa [block_add] at this,hc⟩
theorem OffOwn.row9{w:World}{base:Nat}{v:Value}{os:List Of}(h:OffOwn w base v os):w.ownsRow base 46 2 v os.length (cellsO os):=h
theorem Rel.right3{w w':World}(h:Rel w w'):Rel w' w':=h.self
theorem OffOwn.arg{w:World}{base:Nat}{A:Option Addr}{c:Nat}{os:List Of}(h:OffOwn w base (.slice A os.length c) os)(hf:OffsFit os):OffArg w A c os:=by
 refine⟨?_, ?_,hf,h.offs rfl⟩
 ·rcases h.2 with ⟨h0,h1⟩|⟨g,cap,cur,hv,_,_,hc,_⟩
  ·omega
  ·injection hv with _ _ hv;omega
 ·rcases h.2 with ⟨h0,h1⟩|⟨g,cap,cur,hv,_,_,_,hm,_⟩
  ·injection h0 with _ _ h0;subst h0;exact Nat.zero_le _
  ·injection hv with _ _ hv;omega
theorem add9_next(a:Addr)(n:Nat):a.add (n+1)=⟨(a.add n).block,(a.add n).off+1,none⟩:=by
 unfold Addr.add
 by_cases h:n=0
 ·subst h;simp
 ·simp[h];omega
theorem PairsIn.rel9{w w':World}{A:Option Addr}{n:Nat}{zs:List (Int×Int)}(h:PairsIn w A n zs)(hr:Rel w w'):PairsIn w' A n zs:=⟨h.1,h.2.1,h.2.2.1,h.2.2.2.rel hr⟩
theorem pairs9_at{w:World}{A:Option Addr}{n:Nat}{zs:List (Int×Int)}(h:PairsIn w A n zs){w':World}(hr:Rel w w')(j:Nat)(hj:j<zs.length):
  ∃(a:Addr) (x y:Int),A=some a∧w'.cell? (a.add (j*2))=some (.int .i64 x)∧w'.cell? ⟨(a.add (j*2)).block,(a.add (j*2)).off+1,none⟩=some (.int .i64 y)∧zs[j]=(x,y)∧i64 x∧i64 y:=by
 obtain⟨_,_,hb,hp⟩:=h
 obtain⟨a,e,hl,c0,c1⟩:=(hp.rel hr) j hj
 have:=hb zs[j] (List.getElem_mem hj)
 rw[add9_next] at c1
 exact⟨a,zs[j].1,zs[j].2,e,c0,c1,rfl,this.1,this.2⟩
theorem offersL_step{zs:List (Int×Int)}{j:Nat}(hj:j<zs.length){x y:Int}(hz:zs[j]=(x,y)){out:List Of}(hl:out.length<8)(b:Bool)(hb:hasS out (sellerL (pk x 60))=b):
  offersL (zs.drop j) out=offersL (zs.drop (j+1)) (if b then out else out++[(sellerL (pk x 60),1+pk y 3000)]):=by
 rw[List.drop_eq_getElem_cons hj,hz,offersL,if_pos hl]
 show(if hasS out (sellerL (pk x 60)) then _ else _)=_
 rw[hb]
 cases b<;>rfl
theorem offersL_full{zs:List (Int×Int)}{out:List Of}(h: ¬out.length<8):offersL zs out=out:=by
 cases zs with
 |nil=>rfl
 |cons z t=>rw[offersL,if_neg h]
def hasTo(out:List Of)(s:List UInt8)(k:Nat):Bool:=(out.take k).any fun o=>decide (o.1=s)
theorem hasTo_step{out:List Of}{s:List UInt8}{k:Nat}(hk:k<out.length):hasTo out s (k+1)=(hasTo out s k||decide (out[k].1=s)):=by
 unfold hasTo
 rw[List.take_succ_eq_append_getElem hk,List.any_append];simp
theorem hasTo_full(out:List Of)(s:List UInt8):hasTo out s out.length=hasS out s:=by unfold hasTo hasS;rw[List.take_length]
def Names(out:List Of):Prop:=∀o∈out,o.1.length≤12∧1≤o.2∧o.2≤3000
theorem names_snoc{out:List Of}(h:Names out){s:List UInt8}{p:Int}(hs:s.length≤12)(h1:1≤p)(h2:p≤3000):Names (out++[(s,p)]):=fun o ho=>by
 rcases List.mem_append.1 ho with ho|ho
 ·exact h o ho
 ·obtain rfl:o=(s,p):=by simpa using ho
  exact⟨hs,h1,h2⟩
theorem pk9_as(c n y:Int)(h:Hid (pk c n=y))(hc: -9223372036854775808≤c)(hc':c≤9223372036854775807)(hn:0<n)(hn':n≤9223372036854775807)(w:World):
  Calls Tryz.prog 27 #[.int .i64 c,.int .i64 n] w fun e w'=>e= .returned (.int .i64 y)∧w=w':=by
 rw[←h.out]
 by_cases h:c<0
 all_goals
  go_enter Tryz.func27,Tryz.ntmps27
  go_wp2
  all_goals
   go_ret
   exact⟨ret_int (by unfold pk;split<;>first|rfl|omega),rfl⟩
theorem offers_any(A:Option Addr)(c:Nat)(zs:List (Int×Int))(w0 w:World)(hr:Rel w0 w)(hz:PairsIn w A zs.length zs):
  Calls Tryz.prog 17 #[.slice A zs.length c] w fun e w'=>∃A2 c2,e= .returned (.slice A2 (offS zs).length c2)∧OffOwn w' w.heap.size (.slice A2 (offS zs).length c2) (offS zs)∧Rel w0 w':=by
 have HR:=yH hr
 have HS:=yH hr.self
 have HZ:=yH hz
 have hzl:zs.length≤9223372036854775807:=hz.2.1
 obtain⟨i0,hi0,hz0,hz1,hz2⟩:=info_parts off_info
 clear hz hr
 go_enter Tryz.func17,Tryz.ntmps17
 go_upto_block 0 with (fail)
 go_cut [3] (fun v wx=>∃A2 c2,v= .slice A2 (offS zs).length c2∧OffOwn wx w.heap.size v (offS zs)∧Rel w wx)
 case first=>
  go_wp2_with (fail)
  go_loopw [3,4] (fun v i wr=>∃(j:Nat) (A2:Option Addr) (c2:Nat) (out:List Of),j≤zs.length∧out.length≤8∧i= .int .i64 (j:Int)∧v= .slice A2 out.length c2∧OffOwn wr w.heap.size (.slice A2 out.length c2) out∧Hid (offersL (zs.drop j) out=offS zs)∧Hid (Names out)∧Rel w wr) (fun _ i _=>zs.length-(RowKit.intOf i).toNat)
  case atStart=>exact⟨0,none,0,[],by omega,by simp,rfl,rfl,OffOwn.nil _ _,yH rfl,yH (fun o h=>by cases h),HS.out⟩
  case round=>
   obtain⟨j,A2,c2,out,hj,ho8,rfl,rfl,hO,HN,HF,hRw⟩:=hrel
   have HRw:=yH hRw
   have HO:=yH hO
   clear hO
   by_cases hlt:j<zs.length
   ·by_cases h8:out.length<8
    ·obtain⟨a,x,y,rfl,c0,c1,hxy,hx,hy⟩:=pairs9_at HZ.out hRw j hlt
     have HXY:=yH hxy
     have hsl:(sellerL (pk x 60)).length≤12:=(name_parts (seller_name (pk x 60) (pk_bd x 60 (by omega)).1 (pk_bd x 60 (by omega)).2)).2.2.1
     have hSe:=fun(w0 w:World) (hr:Rel w0 w)=>seller_any x hx.1 hx.2 w0 w hr
     obtain⟨s,hs⟩:∃s,sellerL (pk x 60)=s:=⟨_,rfl⟩
     rw[hs] at hSe hsl
     obtain⟨X,hX⟩:∃X,B s=X:=⟨_,rfl⟩
     rw[hX] at hSe
     have HSe:=yH hSe
     have HSs:=yH hs
     have HX:=yH hX
     clear hxy hSe hs hX
     go_upto_region 6 with (go_at_call 26;(with_reducible refine(HSe.out _ _ HRw.out.self).mono ?_);rintro e w1 ⟨rfl,r1⟩)
     have HR1:=yH r1
     have HRt:=yH (HRw.out.trans r1)
     have HO1:=yH (HO.out.rel r1)
     have d1:=(r1.2.cell (p:=⟨(a.add (j*2)).block,(a.add (j*2)).off+1,none⟩) (blk_of_cell c1)).trans c1
     clear c0 c1 r1 hRw
     go_wp2_with (fail)
     go_loopw [6,7] (fun hv k wr=>∃(q:Nat) (b:Bool),q≤out.length∧k= .int .i64 (q:Int)∧hv= .bool b∧Hid (hasTo out s q=b)∧Rel w1 wr) (fun _ k _=>out.length-(RowKit.intOf k).toNat)
     case atStart=>exact⟨0,false,by omega,rfl,rfl,yH rfl,HR1.out.right3⟩
     case round=>
      obtain⟨q,b,hq,rfl,rfl,HQ,hRi⟩:=hrel
      have HRi:=yH hRi
      by_cases hlt2:q<out.length
      ·have hqi:(q:Int)<(out.length:Int):=by omega
       cases b with
       |true=>
        have HX2:=yH (show hasTo out s (q+1)=true by rw[hasTo_step hlt2,HQ.out];rfl)
        clear hRi
        go_wp2_with (fail)
        go_roundw
        case rel=>exact⟨q+1,true,by omega,by go_num,rfl,HX2,HRi.out⟩
        case measure=>simp[RowKit.intOf];omega
       |false=>
        obtain⟨g,off,s',p',rfl,e0,e1,ho2⟩:=offs_at (HO1.out.offs rfl) hRi q hlt2
        obtain⟨Y,hY⟩:∃Y,B s'=Y:=⟨_,rfl⟩
        rw[hY] at e0
        have HY:=yH hY
        have HO2:=yH ho2
        clear hY ho2 e1 hRi
        by_cases he:Y=X
        ·have k1:=list_of.2 he
         have HX2:=yH (show hasTo out s (q+1)=true by
                    rw[hasTo_step hlt2,HQ.out,HO2.out]
                    have:s'=s:=by rw[←B_list s',←B_list s,HY.out,HX.out,he]
                    simp[this])
         clear he
         go_wp2_with (fail)
         go_roundw
         case rel=>exact⟨q+1,true,by omega,by go_num,rfl,HX2,HRi.out⟩
         case measure=>simp[RowKit.intOf];omega
        ·have k1:=list_ne he
         have HX2:=yH (show hasTo out s (q+1)=false by
                    rw[hasTo_step hlt2,HQ.out,HO2.out]
                    have: ¬s'=s:=fun e=>by subst e;exact he (HY.out.symm.trans HX.out)
                    simp[this])
         clear he
         go_wp2_with (fail)
         go_roundw
         case rel=>exact⟨q+1,false,by omega,by go_num,rfl,HX2,HRi.out⟩
         case measure=>simp[RowKit.intOf];omega
      ·obtain rfl:q=out.length:=by omega
       have HO3:=yH (HO1.out.rel hRi)
       have HSt:=yH (offersL_step hlt HXY.out h8 b (by rw[HSs.out,←hasTo_full];exact HQ.out))
       have f1:=(hRi.2.cell (p:=⟨(a.add (j*2)).block,(a.add (j*2)).off+1,none⟩) (blk_of_cell d1)).trans d1
       have HRf:=yH (HRt.out.trans hRi)
       clear hRi d1
       cases b with
       |true=>
        have HN2:=yH (show offersL (zs.drop (j+1)) out=offS zs by rw[←HN.out,HSt.out];rfl)
        go_wp2_with (fail)
        go_roundw
        case rel=>exact⟨j+1,A2,c2,out,by omega,ho8,by go_num,rfl,HO3.out,HN2,HF,HRf.out⟩
        case measure=>simp[RowKit.intOf];omega
       |false=>
        have hp0:=pk_bd y 3000 (by omega)
        obtain⟨P,hP⟩:∃P,pk y 3000=P:=⟨_,rfl⟩
        rw[hP] at hp0
        have HP:=yH hP
        have HN2:=yH (show offersL (zs.drop (j+1)) (out++[(s,1+P)])=offS zs by rw[←HN.out,HSt.out,HSs.out,hP];rfl)
        have HF2:=yH (names_snoc HF.out hsl (show 1≤1+P by omega) (by omega))
        have HLn:=yH (show(out++[(s,1+P)]).length=out.length+1 by simp)
        obtain⟨hP0,hP1⟩:=hp0
        have y0:=hy.1
        have y1:=hy.2
        clear hP
        have hsz:=HRf.out.size
        rw[←HX.out] at*
        go_wp2_with (first
            |(go_at_call 27;(with_reducible refine(pk9_as y 3000 P HP y0 y1 (by omega) (by omega) _).mono ?_);rintro e w2 ⟨rfl,rfl⟩)
            |(at_builtin;(refine wpList_append_lies _ rfl _ _ 27 rfl w.heap.size 46 i0 (.agg #[.string ⟨#[]⟩,.int .i64 0]) 2 24 Tryz.underlying27 hi0 hz0 hz1 hz2 rfl (by decide) _ out.length (cellsO out) rfl (HO3.out.row9.alloc _) ⟨wr.heap.size,0,none⟩ 1 1 (cells2 (s,1+P)) rfl rfl (World.news_of_block (Bk.new wr 46 #[.string (B s),.int .i64 (1+P)])) (cells2_one _) (by decide) (by unfold maxLen;omega) (by omega) (by simp;omega) _ rfl ?_);intro g cap w1 hown1 hgrow hat hlt1))
        have hE5:=OffOwn.more (o:=(s,1+P)) hown1
        have hR6:Rel w w1:=(HRf.out.alloc _).grown hgrow (fun k hk=>(HO3.out.row9.lt k hk).1)
        go_roundw
        case rel=>exact⟨j+1,some ⟨g,0,none⟩,cap,out++[(s,1+P)],by omega,by rw[HLn.out];omega,by go_num,by rw[HLn.out],by rw[HLn.out];exact hE5,HN2,HF2,hR6⟩
        case measure=>simp[RowKit.intOf];omega
    ·have HE:=yH (show out=offS zs by rw[←HN.out,offersL_full h8])
     have h8i: ¬(out.length:Int)<8:=by omega
     go_wp2_with (fail)
     go_meet
     exact⟨A2,c2,by rw[←HE.out],by rw[←HE.out];exact HO.out,HRw.out⟩
   ·obtain rfl:j=zs.length:=by omega
    have HE:=yH (show out=offS zs by have:=HN.out;rw[List.drop_length] at this;exact this)
    go_wp2_with (fail)
    all_goals
     go_meet
     exact⟨A2,c2,by rw[←HE.out],by rw[←HE.out];exact HO.out,HRw.out⟩
 obtain⟨A2,c2,rfl,hO,hRL⟩:=hcut
 go_wp2_with (fail)
 go_ret
 exact⟨A2,c2,rfl,hO,HR.out.trans hRL⟩
end Go.Proofs.YtfekhbeaphpelaaGreatDoor
