/- DERIVED: THE SHELF's CONTRACTS AT THIS DUMP, IN PLAIN WORDS (tools/lay-plain.mjs out of 'TryzShelf.lean', which tools/lay-shelf.mjs wrote): THE SAME DECLARATIONS UNDER THE SAME NAMES: 'import', 'namespace', 'open', 'def', 'theorem' AND NOTHING ELSE: no command of the shelf's: FOR A HAND-IN. Each laying: the table of numbers ('.._ren') and one theorem, a field a fact of the dump's own or the kernel's comparison; each contract: ONE APPLICATION; The program's readings of numbers and amounts (layer 2's), at this seat; What the landed package lex tells of bytes, words and names; The landed parser: the end, a number, a name; what begins; A load that may be taken first, although the region writes the cell behind it: what is held of the world is asked behind those operations alone that do not wait for the load. -/

import Derived.Test.YtfekhbeaphpelaaGreatDoorZ03
set_option maxRecDepth 100000
set_option maxHeartbeats 8000000
namespace Go.Proofs
open Go.Shelf
def Tryz.lays103_ren:Go.Shelf.Ren:=⟨fun|103=>159|210=>170|206=>177|n=>n,fun|9=>9|4=>4|24=>187|3=>3|n=>n,fun|n=>n⟩
theorem Tryz.lays103:Go.Proofs.Lays.n103 Tryz.prog Tryz.lays103_ren:={
 mixed:=by kernel_rfl
 f103:=Tryz.func159.trans (congrArg some (by kernel_rfl))
 f206:=Tryz.func177.trans (congrArg some (by kernel_rfl))
 f210:=Tryz.func170.trans (congrArg some (by kernel_rfl))
 t3:=Tryz.underlying3
 a3:=Tryz.isAgg3
 z3:=Tryz.sizeOf3
 v3:=Tryz.zeroValue3
 t4:=Tryz.underlying4
 a4:=Tryz.isAgg4
 z4:=Tryz.sizeOf4
 v4:=Tryz.zeroValue4
 t9:=Tryz.underlying9
 a9:=Tryz.isAgg9
 z9:=Tryz.sizeOf9
 v9:=Tryz.zeroValue9
 t24:=Tryz.underlying187
 a24:=Tryz.isAgg187
 z24:=Tryz.sizeOf187
 v24:=Tryz.zeroValue187}
open Go.RowKit in
theorem Tryz.strings_CutPrefix(s p:ByteArray)(w:World):
  Calls Tryz.prog 159 #[.string s,.string p] w fun e w'=>e= .returned (.tuple #[.string ⟨(Lib.trimPrefix s.data.toList p.data.toList).toArray⟩,.bool (Lib.hasPrefix s.data.toList p.data.toList)])∧w'=w:=Any.strings_CutPrefix Tryz.lays103 s p w
def Tryz.laysM171_ren:Go.Shelf.Ren:=⟨fun|171=>141|243=>165|246=>173|283=>179|284=>180|285=>181|286=>182|129=>195|317=>194|318=>196|319=>197|320=>198|337=>204|338=>205|n=>n,fun|3=>3|9=>9|2=>2|4=>4|171=>203|0=>0|53=>204|37=>98|5=>5|173=>207|212=>213|51=>214|20=>20|213=>215|46=>212|232=>225|233=>226|n=>n,fun|17=>1|18=>2|19=>3|n=>n⟩
theorem Tryz.laysM171:Go.Proofs.LaysM.n171 Tryz.prog Tryz.laysM171_ren:={
 mixed:=by kernel_rfl
 f129:=Tryz.func195.trans (congrArg some (by kernel_rfl))
 f171:=Tryz.func141.trans (congrArg some (by kernel_rfl))
 f243:=Tryz.func165.trans (congrArg some (by kernel_rfl))
 f246:=Tryz.func173.trans (congrArg some (by kernel_rfl))
 f283:=Tryz.func179.trans (congrArg some (by kernel_rfl))
 f284:=Tryz.func180.trans (congrArg some (by kernel_rfl))
 f285:=Tryz.func181.trans (congrArg some (by kernel_rfl))
 f286:=Tryz.func182.trans (congrArg some (by kernel_rfl))
 f317:=Tryz.func194.trans (congrArg some (by kernel_rfl))
 f318:=Tryz.func196.trans (congrArg some (by kernel_rfl))
 f319:=Tryz.func197.trans (congrArg some (by kernel_rfl))
 f320:=Tryz.func198.trans (congrArg some (by kernel_rfl))
 f337:=Tryz.func204.trans (congrArg some (by kernel_rfl))
 f338:=Tryz.func205.trans (congrArg some (by kernel_rfl))
 t0:=Tryz.underlying0
 a0:=Tryz.isAgg0
 z0:=Tryz.sizeOf0
 v0:=Tryz.zeroValue0
 t2:=Tryz.underlying2
 a2:=Tryz.isAgg2
 z2:=Tryz.sizeOf2
 v2:=Tryz.zeroValue2
 t3:=Tryz.underlying3
 a3:=Tryz.isAgg3
 z3:=Tryz.sizeOf3
 v3:=Tryz.zeroValue3
 t4:=Tryz.underlying4
 a4:=Tryz.isAgg4
 z4:=Tryz.sizeOf4
 v4:=Tryz.zeroValue4
 t5:=Tryz.underlying5
 a5:=Tryz.isAgg5
 z5:=Tryz.sizeOf5
 v5:=Tryz.zeroValue5
 t9:=Tryz.underlying9
 a9:=Tryz.isAgg9
 z9:=Tryz.sizeOf9
 v9:=Tryz.zeroValue9
 t20:=Tryz.underlying20
 a20:=Tryz.isAgg20
 z20:=Tryz.sizeOf20
 v20:=Tryz.zeroValue20
 t37:=Tryz.underlying98
 a37:=Tryz.isAgg98
 z37:=Tryz.sizeOf98
 v37:=Tryz.zeroValue98
 t46:=Tryz.underlying212
 a46:=Tryz.isAgg212
 z46:=Tryz.sizeOf212
 v46:=Tryz.zeroValue212
 t51:=Tryz.underlying214
 a51:=Tryz.isAgg214
 z51:=Tryz.sizeOf214
 v51:=Tryz.zeroValue214
 t53:=Tryz.underlying204
 a53:=Tryz.isAgg204
 z53:=Tryz.sizeOf204
 v53:=Tryz.zeroValue204
 t171:=Tryz.underlying203
 a171:=Tryz.isAgg203
 z171:=Tryz.sizeOf203
 v171:=Tryz.zeroValue203
 t173:=Tryz.underlying207
 a173:=Tryz.isAgg207
 z173:=Tryz.sizeOf207
 v173:=Tryz.zeroValue207
 t212:=Tryz.underlying213
 a212:=Tryz.isAgg213
 z212:=Tryz.sizeOf213
 v212:=Tryz.zeroValue213
 t213:=Tryz.underlying215
 a213:=Tryz.isAgg215
 z213:=Tryz.sizeOf215
 t232:=Tryz.underlying225
 a232:=Tryz.isAgg225
 z232:=Tryz.sizeOf225
 v232:=Tryz.zeroValue225
 t233:=Tryz.underlying226
 a233:=Tryz.isAgg226
 z233:=Tryz.sizeOf226
 v233:=Tryz.zeroValue226
 g17:=by kernel_rfl
 g18:=by kernel_rfl
 g19:=by kernel_rfl
 i0:=by kernel_rfl
 i2:=by kernel_rfl
 i3:=by kernel_rfl
 i4:=by kernel_rfl
 i5:=by kernel_rfl
 i9:=by kernel_rfl
 i20:=by kernel_rfl
 i37:=by kernel_rfl
 i46:=by kernel_rfl
 i51:=by kernel_rfl
 i53:=by kernel_rfl
 i171:=by kernel_rfl
 i173:=by kernel_rfl
 i212:=by kernel_rfl
 i232:=by kernel_rfl
 i233:=by kernel_rfl
 m17:=by kernel_rfl
 m18:=by kernel_rfl
 m19:=by kernel_rfl}
open Go.RowKit Go.Sort Go.Lib in
theorem Tryz.strconv_Itoa(n:Int)(h0: -9223372036854775808≤n)(h1:n≤9223372036854775807)(w:World)(htab:Lib.TabIs Tryz.prog w "internal/strconv.uint64pow10" .u64 Lib.pow10Tab):
  Calls Tryz.prog 141 #[.int .i64 n] w fun e w'=>e= .returned (.string ⟨(Lib.itoa n).toArray⟩)∧∃k os,w'=grow (w.drewN k) os:=Any.strconv_Itoa Tryz.laysM171 n h0 h1 w htab
def Tryz.laysM316_ren:Go.Shelf.Ren:=⟨fun|316=>111|n=>n,fun|9=>9|3=>3|4=>4|37=>98|0=>0|127=>158|5=>5|n=>n,fun|n=>n⟩
theorem Tryz.laysM316:Go.Proofs.LaysM.n316 Tryz.prog Tryz.laysM316_ren:={
 mixed:=by kernel_rfl
 f316:=Tryz.func111.trans (congrArg some (by kernel_rfl))
 t0:=Tryz.underlying0
 a0:=Tryz.isAgg0
 z0:=Tryz.sizeOf0
 v0:=Tryz.zeroValue0
 t3:=Tryz.underlying3
 a3:=Tryz.isAgg3
 z3:=Tryz.sizeOf3
 v3:=Tryz.zeroValue3
 t4:=Tryz.underlying4
 a4:=Tryz.isAgg4
 z4:=Tryz.sizeOf4
 v4:=Tryz.zeroValue4
 t9:=Tryz.underlying9
 a9:=Tryz.isAgg9
 z9:=Tryz.sizeOf9
 v9:=Tryz.zeroValue9
 t37:=Tryz.underlying98
 a37:=Tryz.isAgg98
 z37:=Tryz.sizeOf98
 v37:=Tryz.zeroValue98
 t127:=Tryz.underlying158
 a127:=Tryz.isAgg158
 z127:=Tryz.sizeOf158
 v127:=Tryz.zeroValue158
 t5:=Tryz.underlying5
 a5:=Tryz.isAgg5
 z5:=Tryz.sizeOf5
 v5:=Tryz.zeroValue5
 i0:=by kernel_rfl
 i3:=by kernel_rfl
 i4:=by kernel_rfl
 i5:=by kernel_rfl
 i9:=by kernel_rfl
 i37:=by kernel_rfl
 i127:=by kernel_rfl}
open Go.RowKit in
theorem Tryz.stringslite_Clone(s:ByteArray)(w:World)(hlim:s.size≤281474976710656):
  Calls Tryz.prog 111 #[.string s] w fun e w'=>e= .returned (.string s)∧Below w.heap.size w w':=Any.stringslite_Clone Tryz.laysM316 s w hlim
def Tryz.lays219_ren:Go.Shelf.Ren:=⟨fun|219=>178|217=>190|225=>191|224=>192|267=>193|266=>202|314=>203|n=>n,fun|9=>9|3=>3|4=>4|5=>5|46=>212|146=>221|51=>214|n=>n,fun|1=>0|n=>n⟩
theorem Tryz.lays219:Go.Proofs.Lays.n219 Tryz.prog Tryz.lays219_ren:={
 mixed:=by kernel_rfl
 f217:=Tryz.func190.trans (congrArg some (by kernel_rfl))
 f219:=Tryz.func178.trans (congrArg some (by kernel_rfl))
 f224:=Tryz.func192.trans (congrArg some (by kernel_rfl))
 f225:=Tryz.func191.trans (congrArg some (by kernel_rfl))
 f266:=Tryz.func202.trans (congrArg some (by kernel_rfl))
 f267:=Tryz.func193.trans (congrArg some (by kernel_rfl))
 f314:=Tryz.func203.trans (congrArg some (by kernel_rfl))
 t3:=Tryz.underlying3
 a3:=Tryz.isAgg3
 z3:=Tryz.sizeOf3
 v3:=Tryz.zeroValue3
 t4:=Tryz.underlying4
 a4:=Tryz.isAgg4
 z4:=Tryz.sizeOf4
 v4:=Tryz.zeroValue4
 t5:=Tryz.underlying5
 a5:=Tryz.isAgg5
 z5:=Tryz.sizeOf5
 v5:=Tryz.zeroValue5
 t9:=Tryz.underlying9
 a9:=Tryz.isAgg9
 z9:=Tryz.sizeOf9
 v9:=Tryz.zeroValue9
 t46:=Tryz.underlying212
 a46:=Tryz.isAgg212
 z46:=Tryz.sizeOf212
 v46:=Tryz.zeroValue212
 t51:=Tryz.underlying214
 a51:=Tryz.isAgg214
 z51:=Tryz.sizeOf214
 v51:=Tryz.zeroValue214
 t146:=Tryz.underlying221
 a146:=Tryz.isAgg221
 z146:=Tryz.sizeOf221
 v146:=Tryz.zeroValue221
 g1:=by kernel_rfl}
open Go.RowKit Go.Lib in
theorem Tryz.stringslite_Index_one(s:ByteArray)(c:UInt8)(w:World):
  Calls Tryz.prog 178 #[.string s,.string ⟨#[c]⟩] w fun e w'=>e= .returned (.int .i64 (Lib.indexByte s.data.toList c))∧w'=w:=Any.stringslite_Index_one Tryz.lays219 s c w
def Tryz.lays189_ren:Go.Shelf.Ren:=⟨fun|189=>199|125=>207|257=>206|128=>217|129=>195|294=>208|295=>209|296=>210|297=>211|298=>212|299=>213|216=>214|300=>215|301=>216|328=>218|329=>219|330=>220|331=>221|332=>222|215=>223|343=>224|n=>n,fun|28=>23|3=>3|46=>212|0=>0|51=>214|53=>204|4=>4|183=>229|182=>228|131=>37|5=>5|9=>9|218=>235|222=>239|228=>241|229=>242|n=>n,fun|n=>n⟩
theorem Tryz.lays189:Go.Proofs.Lays.n189 Tryz.prog Tryz.lays189_ren:={
 mixed:=by kernel_rfl
 f125:=Tryz.func207.trans (congrArg some (by kernel_rfl))
 f128:=Tryz.func217.trans (congrArg some (by kernel_rfl))
 f129:=Tryz.func195.trans (congrArg some (by kernel_rfl))
 f189:=Tryz.func199.trans (congrArg some (by kernel_rfl))
 f215:=Tryz.func223.trans (congrArg some (by kernel_rfl))
 f216:=Tryz.func214.trans (congrArg some (by kernel_rfl))
 f257:=Tryz.func206.trans (congrArg some (by kernel_rfl))
 f294:=Tryz.func208.trans (congrArg some (by kernel_rfl))
 f295:=Tryz.func209.trans (congrArg some (by kernel_rfl))
 f296:=Tryz.func210.trans (congrArg some (by kernel_rfl))
 f297:=Tryz.func211.trans (congrArg some (by kernel_rfl))
 f298:=Tryz.func212.trans (congrArg some (by kernel_rfl))
 f299:=Tryz.func213.trans (congrArg some (by kernel_rfl))
 f300:=Tryz.func215.trans (congrArg some (by kernel_rfl))
 f301:=Tryz.func216.trans (congrArg some (by kernel_rfl))
 f328:=Tryz.func218.trans (congrArg some (by kernel_rfl))
 f329:=Tryz.func219.trans (congrArg some (by kernel_rfl))
 f330:=Tryz.func220.trans (congrArg some (by kernel_rfl))
 f331:=Tryz.func221.trans (congrArg some (by kernel_rfl))
 f332:=Tryz.func222.trans (congrArg some (by kernel_rfl))
 f343:=Tryz.func224.trans (congrArg some (by kernel_rfl))
 t0:=Tryz.underlying0
 a0:=Tryz.isAgg0
 z0:=Tryz.sizeOf0
 v0:=Tryz.zeroValue0
 t3:=Tryz.underlying3
 a3:=Tryz.isAgg3
 z3:=Tryz.sizeOf3
 v3:=Tryz.zeroValue3
 t4:=Tryz.underlying4
 a4:=Tryz.isAgg4
 z4:=Tryz.sizeOf4
 v4:=Tryz.zeroValue4
 t5:=Tryz.underlying5
 a5:=Tryz.isAgg5
 z5:=Tryz.sizeOf5
 v5:=Tryz.zeroValue5
 t9:=Tryz.underlying9
 a9:=Tryz.isAgg9
 z9:=Tryz.sizeOf9
 v9:=Tryz.zeroValue9
 t28:=Tryz.underlying23
 a28:=Tryz.isAgg23
 z28:=Tryz.sizeOf23
 v28:=Tryz.zeroValue23
 t46:=Tryz.underlying212
 a46:=Tryz.isAgg212
 z46:=Tryz.sizeOf212
 v46:=Tryz.zeroValue212
 t51:=Tryz.underlying214
 a51:=Tryz.isAgg214
 z51:=Tryz.sizeOf214
 v51:=Tryz.zeroValue214
 t53:=Tryz.underlying204
 a53:=Tryz.isAgg204
 z53:=Tryz.sizeOf204
 v53:=Tryz.zeroValue204
 t131:=Tryz.underlying37
 a131:=Tryz.isAgg37
 z131:=Tryz.sizeOf37
 v131:=Tryz.zeroValue37
 t182:=Tryz.underlying228
 a182:=Tryz.isAgg228
 z182:=Tryz.sizeOf228
 v182:=Tryz.zeroValue228
 t183:=Tryz.underlying229
 a183:=Tryz.isAgg229
 z183:=Tryz.sizeOf229
 v183:=Tryz.zeroValue229
 t218:=Tryz.underlying235
 a218:=Tryz.isAgg235
 z218:=Tryz.sizeOf235
 v218:=Tryz.zeroValue235
 t222:=Tryz.underlying239
 a222:=Tryz.isAgg239
 z222:=Tryz.sizeOf239
 v222:=Tryz.zeroValue239
 t228:=Tryz.underlying241
 a228:=Tryz.isAgg241
 z228:=Tryz.sizeOf241
 v228:=Tryz.zeroValue241
 t229:=Tryz.underlying242
 a229:=Tryz.isAgg242
 z229:=Tryz.sizeOf242
 v229:=Tryz.zeroValue242}
open Go.Sort Go.RowKit in
theorem Tryz.slices_Sort_int(blk off cap:Nat)(zs:List Int)(w:World)(hH:Holds (Value.int .i64) w blk off zs.toArray)(hblk:blk<w.heap.size)(hsz:zs.length<4611686018427387904):
  Calls Tryz.prog 199 #[.slice (some ⟨blk,off,none⟩) zs.length cap] w fun e w'=>
   e= .returned (.tuple #[])∧∃n os,w'=grow (putRow (Value.int .i64) (Sort.ahead w n) blk off (zs.mergeSort fun x y=>decide (x≤y)).toArray) os:=Any.slices_Sort_int Tryz.lays189 blk off cap zs w hH hblk hsz
end Go.Proofs

namespace Go.Proofs.YtfekhbeaphpelaaGreatDoor
open Go.RowKit Go.Lib
set_option linter.unusedVariables false
set_option linter.unusedSimpArgs false
def wit(a l h:Int):Bool:=decide (l≤a∧a≤h)
theorem within_any(a l h:Int)(w:World):
  Calls Tryz.prog 164 #[.int .i64 a,.int .i64 l,.int .i64 h] w fun e w'=>e= .returned (.bool (wit a l h))∧w=w':=by
 by_cases h1:l≤a<;>by_cases h2:a≤h
 all_goals
  go_enter Tryz.func164,Tryz.ntmps164
  go_wp2
  all_goals
   go_ret
   exact⟨ret_bool (by unfold wit;rw[eq_comm];first|exact decide_eq_true (by omega)|exact decide_eq_false (by omega)),rfl⟩
theorem right_any(a:Int)(w:World):
  Calls Tryz.prog 140 #[.int .i64 a] w fun e w'=>e= .returned (.bool (rt a))∧w=w':=by
 by_cases h1: -1000000000000≤a<;>by_cases h2:a≤1000000000000
 all_goals
  go_enter Tryz.func140,Tryz.ntmps140
  go_wp2
  all_goals
   go_ret
   exact⟨ret_bool (by unfold rt;rw[eq_comm];first|exact decide_eq_true (by omega)|exact decide_eq_false (by omega)),rfl⟩
theorem digs_no(most acc:Int)(c:UInt8)(t:List UInt8)(h:c.toNat<48∨57<c.toNat):digs most (c::t) acc= -1:=by
 unfold digs
 rw[if_neg]
 simp[isD];omega
theorem digs_big(most acc:Int)(c:UInt8)(t:List UInt8)(h:48≤c.toNat)(h':c.toNat≤57)(hm:most<acc*10+((c.toNat:Int)-48)):digs most (c::t) acc= -1:=by
 unfold digs
 rw[if_pos (isD_iff.2 ⟨h,h'⟩),if_pos hm]
theorem digs_go(most acc:Int)(c:UInt8)(t:List UInt8)(h:48≤c.toNat)(h':c.toNat≤57)(hm:acc*10+((c.toNat:Int)-48)≤most):digs most (c::t) acc=digs most t (acc*10+((c.toNat:Int)-48)):=by
 conv=>lhs;unfold digs
 rw[if_pos (isD_iff.2 ⟨h,h'⟩),if_neg (by omega)]
theorem digits_prog(s:ByteArray)(most:Int)(hm:most≤1000000000000)(w0 w:World)(hr:Rel w0 w):
  Calls Tryz.prog 158 #[.string s,.int .i64 most] w fun e w'=>e= .returned (.int .i64 (digs most s.data.toList 0))∧Rel w0 w':=by
 go_enter Tryz.func158,Tryz.ntmps158
 go_wp2
 go_loopw [5] (fun n w'=>∃(pos:Nat) (acc:Int),w'=w.iter s pos∧n= .int .i64 acc∧0≤acc∧acc≤1000000000000∧Hid (digs most (s.data.toList.drop pos) acc=digs most s.data.toList 0)) (fun _ w'=>s.size-w'.iterPos w.heap.size)
 case atStart=>exact⟨0,0,rfl,rfl,by omega,by omega,yH rfl⟩
 case round=>
  obtain⟨pos,acc,rfl,rfl,h0,h1,HH⟩:=hrel
  by_cases hp:pos<s.size
  ·by_cases ha:(s[pos]'hp).toNat<128
   ·obtain⟨c,hc⟩:∃c,c=s[pos]'hp:=⟨_,rfl⟩
    have hnx:∀ty,(Instr.next (.pointer (some ⟨w.heap.size,0,none⟩)) true ty).run Tryz.prog (w.iter s pos)= .ok (.tuple #[.bool true,.int .i64 pos,.int .i32 (c.toNat:Int)]) (w.iter s (pos+1)):=fun ty=>by rw[hc];exact run_next_ascii w s pos ty hp ha
    have HD:=yH (drop_step s pos hp)
    rw[←hc] at HD
    have ha':c.toNat<128:=by rw[hc];exact ha
    clear hc
    generalize hk:c.toNat=k at hnx ha'
    have HK:=yH hk
    clear hk ha
    by_cases g1:k<48
    ·go_wp2
     go_ret
     exact⟨ret_int (by rw[←HH.out,HD.out,digs_no _ _ _ _ (.inl (by rw[HK.out];exact g1))]),hr.alloc _⟩
    ·by_cases g2:57<k
     ·go_wp2
      go_ret
      exact⟨ret_int (by rw[←HH.out,HD.out,digs_no _ _ _ _ (.inr (by rw[HK.out];exact g2))]),hr.alloc _⟩
     ·by_cases g3:most<acc*10+((k:Int)-48)
      ·go_wp2
       go_ret
       exact⟨ret_int (by rw[←HH.out,HD.out,digs_big _ _ _ _ (by rw[HK.out];omega) (by rw[HK.out];omega) (by rw[HK.out];exact g3)]),hr.alloc _⟩
      ·go_wp2
       go_roundw
       case rel=>
           exact⟨pos+1,acc*10+((k:Int)-48),rfl,rfl,by omega,by omega,yH (by rw[←HH.out,HD.out,digs_go _ _ _ _ (by rw[HK.out];omega) (by rw[HK.out];omega) (by rw[HK.out];omega),HK.out])⟩
       case measure=>
           simp
           omega
   ·have hh:=(decode_high s pos hp (by omega)).1
    have HN:=yH (digs_no most acc (s[pos]'hp) (s.data.toList.drop (pos+1)) (.inr (by omega)))
    have HD:=yH (drop_step s pos hp)
    have hnx:∀ty,(Instr.next (.pointer (some ⟨w.heap.size,0,none⟩)) true ty).run Tryz.prog (w.iter s pos)=_:=fun ty=>run_next_any w s pos ty hp
    generalize (Utf8.decode s pos).1=k at hh hnx
    clear ha
    have hh2: ¬k<48:=by omega
    have hh3:57<k:=by omega
    go_wp2
    go_ret
    exact⟨ret_int (by rw[←HH.out,HD.out,HN.out]),hr.alloc _⟩
  ·have hnx:∀ty,(Instr.next (.pointer (some ⟨w.heap.size,0,none⟩)) true ty).run Tryz.prog (w.iter s pos)=_:=fun ty=>run_next_end w s pos ty hp
   have HD:=yH (drop_end s pos hp)
   go_wp2
   go_ret
   exact⟨ret_int (by rw[←HH.out,HD.out];rfl),hr.alloc _⟩
theorem cnt_digs(c:UInt8)(t:List UInt8)(most:Int)(h:t.length=0∨c.toNat≠48):digs (min most 1000000000000) (B (c::t)).data.toList 0=cnt (c::t) most:=by
 rw[B_list]
 refine cnt_prog _ _ rfl ?_
 rcases h with h|h
 ·left;simp[h]
 ·right;intro e;simp at e;exact h (by rw[e];rfl)
theorem count_list(l:List UInt8)(most:Int)(hl:l.length≤9223372036854775807)(w0 w:World)(hr:Rel w0 w):
  Calls Tryz.prog 131 #[.string (B l),.int .i64 most] w fun e w'=>e= .returned (.int .i64 (cnt l most))∧Rel w0 w':=by
 cases l with
 |nil=>
  have HT:=B_toList []
  go_enter Tryz.func131,Tryz.ntmps131
  go_wp2_with (fail)
  go_ret
  exact⟨ret_int (cnt_no (.inl rfl)).symm,hr⟩
 |cons c t=>
  have HT:=B_toList (c::t)
  have HB:=B_size (c::t)
  have H0:=B_zero c t
  go_enter Tryz.func131,Tryz.ntmps131
  go_wp2_with ((go_at_call 158;(with_reducible refine(digits_prog _ _ (by omega) _ _ hr).mono ?_);rintro e w' ⟨rfl,hr'⟩))
  ·have h1:1<(t.length:Int)+1:=by assumption
   have h2:((c.toNat:Int)==48)=true:=by assumption
   have h3:c=48:=UInt8.toNat_inj.1 (by rw[show(48:UInt8).toNat=48 from rfl];simp only[beq_iff_eq] at h2;omega)
   go_ret
   exact⟨ret_int (cnt_no (.inr ⟨by simp;omega,by rw[h3];rfl⟩)).symm,hr⟩
  ·have h2:((c.toNat:Int)==48)=false:=by assumption
   go_ret
   exact⟨ret_int (cnt_digs c t most (.inr (by simp only[beq_eq_false_iff_ne] at h2;omega))),by assumption⟩
  ·have h1:(t.length:Int)+1≤1:=by assumption
   go_ret
   exact⟨ret_int (cnt_digs c t most (.inl (by omega))),by assumption⟩
theorem count_any(s:ByteArray)(most:Int)(hl:s.size≤9223372036854775807)(w0 w:World)(hr:Rel w0 w):
  Calls Tryz.prog 131 #[.string s,.int .i64 most] w fun e w'=>e= .returned (.int .i64 (cnt s.data.toList most))∧Rel w0 w':=by
 have:=count_list s.data.toList most (by simpa using hl) w0 w hr
 rwa [B_of] at this
theorem pair_any(s:ByteArray)(w0 w:World)(hr:Rel w0 w):
  Calls Tryz.prog 161 #[.string s] w fun e w'=>e= .returned (.int .i64 (pair s.data.toList))∧Rel w0 w':=by
 have hL:s.data.toList.length=s.size:=by simp
 by_cases h:s.size=2
 ·have HS:=yH (show digs 99 s.data.toList 0=pair s.data.toList by unfold pair;rw[if_pos (by omega)])
  have h':((s.size:Int) !=2)=false:=by simp[h]
  clear h hL
  go_enter Tryz.func161,Tryz.ntmps161
  go_wp2_with ((go_at_call 158;(with_reducible refine(digits_prog _ _ (by omega) _ _ hr).mono ?_);rintro e w' ⟨rfl,hr'⟩))
  go_ret
  exact⟨ret_int HS.out,by assumption⟩
 ·have HS:=yH (pair_no (l:=s.data.toList) (by omega))
  have h':((s.size:Int) !=2)=true:=by simp;omega
  clear h hL
  go_enter Tryz.func161,Tryz.ntmps161
  go_wp2_with (fail)
  go_ret
  exact⟨ret_int HS.out.symm,hr⟩
def dot:ByteArray:=⟨#[46]⟩
def cutA(s:ByteArray):List UInt8:=(cut s.data.toList [46]).1
def cutB(s:ByteArray):List UInt8:=(cut s.data.toList [46]).2.1
def cutC(s:ByteArray):Bool:=(cut s.data.toList [46]).2.2
theorem ret_ssb{a a' b b':ByteArray}{c c':Bool}(h:a=a')(h':b=b')(h'':c=c'):Ending.returned (.tuple #[.string a,.string b,.bool c])=Ending.returned (.tuple #[.string a',.string b',.bool c']):=by rw[h,h',h'']
theorem lcut_any(s:ByteArray)(hl:s.size≤9223372036854775807)(w0 w:World)(hr:Rel w0 w):
  Calls Tryz.prog 171 #[.string s,.string ⟨#[46]⟩] w fun e w'=>e= .returned (.tuple #[.string (B (cutA s)),.string (B (cutB s)),.bool (cutC s)])∧Rel w0 w':=by
 have ei:Lib.indexByte s.data.toList 46=Lib.indexB s dot:=(Lib.index_one s.data.toList 46).symm
 rcases Lib.indexB_cases s dot with hix|⟨i,hix,hroom⟩
 ·obtain⟨e1,e2,e3⟩:=Lib.cutB_miss s dot hix
  have f1:=yH (show s=B (cutA s) from e1.symm)
  have f2:=yH (show(⟨#[]⟩:ByteArray)=B (cutB s) from e2.symm)
  have f3:=yH (show false=cutC s from e3.symm)
  have hix':=yH (ei.trans hix)
  clear e1 e2 e3 ei hix
  go_enter Tryz.func171,Tryz.ntmps171
  go_wp2_with ((go_at_call 178;refine(int_at (R:=fun w'=>w'=_) (-1) (Tryz.stringslite_Index_one s 46 _) hix').mono ?_;rintro e w' ⟨rfl,rfl⟩))
  go_ret3
  exact⟨ret_ssb f1.out f2.out f3.out,hr⟩
 ·obtain⟨e1,e2,e3⟩:=Lib.cutB_hit s dot i hix
  have f1:=yH (show s.extract 0 i=B (cutA s) from e1.symm)
  have f2:=yH (show s.extract (i+1) s.size=B (cutB s) from e2.symm)
  have f3:=yH (show true=cutC s from e3.symm)
  have hix':=yH (ei.trans hix)
  have hd:dot.size=1:=rfl
  rw[hd] at hroom
  have c1:(0:Int)≤↑i:=by omega
  have c2:(↑i:Int)≤↑s.size:=by omega
  have c3:(0:Int)≤↑i+1:=by omega
  have c4:(↑i+1:Int)≤↑s.size:=by omega
  clear e1 e2 e3 ei hix hd
  have c5:IntKind.i64.wrap ((i:Int)+1)=(i:Int)+1:=IntWalk.i64_in _ (by omega)
  have c6:((i:Int)+1).toNat=i+1:=by omega
  go_enter Tryz.func171,Tryz.ntmps171
  go_wp2_with ((go_at_call 178;refine(int_at (R:=fun w'=>w'=_) (i:Int) (Tryz.stringslite_Index_one s 46 _) hix').mono ?_;rintro e w' ⟨rfl,rfl⟩))
  go_region
  go_wp2
  go_ret3
  exact⟨ret_ssb f1.out f2.out f3.out,hr.drew⟩
theorem cut_any(s:ByteArray)(hl:s.size≤9223372036854775807)(w0 w:World)(hr:Rel w0 w):
  Calls Tryz.prog 160 #[.string s,.string ⟨#[46]⟩] w fun e w'=>e= .returned (.tuple #[.string (B (cutA s)),.string (B (cutB s)),.bool (cutC s)])∧Rel w0 w':=by
 go_enter Tryz.func160,Tryz.ntmps160
 go_wp2_with ((go_at_call 171;(with_reducible refine(lcut_any _ hl _ _ hr).mono ?_);rintro e w' ⟨rfl,hr'⟩))
 go_ret3
 exact⟨ret_ssb rfl rfl rfl,hr'⟩
theorem trim_body(l:List UInt8):trimPrefix l [45]=body l∧hasPrefix l [45]=negL l:=by
 unfold trimPrefix hasPrefix body negL
 cases l with
 |nil=>exact⟨rfl,rfl⟩
 |cons c t=>
  by_cases h:c=45
  ·subst h;exact⟨rfl,rfl⟩
  ·have h1:((45:UInt8)==c)=false:=by simp[Ne.symm h]
   have h2:(c==(45:UInt8))=false:=by simp[h]
   simp[List.isPrefixOf,h1,h]
def bd(s:ByteArray):ByteArray:=B (body s.data.toList)
theorem bd_size(s:ByteArray):(bd s).size≤s.size:=by
 unfold bd body
 rw[B_size]
 have:s.data.toList.length=s.size:=by simp
 split
 ·rw[List.length_tail];omega
 ·omega
theorem cutp_any(s:ByteArray)(b:Bool)(hb:Hid (negL s.data.toList=b))(w0 w:World)(hr:Rel w0 w):
  Calls Tryz.prog 159 #[.string s,.string ⟨#[45]⟩] w fun e w'=>e= .returned (.tuple #[.string (bd s),.bool b])∧Rel w0 w':=by
 refine(Tryz.strings_CutPrefix s ⟨#[45]⟩ w).mono ?_
 rintro e w' ⟨rfl,rfl⟩
 obtain⟨h1,h2⟩:=trim_body s.data.toList
 refine⟨?_,hr⟩
 show Ending.returned (.tuple #[.string ⟨(trimPrefix s.data.toList [45]).toArray⟩,.bool (hasPrefix s.data.toList [45])])=_
 rw[h1,h2,hb.out]
 rfl
theorem cutA_size(s:ByteArray):(B (cutA s)).size≤s.size:=by
 rw[B_size]
 unfold cutA
 have hl:s.data.toList.length=s.size:=by simp
 unfold cut
 split
 ·rw[List.length_take];omega
 ·show s.data.toList.length≤s.size;omega
theorem parse_no{l:List UInt8}(h:cnt (cut (body l) [46]).1 10000000000<0∨pair (cut (body l) [46]).2.1<0):0=prs1 l∧20=prs2 l:=by
 unfold prs1 prs2;rw[prog_no h];exact⟨rfl,rfl⟩
theorem parse_yes{l:List UInt8}{h c:Int}{b:Bool}(e1:cnt (cut (body l) [46]).1 10000000000=h)(e2:pair (cut (body l) [46]).2.1=c)(h0:0≤h)(c0:0≤c)(eb:negL l=b):
  ((1000000000000<h*100+c∨(b=true∧h*100+c=0))→0=prs1 l∧20=prs2 l)∧((h*100+c≤1000000000000∧ ¬(b=true∧h*100+c=0))→(if b then -(h*100+c) else h*100+c)=prs1 l∧0=prs2 l):=by
 have:=prog_yes (l:=l) (by rw[e1];exact h0) (by rw[e2];exact c0)
 rw[e1,e2,eb] at this
 unfold prs1 prs2
 rw[this]
 unfold fin
 constructor
 ·intro hh
  simp only[if_pos hh]
  exact⟨rfl,rfl⟩
 ·intro hh
  have hn: ¬(1000000000000<h*100+c∨(b=true∧h*100+c=0)):=fun x=>x.elim (fun y=>by omega) hh.2
  simp only[if_neg hn]
  exact⟨rfl,rfl⟩
theorem parse_any(s:ByteArray)(hl:s.size≤9223372036854775807)(w0 w:World)(hr:Rel w0 w):
  Calls Tryz.prog 132 #[.string s] w fun e w'=>Two e (prs1 s.data.toList) (prs2 s.data.toList)∧Rel w0 w':=by
 obtain⟨b,hb⟩:∃b,negL s.data.toList=b:=⟨_,rfl⟩
 obtain⟨h,he1⟩:∃h,cnt (cut (body s.data.toList) [46]).1 10000000000=h:=⟨_,rfl⟩
 obtain⟨c,he2⟩:∃c,pair (cut (body s.data.toList) [46]).2.1=c:=⟨_,rfl⟩
 have hbd:=cnt_bd (cut (body s.data.toList) [46]).1 10000000000
 have cbd:=pair_bd (cut (body s.data.toList) [46]).2.1
 rw[he1] at hbd
 rw[he2] at cbd
 have h1: -1≤h:=by omega
 have h2:h≤10000000000:=by omega
 have c1: -1≤c:=by omega
 have c2:c≤99:=by omega
 have HB:=yH hb
 have HE1:=yH (show cnt (B (cutA (bd s))).data.toList 10000000000=h by rw[B_list];unfold cutA bd;rw[B_list];exact he1)
 have HE2:=yH (show pair (B (cutB (bd s))).data.toList=c by rw[B_list];unfold cutB bd;rw[B_list];exact he2)
 have z1:=bd_size s
 have z2:=cutA_size (bd s)
 have HN:=yH (parse_no (l:=s.data.toList))
 rw[he1,he2] at HN
 have HY:0≤h→0≤c→_:=fun x y=>parse_yes he1 he2 x y hb
 have HY:=yH HY
 clear hbd cbd he1 he2 hb
 by_cases h0:h<0
 ·go_enter Tryz.func132,Tryz.ntmps132
  go_wp2_with (first|(go_at_call 159;(with_reducible refine(cutp_any _ b HB _ _ hr).mono ?_);rintro e w' ⟨rfl,hr'⟩)|(go_at_call 160;(with_reducible refine(cut_any _ (by omega) _ _ (by assumption)).mono ?_);rintro e w' ⟨rfl,hr'⟩)|(go_at_call 131;(with_reducible refine(int_at h (count_any _ _ (by omega) _ _ (by assumption)) HE1).mono ?_);rintro e w' ⟨rfl,hr'⟩)|(go_at_call 161;(with_reducible refine(int_at c (pair_any _ _ _ (by assumption)) HE2).mono ?_);rintro e w' ⟨rfl,hr'⟩))
  go_ret2
  exact⟨ret_two (HN.out (.inl h0)).1 (HN.out (.inl h0)).2,by assumption⟩
 ·by_cases c0:c<0
  ·go_enter Tryz.func132,Tryz.ntmps132
   go_wp2_with (first|(go_at_call 159;(with_reducible refine(cutp_any _ b HB _ _ hr).mono ?_);rintro e w' ⟨rfl,hr'⟩)|(go_at_call 160;(with_reducible refine(cut_any _ (by omega) _ _ (by assumption)).mono ?_);rintro e w' ⟨rfl,hr'⟩)|(go_at_call 131;(with_reducible refine(int_at h (count_any _ _ (by omega) _ _ (by assumption)) HE1).mono ?_);rintro e w' ⟨rfl,hr'⟩)|(go_at_call 161;(with_reducible refine(int_at c (pair_any _ _ _ (by assumption)) HE2).mono ?_);rintro e w' ⟨rfl,hr'⟩))
   go_ret2
   exact⟨ret_two (HN.out (.inr c0)).1 (HN.out (.inr c0)).2,by assumption⟩
  ·have HY2:=yH (HY.out (by omega) (by omega))
   clear HY HN
   obtain⟨a,ha⟩:∃a,a=h*100+c:=⟨_,rfl⟩
   rw[←ha] at HY2
   have a0:0≤a:=by omega
   have a1:a≤1000000000099:=by omega
   by_cases hbig:1000000000000<a
   ·have HR:=yH (show rt (h*100+c)=false by rw[←ha];exact rt_no (.inr hbig))
    have h3:0≤h:=by omega
    have c3:0≤c:=by omega
    have HH:=yH (HY2.out.1 (.inl hbig))
    clear ha h0 c0
    go_enter Tryz.func132,Tryz.ntmps132
    go_wp2_with (first|(go_at_call 159;(with_reducible refine(cutp_any _ b HB _ _ hr).mono ?_);rintro e w' ⟨rfl,hr'⟩)|(go_at_call 160;(with_reducible refine(cut_any _ (by omega) _ _ (by assumption)).mono ?_);rintro e w' ⟨rfl,hr'⟩)|(go_at_call 131;(with_reducible refine(int_at h (count_any _ _ (by omega) _ _ (by assumption)) HE1).mono ?_);rintro e w' ⟨rfl,hr'⟩)|(go_at_call 161;(with_reducible refine(int_at c (pair_any _ _ _ (by assumption)) HE2).mono ?_);rintro e w' ⟨rfl,hr'⟩)|(go_at_call 140;(with_reducible refine(bool_at false (right_any _ _) HR).mono ?_);rintro e w' ⟨rfl,rfl⟩))
    go_ret2
    exact⟨ret_two HH.out.1 HH.out.2,by assumption⟩
   ·have HR:=yH (show rt (h*100+c)=true by rw[←ha];exact rt_yes (by omega) (by omega))
    have bb:h*100+c≤1000000000000:=by omega
    rw[ha] at HY2
    clear ha hbig a0 a1
    cases b
    ·have HH:=yH (HY2.out.2 ⟨bb,by simp⟩)
     have h3:0≤h:=by omega
     have c3:0≤c:=by omega
     clear HY2 h0 c0
     go_enter Tryz.func132,Tryz.ntmps132
     go_wp2_with (first|(go_at_call 159;(with_reducible refine(cutp_any _ false HB _ _ hr).mono ?_);rintro e w' ⟨rfl,hr'⟩)|(go_at_call 160;(with_reducible refine(cut_any _ (by omega) _ _ (by assumption)).mono ?_);rintro e w' ⟨rfl,hr'⟩)|(go_at_call 131;(with_reducible refine(int_at h (count_any _ _ (by omega) _ _ (by assumption)) HE1).mono ?_);rintro e w' ⟨rfl,hr'⟩)|(go_at_call 161;(with_reducible refine(int_at c (pair_any _ _ _ (by assumption)) HE2).mono ?_);rintro e w' ⟨rfl,hr'⟩)|(go_at_call 140;(with_reducible refine(bool_at true (right_any _ _) HR).mono ?_);rintro e w' ⟨rfl,rfl⟩))
     go_ret2
     exact⟨ret_two HH.out.1 HH.out.2,by assumption⟩
    ·by_cases hz:h*100+c=0
     ·have HH:=yH (HY2.out.1 (.inr ⟨rfl,hz⟩))
      have hz':((h*100+c:Int)==0)=true:=by simpa using hz
      clear hz
      have h3:0≤h:=by omega
      have c3:0≤c:=by omega
      clear HY2 h0 c0
      go_enter Tryz.func132,Tryz.ntmps132
      go_wp2_with (first|(go_at_call 159;(with_reducible refine(cutp_any _ true HB _ _ hr).mono ?_);rintro e w' ⟨rfl,hr'⟩)|(go_at_call 160;(with_reducible refine(cut_any _ (by omega) _ _ (by assumption)).mono ?_);rintro e w' ⟨rfl,hr'⟩)|(go_at_call 131;(with_reducible refine(int_at h (count_any _ _ (by omega) _ _ (by assumption)) HE1).mono ?_);rintro e w' ⟨rfl,hr'⟩)|(go_at_call 161;(with_reducible refine(int_at c (pair_any _ _ _ (by assumption)) HE2).mono ?_);rintro e w' ⟨rfl,hr'⟩)|(go_at_call 140;(with_reducible refine(bool_at true (right_any _ _) HR).mono ?_);rintro e w' ⟨rfl,rfl⟩))
      go_ret2
      exact⟨ret_two HH.out.1 HH.out.2,by assumption⟩
     ·have HH:=yH (HY2.out.2 ⟨bb,fun x=>hz x.2⟩)
      have hz':((h*100+c:Int)==0)=false:=by simpa using hz
      clear hz
      have h3:0≤h:=by omega
      have c3:0≤c:=by omega
      clear HY2 h0 c0
      go_enter Tryz.func132,Tryz.ntmps132
      go_wp2_with (first|(go_at_call 159;(with_reducible refine(cutp_any _ true HB _ _ hr).mono ?_);rintro e w' ⟨rfl,hr'⟩)|(go_at_call 160;(with_reducible refine(cut_any _ (by omega) _ _ (by assumption)).mono ?_);rintro e w' ⟨rfl,hr'⟩)|(go_at_call 131;(with_reducible refine(int_at h (count_any _ _ (by omega) _ _ (by assumption)) HE1).mono ?_);rintro e w' ⟨rfl,hr'⟩)|(go_at_call 161;(with_reducible refine(int_at c (pair_any _ _ _ (by assumption)) HE2).mono ?_);rintro e w' ⟨rfl,hr'⟩)|(go_at_call 140;(with_reducible refine(bool_at true (right_any _ _) HR).mono ?_);rintro e w' ⟨rfl,rfl⟩))
      go_ret2
      exact⟨ret_two HH.out.1 HH.out.2,by assumption⟩
theorem lletter_any(c:UInt8)(w:World):Calls Tryz.prog 143 #[.int .u8 (c.toNat:Int)] w fun e w'=>e= .returned (.bool (isL c))∧w=w':=by
 by_cases h1:97≤c.toNat<;>by_cases h2:c.toNat≤122
 all_goals
  go_enter Tryz.func143,Tryz.ntmps143
  go_wp2
  all_goals
   go_ret
   exact⟨ret_bool (Bool.eq_iff_iff.2 (by simp[isL];omega)),rfl⟩
theorem ldigit_any(c:UInt8)(w:World):Calls Tryz.prog 144 #[.int .u8 (c.toNat:Int)] w fun e w'=>e= .returned (.bool (isD c))∧w=w':=by
 by_cases h1:48≤c.toNat<;>by_cases h2:c.toNat≤57
 all_goals
  go_enter Tryz.func144,Tryz.ntmps144
  go_wp2
  all_goals
   go_ret
   exact⟨ret_bool (Bool.eq_iff_iff.2 (by simp[isD];omega)),rfl⟩
theorem pt_bytes(c:UInt8):isPt c=(isL c||isD c||((c.toNat:Int)==46)):=by
 rw[byte_eq (d:=46) 46 rfl];rfl
theorem lpart_any(c:UInt8)(w:World):Calls Tryz.prog 133 #[.int .u8 (c.toNat:Int)] w fun e w'=>e= .returned (.bool (isPt c))∧w=w':=by
 have hp:=pt_bytes c
 cases hl:isL c<;>cases hd:isD c<;>cases h3:((c.toNat:Int)==46)
 all_goals
  rw[hl,hd,h3] at hp
  have HP:=yH hp
  have HL:=yH hl
  have HD:=yH hd
  clear hp hl hd
  go_enter Tryz.func133,Tryz.ntmps133
  go_wp2_with (first
   |(go_at_call 143;(with_reducible refine(bool_at _ (lletter_any c _) HL).mono ?_);rintro e w' ⟨rfl,rfl⟩)
   |(go_at_call 144;(with_reducible refine(bool_at _ (ldigit_any c _) HD).mono ?_);rintro e w' ⟨rfl,rfl⟩))
  go_ret
  exact⟨ret_bool HP.out.symm,rfl⟩
theorem lsign_any(c:UInt8)(w:World):Calls Tryz.prog 129 #[.int .u8 (c.toNat:Int)] w fun e w'=>e= .returned (.bool (isSg c))∧w=w':=by
 have hp:=sg_bytes c
 cases h1:((c.toNat:Int)==40)<;>cases h2:((c.toNat:Int)==41)<;>cases h3:((c.toNat:Int)==44)
 all_goals
  rw[h1,h2,h3] at hp
  have HP:=yH hp
  clear hp
  go_enter Tryz.func129,Tryz.ntmps129
  go_wp2_with (fail)
  go_ret
  exact⟨ret_bool HP.out.symm,rfl⟩
theorem lblank_any(c:UInt8)(w:World):Calls Tryz.prog 92 #[.int .u8 (c.toNat:Int)] w fun e w'=>e= .returned (.bool (isBl c))∧w=w':=by
 have hp:=bl_bytes c
 cases h1:((c.toNat:Int)==32)<;>cases h2:((c.toNat:Int)==10)
 all_goals
  rw[h1,h2] at hp
  have HP:=yH hp
  clear hp
  go_enter Tryz.func92,Tryz.ntmps92
  go_wp2_with (fail)
  go_ret
  exact⟨ret_bool HP.out.symm,rfl⟩
theorem lit_eq{s:ByteArray}{l:List UInt8}(h:B l=s):(s.toList==l)=true:=by have:=list_of.2 h.symm;rwa [B_toList] at this
theorem lit_ne{s:ByteArray}{l:List UInt8}(h: ¬B l=s):(s.toList==l)=false:=by have:=list_ne (fun e=>h e.symm);rwa [B_toList] at this
theorem word_ways(s:ByteArray):
  ((s.toList==[108,111,119,101,115,116])=true∧isWord s.data.toList=true)∨
  ((s.toList==[108,111,119,101,115,116])=false∧(s.toList==[115,101,99,111,110,100])=true∧isWord s.data.toList=true)∨
  ((s.toList==[108,111,119,101,115,116])=false∧(s.toList==[115,101,99,111,110,100])=false∧(s.toList==[102,114,111,109])=true∧isWord s.data.toList=true)∨
  ((s.toList==[108,111,119,101,115,116])=false∧(s.toList==[115,101,99,111,110,100])=false∧(s.toList==[102,114,111,109])=false∧(s.toList==[108,101,115,115])=true∧isWord s.data.toList=true)∨
  ((s.toList==[108,111,119,101,115,116])=false∧(s.toList==[115,101,99,111,110,100])=false∧(s.toList==[102,114,111,109])=false∧(s.toList==[108,101,115,115])=false∧(s.toList==[99,117,116])=true∧isWord s.data.toList=true)∨
  ((s.toList==[108,111,119,101,115,116])=false∧(s.toList==[115,101,99,111,110,100])=false∧(s.toList==[102,114,111,109])=false∧(s.toList==[108,101,115,115])=false∧(s.toList==[99,117,116])=false∧(s.toList==[109,105,110])=true∧isWord s.data.toList=true)∨
  ((s.toList==[108,111,119,101,115,116])=false∧(s.toList==[115,101,99,111,110,100])=false∧(s.toList==[102,114,111,109])=false∧(s.toList==[108,101,115,115])=false∧(s.toList==[99,117,116])=false∧(s.toList==[109,105,110])=false∧(s.toList==[109,97,120])=true∧isWord s.data.toList=true)∨
  ((s.toList==[108,111,119,101,115,116])=false∧(s.toList==[115,101,99,111,110,100])=false∧(s.toList==[102,114,111,109])=false∧(s.toList==[108,101,115,115])=false∧(s.toList==[99,117,116])=false∧(s.toList==[109,105,110])=false∧(s.toList==[109,97,120])=false∧(s.toList==[101,108,115,101])=true∧isWord s.data.toList=true)∨
  ((s.toList==[108,111,119,101,115,116])=false∧(s.toList==[115,101,99,111,110,100])=false∧(s.toList==[102,114,111,109])=false∧(s.toList==[108,101,115,115])=false∧(s.toList==[99,117,116])=false∧(s.toList==[109,105,110])=false∧(s.toList==[109,97,120])=false∧(s.toList==[101,108,115,101])=false∧(s.toList==[105,102])=true∧isWord s.data.toList=true)∨
  ((s.toList==[108,111,119,101,115,116])=false∧(s.toList==[115,101,99,111,110,100])=false∧(s.toList==[102,114,111,109])=false∧(s.toList==[108,101,115,115])=false∧(s.toList==[99,117,116])=false∧(s.toList==[109,105,110])=false∧(s.toList==[109,97,120])=false∧(s.toList==[101,108,115,101])=false∧(s.toList==[105,102])=false∧(s.toList==[109,111,114,101])=true∧isWord s.data.toList=true)∨
  ((s.toList==[108,111,119,101,115,116])=false∧(s.toList==[115,101,99,111,110,100])=false∧(s.toList==[102,114,111,109])=false∧(s.toList==[108,101,115,115])=false∧(s.toList==[99,117,116])=false∧(s.toList==[109,105,110])=false∧(s.toList==[109,97,120])=false∧(s.toList==[101,108,115,101])=false∧(s.toList==[105,102])=false∧(s.toList==[109,111,114,101])=false∧(s.toList==[97,98,111,118,101])=true∧isWord s.data.toList=true)∨
  ((s.toList==[108,111,119,101,115,116])=false∧(s.toList==[115,101,99,111,110,100])=false∧(s.toList==[102,114,111,109])=false∧(s.toList==[108,101,115,115])=false∧(s.toList==[99,117,116])=false∧(s.toList==[109,105,110])=false∧(s.toList==[109,97,120])=false∧(s.toList==[101,108,115,101])=false∧(s.toList==[105,102])=false∧(s.toList==[109,111,114,101])=false∧(s.toList==[97,98,111,118,101])=false∧isWord s.data.toList=false):=by
 by_cases h0:B [108,111,119,101,115,116]=s
 ·exact .inl ⟨lit_eq h0,word_yes (j:=0) (by omega) h0⟩
 by_cases h1:B [115,101,99,111,110,100]=s
 ·exact .inr (.inl ⟨lit_ne h0,lit_eq h1,word_yes (j:=1) (by omega) h1⟩)
 by_cases h2:B [102,114,111,109]=s
 ·exact .inr (.inr (.inl ⟨lit_ne h0,lit_ne h1,lit_eq h2,word_yes (j:=2) (by omega) h2⟩))
 by_cases h3:B [108,101,115,115]=s
 ·exact .inr (.inr (.inr (.inl ⟨lit_ne h0,lit_ne h1,lit_ne h2,lit_eq h3,word_yes (j:=3) (by omega) h3⟩)))
 by_cases h4:B [99,117,116]=s
 ·exact .inr (.inr (.inr (.inr (.inl ⟨lit_ne h0,lit_ne h1,lit_ne h2,lit_ne h3,lit_eq h4,word_yes (j:=4) (by omega) h4⟩))))
 by_cases h5:B [109,105,110]=s
 ·exact .inr (.inr (.inr (.inr (.inr (.inl ⟨lit_ne h0,lit_ne h1,lit_ne h2,lit_ne h3,lit_ne h4,lit_eq h5,word_yes (j:=5) (by omega) h5⟩)))))
 by_cases h6:B [109,97,120]=s
 ·exact .inr (.inr (.inr (.inr (.inr (.inr (.inl ⟨lit_ne h0,lit_ne h1,lit_ne h2,lit_ne h3,lit_ne h4,lit_ne h5,lit_eq h6,word_yes (j:=6) (by omega) h6⟩))))))
 by_cases h7:B [101,108,115,101]=s
 ·exact .inr (.inr (.inr (.inr (.inr (.inr (.inr (.inl ⟨lit_ne h0,lit_ne h1,lit_ne h2,lit_ne h3,lit_ne h4,lit_ne h5,lit_ne h6,lit_eq h7,word_yes (j:=7) (by omega) h7⟩)))))))
 by_cases h8:B [105,102]=s
 ·exact .inr (.inr (.inr (.inr (.inr (.inr (.inr (.inr (.inl ⟨lit_ne h0,lit_ne h1,lit_ne h2,lit_ne h3,lit_ne h4,lit_ne h5,lit_ne h6,lit_ne h7,lit_eq h8,word_yes (j:=8) (by omega) h8⟩))))))))
 by_cases h9:B [109,111,114,101]=s
 ·exact .inr (.inr (.inr (.inr (.inr (.inr (.inr (.inr (.inr (.inl ⟨lit_ne h0,lit_ne h1,lit_ne h2,lit_ne h3,lit_ne h4,lit_ne h5,lit_ne h6,lit_ne h7,lit_ne h8,lit_eq h9,word_yes (j:=9) (by omega) h9⟩)))))))))
 by_cases h10:B [97,98,111,118,101]=s
 ·exact .inr (.inr (.inr (.inr (.inr (.inr (.inr (.inr (.inr (.inr (.inl ⟨lit_ne h0,lit_ne h1,lit_ne h2,lit_ne h3,lit_ne h4,lit_ne h5,lit_ne h6,lit_ne h7,lit_ne h8,lit_ne h9,lit_eq h10,word_yes (j:=10) (by omega) h10⟩))))))))))
 exact .inr (.inr (.inr (.inr (.inr (.inr (.inr (.inr (.inr (.inr (.inr (⟨lit_ne h0,lit_ne h1,lit_ne h2,lit_ne h3,lit_ne h4,lit_ne h5,lit_ne h6,lit_ne h7,lit_ne h8,lit_ne h9,lit_ne h10,word_no (fun j hj=>by
  rcases j with _|_|_|_|_|_|_|_|_|_|_|j
  ·exact h0
  ·exact h1
  ·exact h2
  ·exact h3
  ·exact h4
  ·exact h5
  ·exact h6
  ·exact h7
  ·exact h8
  ·exact h9
  ·exact h10
  ·omega)⟩)))))))))))
theorem lword_any(s:ByteArray)(w0 w:World)(hr:Rel w0 w):
  Calls Tryz.prog 130 #[.string s] w fun e w'=>e= .returned (.bool (isWord s.data.toList))∧Rel w0 w':=by
 rcases word_ways s with ⟨k0,hw⟩|⟨k0,k1,hw⟩|⟨k0,k1,k2,hw⟩|⟨k0,k1,k2,k3,hw⟩|⟨k0,k1,k2,k3,k4,hw⟩|⟨k0,k1,k2,k3,k4,k5,hw⟩|⟨k0,k1,k2,k3,k4,k5,k6,hw⟩|⟨k0,k1,k2,k3,k4,k5,k6,k7,hw⟩|⟨k0,k1,k2,k3,k4,k5,k6,k7,k8,hw⟩|⟨k0,k1,k2,k3,k4,k5,k6,k7,k8,k9,hw⟩|⟨k0,k1,k2,k3,k4,k5,k6,k7,k8,k9,k10,hw⟩|⟨k0,k1,k2,k3,k4,k5,k6,k7,k8,k9,k10,hw⟩
 all_goals
  have HW:=yH hw
  clear hw
  go_enter Tryz.func130,Tryz.ntmps130
  go_wp2_with (fail)
  go_ret
  exact⟨ret_bool HW.out.symm,hr⟩
theorem lname_list(l:List UInt8)(hl:l.length≤9223372036854775807)(w0 w:World)(hr:Rel w0 w):
  Calls Tryz.prog 113 #[.string (B l)] w fun e w'=>e= .returned (.bool (isName l))∧Rel w0 w':=by
 cases l with
 |nil=>
  have HT:=B_toList []
  go_enter Tryz.func113,Tryz.ntmps113
  go_wp2_with (fail)
  go_ret
  exact⟨ret_bool rfl,hr⟩
 |cons c t=>
  have HT:=B_toList (c::t)
  have HB:=B_cons_size c t
  have H0:=B_zero c t
  by_cases h12:t.length+1≤12
  ·have z: ¬(12:Int)<(t.length:Int)+1:=by omega
   cases hc:isL c
   ·have HF:=yH (show isName (c::t)=false by rw[name_eq,hc];simp)
    clear hl h12
    go_enter Tryz.func113,Tryz.ntmps113
    go_wp2_with (go_at_call 143;(with_reducible refine(bool_at false (lletter_any c _) (yH hc)).mono ?_);rintro e w' ⟨rfl,rfl⟩)
    go_ret
    exact⟨ret_bool HF.out.symm,hr⟩
   ·cases hw:isWord (c::t)
    ·have HC:=yH hc
     have HWd:=yH (show isWord (B (c::t)).data.toList=false by rw[B_list];exact hw)
     have HW0:=yH hw
     have HR:=yH hr
     clear hw hc
     go_enter Tryz.func113,Tryz.ntmps113
     go_wp2_with (first
      |(go_at_call 143;(with_reducible refine(bool_at true (lletter_any c _) HC).mono ?_);rintro e w' ⟨rfl,rfl⟩)
      |(go_at_call 130;(with_reducible refine(bool_at false (lword_any _ _ _ hr.self) HWd).mono ?_);rintro e w1 ⟨rfl,h1⟩))
     go_loopw [3,23] (fun _ i wr=>∃j:Nat,j≤t.length+1∧i= .int .i64 j∧Hid (((c::t).take j).all LD=true)∧wr=w1) (fun _ i _=>t.length+1-(RowKit.intOf i).toNat)
     case atStart=>exact⟨0,by omega,rfl,yH rfl,rfl⟩
     case round=>
      obtain⟨j,hj,rfl,HA,rfl⟩:=hrel
      by_cases hlt:j<t.length+1
      ·have hlt':j<(c::t).length:=by simpa using hlt
       obtain⟨x,hx⟩:∃x,x=(c::t)[j]:=⟨_,rfl⟩
       have hg:∀h,(B (c::t))[j]'h=x:=fun h=>by rw[hx];rfl
       have HX:=yH hx
       clear hx
       cases hL:isL x<;>cases hD:isD x
       ·have HF:=yH (show isName (c::t)=false by rw[name_eq,all_bad j hlt' (by rw[←HX.out];simp[LD,hL,hD])];simp)
        have HL:=yH hL
        have HD:=yH hD
        clear hL hD
        go_wp2_with (first
             |(go_at_call 143;(with_reducible refine(bool_at false (lletter_any x _) HL).mono ?_);rintro e w' ⟨rfl,rfl⟩)
             |(go_at_call 144;(with_reducible refine(bool_at false (ldigit_any x _) HD).mono ?_);rintro e w' ⟨rfl,rfl⟩))
        go_ret
        exact⟨ret_bool HF.out.symm,HR.out.trans h1⟩
       all_goals
        have HM:=yH (all_more j hlt' HA.out (by rw[←HX.out];simp[LD,hL,hD]))
        have HL:=yH hL
        have HD:=yH hD
        clear hL hD
        go_wp2_with (first
             |(go_at_call 143;(with_reducible refine(bool_at _ (lletter_any x _) HL).mono ?_);rintro e w' ⟨rfl,rfl⟩)
             |(go_at_call 144;(with_reducible refine(bool_at _ (ldigit_any x _) HD).mono ?_);rintro e w' ⟨rfl,rfl⟩))
        go_roundw
        case rel=>exact⟨j+1,by omega,by go_num,HM,trivial⟩
        case measure=>simp[RowKit.intOf];omega
      ·obtain rfl:j=t.length+1:=by omega
       have HY:=yH (show isName (c::t)=true by
        have ha:=HA.out
        rw[List.take_of_length_le (by simp)] at ha
        rw[name_eq,ha,HC.out,HW0.out,decide_eq_true h12];rfl)
       go_wp2_with (fail)
       go_ret
       exact⟨ret_bool HY.out.symm,HR.out.trans h1⟩
    ·have HC:=yH hc
     have HWd:=yH (show isWord (B (c::t)).data.toList=true by rw[B_list];exact hw)
     have HF:=yH (show isName (c::t)=false by rw[name_eq,hw];simp)
     clear hw hc
     go_enter Tryz.func113,Tryz.ntmps113
     go_wp2_with (first
      |(go_at_call 143;(with_reducible refine(bool_at true (lletter_any c _) HC).mono ?_);rintro e w' ⟨rfl,rfl⟩)
      |(go_at_call 130;(with_reducible refine(bool_at true (lword_any _ _ _ hr.self) HWd).mono ?_);rintro e w1 ⟨rfl,h1⟩))
     go_ret
     exact⟨ret_bool HF.out.symm,hr.trans h1⟩
  ·have HF:=yH (show isName (c::t)=false by rw[name_eq,decide_eq_false h12];simp)
   have z:(12:Int)<(t.length:Int)+1:=by omega
   clear h12
   go_enter Tryz.func113,Tryz.ntmps113
   go_wp2_with (fail)
   go_ret
   exact⟨ret_bool HF.out.symm,hr⟩
theorem lname_any(s:ByteArray)(hs:s.size≤9223372036854775807)(w0 w:World)(hr:Rel w0 w):
  Calls Tryz.prog 113 #[.string s] w fun e w'=>e= .returned (.bool (isName s.data.toList))∧Rel w0 w':=by
 have:=lname_list s.data.toList (by simpa using hs) w0 w hr
 rwa [B_of] at this
theorem pend_yes(V:World)(g a:Nat)(ts:List Tok)(w:World)(h:StP V w g ts a)(hc:(hdT ts).1=5):
  Calls Tryz.prog 76 #[.pointer (some ⟨g,0,none⟩)] w fun e w'=>e= .returned (.tuple #[])∧w.grownBy w' (some g):=by
 have HN:=yH (pnext_any V g a ts w h)
 have HV:=yH h.V
 obtain⟨⟨k,x,n,p⟩,ht⟩:∃t,hdT ts=t:=⟨_,rfl⟩
 rw[ht] at HN hc
 obtain rfl:k=5:=hc
 clear h ht
 go_enter Tryz.func76,Tryz.ntmps76
 go_wp2_with (go_at_call 103;(with_reducible refine HN.out.mono ?_);rintro e w2 ⟨rfl,s2,g2,_⟩;have G2:=yH g2;clear s2 g2)
 go_end0
 exact⟨rfl,grown_trans G2.out (grown_rel (some g) ((HV.out.1.grown G2.out (fun k e=>by cases e;exact HV.out.2)).self.alloc _))⟩
theorem pend_not(V:World)(g a:Nat)(ts:List Tok)(w:World)(h:StP V w g ts a)(hc:(hdT ts).1≠5):
  Calls Tryz.prog 76 #[.pointer (some ⟨g,0,none⟩)] w fun e w'=>e=FLT 80 (atT ts)∧w.grownBy w' (some g):=by
 have HN:=yH (pnext_any V g a ts w h)
 have HV:=yH h.V
 obtain⟨t,ht⟩:∃t,hdT ts=t:=⟨_,rfl⟩
 have HA:=yH (show atT ts=t.2.2.2 by unfold atT;rw[ht])
 rw[ht] at HN hc
 have hb:(t.1==5)=false:=by simpa using hc
 have hb':(t.1 !=5)=true:=by simpa using hc
 clear h ht hc
 go_enter Tryz.func76,Tryz.ntmps76
 go_wp2_with (first
  |(go_at_call 103;(with_reducible refine HN.out.mono ?_);rintro e w2 ⟨rfl,s2,g2,_⟩;have G2:=yH g2;clear s2 g2)
  |(go_at_call 102;(with_reducible refine(pwrong_any t _).mono ?_);rintro e w3 ⟨rfl,rfl⟩))
 exact⟨rfl,by rw[HA.out],fail_grown G2.out V (HV.out.1.grown G2.out (fun k e=>by cases e;exact HV.out.2)) _ _ _⟩
theorem pnum_yes(V:World)(g a:Nat)(ts:List Tok)(k m n:Int)(w:World)(h:StP V w g ts a)(hk:k≠5)(hn:numP k m ts= .ok (n,ts.tail)):
  Calls Tryz.prog 135 #[.pointer (some ⟨g,0,none⟩),.int .i64 k,.int .i64 m] w fun e w'=>e= .returned (.int .i64 n)∧StP V w' g ts.tail a∧w.grownBy w' (some g):=by
 have HN:=yH (pnext_any V g a ts w h)
 have hq:(hdT ts).1=k∧(hdT ts).2.2.1≤m∧(hdT ts).2.2.1=n:=by
  unfold numP at hn
  split at hn
  ·rename_i hh;injection hn with hn;injection hn with e _;exact⟨hh.1,hh.2,e⟩
  ·cases hn
 have HT:=yH (h.fine.last (.inl (by rw[hq.1];exact hk)))
 obtain⟨⟨k',x,n',p⟩,ht⟩:∃t,hdT ts=t:=⟨_,rfl⟩
 rw[ht] at HN hq
 obtain⟨q1,q2,q3⟩:=hq
 obtain rfl:k'=k:=q1
 obtain rfl:n'=n:=q3
 have hb:decide (m<n')=false:=by simpa using q2
 clear h ht hn hk q2
 go_enter Tryz.func135,Tryz.ntmps135
 go_wp2_with (go_at_call 103;(with_reducible refine HN.out.mono ?_);rintro e w2 ⟨rfl,s2,g2,_⟩;have S2:=yH s2;have G2:=yH g2;clear s2 g2)
 go_ret
 have R:=(S2.out HT.out).V.1.self.alloc (.cells #[.int .i64 k',.string (B x),.int .i64 n',.int .i64 p] 78)
 exact⟨rfl,(S2.out HT.out).rel R,grown_trans G2.out (grown_rel (some g) R)⟩
theorem pnum_not(V:World)(g a:Nat)(ts:List Tok)(k m:Int)(w:World)(h:StP V w g ts a)(hn:numP k m ts= .error (80,atT ts)):
  Calls Tryz.prog 135 #[.pointer (some ⟨g,0,none⟩),.int .i64 k,.int .i64 m] w fun e w'=>e=FLT 80 (atT ts)∧w.grownBy w' (some g):=by
 have HN:=yH (pnext_any V g a ts w h)
 have HV:=yH h.V
 have hq:(hdT ts).1≠k∨((hdT ts).1=k∧m<(hdT ts).2.2.1):=by
  unfold numP at hn
  split at hn
  ·cases hn
  ·rename_i hh
   by_cases e:(hdT ts).1=k
   ·exact .inr ⟨e,by have:=fun h'=>hh ⟨e,h'⟩;omega⟩
   ·exact .inl e
 obtain⟨t,ht⟩:∃t,hdT ts=t:=⟨_,rfl⟩
 have HA:=yH (show atT ts=t.2.2.2 by unfold atT;rw[ht])
 rw[ht] at HN hq
 clear h ht hn
 rcases hq with hq|⟨hq,hm⟩
 ·have hb:(t.1==k)=false:=by simpa using hq
  have hb':(t.1 !=k)=true:=by simpa using hq
  clear hq
  go_enter Tryz.func135,Tryz.ntmps135
  go_wp2_with (first
   |(go_at_call 103;(with_reducible refine HN.out.mono ?_);rintro e w2 ⟨rfl,s2,g2,_⟩;have G2:=yH g2;clear s2 g2)
   |(go_at_call 102;(with_reducible refine(pwrong_any t _).mono ?_);rintro e w3 ⟨rfl,rfl⟩))
  exact⟨rfl,by rw[HA.out],fail_grown G2.out V (HV.out.1.grown G2.out (fun k e=>by cases e;exact HV.out.2)) _ _ _⟩
 ·obtain⟨k',x,n',p⟩:=t
  obtain rfl:k'=k:=hq
  have hb:decide (m<n')=true:=by simpa using hm
  clear hm
  go_enter Tryz.func135,Tryz.ntmps135
  go_wp2_with (first
   |(go_at_call 103;(with_reducible refine HN.out.mono ?_);rintro e w2 ⟨rfl,s2,g2,_⟩;have G2:=yH g2;clear s2 g2)
   |(go_at_call 102;(with_reducible refine(pwrong_any (k',x,n',p) _).mono ?_);rintro e w3 ⟨rfl,rfl⟩))
  exact⟨rfl,by rw[HA.out],fail_grown G2.out V (HV.out.1.grown G2.out (fun k e=>by cases e;exact HV.out.2)) _ _ _⟩
theorem pbegin_yes(V:World)(g a:Nat)(ts:List Tok)(w:World)(h:StP V w g ts a)(ha:a<32):
  Calls Tryz.prog 95 #[.pointer (some ⟨g,0,none⟩)] w fun e w'=>e= .returned (TK (hdT ts))∧(ts.tail≠[]→StP V w' g ts.tail a)∧w.grownBy w' (some g):=by
 have hA:=h.V.1.self.alloc (.cells #[.int .i64 0,.string ⟨#[]⟩,.int .i64 0,.int .i64 0] 78)
 have HN:=yH (pnext_any V g a ts _ (h.rel hA))
 have HA:=yH hA
 have HV:=yH h.V
 have hgl:=h.lt
 have HX:=yH (Bk.new w 78 #[.int .i64 0,.string ⟨#[]⟩,.int .i64 0,.int .i64 0])
 obtain⟨t,ht⟩:∃t,hdT ts=t:=⟨_,rfl⟩
 rw[ht] at HN⊢
 have hb:decide (32≤(a:Int))=false:=by simp;omega
 clear h ht hA
 go_enter Tryz.func95,Tryz.ntmps95
 go_wp2_with (go_at_call 103;(with_reducible refine HN.out.mono ?_);rintro e w2 ⟨rfl,s2,g2,S,b2⟩;have S2:=yH s2;have G2:=yH g2;have X2:=HX.out.grown g2 (fun e=>by injection e;omega);obtain⟨⟨_,c1⟩,_⟩:=b2.two;obtain⟨⟨d0,d1,d2,d3⟩,u0,u1,u2,u3⟩:=X2.four;have hz2:=g2.size;simp only[World.size_alloc] at hz2;have hgl2:g<w2.heap.size:=(by omega);have hgl3:w.heap.size<w2.heap.size:=(by omega);have HX2:=yH X2;clear s2 g2 X2)
 have gp:=put4_grown w2 w.heap.size (.int .i64 t.1) (.string (B t.2.1)) (.int .i64 t.2.2.1) (.int .i64 t.2.2.2)
 have RV:=(HV.out.1.trans HA.out).grown G2.out (fun k e=>by cases e;exact HV.out.2)
 have RP:=RV.grown gp (fun k e=>by cases e;exact HV.out.1.size)
 have R:=RP.self.alloc (.cells #[.int .i64 t.1,.string (B t.2.1),.int .i64 t.2.2.1,.int .i64 t.2.2.2] 78)
 obtain⟨⟨y0,y1,y2,y3⟩,_⟩:=((HX2.out.put4 (.int .i64 t.1) (.string (B t.2.1)) (.int .i64 t.2.2.1) (.int .i64 t.2.2.2)).rel R).four
 obtain⟨W,hW⟩:∃W,(((((w2.setCell ⟨w.heap.size,0,none⟩ (.int .i64 t.1)).setCell ⟨w.heap.size,1,none⟩ (.string (B t.2.1))).setCell ⟨w.heap.size,2,none⟩ (.int .i64 t.2.2.1)).setCell ⟨w.heap.size,3,none⟩ (.int .i64 t.2.2.2)).alloc (.cells #[.int .i64 t.1,.string (B t.2.1),.int .i64 t.2.2.1,.int .i64 t.2.2.2] 78))=W:=⟨_,rfl⟩
 rw[hW] at y0 y1 y2 y3 R⊢
 refine bodyPost_ret (v:=TK t) (by simp[results,Tryz.results95,go_sem,y0,y1,y2,y3]) rfl ⟨rfl,fun hn=> ?_, ?_⟩
 ·exact((S2.out hn).grown gp (fun e=>by injection e;omega) (fun k e=>by cases e;exact HV.out.1.size)).rel R
 ·exact grown_of (grown_of (grown_trans (grown_rel (some g) HA.out) G2.out) gp (fun k e=>by cases e;exact Nat.le_refl _)) (grown_rel none R) (fun k e=>by cases e)
theorem pbegin_not(V:World)(g a:Nat)(ts:List Tok)(w:World)(h:StP V w g ts a)(ha:32≤a):
  Calls Tryz.prog 95 #[.pointer (some ⟨g,0,none⟩)] w fun e w'=>e=FLT 81 (atT ts)∧w.grownBy w' (some g):=by
 have hA:=h.V.1.self.alloc (.cells #[.int .i64 0,.string ⟨#[]⟩,.int .i64 0,.int .i64 0] 78)
 have HN:=yH (pnext_any V g a ts _ (h.rel hA))
 have HA:=yH hA
 have HV:=yH h.V
 have hgl:=h.lt
 obtain⟨t,ht⟩:∃t,hdT ts=t:=⟨_,rfl⟩
 have HAt:=yH (show atT ts=t.2.2.2 by unfold atT;rw[ht])
 rw[ht] at HN
 have hb:decide (32≤(a:Int))=true:=by simp;omega
 clear h ht hA
 go_enter Tryz.func95,Tryz.ntmps95
 go_wp2_with (go_at_call 103;(with_reducible refine HN.out.mono ?_);rintro e w2 ⟨rfl,s2,g2,S,b2⟩;have G2:=yH g2;obtain⟨⟨_,c1⟩,_⟩:=b2.two;have hz2:=g2.size;simp only[World.size_alloc] at hz2;have hgl2:g<w2.heap.size:=(by omega);clear s2 g2)
 have RV:=(HV.out.1.trans HA.out).grown G2.out (fun k e=>by cases e;exact HV.out.2)
 exact⟨rfl,by rw[HAt.out],grown_trans (grown_trans (grown_rel (some g) HA.out) G2.out) (grown_rel (some g) (RV.self.alloc _))⟩
end Go.Proofs.YtfekhbeaphpelaaGreatDoor

namespace Go.Proofs.YtfekhbeaphpelaaGreatDoor
open Go
set_option linter.unusedVariables false
set_option linter.unusedSimpArgs false
section
variable {P:Program} {ops:Array Oper} {Q:Exit→Act→World→Prop} {md:Region.Mode} {S:World→Prop}
def waitsB(md:Region.Mode)(ops:Array Oper)(j i:Nat):Bool:=((ops[j]?).map fun o=>o.after.any fun e=>Region.binds md e&&(e.on==i)).getD false
def wpTill(P:Program)(md:Region.Mode)(ops:Array Oper)(Q:Exit→Act→World→Prop)(S:World→Prop)(i:Nat):Nat→Array Bool→Act→World→Prop
 |0,listed,a,w=>Region.ready md ops listed=[]∧Q .normal a w
 |fuel+1,listed,a,w=>
  (Region.ready md ops listed=[]→Q .normal a w)∧
  ∀j∈Region.ready md ops listed,wpOp P ops Q j (fun a' w'=>(waitsB md ops j i=false→S w')∧wpTill P md ops Q S i fuel (listed.setIfInBounds j true) a' w') a w
theorem any_of_till{i:Nat}:∀(fuel:Nat) (listed:Array Bool) (a:Act) (w:World),wpTill P md ops Q S i fuel listed a w→wpAny P md ops Q fuel listed a w
 |0,_,_,_,h=>h
 |fuel+1,_,_,_,h=>⟨h.1,fun j hj=>wpOp_mono (fun a' w' h'=>any_of_till fuel _ a' w' h'.2) (h.2 j hj)⟩
theorem ready_iff{listed:Array Bool}{j:Nat}:j∈Region.ready md ops listed↔j<ops.size∧listed.getD j true=false∧∃o,ops[j]?=some o∧∀e∈o.after,Region.binds md e=true→listed.getD e.on false=true:=by
 unfold Region.ready
 rw[List.mem_filter,List.mem_range]
 constructor
 ·rintro⟨h1,h2⟩
  rw[Array.getElem?_eq_getElem h1] at h2⊢
  simp only[Option.map_some,Option.getD_some,Bool.and_eq_true,Bool.not_eq_true',Array.all_eq_true_iff_forall_mem,Bool.or_eq_true] at h2
  refine⟨h1,h2.1,_,rfl,fun e he hb=> ?_⟩
  rcases h2.2 e he with h|h
  ·rw[hb] at h;cases h
  ·exact h
 ·rintro⟨h1,h2,o,ho,h3⟩
  refine⟨h1, ?_⟩
  rw[ho]
  simp only[Option.map_some,Option.getD_some,Bool.and_eq_true,Bool.not_eq_true',Array.all_eq_true_iff_forall_mem,Bool.or_eq_true]
  refine⟨h2,fun e he=> ?_⟩
  cases hb:Region.binds md e
  ·exact .inl rfl
  ·exact .inr (h3 e he hb)
theorem set_get{listed:Array Bool}{i j:Nat}{d:Bool}(h:j≠i):(listed.setIfInBounds i true).getD j d=listed.getD j d:=by
 simp[Array.getD_eq_getD_getElem?,Array.getElem?_setIfInBounds,Ne.symm h]
theorem set_mono{listed:Array Bool}{i j:Nat}(h:listed.getD j false=true):(listed.setIfInBounds i true).getD j false=true:=by
 by_cases e:j=i
 ·subst e
  have hl:j<listed.size:=by
   rcases Nat.lt_or_ge j listed.size with h'|h'
   ·exact h'
   ·simp[Array.getD_eq_getD_getElem?,Array.getElem?_eq_none h'] at h
  simp[Array.getD_eq_getD_getElem?,Array.getElem?_setIfInBounds,hl]
 ·rw[set_get e];exact h
theorem ready_set{listed:Array Bool}{i j:Nat}(hj:j∈Region.ready md ops listed)(h:j≠i):j∈Region.ready md ops (listed.setIfInBounds i true):=by
 obtain⟨h1,h2,o,ho,h3⟩:=ready_iff.1 hj
 exact ready_iff.2 ⟨h1,by rw[set_get h];exact h2,o,ho,fun e he hb=>set_mono (h3 e he hb)⟩
theorem ready_waits{listed:Array Bool}{i j:Nat}(hi:i∈Region.ready md ops listed)(hj:j∈Region.ready md ops listed):waitsB md ops j i=false:=by
 obtain⟨_,h2,_⟩:=ready_iff.1 hi
 obtain⟨_,_,o,ho,h3⟩:=ready_iff.1 hj
 unfold waitsB
 rw[ho]
 simp only[Option.map_some,Option.getD_some]
 rw[Array.any_eq_false']
 intro e he hc
 simp only[Bool.and_eq_true,beq_iff_eq] at hc
 have:=h3 e he hc.1
 rw[hc.2] at this
 rcases Nat.lt_or_ge i listed.size with h'|h'
 ·simp[Array.getD_eq_getD_getElem?,Array.getElem?_eq_getElem h'] at this h2
  rw[this] at h2;cases h2
 ·simp[Array.getD_eq_getD_getElem?,Array.getElem?_eq_none h'] at this
theorem till_first{i:Nat}{oi:Oper}{v:Value}(hi:ops[i]?=some oi)(hsel:∀(j:Nat) (o:Oper) cs b,ops[j]?=some o→o.op≠ .select cs b)
  (hQ:∀c a w,Q (.panic c) (a.put oi.dst v) w→Q (.panic c) a w):
  ∀(fuel:Nat) (listed:Array Bool) (a:Act) (w:World),
   (∀j oj,ops[j]?=some oj→j≠i→listed.getD j true=false→(∀e∈oj.after,Region.binds md e=true→e.on≠i)→oi.apart ops oj=true)→
   i∈Region.ready md ops listed→YieldsIf P ops S oi v a→S w→
   wpTill P md ops Q S i fuel (listed.setIfInBounds i true) (a.put oi.dst v) w→wpAny P md ops Q (fuel+1) listed a w:=by
 intro fuel
 induction fuel with
 |zero=>
  intro listed a w hap hir hy hS h
  refine⟨(fun e=>by rw[e] at hir;cases hir),fun j hj=> ?_⟩
  by_cases hji:j=i
  ·subst hji;exact hy.wpOp hi hS (any_of_till 0 _ _ _ h)
  ·have:=ready_set hj hji
   rw[h.1] at this;cases this
 |succ f ih=>
  intro listed a w hap hir hy hS h
  refine⟨(fun e=>by rw[e] at hir;cases hir),fun j hj=> ?_⟩
  by_cases hji:j=i
  ·subst hji;exact hy.wpOp hi hS (any_of_till (f+1) _ _ _ h)
  ·have hw:=ready_waits hir hj
   obtain⟨_,hjl,oj,hoj,hjw⟩:=ready_iff.1 hj
   have hnot:∀e∈oj.after,Region.binds md e=true→e.on≠i:=by
    intro e he hb hc
    unfold waitsB at hw
    rw[hoj] at hw
    simp only[Option.map_some,Option.getD_some] at hw
    rw[Array.any_eq_false'] at hw
    exact hw e he (by simp[hb,hc])
   have h1:=wpOp_putIf hoj (hap j oj hoj hji hjl hnot) (fun cs b=>hsel i oi cs b hi) (fun cs b=>hsel j oj cs b hoj) hQ hy (h.2 j (ready_set hj hji))
   refine wpOp_mono (fun a' w' h'=> ?_) h1
   obtain⟨hy',hS',ht⟩:=h'
   refine ih (listed.setIfInBounds j true) a' w' (fun q oq hq hqi hql hqe=>hap q oq hq hqi ?_ hqe) (ready_set hir (Ne.symm hji)) hy' (hS' hw) ?_
   ·by_cases e:q=j
    ·subst e;exact hjl
    ·rw[set_get e] at hql;exact hql
   ·rw[Array.setIfInBounds_comm _ _ (Ne.symm hji)] at ht
    exact ht
theorem till_take{i:Nat}{oi:Oper}{v:Value}(d:Option Tmp){fuel:Nat}{listed:Array Bool}{a:Act}{w:World}(hi:ops[i]?=some oi)(hd:oi.dst=d)
  (hs:Region.noSelect ops=true) (hf:Region.free md ops listed i=true) (hr:(Region.ready md ops listed).contains i=true)
  (hQ:∀c a w,Q (.panic c) (a.put d v) w→Q (.panic c) a w) (hy:YieldsIf P ops S oi v a) (hS:S w)
  (h:wpTill P md ops Q S i fuel (listed.setIfInBounds i true) (a.put d v) w):wpAny P md ops Q (fuel+1) listed a w:=by
 subst hd
 exact till_first hi (Region.noSelect_spec hs) hQ fuel listed a w (Region.free_spec hi hf) (by simpa using hr) hy hS h
theorem any_take{i:Nat}{oi:Oper}{v:Value}(d:Option Tmp){fuel:Nat}{listed:Array Bool}{a:Act}{w:World}(hi:ops[i]?=some oi)(hd:oi.dst=d)
  (hs:Region.noSelect ops=true) (hf:Region.free md ops listed i=true) (hr:(Region.ready md ops listed).contains i=true)
  (hQ:∀c a w,Q (.panic c) (a.put d v) w→Q (.panic c) a w) (hy:Yields P ops oi v a)
  (h:wpAny P md ops Q fuel (listed.setIfInBounds i true) (a.put d v) w):wpAny P md ops Q (fuel+1) listed a w:=by
 subst hd
 exact wpAny_take hi hs hf hr hQ hy h
theorem till_one{i j:Nat}{o:Oper}{fuel:Nat}{listed:Array Bool}{a:Act}{w:World}(hr:Region.ready md ops listed=[j])(ho:ops[j]?=some o)
  (h:∀K':Act→World→Prop,Shut (∀a w,S w→wpTill P md ops Q S i fuel (listed.setIfInBounds j true) a w→K' a w)→if Region.wanted o (yielded ops a.tmps)=true then Oper.wp P o a w K' Q else K' (a.put o.dst undef) w):wpTill P md ops Q S i (fuel+1) listed a w:=
 ⟨(fun h0=>by rw[hr] at h0;cases h0),fun q hq=>by rw[hr,List.mem_singleton] at hq;subst hq;exact wpOp_step ho (fun K' hK=>h K' (fun a w hS hW=>hK a w ⟨fun _=>hS,hW⟩))⟩
theorem till_late{i j:Nat}{o:Oper}{fuel:Nat}{listed:Array Bool}{a:Act}{w:World}(hr:Region.ready md ops listed=[j])(ho:ops[j]?=some o)(hw:waitsB md ops j i=true)
  (h:∀K':Act→World→Prop,Shut (∀a w,wpTill P md ops Q S i fuel (listed.setIfInBounds j true) a w→K' a w)→if Region.wanted o (yielded ops a.tmps)=true then Oper.wp P o a w K' Q else K' (a.put o.dst undef) w):wpTill P md ops Q S i (fuel+1) listed a w:=
 ⟨(fun h0=>by rw[hr] at h0;cases h0),fun q hq=>by rw[hr,List.mem_singleton] at hq;subst hq;exact wpOp_step ho (fun K' hK=>h K' (fun a w hW=>hK a w ⟨(fun e=>by rw[hw] at e;cases e),hW⟩))⟩
theorem till_done{i:Nat}{listed:Array Bool}{a:Act}{w:World}(hr:Region.ready md ops listed=[])(h:Q .normal a w):∀fuel,wpTill P md ops Q S i fuel listed a w
 |0=>⟨hr,h⟩
 |_+1=>⟨fun _=>h,by rw[hr];simp⟩
end
end Go.Proofs.YtfekhbeaphpelaaGreatDoor
