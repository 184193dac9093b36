/- What strconv.ParseInt answers, laid from the library. The re -/
import Derived.Below
import Derived.Shelf.LaysC
import Derived.Shelf.Strconv.ParseIntPublic10
import Derived.Test.YtlmnjbipfacniaaGreatDoorProg
import Derived.Test.YtlmnjbipfacniaaGreatDoorExFitsMs
import Derived.Test.YtlmnjbipfacniaaGreatDoorSyNMs
import Derived.Test.YtlmnjbipfacniaaGreatDoorStBMs
set_option maxRecDepth 100000
set_option maxHeartbeats 2000000
namespace Go.Proofs
open Go.Shelf Go.RowKit Go.Lib
def Tryz.laysC174_ren:Go.Shelf.Ren:=⟨fun | 174=>192 | 247=>198 | 245=>199 | 287=>204 | 279=>205 | 280=>206 | 281=>207 | 282=>208 | 321=>209 | 322=>210 | 316=>133 | 171=>212 | 205=>211 | 243=>213 | 246=>144 | 283=>160 | 284=>161 | 285=>162 | 286=>163 | 129=>172 | 317=>171 | 318=>173 | 319=>174 | 320=>175 | 337=>181 | 338=>182 | n=>n,fun | 9=>9 | 3=>3 | 2=>2 | 75=>135 | 85=>219 | 4=>4 | 167=>223 | 5=>5 | 53=>187 | 175=>224 | 46=>190 | 168=>226 | 37=>48 | 0=>0 | 210=>231 | 21=>21 | 127=>167 | 145=>235 | 143=>233 | 171=>192 | 173=>195 | 212=>203 | 51=>199 | 20=>20 | 213=>204 | 232=>215 | 233=>216 | 80=>106 | n=>n,fun | 15=>8 | 16=>9 | 17=>3 | 18=>6 | 19=>7 | n=>n⟩
theorem Tryz.laysC174:Go.Proofs.LaysC.n174 Tryz.prog Tryz.laysC174_ren:={
 mixed:=by kernel_rfl
 f129:=Tryz.func172.trans (congrArg some (by kernel_rfl))
 f171:=Tryz.func212.trans (congrArg some (by kernel_rfl))
 f174:=Tryz.func192.trans (congrArg some (by kernel_rfl))
 f205:=Tryz.func211.trans (congrArg some (by kernel_rfl))
 f243:=Tryz.func213.trans (congrArg some (by kernel_rfl))
 f245:=Tryz.func199.trans (congrArg some (by kernel_rfl))
 f246:=Tryz.func144.trans (congrArg some (by kernel_rfl))
 f247:=Tryz.func198.trans (congrArg some (by kernel_rfl))
 f279:=Tryz.func205.trans (congrArg some (by kernel_rfl))
 f280:=Tryz.func206.trans (congrArg some (by kernel_rfl))
 f281:=Tryz.func207.trans (congrArg some (by kernel_rfl))
 f282:=Tryz.func208.trans (congrArg some (by kernel_rfl))
 f283:=Tryz.func160.trans (congrArg some (by kernel_rfl))
 f284:=Tryz.func161.trans (congrArg some (by kernel_rfl))
 f285:=Tryz.func162.trans (congrArg some (by kernel_rfl))
 f286:=Tryz.func163.trans (congrArg some (by kernel_rfl))
 f287:=Tryz.func204.trans (congrArg some (by kernel_rfl))
 f316:=Tryz.func133.trans (congrArg some (by kernel_rfl))
 f317:=Tryz.func171.trans (congrArg some (by kernel_rfl))
 f318:=Tryz.func173.trans (congrArg some (by kernel_rfl))
 f319:=Tryz.func174.trans (congrArg some (by kernel_rfl))
 f320:=Tryz.func175.trans (congrArg some (by kernel_rfl))
 f321:=Tryz.func209.trans (congrArg some (by kernel_rfl))
 f322:=Tryz.func210.trans (congrArg some (by kernel_rfl))
 f337:=Tryz.func181.trans (congrArg some (by kernel_rfl))
 f338:=Tryz.func182.trans (congrArg some (by kernel_rfl))
 t0:=Tryz.underlying0
 a0:=Tryz.isAgg0
 z0:=Tryz.sizeOf0
 v0:=Tryz.zeroValue0
 t2:=Tryz.underlying2
 a2:=Tryz.isAgg2
 z2:=Tryz.sizeOf2
 v2:=Tryz.zeroValue2
 t3:=Tryz.underlying3
 a3:=Tryz.isAgg3
 z3:=Tryz.sizeOf3
 v3:=Tryz.zeroValue3
 t4:=Tryz.underlying4
 a4:=Tryz.isAgg4
 z4:=Tryz.sizeOf4
 v4:=Tryz.zeroValue4
 t5:=Tryz.underlying5
 a5:=Tryz.isAgg5
 z5:=Tryz.sizeOf5
 v5:=Tryz.zeroValue5
 t9:=Tryz.underlying9
 a9:=Tryz.isAgg9
 z9:=Tryz.sizeOf9
 v9:=Tryz.zeroValue9
 t20:=Tryz.underlying20
 a20:=Tryz.isAgg20
 z20:=Tryz.sizeOf20
 v20:=Tryz.zeroValue20
 t21:=Tryz.underlying21
 a21:=Tryz.isAgg21
 z21:=Tryz.sizeOf21
 v21:=Tryz.zeroValue21
 t37:=Tryz.underlying48
 a37:=Tryz.isAgg48
 z37:=Tryz.sizeOf48
 v37:=Tryz.zeroValue48
 t46:=Tryz.underlying190
 a46:=Tryz.isAgg190
 z46:=Tryz.sizeOf190
 v46:=Tryz.zeroValue190
 t51:=Tryz.underlying199
 a51:=Tryz.isAgg199
 z51:=Tryz.sizeOf199
 v51:=Tryz.zeroValue199
 t53:=Tryz.underlying187
 a53:=Tryz.isAgg187
 z53:=Tryz.sizeOf187
 v53:=Tryz.zeroValue187
 t75:=Tryz.underlying135
 a75:=Tryz.isAgg135
 z75:=Tryz.sizeOf135
 v75:=Tryz.zeroValue135
 t85:=Tryz.underlying219
 a85:=Tryz.isAgg219
 z85:=Tryz.sizeOf219
 v85:=Tryz.zeroValue219
 t127:=Tryz.underlying167
 a127:=Tryz.isAgg167
 z127:=Tryz.sizeOf167
 v127:=Tryz.zeroValue167
 t143:=Tryz.underlying233
 a143:=Tryz.isAgg233
 z143:=Tryz.sizeOf233
 v143:=Tryz.zeroValue233
 t145:=Tryz.underlying235
 a145:=Tryz.isAgg235
 z145:=Tryz.sizeOf235
 v145:=Tryz.zeroValue235
 t167:=Tryz.underlying223
 a167:=Tryz.isAgg223
 z167:=Tryz.sizeOf223
 v167:=Tryz.zeroValue223
 t168:=Tryz.underlying226
 a168:=Tryz.isAgg226
 z168:=Tryz.sizeOf226
 v168:=Tryz.zeroValue226
 t171:=Tryz.underlying192
 a171:=Tryz.isAgg192
 z171:=Tryz.sizeOf192
 v171:=Tryz.zeroValue192
 t173:=Tryz.underlying195
 a173:=Tryz.isAgg195
 z173:=Tryz.sizeOf195
 v173:=Tryz.zeroValue195
 t175:=Tryz.underlying224
 a175:=Tryz.isAgg224
 z175:=Tryz.sizeOf224
 v175:=Tryz.zeroValue224
 t210:=Tryz.underlying231
 a210:=Tryz.isAgg231
 z210:=Tryz.sizeOf231
 v210:=Tryz.zeroValue231
 t212:=Tryz.underlying203
 a212:=Tryz.isAgg203
 z212:=Tryz.sizeOf203
 v212:=Tryz.zeroValue203
 t213:=Tryz.underlying204
 a213:=Tryz.isAgg204
 z213:=Tryz.sizeOf204
 t232:=Tryz.underlying215
 a232:=Tryz.isAgg215
 z232:=Tryz.sizeOf215
 v232:=Tryz.zeroValue215
 t233:=Tryz.underlying216
 a233:=Tryz.isAgg216
 z233:=Tryz.sizeOf216
 v233:=Tryz.zeroValue216
 g15:=by kernel_rfl
 g16:=by kernel_rfl
 g17:=by kernel_rfl
 g18:=by kernel_rfl
 g19:=by kernel_rfl
 t80:=Tryz.underlying106
 a80:=Tryz.isAgg106
 z80:=Tryz.sizeOf106
 v80:=Tryz.zeroValue106
 i0:=by kernel_rfl
 i2:=by kernel_rfl
 i3:=by kernel_rfl
 i4:=by kernel_rfl
 i5:=by kernel_rfl
 i9:=by kernel_rfl
 i20:=by kernel_rfl
 i21:=by kernel_rfl
 i37:=by kernel_rfl
 i46:=by kernel_rfl
 i51:=by kernel_rfl
 i53:=by kernel_rfl
 i75:=by kernel_rfl
 i80:=by kernel_rfl
 i85:=by kernel_rfl
 i127:=by kernel_rfl
 i143:=by kernel_rfl
 i145:=by kernel_rfl
 i167:=by kernel_rfl
 i168:=by kernel_rfl
 i171:=by kernel_rfl
 i173:=by kernel_rfl
 i175:=by kernel_rfl
 i210:=by kernel_rfl
 i212:=by kernel_rfl
 i232:=by kernel_rfl
 i233:=by kernel_rfl
 m15:=by kernel_rfl
 m16:=by kernel_rfl
 m17:=by kernel_rfl
 m18:=by kernel_rfl
 m19:=by kernel_rfl
 c0:=by kernel_rfl
 c2:=by kernel_rfl
 c3:=by kernel_rfl
 c4:=by kernel_rfl
 c5:=by kernel_rfl
 c9:=by kernel_rfl
 c20:=by kernel_rfl
 c21:=by kernel_rfl
 c37:=by kernel_rfl
 c46:=by kernel_rfl
 c51:=by kernel_rfl
 c53:=by kernel_rfl
 c75:=by kernel_rfl
 c80:=by kernel_rfl
 c85:=by kernel_rfl
 c127:=by kernel_rfl
 c143:=by kernel_rfl
 c145:=by kernel_rfl
 c167:=by kernel_rfl
 c168:=by kernel_rfl
 c171:=by kernel_rfl
 c173:=by kernel_rfl
 c175:=by kernel_rfl
 c210:=by kernel_rfl
 c212:=by kernel_rfl
 c213:=by kernel_rfl
 c232:=by kernel_rfl
 c233:=by kernel_rfl}
theorem Tryz.strconv_ParseInt_10_at64_ok (s:ByteArray) (hmax:s.size≤9223372036854775806) (v:Int) (h:Lib.parseIntB 64 s.data.toList=.ok v) (w:World):
  Calls Tryz.prog 192 #[.string s,.int .i64 10,.int .i64 64] w fun e w'=>e=.returned (.tuple #[.int .i64 v,.nilIface])∧(w'=w∨∃t,w'=Lib.bytesWorld w 5 t):=Any.strconv_ParseInt_10_at64_ok Tryz.laysC174 s hmax v h w
theorem Tryz.strconv_ParseInt_10_at64_range (s:ByteArray) (hlim:s.size≤281474976710656) (h:Lib.parseIntB 64 s.data.toList=.range) (ev:Value) (w:World) (hv:w.cell? ⟨9,0,none⟩=some ev) (hev:ev=.nilIface∨∃te pe,ev=.iface te pe):
  Calls Tryz.prog 192 #[.string s,.int .i64 10,.int .i64 64] w fun e w'=>∃N,e=.returned (.tuple #[.int .i64 (Lib.intSat 64 s.data.toList),.iface 226 (.pointer (some ⟨N,0,none⟩))])∧w.heap.size≤N∧w'.heap[N]? =some (.cells #[.string ⟨#[80,97,114,115,101,73,110,116]⟩,.string s,ev] 231 (0,0))∧Below w.heap.size w w':=Any.strconv_ParseInt_10_at64_range Tryz.laysC174 s hlim h ev w hv hev
end Go.Proofs
namespace Go.Proofs.YtlmnjbipfacniaaGreatDoor
open Go.Proofs.Tryz
open Go.RowKit
structure SyEnv (C:SyC) (w:World):Prop where
 sh:dA w
 shx:gJ w
 sh0:w.cell? ⟨0,1,none⟩=some (.int .i64 0)
 er:∃te pe,w.cell? ⟨9,0,none⟩=some (.iface te pe)
 z1:C.z≠1
 z2:C.z≠0
 z3:C.z≠9
theorem vU {z g o:Nat} {w w':World} {v:Value} (hb:But z w w') (h:w.cell? ⟨g,o,none⟩=some v) (hz:z≠g):w'.cell? ⟨g,o,none⟩=some v:=by
 have hg:=hb.block g (da _ _ h) (fun e=>hz e.symm)
 rw[←h];unfold World.cell?;rw[hg]
theorem SyEnv.but {C:SyC} {w w':World} (h:SyEnv C w) (hb:But C.z w w'):SyEnv C w':=by
 refine⟨h.sh.but hb h.z1,fun K h1 h2=> ?_,vU hb h.sh0 h.z2, ?_,h.z1,h.z2,h.z3⟩
 ·obtain⟨a,b,c,d,e⟩:=h.shx K h1 h2
  exact⟨vU hb a h.z2,vU hb b h.z2,vU hb c h.z2,vU hb d h.z2,vU hb e h.z2⟩
 ·obtain⟨te,pe,q⟩:=h.er
  exact⟨te,pe,vU hb q h.z3⟩
theorem SyEnv.below {C:SyC} {w w':World} (h:SyEnv C w) (hb:Below w.heap.size w w'):SyEnv C w':=h.but (But.of_below hb)
theorem CH:∀(l:List UInt8) (acc:Nat),(∀b ∈ l,48≤b.toNat∧b.toNat≤57)→acc≤18446744073709551615→∃v,v=l.foldl (fun n (b:UInt8)=>10 * n+(b.toNat - 48)) acc∧((v≤18446744073709551615∧Lib.parseUintM 18446744073709551615 acc l=.ok v)∨(18446744073709551615 < v∧Lib.parseUintM 18446744073709551615 acc l=.range))
 | [],acc,_,ha=>⟨acc,rfl,.inl ⟨ha,rfl⟩⟩
 | c::r,acc,h,ha=>by
  have hc:=h c sc;have grow:∀(l:List UInt8) (a:Nat),a≤l.foldl (fun n (b:UInt8)=>10 * n+(b.toNat - 48)) a:=fun l=>by
   induction l with
   | nil=>exact fun a=>aw _
   | cons x l ih=>exact fun a=>bv (by omega) (ih (10 * a+(x.toNat - 48)))
  refine⟨_,rfl, ?_⟩;rw[Lib.parseUintM,af hc,List.foldl_cons,show 10 * acc+(c.toNat - 48)=acc * 10+(c.toNat - 48) by omega]
  have hg:=grow r (acc * 10+(c.toNat - 48))
  by_cases h1:1844674407370955162≤acc
  ·rw[af h1]
   exact .inr ⟨by omega,rfl⟩
  ·rw[ac h1]
   by_cases h2:18446744073709551615 < acc * 10+(c.toNat - 48)
   ·rw[af h2]
    exact .inr ⟨by omega,rfl⟩
   ·rw[ac h2]
    obtain⟨v,rfl,hv⟩:=CH r (acc * 10+(c.toNat - 48)) (fun b hb=>h b (kH _ hb)) (by omega)
    exact hv
theorem I1 {t:ByteArray} (h0:t.size≠0) (hd:∀b ∈ t.data.toList,48≤b.toNat∧b.toNat≤57):(oe t≤9223372036854775807→Lib.parseIntB 64 t.data.toList=.ok (oe t:Int))∧(9223372036854775807 < oe t→Lib.parseIntB 64 t.data.toList=.range):=by
 have hl:t.data.toList≠[]:=fun e=>h0 (by have:=aD List.length e;simpa using this)
 obtain⟨c,r,hcr⟩:∃c r,t.data.toList=c::r:=by
  cases hq:t.data.toList with
  | nil=>exact absurd hq hl
  | cons c r=>exact⟨c,r,rfl⟩
 have hc:=hd c (by rw[hcr];exact sc)
 obtain⟨v,hv,hu⟩:=CH t.data.toList 0 hd (by decide)
 have hdv:oe t=v:=by unfold oe;rw[lW];exact hv.symm
 rw[hdv];have e:Lib.parseIntB 64 t.data.toList=match Lib.parseUintM 18446744073709551615 0 t.data.toList with | .syntax=>.syntax | .range=>.range | .ok u=>if 9223372036854775808≤u then .range else .ok (u:Int):=by
  rw[hcr,Lib.parseIntB];have n1:¬c.toNat=43:=by omega
  have n2:¬c.toNat=45:=by omega
  simp only[n1,n2,or_self,if_false,Lib.parseUintB,reduceCtorEq,not_false_eq_true,true_and,false_and];rfl
 rw[e];rcases hu with ⟨h1,h2⟩ | ⟨h1,h2⟩
 ·rw[h2]
  refine⟨fun q=> ?_,fun q=> ?_⟩
  ·show (if 9223372036854775808≤v then _ else _)=_
   rw[ac (by omega)]
  ·show (if 9223372036854775808≤v then _ else _)=_
   rw[af (by omega)]
 ·rw[h2]
  exact⟨fun q=>by omega,fun _=>rfl⟩
theorem Li {w:World} {b n:Nat} {f:ByteArray→Option Int} (hM:MI w b n f) (s:ByteArray) (hs:s.size≤maxLen):(Instr.lookup 82 (.map (some b)) (.string s) false).run prog w=.ok (.int .i64 ((f s).getD 0)) w:=by
 obtain⟨D,dP,h5⟩:=hM;obtain⟨c,Av,iu, -⟩:=dP.lookup_int (Maps.string_keyed underlying9) underlying82 underlying3 (Kf _) (Ea hs);have e:c=(f s).getD 0:=by
  cases hf:f s with
  | none=>
   have h:=(h5 s).1;rw[hf] at h;rw[Maps.atKey_of_not_has h] at iu;injection iu with iu;injection iu with _ iu
   exact iu.symm
  | some x=>
   rw[(h5 s).2 x hf] at iu;injection iu with iu;injection iu with _ iu
   exact iu.symm
 rw[←e];exact Av
theorem LJ (t:ByteArray):(wn t).getD 0=(iD t:Int):=by
 unfold wn;split
 ·rename_i h;rw[h];rfl
 ·rfl
theorem Cb (t:ByteArray):iD t=0∨(8≤iD t∧iD t≤13):=by
 unfold iD
 (repeat' split) <;> omega
theorem lvl_at {C:SyC} {w:World} (h:SyEnv C w) (t:ByteArray):w.cell? ⟨0,iD t * 5+1,none⟩=some (.int .i64 (pS (iD t):Int)):=by
 rcases Cb t with q | ⟨q1,q2⟩
 ·rw[q];exact h.sh0
 ·have:=(h.shx (iD t) (by omega) q2).2.1
  rw[this];have e:bs (iD t:Int)=(pS (iD t):Int):=by
   obtain⟨k,hk⟩:∃k,k=iD t:=⟨_,rfl⟩;rw[←hk] at q1 q2 ⊢;have:k=8∨k=9∨k=10∨k=11∨k=12∨k=13:=by omega
   rcases this with rfl | rfl | rfl | rfl | rfl | rfl <;> decide
  rw[e]
theorem Jj {C:SyC} {l:List Tk} {o:Nat} (lv:Nat) (w:World) (hR:Syr C w l o) (hE:SyEnv C w):Calls prog 169 #[.pointer (some ⟨C.z,0,none⟩),.int .i64 (lv:Int)] w fun e w'=>e=.returned (.int .i64 (il lv (ak C.E 0 l):Int))∧Below w.heap.size w w':=by
 have HA:=ab (rH w hR);have jf:=xq hR 0;have HR:=ab hR;have HE:=ab hE;clear hR hE;generalize ak C.E 0 l=t at *;have HKR:Hid (il lv t=if t.k=5∧pS (iD t.t)=lv then iD t.t else 0):=ab (rfl);generalize il lv t=kr at *;unfold jt at HA;go_enter func169,ntmps169;go_wp2_with fail;refine(aa HA).mono ?_;rintro e w2 ⟨rfl,hb2⟩;have hb3:=aq hb2 ((aV _ _).alloc (aw _) (.cells #[.int .i64 (t.k:Int),.string t.t,.int .i64 (t.a:Int)] 102));have hR3:=(aa HR).below hb3;have hM3:=hR3.map;have c3:(w2.alloc (.cells #[.int .i64 (t.k:Int),.string t.t,.int .i64 (t.a:Int)] 102)).cell? ⟨C.z,3,none⟩=some (.map (some C.bb)):=by obtain⟨xa,cap,off,h1, -⟩:=hR3.blk;rw[eB _ _ _ _ _ _ h1];rfl
 have hlk:=fun k=>Li (hM3.below (show ((w2.alloc (.cells #[.int .i64 (t.k:Int),.string t.t,.int .i64 (t.a:Int)] 102)).drewN k).heap[C.bb]? =_ from by rw[World.heap_drewN])) t.t (by have:=jf.2.1;unfold maxLen;omega)
 rw[LJ] at hlk;have hlv:=lvl_at ((aa HE).below hb3) t.t;have eN:=Cb t.t;have ao:=ab hb3;have j8:(0:Nat) < w2.heap.size:=by
  have:=da _ _ (aa HE).sh0;have:=hb2.size;omega
 have hzl:C.z < w2.heap.size:=by have:=(aa HR).lt;have:=hb2.size;omega
 clear hR3 hM3 hb2 hb3 jf HA;generalize iD t.t=kb at *;have hk14:(kb:Int) < 14:=by omega
 have ei:¬(kb:Int) < 0:=by omega
 clear eN
 by_cases h5:t.k=5
 ·have q5:((t.k:Int) !=5)=false:=by rw[bne,Bool.not_eq_false',se];omega
  by_cases hv:pS kb=lv
  ·have eq:Hid (kr=kb):=ab (by rw[aa HKR,af ⟨h5,hv⟩])
   have qv:((pS kb:Int) !=(lv:Int))=false:=by rw[bne,Bool.not_eq_false',se];omega
   clear h5 hv HKR;generalize pS kb=lk at *;go_wp2_with fail;go_quiet (fail);have dD:=ab (xL (aa ao) nq);go_wp2_with fail;go_ret;exact⟨by rw[aa eq];rfl,aa dD⟩
  ·have eq:Hid (kr=0):=ab (by rw[aa HKR,ac (fun q=>hv q.2)])
   have qv:((pS kb:Int) !=(lv:Int))=true:=by rw[bne,Bool.not_eq_true',nc];omega
   clear h5 hv HKR;generalize pS kb=lk at *;go_wp2_with fail;go_quiet (fail);have dD:=ab (xL (aa ao) nq);go_wp2_with fail;go_ret;exact⟨by rw[aa eq];rfl,aa dD⟩
 ·have eq:Hid (kr=0):=ab (by rw[aa HKR,ac (fun q=>h5 q.1)])
  have q5:((t.k:Int) !=5)=true:=by rw[bne,Bool.not_eq_true',nc];omega
  clear h5 HKR;go_wp2_with fail;go_quiet (fail);have dD:=ab (xL (aa ao) nq);go_wp2_with fail;go_ret;exact⟨by rw[aa eq];rfl,aa dD⟩
def intV (n:Int) (e:Ending) (_:World):Prop:=e=.returned (.int .i64 n)
theorem CU {w w':World} (h:w'=w∨∃t,w'=Lib.bytesWorld w 5 t):Below w.heap.size w w':=by
 rcases h with rfl | ⟨t,rfl⟩
 ·exact aV _ _
 ·exact Lib.bytesWorld_below w _ t
theorem CP {C:SyC} {l:List Tk} {o:Nat} (w:World) (hR:Syr C w l o) (hE:SyEnv C w) (h2:(ak C.E 0 l).k=2):Calls prog 187 #[.pointer (some ⟨C.z,0,none⟩)] w fun e w'=>fJ intV C o w (mB C.E l) e w':=by
 have HA:=ab (rH w hR);have HR:=ab hR;have HE:=ab hE;have jf:=xq hR 0;obtain⟨jB,hdg⟩:=jf.2.2.2 h2;have HS:=ab (fun w h=>rJ (C:=C) (l:=l) (o:=o) w h)
 have HT:=ab (fun w=>ue 3 (ak C.E 0 l).a w)
 have HP:=ab (fun w h=>ug (l:=l) (o:=o) (C:=C) w h (yt (E:=C.E) (by rw[h2];decide)))
 obtain⟨RR,bD⟩:∃RR,RR=mB C.E l:=⟨_,rfl⟩;rw[←bD];unfold mB at bD;have HQ:=ab bD;clear hR hE h2 bD;generalize ak C.E 0 l=t at *;have j6:=I1 jB hdg;have ay:=jf.2.1;clear hdg jf;unfold jt at HA;have ph:=fun (W:World)=>(aV W.heap.size W).alloc (aw _) (.cells #[.int .i64 (t.k:Int),.string t.t,.int .i64 (t.a:Int)] 102)
 by_cases h0:1 < t.t.size∧aj t.t 0=48
 ·have aU:Hid (RR=.error (2,t.a)):=ab (by rw[aa HQ,af h0])
  obtain⟨h01,h02⟩:=h0;have q1:(1:Int) < (t.t.size:Int):=by omega
  have kL:0 < t.t.size:=by omega
  have hb:=mw t.t 0 kL;rw[h02] at hb;clear HQ j6 HT HP h01 h02;go_enter func187,ntmps187;go_wp2_with fail;refine(aa HA).mono ?_;rintro e w2 ⟨rfl,hb2⟩;have aE:=ab (aq hb2 (ph w2));have eE:Hid ((w2.alloc (.cells #[.int .i64 (t.k:Int),.string t.t,.int .i64 (t.a:Int)] 102)).heap[w2.heap.size]? =some (.cells #[.int .i64 (t.k:Int),.string t.t,.int .i64 (t.a:Int)] 102 (0,0))):=ab (ax rfl);have tR:Hid (w2.heap.size≠C.z):=ab (by have:=(aa HR).lt;have:=hb2.size;omega)
  clear hb2;go_wp2_with fail;refine(aa HS _ ((aa HR).below (aa aE))).mono ?_;rintro e w3 ⟨rfl,hb3⟩;have ao:=ab (aq (aa aE) hb3);clear hb3;unfold aC;go_wp2_with fail;exact⟨rfl,fu (aa aU) (But.of_below (aa ao)) rfl⟩
 ·have bO:Hid (RR=if 9223372036854775807 < oe t.t then .error (3,t.a) else .ok ((oe t.t:Int),l.tail)):=ab (by rw[aa HQ,ac h0])
  have qz:=ab j6;clear HQ j6;generalize oe t.t=dv at *;rcases cG 9223372036854775807 dv with hv | hv
  ·have aU:Hid (RR=.error (3,t.a)):=ab (by rw[aa bO,af hv])
   have HRG:=ab ((aa qz).2 hv);clear bO qz hv HS HP
   by_cases h1:1 < t.t.size
   ·have q1:(1:Int) < (t.t.size:Int):=by omega
    have kL:0 < t.t.size:=by omega
    have hb:=mw t.t 0 kL;have q48:((aj t.t 0:Int)==48)=false:=by rw[nc];intro e;exact h0 ⟨h1,by omega⟩
    clear h0;generalize aj t.t 0=b0 at *;go_enter func187,ntmps187;go_wp2_with fail;refine(aa HA).mono ?_;rintro e w2 ⟨rfl,hb2⟩;have aE:=ab (aq hb2 (ph w2));have eE:Hid ((w2.alloc (.cells #[.int .i64 (t.k:Int),.string t.t,.int .i64 (t.a:Int)] 102)).heap[w2.heap.size]? =some (.cells #[.int .i64 (t.k:Int),.string t.t,.int .i64 (t.a:Int)] 102 (0,0))):=ab (ax rfl);have tR:Hid (w2.heap.size≠C.z):=ab (by have:=(aa HR).lt;have:=hb2.size;omega)
    clear hb2;go_wp2_with fail;obtain⟨te,pe,tJ⟩:=((aa HE).below (aa aE)).er;refine(Tryz.strconv_ParseInt_10_at64_range t.t (by omega) (aa HRG) _ _ tJ (.inr ⟨te,pe,rfl⟩)).mono ?_
    rintro e w3 ⟨NN,rfl, -, -,hb3⟩;have ao:=ab (aq (aa aE) hb3);have dl:=an (aa eE) hb3;have d2:w3.cell? ⟨w2.heap.size,2,none⟩=some (.int .i64 (t.a:Int)):=cr dl;clear hb3 dl tJ;generalize Lib.intSat 64 t.t.data.toList=sat at *;go_wp2_with fail;refine(aa HT _).mono ?_;rintro e w4 ⟨rfl,rfl⟩;unfold aC;go_wp2_with fail;exact⟨rfl,fu (aa aU) (But.of_below (aa ao)) rfl⟩
   ·have q1:¬(1:Int) < (t.t.size:Int):=by omega
    clear h0;go_enter func187,ntmps187;go_wp2_with fail;refine(aa HA).mono ?_;rintro e w2 ⟨rfl,hb2⟩;have aE:=ab (aq hb2 (ph w2));have eE:Hid ((w2.alloc (.cells #[.int .i64 (t.k:Int),.string t.t,.int .i64 (t.a:Int)] 102)).heap[w2.heap.size]? =some (.cells #[.int .i64 (t.k:Int),.string t.t,.int .i64 (t.a:Int)] 102 (0,0))):=ab (ax rfl);have tR:Hid (w2.heap.size≠C.z):=ab (by have:=(aa HR).lt;have:=hb2.size;omega)
    clear hb2;go_wp2_with fail;obtain⟨te,pe,tJ⟩:=((aa HE).below (aa aE)).er;refine(Tryz.strconv_ParseInt_10_at64_range t.t (by omega) (aa HRG) _ _ tJ (.inr ⟨te,pe,rfl⟩)).mono ?_
    rintro e w3 ⟨NN,rfl, -, -,hb3⟩;have ao:=ab (aq (aa aE) hb3);have dl:=an (aa eE) hb3;have d2:w3.cell? ⟨w2.heap.size,2,none⟩=some (.int .i64 (t.a:Int)):=cr dl;clear hb3 dl tJ;generalize Lib.intSat 64 t.t.data.toList=sat at *;go_wp2_with fail;refine(aa HT _).mono ?_;rintro e w4 ⟨rfl,rfl⟩;unfold aC;go_wp2_with fail;exact⟨rfl,fu (aa aU) (But.of_below (aa ao)) rfl⟩
  ·have aU:Hid (RR=.ok ((dv:Int),l.tail)):=ab (by rw[aa bO,ac (by omega)])
   have HOK:=ab (fun w=>Tryz.strconv_ParseInt_10_at64_ok t.t (by omega) _ ((aa qz).1 hv) w)
   have hdv:(dv:Int)≤9223372036854775807:=by omega
   clear bO qz hv HS HT
   by_cases h1:1 < t.t.size
   ·have q1:(1:Int) < (t.t.size:Int):=by omega
    have kL:0 < t.t.size:=by omega
    have hb:=mw t.t 0 kL;have q48:((aj t.t 0:Int)==48)=false:=by rw[nc];intro e;exact h0 ⟨h1,by omega⟩
    clear h0;generalize aj t.t 0=b0 at *;go_enter func187,ntmps187;go_wp2_with fail;refine(aa HA).mono ?_;rintro e w2 ⟨rfl,hb2⟩;have aE:=ab (aq hb2 (ph w2));have eE:Hid ((w2.alloc (.cells #[.int .i64 (t.k:Int),.string t.t,.int .i64 (t.a:Int)] 102)).heap[w2.heap.size]? =some (.cells #[.int .i64 (t.k:Int),.string t.t,.int .i64 (t.a:Int)] 102 (0,0))):=ab (ax rfl);have tR:Hid (w2.heap.size≠C.z):=ab (by have:=(aa HR).lt;have:=hb2.size;omega)
    clear hb2;go_wp2_with fail;refine(aa HOK _).mono ?_;rintro e w3 ⟨rfl,so⟩;have hb3:=CU so;have ao:=ab (aq (aa aE) hb3);clear so hb3;go_wp2_with fail;refine(aa HP _ ((aa HR).below (aa ao))).mono ?_;rintro e w4 ⟨rfl,hb4,hR4⟩;have HZ:=ab (And.intro ((But.of_below (aa ao)).trans hb4) hR4);clear hb4 hR4;go_wp2_with fail;go_ret;exact nS (aa aU) (aa HZ).1 rfl (aa HZ).2
   ·have q1:¬(1:Int) < (t.t.size:Int):=by omega
    clear h0;go_enter func187,ntmps187;go_wp2_with fail;refine(aa HA).mono ?_;rintro e w2 ⟨rfl,hb2⟩;have aE:=ab (aq hb2 (ph w2));have eE:Hid ((w2.alloc (.cells #[.int .i64 (t.k:Int),.string t.t,.int .i64 (t.a:Int)] 102)).heap[w2.heap.size]? =some (.cells #[.int .i64 (t.k:Int),.string t.t,.int .i64 (t.a:Int)] 102 (0,0))):=ab (ax rfl);have tR:Hid (w2.heap.size≠C.z):=ab (by have:=(aa HR).lt;have:=hb2.size;omega)
    clear hb2;go_wp2_with fail;refine(aa HOK _).mono ?_;rintro e w3 ⟨rfl,so⟩;have hb3:=CU so;have ao:=ab (aq (aa aE) hb3);clear so hb3;go_wp2_with fail;refine(aa HP _ ((aa HR).below (aa ao))).mono ?_;rintro e w4 ⟨rfl,hb4,hR4⟩;have HZ:=ab (And.intro ((But.of_below (aa ao)).trans hb4) hR4);clear hb4 hR4;go_wp2_with fail;go_ret;exact nS (aa aU) (aa HZ).1 rfl (aa HZ).2
end Go.Proofs.YtlmnjbipfacniaaGreatDoor
