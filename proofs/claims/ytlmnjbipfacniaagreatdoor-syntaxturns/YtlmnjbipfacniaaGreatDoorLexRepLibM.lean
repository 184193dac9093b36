/- What strings.IndexByte answers, laid from the library. Which -/
import Derived.Below
import Derived.Shelf.LaysM
import Derived.Shelf.Small.Strs
import Derived.Test.YtlmnjbipfacniaaGreatDoorProg
import Derived.Test.YtlmnjbipfacniaaGreatDoorClone4M
import Derived.Test.YtlmnjbipfacniaaGreatDoorLxWalkBM
import Derived.Lib.Replace
import Derived.Shelf.Strings.Replace
import Derived.Shelf.Strings.SplitShaped
set_option maxRecDepth 10000
set_option maxHeartbeats 800000
namespace Go.Proofs
open Go.Shelf Go.RowKit Go.Lib
def Tryz.lays137_ren:Go.Shelf.Ren:=⟨fun | 137=>91 | 217=>131 | 266=>147 | n=>n,fun | 9=>9 | 5=>5 | 3=>3 | n=>n,fun | n=>n⟩
theorem Tryz.lays137:Go.Proofs.Lays.n137 Tryz.prog Tryz.lays137_ren:={
 mixed:=by kernel_rfl
 f137:=Tryz.func91.trans (congrArg some (by kernel_rfl))
 f217:=Tryz.func131.trans (congrArg some (by kernel_rfl))
 f266:=Tryz.func147.trans (congrArg some (by kernel_rfl))
 t3:=Tryz.underlying3
 a3:=Tryz.isAgg3
 z3:=Tryz.sizeOf3
 v3:=Tryz.zeroValue3
 t5:=Tryz.underlying5
 a5:=Tryz.isAgg5
 z5:=Tryz.sizeOf5
 v5:=Tryz.zeroValue5
 t9:=Tryz.underlying9
 a9:=Tryz.isAgg9
 z9:=Tryz.sizeOf9
 v9:=Tryz.zeroValue9}
theorem Tryz.strings_IndexByte (s:ByteArray) (c:Int) (w:World):
  Calls Tryz.prog 91 #[.string s,.int .u8 c] w fun e w'=>e=.returned (.int .i64 (Lib.indexByte s.data.toList c.toNat.toUInt8))∧w'=w:=Any.strings_IndexByte Tryz.lays137 s c w
end Go.Proofs
namespace Go.Proofs.YtlmnjbipfacniaaGreatDoor
open Go.Proofs.Tryz
open Go.RowKit
def yt:ByteArray:=⟨#[61,63,38,43,45,42,47,37,40,41,60,62,44,58,36]⟩
theorem KX:(List.range 256).all (fun b=>decide (0≤Lib.indexByte yt.data.toList b.toUInt8)==uI b)=true:=by kernel_rfl
theorem ME (b:Nat) (hb:b < 256):decide (0≤Lib.indexByte yt.data.toList b.toUInt8)=uI b:=by
 have:=rQ.1 KX b (List.mem_range.2 hb);exact tp.1 this
theorem Fl {a b:Nat × Nat × ByteArray} {c:Prop} [Decidable c]:(if c then a else b).1=if c then a.1 else b.1:=by split <;> rfl
theorem Fk {a b:Nat × Nat × ByteArray} {c:Prop} [Decidable c]:(if c then a else b).2.1=if c then a.2.1 else b.2.1:=by split <;> rfl
theorem Jl (s:ByteArray) (i:Nat) (hs:s.size≤2000) (hi:i < s.size) (w:World):
  Calls prog 49 #[.string s,.int .i64 (i:Int)] w fun e w'=>e=.returned (.tuple #[.int .i64 ((tk s i).1:Int),.int .i64 ((tk s i).2.1:Int)])∧w'=w:=by
 have bk:=mY s i hi;have hx:((s[i]).toNat:Int)=(aj s i:Int):=by rw[bk]
 have H1:=ab (CX (aj s i) (ke _ _) w);have H2:=ab (AU (aj s i) (ke _ _) w);have H3:=ab (Hl s i hs (by omega) w)
 have H4:=ab (Hp s i hs (by omega) w)
 have H5:=ab (CT s i hs hi w);have H6:=ab (Hf s i hs hi w);have lq:=rE s (i+1) (by omega)
 have lb:=CJ s (i+1) (by omega)
 have H7:=ab (Dt s 3 (cq s (i+1)) hs lq.2 w);have H8:=ab (Dt s 4 (cb s (i+1)) hs lb.2 w);have H9:=ab (If s i w hs (by omega))
 have HI:=ab (Tryz.strings_IndexByte yt (aj s i:Int) w);have HS:=ab (ME (aj s i) (ke _ _));have au:=ke s i;unfold tk;generalize cq s (i+1)=cQ at *;generalize cb s (i+1)=cB at *;generalize dd s dF i=pW at *;generalize dd s cW i=pD at *
 cases h1:di (aj s i) with
 | true=>
  rw[af rfl];rw[h1] at H1;clear h1 lq lb bk;generalize aj s i=b at *;go_enter func49,ntmps49;go_wp2_with (first | (go_at_call 85;refine(aa H1).mono ?_;rintro e w ⟨rfl,rfl⟩) | (go_at_call 47;refine(aa H3).mono ?_;rintro e w ⟨rfl,rfl⟩));go_ret2;exact⟨rfl,rfl⟩
 | false=>
  rw[ac (by decide)]
  rw[h1] at H1
  cases h2:cW (aj s i) with
  | true=>
   rw[af rfl];rw[h2] at H2;clear h1 h2 lq lb bk;generalize aj s i=b at *;go_enter func49,ntmps49;go_wp2_with (first | (go_at_call 85;refine(aa H1).mono ?_;rintro e w ⟨rfl,rfl⟩) | (go_at_call 87;refine(aa H2).mono ?_;rintro e w ⟨rfl,rfl⟩) | (go_at_call 47;refine(aa H4).mono ?_;rintro e w ⟨rfl,rfl⟩));go_ret2;exact⟨rfl,rfl⟩
  | false=>
   rw[ac (by decide)]
   rw[h2] at H2
   by_cases h3:aj s i=39
   ·rw[af h3]
    rw[Fl,Fk];dsimp only;rw[h3] at hx H1 H2;clear h1 h2 h3 lq lb bk HI HS H9 H8 H6;generalize (if cQ=s.size then 0 else 3:Nat)=A at *;generalize (if cQ=s.size then s.size else cQ+1:Nat)=B at *;go_enter func49,ntmps49;go_wp2_with (first | (go_at_call 85;refine(aa H1).mono ?_;rintro e w ⟨rfl,rfl⟩) | (go_at_call 87;refine(aa H2).mono ?_;rintro e w ⟨rfl,rfl⟩) | (go_at_call 89;refine(aa H5).mono ?_;rintro e w ⟨rfl,rfl⟩) | (go_at_call 88;refine(aa H7).mono ?_;rintro e w ⟨rfl,rfl⟩));go_ret2;exact⟨rfl,rfl⟩
   ·rw[ac h3]
    have e3:((aj s i:Int)==39)=false:=bn
    by_cases h4:aj s i=91
    ·rw[af h4]
     rw[Fl,Fk];dsimp only;rw[h4] at hx H1 H2 e3;clear h1 h2 h3 h4 lq lb bk HI HS H9 H7 H5;generalize (if cB=s.size then 0 else 4:Nat)=A at *;generalize (if cB=s.size then s.size else cB+1:Nat)=B at *;go_enter func49,ntmps49;go_wp2_with (first | (go_at_call 85;refine(aa H1).mono ?_;rintro e w ⟨rfl,rfl⟩) | (go_at_call 87;refine(aa H2).mono ?_;rintro e w ⟨rfl,rfl⟩) | (go_at_call 90;refine(aa H6).mono ?_;rintro e w ⟨rfl,rfl⟩) | (go_at_call 88;refine(aa H8).mono ?_;rintro e w ⟨rfl,rfl⟩));go_ret2;exact⟨rfl,rfl⟩
    ·rw[ac h4]
     have e4:((aj s i:Int)==91)=false:=bn
     by_cases h5:aj s i=58∧aj s (i+1)=61
     ·rw[af h5]
      rw[eW h5] at H9;clear h1 h2 h3 h4 h5 lq lb bk HI HS H8 H6 H7 H5;generalize aj s i=b at *;go_enter func49,ntmps49;go_wp2_with (first | (go_at_call 85;refine(aa H1).mono ?_;rintro e w ⟨rfl,rfl⟩) | (go_at_call 87;refine(aa H2).mono ?_;rintro e w ⟨rfl,rfl⟩) | (go_at_call 21;refine(aa H9).mono ?_;rintro e w ⟨rfl,rfl⟩));go_ret2;exact⟨rfl,rfl⟩
     ·rw[ac h5]
      rw[dh h5] at H9;have mR:Hid (Calls prog 91 #[.string ⟨#[61,63,38,43,45,42,47,37,40,41,60,62,44,58,36]⟩,.int .u8 (aj s i:Int)] w fun e w'=>e=.returned (.int .i64 (Lib.indexByte yt.data.toList (aj s i).toUInt8))∧w'=w):=ab (aa HI)
      generalize Lib.indexByte yt.data.toList (aj s i).toUInt8=ix at *
      cases h6:uI (aj s i) with
      | true=>
       rw[af rfl];have ma:0≤ix:=mG (by rw[aa HS];exact h6)
       clear h1 h2 h3 h4 h5 h6 lq lb bk HI HS H8 H6 H7 H5;generalize aj s i=b at *;go_enter func49,ntmps49;go_wp2_with (first | (go_at_call 85;refine(aa H1).mono ?_;rintro e w ⟨rfl,rfl⟩) | (go_at_call 87;refine(aa H2).mono ?_;rintro e w ⟨rfl,rfl⟩) | (go_at_call 21;refine(aa H9).mono ?_;rintro e w ⟨rfl,rfl⟩) | (go_at_call 91;refine(aa mR).mono ?_;rintro e w ⟨rfl,rfl⟩));go_ret2;exact⟨rfl,rfl⟩
      | false=>
       rw[ac (by decide)]
       have ma:¬0≤ix:=xC (by rw[aa HS];exact h6)
       clear h1 h2 h3 h4 h5 h6 lq lb bk HI HS H8 H6 H7 H5;generalize aj s i=b at *;go_enter func49,ntmps49;go_wp2_with (first | (go_at_call 85;refine(aa H1).mono ?_;rintro e w ⟨rfl,rfl⟩) | (go_at_call 87;refine(aa H2).mono ?_;rintro e w ⟨rfl,rfl⟩) | (go_at_call 21;refine(aa H9).mono ?_;rintro e w ⟨rfl,rfl⟩) | (go_at_call 91;refine(aa mR).mono ?_;rintro e w ⟨rfl,rfl⟩));go_ret2;exact⟨rfl,rfl⟩
open Go.RowKit
def kZ:List UInt8→List UInt8
 | []=>[]
 | [c]=>[c]
 | a::b::r=>if a=39∧b=39 then 39::kZ r else a::kZ (b::r)
theorem DY (a:UInt8) (l:List UInt8) (h:([39,39]:List UInt8).isPrefixOf (a::l)=false):kZ (a::l)=a::kZ l:=by
 cases l with
 | nil=>rfl
 | cons b r=>
  rw[kZ,ac];rintro⟨rfl,rfl⟩;simp[List.isPrefixOf] at h
theorem EJ (r:List UInt8):kZ (39::39::r)=39::kZ r:=by rw[kZ,af ⟨rfl,rfl⟩]
theorem BJ:∀l:List UInt8,(kZ l).length≤l.length
 | []=>ax _
 | [_]=>ax _
 | a::b::r=>by
  rw[kZ];split
  ·have:=BJ r;simp;omega
  ·have:=BJ (b::r);simp at this ⊢;omega
theorem Jr (b:UInt8) (l sub:List UInt8) (hp:sub.isPrefixOf (b::l)=false):Lib.index (b::l) sub=if Lib.index l sub= -1 then -1 else Lib.index l sub+1:=by
 rw[Lib.index,hp]
 by_cases h:Lib.index l sub= -1
 ·rw[h];rfl
 ·have:(Lib.index l sub== -1)=false:=bn h
  rw[this,ac h];rfl
theorem BQ:∀(n:Nat) (l:List UInt8),l.length≤n→Lib.replaceK [39,39] [39] (Lib.count l [39,39]) l=kZ l
 | _,[],_=>by
  rw[Lib.count_miss rfl];rfl
 | 0,a::l,h=>by simp at h
 | n+1,a::l,h=>by
  cases hp:([39,39]:List UInt8).isPrefixOf (a::l) with
  | true=>
   obtain⟨r,hr⟩:∃r,a::l=39::39::r:=by
    obtain⟨r,hr⟩:=List.isPrefixOf_iff_prefix.1 hp;exact⟨r,hr.symm⟩
   rw[hr];have h0:Lib.index (39::39::r) [39,39]=((0:Nat):Int):=by simp[Lib.index]
   rw[Lib.count_hit (by decide) h0,Nat.add_comm,Lib.replaceK_hit _ _ _ _ 0 h0,EJ]
   show []++[39]++Lib.replaceK [39,39] [39] (Lib.count r [39,39]) r=_;rw[BQ n r (by have:=aJ List.length hr;simp at this h;omega)];rfl
  | false=>
   have ih:=BQ n l (by simp at h;omega)
   rw[DY a l hp];have hx:=Jr a l [39,39] hp
   by_cases hm:Lib.index l [39,39]= -1
   ·rw[af hm] at hx
    rw[Lib.count_miss hx];rw[Lib.count_miss hm] at ih;show a::l=_;rw[←ih];rfl
   ·rw[ac hm] at hx
    obtain⟨i,hi⟩:∃i:Nat,Lib.index l [39,39]=i:=⟨(Lib.index l [39,39]).toNat,by have:=Lib.index_ge l [39,39];omega⟩
    rw[hi] at hx;have hx':Lib.index (a::l) [39,39]=((i+1:Nat):Int):=hx;rw[Lib.count_hit (by decide) hi,Nat.add_comm,Lib.replaceK_hit _ _ _ _ i hi] at ih
    rw[Lib.count_hit (by decide) hx',Nat.add_comm,Lib.replaceK_hit _ _ _ _ (i+1) hx',←ih]
    have:(a::l).drop (i+1+([39,39]:List UInt8).length)=l.drop (i+([39,39]:List UInt8).length):=by
     show (a::l).drop (i+1+2)=l.drop (i+2);rw[show i+1+2=(i+2)+1 by omega,List.drop_succ_cons]
    rw[this,List.take_succ_cons];rfl
theorem Iq (l:List UInt8):Lib.replaceAll l [39,39] [39]=kZ l:=by
 unfold Lib.replaceAll Lib.replace Lib.replaceNum;rw[ac (by decide),af (.inl (by decide))]
 exact BQ l.length l (ax _)
def sec (s:ByteArray) (i j:Nat):List UInt8:=(s.data.toList.drop i).take (j - i)
theorem Bo (s:ByteArray) (i j:Nat) (h:i < j) (hj:j≤s.size):sec s i j=s.data.toList.getD i 0::sec s (i+1) j:=by
 unfold sec;have hl:i < s.data.toList.length:=by
                      have:s.data.toList.length=s.size:=by simp
                      omega
 rw[AB hl,show j - i=(j - (i+1))+1 by omega,List.take_succ_cons,List.getD,jH hl];rfl
theorem K0 (s:ByteArray) (i:Nat):sec s i i=[]:=by unfold sec;rw[Nat.sub_self];rfl
theorem FD {s:ByteArray} {i n:Nat} (h:aj s i=n) (hn:n < 256):s.data.toList.getD i 0=UInt8.ofNat n:=(Af hn).2 h
theorem ct_und (s:ByteArray) (i:Nat) (hi:i≤s.size) (h:cq s i < s.size):kZ (sec s i (cq s i))=ct s i:=
 xk (P:=fun i=>i≤s.size→cq s i < s.size→kZ (sec s i (cq s i))=ct s i) (fun i hi _ h=>by rw[yz hi] at h;omega)
  (fun i hi hb ih _ h=>by
   rw[yc hi hb] at h ⊢;have eI:=rE s (i+1) (by omega)
   rw[Bo s i _ (by omega) (by omega),yb hi hb,DY,ih (by omega) h]
   cases hp:([39,39]:List UInt8).isPrefixOf (s.data.toList.getD i 0::sec s (i+1) (cq s (i+1))) with
   | false=>rfl
   | true=>
    exfalso;obtain⟨r,hr⟩:=List.isPrefixOf_iff_prefix.1 hp;have:s.data.toList.getD i 0=39:=(by injection hr with h1 _;exact h1.symm)
    exact hb (by rw[←zK,this];rfl))
  (fun i hb hc ih _ h=>by
   rw[yx hb hc] at h ⊢;have h1:=mx (s:=s) (i:=i+1) (by omega)
   have eI:=rE s (i+2) (by omega)
   rw[Bo s i _ (by omega) (by omega),Bo s (i+1) _ (by omega) (by omega),FD hb (by decide),FD hc (by decide)]
   rw[show (UInt8.ofNat 39)=39 from rfl,EJ,yw hb hc,ih (by omega) h])
  (fun i hb hc _ h=>by rw[ym hb hc,K0,yl hb hc];rfl) s.size i (by omega) hi h
theorem K1 (s:ByteArray) (i j:Nat):(s.extract i j).data.toList=sec s i j:=by
 rw[←m7];exact xK s i j
theorem CZ (s:ByteArray) (i e:Nat) (h:i+1≤e) (he:e≤s.size):(s.extract i e).extract 1 ((s.extract i e).size - 1)=s.extract (i+1) (e - 1):=by
 rw[ByteArray.extract_extract];have:(s.extract i e).size=e - i:=by simp;omega
 rw[this]
 congr 1
 omega
end Go.Proofs.YtlmnjbipfacniaaGreatDoor
namespace Go.Proofs
open Go.Shelf Go.RowKit Go.Lib
def Tryz.lays155_ren:Go.Shelf.Ren:=⟨fun | 155=>92 | 154=>132 | 138=>139 | 165=>81 | 143=>125 | 166=>82 | 197=>148 | 169=>83 | 195=>153 | 218=>154 | 240=>129 | 241=>130 | 219=>143 | 260=>164 | 276=>145 | 277=>146 | 217=>131 | 225=>157 | 224=>158 | 267=>159 | 266=>147 | 314=>170 | n=>n,fun | 9=>9 | 3=>3 | 4=>4 | 72=>133 | 0=>0 | 76=>136 | 105=>182 | 21=>21 | 5=>5 | 70=>131 | 20=>20 | 37=>48 | 75=>135 | 127=>167 | 164=>179 | 46=>190 | 119=>206 | 139=>209 | 138=>208 | 146=>200 | 51=>199 | 80=>106 | n=>n,fun | 1=>2 | 3=>4 | 4=>5 | n=>n⟩
theorem Tryz.lays155:Go.Proofs.Lays.n155 Tryz.prog Tryz.lays155_ren:={
 mixed:=by kernel_rfl
 f138:=Tryz.func139.trans (congrArg some (by kernel_rfl))
 f143:=Tryz.func125.trans (congrArg some (by kernel_rfl))
 f154:=Tryz.func132.trans (congrArg some (by kernel_rfl))
 f155:=Tryz.func92.trans (congrArg some (by kernel_rfl))
 f165:=Tryz.func81.trans (congrArg some (by kernel_rfl))
 f166:=Tryz.func82.trans (congrArg some (by kernel_rfl))
 f169:=Tryz.func83.trans (congrArg some (by kernel_rfl))
 f195:=Tryz.func153.trans (congrArg some (by kernel_rfl))
 f197:=Tryz.func148.trans (congrArg some (by kernel_rfl))
 f217:=Tryz.func131.trans (congrArg some (by kernel_rfl))
 f218:=Tryz.func154.trans (congrArg some (by kernel_rfl))
 f219:=Tryz.func143.trans (congrArg some (by kernel_rfl))
 f224:=Tryz.func158.trans (congrArg some (by kernel_rfl))
 f225:=Tryz.func157.trans (congrArg some (by kernel_rfl))
 f240:=Tryz.func129.trans (congrArg some (by kernel_rfl))
 f241:=Tryz.func130.trans (congrArg some (by kernel_rfl))
 f260:=Tryz.func164.trans (congrArg some (by kernel_rfl))
 f266:=Tryz.func147.trans (congrArg some (by kernel_rfl))
 f267:=Tryz.func159.trans (congrArg some (by kernel_rfl))
 f276:=Tryz.func145.trans (congrArg some (by kernel_rfl))
 f277:=Tryz.func146.trans (congrArg some (by kernel_rfl))
 f314:=Tryz.func170.trans (congrArg some (by kernel_rfl))
 t0:=Tryz.underlying0
 a0:=Tryz.isAgg0
 z0:=Tryz.sizeOf0
 v0:=Tryz.zeroValue0
 t3:=Tryz.underlying3
 a3:=Tryz.isAgg3
 z3:=Tryz.sizeOf3
 v3:=Tryz.zeroValue3
 t4:=Tryz.underlying4
 a4:=Tryz.isAgg4
 z4:=Tryz.sizeOf4
 v4:=Tryz.zeroValue4
 t5:=Tryz.underlying5
 a5:=Tryz.isAgg5
 z5:=Tryz.sizeOf5
 v5:=Tryz.zeroValue5
 t9:=Tryz.underlying9
 a9:=Tryz.isAgg9
 z9:=Tryz.sizeOf9
 v9:=Tryz.zeroValue9
 t20:=Tryz.underlying20
 a20:=Tryz.isAgg20
 z20:=Tryz.sizeOf20
 v20:=Tryz.zeroValue20
 t21:=Tryz.underlying21
 a21:=Tryz.isAgg21
 z21:=Tryz.sizeOf21
 v21:=Tryz.zeroValue21
 t37:=Tryz.underlying48
 a37:=Tryz.isAgg48
 z37:=Tryz.sizeOf48
 v37:=Tryz.zeroValue48
 t46:=Tryz.underlying190
 a46:=Tryz.isAgg190
 z46:=Tryz.sizeOf190
 v46:=Tryz.zeroValue190
 t51:=Tryz.underlying199
 a51:=Tryz.isAgg199
 z51:=Tryz.sizeOf199
 v51:=Tryz.zeroValue199
 t70:=Tryz.underlying131
 a70:=Tryz.isAgg131
 z70:=Tryz.sizeOf131
 v70:=Tryz.zeroValue131
 t72:=Tryz.underlying133
 a72:=Tryz.isAgg133
 z72:=Tryz.sizeOf133
 v72:=Tryz.zeroValue133
 t75:=Tryz.underlying135
 a75:=Tryz.isAgg135
 z75:=Tryz.sizeOf135
 v75:=Tryz.zeroValue135
 t76:=Tryz.underlying136
 a76:=Tryz.isAgg136
 z76:=Tryz.sizeOf136
 v76:=Tryz.zeroValue136
 t105:=Tryz.underlying182
 a105:=Tryz.isAgg182
 z105:=Tryz.sizeOf182
 v105:=Tryz.zeroValue182
 t119:=Tryz.underlying206
 a119:=Tryz.isAgg206
 z119:=Tryz.sizeOf206
 t127:=Tryz.underlying167
 a127:=Tryz.isAgg167
 z127:=Tryz.sizeOf167
 v127:=Tryz.zeroValue167
 t138:=Tryz.underlying208
 a138:=Tryz.isAgg208
 z138:=Tryz.sizeOf208
 v138:=Tryz.zeroValue208
 t139:=Tryz.underlying209
 a139:=Tryz.isAgg209
 z139:=Tryz.sizeOf209
 v139:=Tryz.zeroValue209
 t146:=Tryz.underlying200
 a146:=Tryz.isAgg200
 z146:=Tryz.sizeOf200
 v146:=Tryz.zeroValue200
 t164:=Tryz.underlying179
 a164:=Tryz.isAgg179
 z164:=Tryz.sizeOf179
 v164:=Tryz.zeroValue179
 g1:=by kernel_rfl
 g3:=by kernel_rfl
 g4:=by kernel_rfl}
theorem Tryz.Builder_Extra_155:Builder.Extra Tryz.prog Tryz.lays155_ren:={
 sizeBuilder:=by kernel_rfl
 liesBuilder:=by kernel_rfl
 t5:=Tryz.underlying5
 a5:=Tryz.isAgg5
 z5:=Tryz.sizeOf5
 v5:=Tryz.zeroValue5
 infoByte:=by kernel_rfl
 cellsByte:=by kernel_rfl
 sizeByte:=by kernel_rfl
 neB5:=by decide}
theorem Tryz.strings_ReplaceAll (s old new:ByteArray) (m:Int) (w:World) (hs:s.size < 4294967281) (hm:w.cell? ⟨2,0,none⟩=some (.int .i64 m)) (h1:1≤old.size) (hlen:s.size+Lib.countB s old * new.size≤140737488355328):
  Calls Tryz.prog 92 #[.string s,.string old,.string new] w fun e w'=>
   e=.returned (.string ⟨(Lib.replaceAll s.data.toList old.data.toList new.data.toList).toArray⟩)∧Below w.heap.size w w':=Any.strings_ReplaceAll Tryz.lays155 Tryz.Builder_Extra_155 s old new m w hs hm h1 hlen
def Tryz.laysM155_ren:Go.Shelf.Ren:=⟨fun | 155=>92 | 154=>132 | 138=>139 | 165=>81 | 143=>125 | 166=>82 | 197=>148 | 169=>83 | 195=>153 | 218=>154 | 240=>129 | 241=>130 | 219=>143 | 260=>164 | 276=>145 | 277=>146 | 217=>131 | 225=>157 | 224=>158 | 267=>159 | 266=>147 | 314=>170 | n=>n,fun | 9=>9 | 3=>3 | 4=>4 | 72=>133 | 0=>0 | 76=>136 | 105=>182 | 21=>21 | 5=>5 | 70=>131 | 20=>20 | 37=>48 | 75=>135 | 127=>167 | 164=>179 | 46=>190 | 119=>206 | 139=>209 | 138=>208 | 146=>200 | 51=>199 | 80=>106 | n=>n,fun | 1=>2 | 3=>4 | 4=>5 | n=>n⟩
theorem Tryz.laysM155:Go.Proofs.LaysM.n155 Tryz.prog Tryz.laysM155_ren:={
 mixed:=by kernel_rfl
 f138:=Tryz.func139.trans (congrArg some (by kernel_rfl))
 f143:=Tryz.func125.trans (congrArg some (by kernel_rfl))
 f154:=Tryz.func132.trans (congrArg some (by kernel_rfl))
 f155:=Tryz.func92.trans (congrArg some (by kernel_rfl))
 f165:=Tryz.func81.trans (congrArg some (by kernel_rfl))
 f166:=Tryz.func82.trans (congrArg some (by kernel_rfl))
 f169:=Tryz.func83.trans (congrArg some (by kernel_rfl))
 f195:=Tryz.func153.trans (congrArg some (by kernel_rfl))
 f197:=Tryz.func148.trans (congrArg some (by kernel_rfl))
 f217:=Tryz.func131.trans (congrArg some (by kernel_rfl))
 f218:=Tryz.func154.trans (congrArg some (by kernel_rfl))
 f219:=Tryz.func143.trans (congrArg some (by kernel_rfl))
 f224:=Tryz.func158.trans (congrArg some (by kernel_rfl))
 f225:=Tryz.func157.trans (congrArg some (by kernel_rfl))
 f240:=Tryz.func129.trans (congrArg some (by kernel_rfl))
 f241:=Tryz.func130.trans (congrArg some (by kernel_rfl))
 f260:=Tryz.func164.trans (congrArg some (by kernel_rfl))
 f266:=Tryz.func147.trans (congrArg some (by kernel_rfl))
 f267:=Tryz.func159.trans (congrArg some (by kernel_rfl))
 f276:=Tryz.func145.trans (congrArg some (by kernel_rfl))
 f277:=Tryz.func146.trans (congrArg some (by kernel_rfl))
 f314:=Tryz.func170.trans (congrArg some (by kernel_rfl))
 t0:=Tryz.underlying0
 a0:=Tryz.isAgg0
 z0:=Tryz.sizeOf0
 v0:=Tryz.zeroValue0
 t3:=Tryz.underlying3
 a3:=Tryz.isAgg3
 z3:=Tryz.sizeOf3
 v3:=Tryz.zeroValue3
 t4:=Tryz.underlying4
 a4:=Tryz.isAgg4
 z4:=Tryz.sizeOf4
 v4:=Tryz.zeroValue4
 t5:=Tryz.underlying5
 a5:=Tryz.isAgg5
 z5:=Tryz.sizeOf5
 v5:=Tryz.zeroValue5
 t9:=Tryz.underlying9
 a9:=Tryz.isAgg9
 z9:=Tryz.sizeOf9
 v9:=Tryz.zeroValue9
 t20:=Tryz.underlying20
 a20:=Tryz.isAgg20
 z20:=Tryz.sizeOf20
 v20:=Tryz.zeroValue20
 t21:=Tryz.underlying21
 a21:=Tryz.isAgg21
 z21:=Tryz.sizeOf21
 v21:=Tryz.zeroValue21
 t37:=Tryz.underlying48
 a37:=Tryz.isAgg48
 z37:=Tryz.sizeOf48
 v37:=Tryz.zeroValue48
 t46:=Tryz.underlying190
 a46:=Tryz.isAgg190
 z46:=Tryz.sizeOf190
 v46:=Tryz.zeroValue190
 t51:=Tryz.underlying199
 a51:=Tryz.isAgg199
 z51:=Tryz.sizeOf199
 v51:=Tryz.zeroValue199
 t70:=Tryz.underlying131
 a70:=Tryz.isAgg131
 z70:=Tryz.sizeOf131
 v70:=Tryz.zeroValue131
 t72:=Tryz.underlying133
 a72:=Tryz.isAgg133
 z72:=Tryz.sizeOf133
 v72:=Tryz.zeroValue133
 t75:=Tryz.underlying135
 a75:=Tryz.isAgg135
 z75:=Tryz.sizeOf135
 v75:=Tryz.zeroValue135
 t76:=Tryz.underlying136
 a76:=Tryz.isAgg136
 z76:=Tryz.sizeOf136
 v76:=Tryz.zeroValue136
 t105:=Tryz.underlying182
 a105:=Tryz.isAgg182
 z105:=Tryz.sizeOf182
 v105:=Tryz.zeroValue182
 t119:=Tryz.underlying206
 a119:=Tryz.isAgg206
 z119:=Tryz.sizeOf206
 t127:=Tryz.underlying167
 a127:=Tryz.isAgg167
 z127:=Tryz.sizeOf167
 v127:=Tryz.zeroValue167
 t138:=Tryz.underlying208
 a138:=Tryz.isAgg208
 z138:=Tryz.sizeOf208
 v138:=Tryz.zeroValue208
 t139:=Tryz.underlying209
 a139:=Tryz.isAgg209
 z139:=Tryz.sizeOf209
 v139:=Tryz.zeroValue209
 t146:=Tryz.underlying200
 a146:=Tryz.isAgg200
 z146:=Tryz.sizeOf200
 v146:=Tryz.zeroValue200
 t164:=Tryz.underlying179
 a164:=Tryz.isAgg179
 z164:=Tryz.sizeOf179
 v164:=Tryz.zeroValue179
 g1:=by kernel_rfl
 g3:=by kernel_rfl
 g4:=by kernel_rfl
 t80:=Tryz.underlying106
 a80:=Tryz.isAgg106
 z80:=Tryz.sizeOf106
 v80:=Tryz.zeroValue106
 i0:=by kernel_rfl
 i3:=by kernel_rfl
 i4:=by kernel_rfl
 i5:=by kernel_rfl
 i9:=by kernel_rfl
 i20:=by kernel_rfl
 i21:=by kernel_rfl
 i37:=by kernel_rfl
 i46:=by kernel_rfl
 i51:=by kernel_rfl
 i70:=by kernel_rfl
 i72:=by kernel_rfl
 i75:=by kernel_rfl
 i76:=by kernel_rfl
 i80:=by kernel_rfl
 i105:=by kernel_rfl
 i127:=by kernel_rfl
 i138:=by kernel_rfl
 i139:=by kernel_rfl
 i146:=by kernel_rfl
 i164:=by kernel_rfl
 m1:=by kernel_rfl
 s1_3:=fun w h=>Go.Proofs.cell_of_shapedOpen_int (zero:= #[.int .i64 0]) (t:=3) h (of_decide_eq_true (by kernel_rfl)) (by kernel_rfl) rfl (by kernel_rfl) (by kernel_rfl) Tryz.underlying3
 m3:=by kernel_rfl
 m4:=by kernel_rfl}
end Go.Proofs
