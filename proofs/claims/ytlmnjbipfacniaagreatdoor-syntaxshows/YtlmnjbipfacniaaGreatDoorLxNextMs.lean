/- The small functions of lex. Where quotes and patterns are cl -/
import Derived.Test.YtlmnjbipfacniaaGreatDoorLxPlainMs
import Derived.Test.YtlmnjbipfacniaaGreatDoorExFitsMs
set_option maxRecDepth 10000
set_option maxHeartbeats 800000
namespace Go.Proofs.YtlmnjbipfacniaaGreatDoor
open Go.Proofs.Tryz
open Go.RowKit
theorem Ha (b:Nat) (_hb:b < 256) (w:World):
  Calls prog 48 #[.int .u8 (b:Int)] w fun e w'=>e=.returned (.bool (dR b))∧w'=w:=by
 go_enter func48,ntmps48;go_wp2;go_ret;exact⟨qI (by unfold dR;rw[uP];simp;omega),rfl⟩
theorem CD (b:Nat) (hb:b < 256) (w:World):
  Calls prog 85 #[.int .u8 (b:Int)] w fun e w'=>e=.returned (.bool (dj b))∧w'=w:=by
 have hc:(65≤b∧b≤90)∨b < 65∨(65≤b∧90 < b):=by omega
 rcases hc with ⟨h1,h2⟩ | h | ⟨h1,h2⟩
 ·rw[show dj b=true from fk (by omega)]
  go_enter func85,ntmps85;go_wp2;go_ret;exact⟨qI (by simp;omega),rfl⟩
 ·rw[show dj b=false from db (by omega)]
  go_enter func85,ntmps85;go_wp2;go_ret;exact⟨rfl,rfl⟩
 ·rw[show dj b=false from db (by omega)]
  go_enter func85,ntmps85;go_wp2;go_ret;exact⟨qI (by simp;omega),rfl⟩
theorem AJ (b:Nat) (hb:b < 256) (w:World):
  Calls prog 87 #[.int .u8 (b:Int)] w fun e w'=>e=.returned (.bool (cR b))∧w'=w:=by
 have hc:(48≤b∧b≤57)∨b < 48∨(48≤b∧57 < b):=by omega
 rcases hc with ⟨h1,h2⟩ | h | ⟨h1,h2⟩
 ·rw[show cR b=true from fk (by omega)]
  go_enter func87,ntmps87;go_wp2;go_ret;exact⟨qI (by simp;omega),rfl⟩
 ·rw[show cR b=false from db (by omega)]
  go_enter func87,ntmps87;go_wp2;go_ret;exact⟨rfl,rfl⟩
 ·rw[show cR b=false from db (by omega)]
  go_enter func87,ntmps87;go_wp2;go_ret;exact⟨qI (by simp;omega),rfl⟩
theorem Ie (b:Nat) (hb:b < 256) (w:World):
  Calls prog 86 #[.int .u8 (b:Int)] w fun e w'=>e=.returned (.bool (dB b))∧w'=w:=by
 have H1:=ab (CD b hb w);have H2:=ab (AJ b hb w);unfold dB;generalize dj b=x at *;generalize cR b=y at *
 cases x
 ·go_enter func86,ntmps86
  go_wp2_with (first | (go_at_call 85;refine(aa H1).mono ?_;rintro e w ⟨rfl,rfl⟩) | (go_at_call 87;refine(aa H2).mono ?_;rintro e w ⟨rfl,rfl⟩));go_ret;exact⟨rfl,rfl⟩
 ·go_enter func86,ntmps86
  go_wp2_with (first | (go_at_call 85;refine(aa H1).mono ?_;rintro e w ⟨rfl,rfl⟩));go_ret;exact⟨rfl,rfl⟩
theorem CC (s:ByteArray) (i:Nat) (hs:s.size≤2000) (hi:i≤s.size) (w:World):
  Calls prog 47 #[.string s,.int .i64 (i:Int),.func (.func 48) #[] #[]] w fun e w'=>e=.returned (.int .i64 (cZ s dR i:Int))∧w'=w:=by
 go_enter func47,ntmps47;go_wp2_with fail;go_loop [1] (fun v=>∃k:Nat,k≤s.size∧v=.int .i64 (k:Int)∧Hid (cZ s dR i=cZ s dR k)) (fun v=>s.size - (intOf v).toNat)
 case atStart=>exact⟨i,hi,rfl,rfl⟩
 case round=>
  obtain⟨k,hk,rfl,HU⟩:=hrel;rcases cG k s.size with hkt | hkt
  ·have bk:=mw s k hkt
   have Hk:=ab bk;clear bk;have HS:=ab (fun h=> @nT s dR k hkt h)
   have HT:=ab (fun h=> @oL s dR k h)
   have HC:=ab (Ha (aj s k) (jY _ _));generalize hq:dR (aj s k)=q at *;clear hq
   cases q
   ·have ke:=ab (aa HT fun _=>rfl)
    clear HT HS;go_wp2_with (rw[aa Hk];refine(aa HC _).mono ?_;rintro e w ⟨rfl,rfl⟩);go_ret;exact⟨by rw[aa HU,aa ke];rfl,rfl⟩
   ·have gQ:=ab (aa HS rfl)
    clear HT HS;go_wp2_with (rw[aa Hk];refine(aa HC _).mono ?_;rintro e w ⟨rfl,rfl⟩);exact⟨⟨k+1,by omega,rfl,by rw[aa HU];exact aa gQ⟩,by simp[intOf];omega⟩
  ·have hk':k=s.size:=by omega
   subst hk';have HT:=ab (@oL s dR s.size (fun h=>by omega))
   go_wp2_with fail;go_ret;exact⟨by rw[aa HU,aa HT];rfl,rfl⟩
theorem GS (s:ByteArray) (i:Nat) (hs:s.size≤2000) (hi:i≤s.size) (w:World):
  Calls prog 47 #[.string s,.int .i64 (i:Int),.func (.func 86) #[] #[]] w fun e w'=>e=.returned (.int .i64 (cZ s dB i:Int))∧w'=w:=by
 go_enter func47,ntmps47;go_wp2_with fail;go_loop [1] (fun v=>∃k:Nat,k≤s.size∧v=.int .i64 (k:Int)∧Hid (cZ s dB i=cZ s dB k)) (fun v=>s.size - (intOf v).toNat)
 case atStart=>exact⟨i,hi,rfl,rfl⟩
 case round=>
  obtain⟨k,hk,rfl,HU⟩:=hrel;rcases cG k s.size with hkt | hkt
  ·have bk:=mw s k hkt
   have Hk:=ab bk;clear bk;have HS:=ab (fun h=> @nT s dB k hkt h)
   have HT:=ab (fun h=> @oL s dB k h)
   have HC:=ab (Ie (aj s k) (jY _ _));generalize hq:dB (aj s k)=q at *;clear hq
   cases q
   ·have ke:=ab (aa HT fun _=>rfl)
    clear HT HS;go_wp2_with (rw[aa Hk];refine(aa HC _).mono ?_;rintro e w ⟨rfl,rfl⟩);go_ret;exact⟨by rw[aa HU,aa ke];rfl,rfl⟩
   ·have gQ:=ab (aa HS rfl)
    clear HT HS;go_wp2_with (rw[aa Hk];refine(aa HC _).mono ?_;rintro e w ⟨rfl,rfl⟩);exact⟨⟨k+1,by omega,rfl,by rw[aa HU];exact aa gQ⟩,by simp[intOf];omega⟩
  ·have hk':k=s.size:=by omega
   subst hk';have HT:=ab (@oL s dB s.size (fun h=>by omega))
   go_wp2_with fail;go_ret;exact⟨by rw[aa HU,aa HT];rfl,rfl⟩
theorem GW (s:ByteArray) (i:Nat) (hs:s.size≤2000) (hi:i≤s.size) (w:World):
  Calls prog 47 #[.string s,.int .i64 (i:Int),.func (.func 87) #[] #[]] w fun e w'=>e=.returned (.int .i64 (cZ s cR i:Int))∧w'=w:=by
 go_enter func47,ntmps47;go_wp2_with fail;go_loop [1] (fun v=>∃k:Nat,k≤s.size∧v=.int .i64 (k:Int)∧Hid (cZ s cR i=cZ s cR k)) (fun v=>s.size - (intOf v).toNat)
 case atStart=>exact⟨i,hi,rfl,rfl⟩
 case round=>
  obtain⟨k,hk,rfl,HU⟩:=hrel;rcases cG k s.size with hkt | hkt
  ·have bk:=mw s k hkt
   have Hk:=ab bk;clear bk;have HS:=ab (fun h=> @nT s cR k hkt h)
   have HT:=ab (fun h=> @oL s cR k h)
   have HC:=ab (AJ (aj s k) (jY _ _));generalize hq:cR (aj s k)=q at *;clear hq
   cases q
   ·have ke:=ab (aa HT fun _=>rfl)
    clear HT HS;go_wp2_with (rw[aa Hk];refine(aa HC _).mono ?_;rintro e w ⟨rfl,rfl⟩);go_ret;exact⟨by rw[aa HU,aa ke];rfl,rfl⟩
   ·have gQ:=ab (aa HS rfl)
    clear HT HS;go_wp2_with (rw[aa Hk];refine(aa HC _).mono ?_;rintro e w ⟨rfl,rfl⟩);exact⟨⟨k+1,by omega,rfl,by rw[aa HU];exact aa gQ⟩,by simp[intOf];omega⟩
  ·have hk':k=s.size:=by omega
   subst hk';have HT:=ab (@oL s cR s.size (fun h=>by omega))
   go_wp2_with fail;go_ret;exact⟨by rw[aa HU,aa HT];rfl,rfl⟩
theorem C8 (s:ByteArray) (k c:Nat) (hs:s.size≤2000) (hc:c≤s.size) (w:World):
  Calls prog 88 #[.string s,.int .i64 (k:Int),.int .i64 (c:Int)] w fun e w'=>e=.returned (.tuple #[.int .i64 ((if c=s.size then 0 else k:Nat):Int),.int .i64 ((if c=s.size then s.size else c+1:Nat):Int)])∧w'=w:=by
 by_cases h:c=s.size
 ·subst h
  rw[af rfl,af rfl];go_enter func88,ntmps88;go_wp2;go_ret2;exact⟨rfl,rfl⟩
 ·rw[ac h,ac h]
  have h1:((c:Int)==(s.size:Int))=false:=bn;go_enter func88,ntmps88;go_wp2;go_ret2;exact⟨rfl,rfl⟩
open Go.RowKit
theorem zE (s:ByteArray) (i:Nat):(s.data.toList.getD i 0).toNat=aj s i:=rfl
theorem xH (s:ByteArray) (i j:Nat):(s.extract i j).toList=(s.data.toList.drop i).take (j - i):=by
 rw[lW,ByteArray.data_extract,Array.toList_extract,List.extract_eq_take_drop]
theorem Kr (l:List UInt8) (i:Nat) (h:i < l.length):(l.drop i).take 1=[l.getD i 0]:=by
 rw[yG h,List.getD,gT h];rfl
theorem Kq (l:List UInt8) (i:Nat) (h:i+1 < l.length):(l.drop i).take 2=[l.getD i 0,l.getD (i+1) 0]:=by
 rw[yG (by omega),yG h,List.getD,List.getD,gT (by omega),gT h];rfl
theorem z6 {x:UInt8} {n:Nat} (h:n < 256):x=UInt8.ofNat n↔x.toNat=n:=by
 constructor
 ·rintro rfl;rw[uJ];omega
 ·intro e;apply tp.1;rw[uJ,e];omega
theorem Dg (s:ByteArray) (i:Nat):(s.extract i s.size).size=s.size - i:=by simp
theorem Mq (s:ByteArray) (i:Nat) (h:i < s.size):(((s.extract i s.size).extract 0 1).toList==[39])=decide (aj s i=39):=by
 have hl:i < s.data.toList.length:=by simpa using h
 have e:((s.extract i s.size).extract 0 1).toList=[s.data.toList.getD i 0]:=by
  rw[xH,←lW,xH];have:(s.data.toList.drop i).take (s.size - i)=s.data.toList.drop i:=Aq (by simp)
  rw[this,List.drop_zero];exact Kr _ _ hl
 rw[e,←zE];generalize s.data.toList.getD i 0=x;rw[uP];simp only[se,mH,mI,decide_eq_true_eq];exact z6 (n:=39) (by decide)
theorem Mp (s:ByteArray) (i:Nat) (h:i+1 < s.size):(((s.extract i s.size).extract 0 2).toList==[58,61])=decide (aj s i=58∧aj s (i+1)=61):=by
 have hl:i+1 < s.data.toList.length:=by simpa using h
 have e:((s.extract i s.size).extract 0 2).toList=[s.data.toList.getD i 0,s.data.toList.getD (i+1) 0]:=by
  rw[xH,←lW,xH];have:(s.data.toList.drop i).take (s.size - i)=s.data.toList.drop i:=Aq (by simp)
  rw[this,List.drop_zero];exact Kq _ _ hl
 rw[e,←zE,←zE];generalize s.data.toList.getD i 0=x;generalize s.data.toList.getD (i+1) 0=y;rw[uP];simp only[se,mH,mI,decide_eq_true_eq];exact and_congr (z6 (n:=58) (by decide)) (z6 (n:=61) (by decide))
theorem GX (s:ByteArray) (i:Nat) (w:World) (_hs:s.size≤2000) (hi:i≤s.size):
  Calls prog 46 #[.string (s.extract i s.size),.string ⟨#[39]⟩] w fun e w'=>e=.returned (.bool (decide (aj s i=39)))∧w'=w:=by
 have hz:=Dg s i;have HP:=ab (Mq s i);have HE:=ab (pM s i);generalize s.extract i s.size=t at *
 by_cases h0:i=s.size
 ·have h1:(t.size:Int) < 1:=by omega
  have dd:=ab (aa HE (by omega))
  clear h0 hz;go_enter func46,ntmps46;go_wp2;go_ret;exact⟨by rw[aa dd];rfl,rfl⟩
 ·have h1:(1:Int)≤(t.size:Int):=by omega
  have dz:=ab (aa HP (by omega))
  clear h0 hz;go_enter func46,ntmps46;go_wp2;go_ret;exact⟨qI (aa dz),rfl⟩
theorem Hb (s:ByteArray) (i:Nat) (w:World) (hs:s.size≤2000) (hi:i≤s.size):
  Calls prog 21 #[.string (s.extract i s.size),.string ⟨#[39]⟩] w fun e w'=>e=.returned (.bool (decide (aj s i=39)))∧w'=w:=by
 have C:=ab (GX s i w hs hi);generalize s.extract i s.size=t at *;go_enter func21,ntmps21;go_wp2_with fail;refine(aa C).mono ?_;rintro e w ⟨rfl,rfl⟩;go_wp2;go_ret;exact⟨rfl,rfl⟩
theorem GY (s:ByteArray) (i:Nat) (w:World) (_hs:s.size≤2000) (_hi:i≤s.size):
  Calls prog 46 #[.string (s.extract i s.size),.string ⟨#[58,61]⟩] w fun e w'=>e=.returned (.bool (decide (aj s i=58∧aj s (i+1)=61)))∧w'=w:=by
 have hz:=Dg s i;have HP:=ab (Mp s i);have HE:Hid (s.size≤i+1→decide (aj s i=58∧aj s (i+1)=61)=false):=ab (fun h=>db (fun k=>by have:=pM s (i+1) h;omega))
 generalize decide (aj s i=58∧aj s (i+1)=61)=q at *;generalize s.extract i s.size=t at *
 by_cases h0:s.size≤i+1
 ·have h1:(t.size:Int) < 2:=by omega
  have dd:=ab (aa HE h0);clear h0 hz;go_enter func46,ntmps46;go_wp2;go_ret;exact⟨by rw[aa dd];rfl,rfl⟩
 ·have h1:(2:Int)≤(t.size:Int):=by omega
  have dz:=ab (aa HP (by omega))
  clear h0 hz;go_enter func46,ntmps46;go_wp2;go_ret;exact⟨qI (aa dz),rfl⟩
theorem Hc (s:ByteArray) (i:Nat) (w:World) (hs:s.size≤2000) (hi:i≤s.size):
  Calls prog 21 #[.string (s.extract i s.size),.string ⟨#[58,61]⟩] w fun e w'=>e=.returned (.bool (decide (aj s i=58∧aj s (i+1)=61)))∧w'=w:=by
 have C:=ab (GY s i w hs hi);generalize s.extract i s.size=t at *;generalize decide (aj s i=58∧aj s (i+1)=61)=q at *;go_enter func21,ntmps21;go_wp2_with fail;refine(aa C).mono ?_;rintro e w ⟨rfl,rfl⟩;go_wp2;go_ret;exact⟨rfl,rfl⟩
theorem Cx (s:ByteArray) (i:Nat) (hs:s.size≤2000) (hi:i < s.size) (w:World):
  Calls prog 89 #[.string s,.int .i64 (i:Int)] w fun e w'=>e=.returned (.int .i64 (cq s (i+1):Int))∧w'=w:=by
 go_enter func89,ntmps89;go_wp2_with fail;go_loop [5] (fun v=>∃k:Nat,k≤s.size∧v=.int .i64 (k:Int)∧Hid (cq s (i+1)=cq s k)) (fun v=>s.size - (intOf v).toNat)
 case atStart=>exact⟨i+1,by omega,rfl,rfl⟩
 case round=>
  obtain⟨k,hk,rfl,HU⟩:=hrel;rcases cG k s.size with hkt | hkt
  ·have bk:=mw s k hkt
   have hx:((s[k]).toNat:Int)=(aj s k:Int):=by rw[bk]
   have HP:=ab (Hb s (k+1) w hs (by omega))
   have H1:=ab (@xW s k hkt);have H2:=ab (@yr s k);have H3:=ab (@yf s k);have H4:=ab (@mv s (k+1));generalize hb:aj s k=b at *;clear bk hb
   by_cases gm:b=39
   ·subst gm
    have hq:(((39:Nat):Int) !=39)=false:=by decide
    by_cases hc:aj s (k+1)=39
    ·have jP:=aa H4 (by omega)
     rw[fk hc] at HP;have HF:=ab (aa H2 rfl hc);clear hc;go_wp2_with (refine(aa HP).mono ?_;rintro e w ⟨rfl,rfl⟩);exact⟨⟨k+2,by omega,aD (Value.int .i64) (by omega),by rw[aa HU];exact aa HF⟩,by simp[intOf];omega⟩
    ·rw[db hc] at HP
     have HF:=ab (aa H3 rfl hc);clear hc;go_wp2_with (refine(aa HP).mono ?_;rintro e w ⟨rfl,rfl⟩);go_ret;exact⟨by rw[aa HU,aa HF];rfl,rfl⟩
   ·have hq:((b:Int) !=39)=true:=by rw[sf];omega
    have HF:=ab (aa H1 gm);clear gm;go_wp2_with fail;exact⟨⟨k+1,by omega,rfl,by rw[aa HU];exact aa HF⟩,by simp[intOf];omega⟩
  ·have hk':k=s.size:=by omega
   subst hk';have HT:=ab (@ys s s.size (aw _));go_wp2_with fail;go_ret;exact⟨by rw[aa HU,aa HT];rfl,rfl⟩
theorem GN (s:ByteArray) (i:Nat) (hs:s.size≤2000) (hi:i < s.size) (w:World):
  Calls prog 90 #[.string s,.int .i64 (i:Int)] w fun e w'=>e=.returned (.int .i64 (cb s (i+1):Int))∧w'=w:=by
 go_enter func90,ntmps90;go_wp2_with fail;go_loop [5] (fun v=>∃k:Nat,k≤s.size+1∧v=.int .i64 (k:Int)∧Hid (cb s (i+1)=cb s k)) (fun v=>s.size+1 - (intOf v).toNat)
 case atStart=>exact⟨i+1,by omega,rfl,rfl⟩
 case round=>
  obtain⟨k,hk,rfl,HU⟩:=hrel;rcases cG k s.size with hkt | hkt
  ·have bk:=mw s k hkt
   have hx:((s[k]).toNat:Int)=(aj s k:Int):=by rw[bk]
   have HP:=ab (Cx s k hs hkt w);have H1:=ab (@Bn s k hkt);have H2:=ab (@Bm s k);have H3:=ab (@BI s k);have eN:=rV s (k+1) (by omega)
   generalize cq s (k+1)=c at *;generalize hb:aj s k=b at *;clear bk hb
   by_cases h93:b=93
   ·subst h93
    have HF:=ab (aa H3 rfl);go_wp2_with fail;go_ret;exact⟨by rw[aa HU,aa HF];rfl,rfl⟩
   ·have hq:((b:Int)==93)=false:=bn
    by_cases gm:b=39
    ·subst gm
     have HF:=ab (aa H2 rfl);clear h93;go_wp2_with (refine(aa HP).mono ?_;rintro e w ⟨rfl,rfl⟩);exact⟨⟨c+1,by omega,rfl,by rw[aa HU];exact aa HF⟩,by simp[intOf];omega⟩
    ·have hq2:((b:Int)==39)=false:=bn
     have HF:=ab (aa H1 gm h93);clear gm h93;go_wp2_with fail;exact⟨⟨k+1,by omega,rfl,by rw[aa HU];exact aa HF⟩,by simp[intOf];omega⟩
  ·have HT:=ab (@Ca s k hkt)
   have h2:¬k < s.size:=by omega
   go_wp2_with fail;go_ret;exact⟨by rw[aa HU,aa HT];rfl,rfl⟩
open Go.RowKit
def yn:ByteArray:=⟨#[61,63,38,43,45,42,47,37,40,41,60,62,44,58,36]⟩
theorem Kv:(List.range 256).all (fun b=>decide (0≤Lib.indexByte yn.data.toList b.toUInt8)==uA b)=true:=by kernel_rfl
theorem Mb (b:Nat) (hb:b < 256):decide (0≤Lib.indexByte yn.data.toList b.toUInt8)=uA b:=by
 have:=uN.1 Kv b (List.mem_range.2 hb);exact se.1 this
theorem E1 {a b:Nat × Nat × ByteArray} {c:Prop} [Decidable c]:(if c then a else b).1=if c then a.1 else b.1:=by split <;> rfl
theorem E0 {a b:Nat × Nat × ByteArray} {c:Prop} [Decidable c]:(if c then a else b).2.1=if c then a.2.1 else b.2.1:=by split <;> rfl
theorem IX (s:ByteArray) (i:Nat) (hs:s.size≤2000) (hi:i < s.size) (w:World):
  Calls prog 49 #[.string s,.int .i64 (i:Int)] w fun e w'=>e=.returned (.tuple #[.int .i64 ((tk s i).1:Int),.int .i64 ((tk s i).2.1:Int)])∧w'=w:=by
 have bk:=mw s i hi;have hx:((s[i]).toNat:Int)=(aj s i:Int):=by rw[bk]
 have H1:=ab (CD (aj s i) (jY _ _) w);have H2:=ab (AJ (aj s i) (jY _ _) w);have H3:=ab (GS s i hs (by omega) w)
 have H4:=ab (GW s i hs (by omega) w)
 have H5:=ab (Cx s i hs hi w);have H6:=ab (GN s i hs hi w);have lq:=rV s (i+1) (by omega)
 have lb:=Cn s (i+1) (by omega)
 have H7:=ab (C8 s 3 (cq s (i+1)) hs lq.2 w);have H8:=ab (C8 s 4 (cb s (i+1)) hs lb.2 w);have H9:=ab (Hc s i w hs (by omega))
 have HI:=ab (Tryz.strings_IndexByte yn (aj s i:Int) w);have HS:=ab (Mb (aj s i) (jY _ _));have au:=jY s i;unfold tk;generalize cq s (i+1)=cQ at *;generalize cb s (i+1)=cB at *;generalize cZ s dB i=pW at *;generalize cZ s cR i=pD at *
 cases h1:dj (aj s i) with
 | true=>
  rw[af rfl];rw[h1] at H1;clear h1 lq lb bk;generalize aj s i=b at *;go_enter func49,ntmps49;go_wp2_with (first | (go_at_call 85;refine(aa H1).mono ?_;rintro e w ⟨rfl,rfl⟩) | (go_at_call 47;refine(aa H3).mono ?_;rintro e w ⟨rfl,rfl⟩));go_ret2;exact⟨rfl,rfl⟩
 | false=>
  rw[ac (by decide)]
  rw[h1] at H1
  cases h2:cR (aj s i) with
  | true=>
   rw[af rfl];rw[h2] at H2;clear h1 h2 lq lb bk;generalize aj s i=b at *;go_enter func49,ntmps49;go_wp2_with (first | (go_at_call 85;refine(aa H1).mono ?_;rintro e w ⟨rfl,rfl⟩) | (go_at_call 87;refine(aa H2).mono ?_;rintro e w ⟨rfl,rfl⟩) | (go_at_call 47;refine(aa H4).mono ?_;rintro e w ⟨rfl,rfl⟩));go_ret2;exact⟨rfl,rfl⟩
  | false=>
   rw[ac (by decide)]
   rw[h2] at H2
   by_cases h3:aj s i=39
   ·rw[af h3]
    rw[E1,E0];dsimp only;rw[h3] at hx H1 H2;clear h1 h2 h3 lq lb bk HI HS H9 H8 H6;generalize (if cQ=s.size then 0 else 3:Nat)=A at *;generalize (if cQ=s.size then s.size else cQ+1:Nat)=B at *;go_enter func49,ntmps49;go_wp2_with (first | (go_at_call 85;refine(aa H1).mono ?_;rintro e w ⟨rfl,rfl⟩) | (go_at_call 87;refine(aa H2).mono ?_;rintro e w ⟨rfl,rfl⟩) | (go_at_call 89;refine(aa H5).mono ?_;rintro e w ⟨rfl,rfl⟩) | (go_at_call 88;refine(aa H7).mono ?_;rintro e w ⟨rfl,rfl⟩));go_ret2;exact⟨rfl,rfl⟩
   ·rw[ac h3]
    have e3:((aj s i:Int)==39)=false:=bn
    by_cases h4:aj s i=91
    ·rw[af h4]
     rw[E1,E0];dsimp only;rw[h4] at hx H1 H2 e3;clear h1 h2 h3 h4 lq lb bk HI HS H9 H7 H5;generalize (if cB=s.size then 0 else 4:Nat)=A at *;generalize (if cB=s.size then s.size else cB+1:Nat)=B at *;go_enter func49,ntmps49;go_wp2_with (first | (go_at_call 85;refine(aa H1).mono ?_;rintro e w ⟨rfl,rfl⟩) | (go_at_call 87;refine(aa H2).mono ?_;rintro e w ⟨rfl,rfl⟩) | (go_at_call 90;refine(aa H6).mono ?_;rintro e w ⟨rfl,rfl⟩) | (go_at_call 88;refine(aa H8).mono ?_;rintro e w ⟨rfl,rfl⟩));go_ret2;exact⟨rfl,rfl⟩
    ·rw[ac h4]
     have e4:((aj s i:Int)==91)=false:=bn
     by_cases h5:aj s i=58∧aj s (i+1)=61
     ·rw[af h5]
      rw[fk h5] at H9;clear h1 h2 h3 h4 h5 lq lb bk HI HS H8 H6 H7 H5;generalize aj s i=b at *;go_enter func49,ntmps49;go_wp2_with (first | (go_at_call 85;refine(aa H1).mono ?_;rintro e w ⟨rfl,rfl⟩) | (go_at_call 87;refine(aa H2).mono ?_;rintro e w ⟨rfl,rfl⟩) | (go_at_call 21;refine(aa H9).mono ?_;rintro e w ⟨rfl,rfl⟩));go_ret2;exact⟨rfl,rfl⟩
     ·rw[ac h5]
      rw[db h5] at H9;have mS:Hid (Calls prog 91 #[.string ⟨#[61,63,38,43,45,42,47,37,40,41,60,62,44,58,36]⟩,.int .u8 (aj s i:Int)] w fun e w'=>e=.returned (.int .i64 (Lib.indexByte yn.data.toList (aj s i).toUInt8))∧w'=w):=ab (aa HI)
      generalize Lib.indexByte yn.data.toList (aj s i).toUInt8=ix at *
      cases h6:uA (aj s i) with
      | true=>
       rw[af rfl];have jA:0≤ix:=nf (by rw[aa HS];exact h6)
       clear h1 h2 h3 h4 h5 h6 lq lb bk HI HS H8 H6 H7 H5;generalize aj s i=b at *;go_enter func49,ntmps49;go_wp2_with (first | (go_at_call 85;refine(aa H1).mono ?_;rintro e w ⟨rfl,rfl⟩) | (go_at_call 87;refine(aa H2).mono ?_;rintro e w ⟨rfl,rfl⟩) | (go_at_call 21;refine(aa H9).mono ?_;rintro e w ⟨rfl,rfl⟩) | (go_at_call 91;refine(aa mS).mono ?_;rintro e w ⟨rfl,rfl⟩));go_ret2;exact⟨rfl,rfl⟩
      | false=>
       rw[ac (by decide)]
       have jA:¬0≤ix:=of_decide_eq_false (by rw[aa HS];exact h6)
       clear h1 h2 h3 h4 h5 h6 lq lb bk HI HS H8 H6 H7 H5;generalize aj s i=b at *;go_enter func49,ntmps49;go_wp2_with (first | (go_at_call 85;refine(aa H1).mono ?_;rintro e w ⟨rfl,rfl⟩) | (go_at_call 87;refine(aa H2).mono ?_;rintro e w ⟨rfl,rfl⟩) | (go_at_call 21;refine(aa H9).mono ?_;rintro e w ⟨rfl,rfl⟩) | (go_at_call 91;refine(aa mS).mono ?_;rintro e w ⟨rfl,rfl⟩));go_ret2;exact⟨rfl,rfl⟩
end Go.Proofs.YtlmnjbipfacniaaGreatDoor
