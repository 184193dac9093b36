/- What syntax.wrongNode, wrongBelow and Expr do, for every exp -/
import Derived.Test.YtlmnjbipfacniaaGreatDoorExFitsMs
import Derived.Test.YtlmnjbipfacniaaGreatDoorPatBelowPs
import Derived.Test.YtlmnjbipfacniaaGreatDoorQuote4Ms
import Derived.Deep.RegionHeld3
set_option maxRecDepth 100000
set_option maxHeartbeats 1000000
namespace Go.Proofs.YtlmnjbipfacniaaGreatDoor
open Go.Proofs.Tryz
open Go.RowKit
def ck (k:Int):Bool:=decide (k=3∨k=4∨k=6)
def bF (k:Int):Int:=if k=4∨k=5∨k=7 then 1 else if 8≤k∧k≤13 then 2 else 0
def bE (k:Int):Int:=if k=6 then 8 else if k=4∨k=5∨k=7 then 1 else if 8≤k∧k≤13 then 2 else 0
def bs (k:Int):Int:=if k=7 then 4 else if k=8 then 1 else if k=9∨k=10 then 2 else if 11≤k∧k≤13 then 3 else 5
def cI (k:Int):ByteArray:=if k=5 then ⟨#[36]⟩ else if k=7∨k=10 then ⟨#[45]⟩ else if k=8 then ⟨#[38]⟩ else if k=9 then ⟨#[43]⟩ else if k=11 then ⟨#[42]⟩ else if k=12 then ⟨#[47]⟩ else if k=13 then ⟨#[37]⟩ else ByteArray.empty
def cO (T:PT):Int:=
 if T.k < 1∨13 < T.k then 1
 else if T.k=1∧65536 < T.t.size then 4
 else if T.k=2∧T.n < 0 then 3
 else if ck T.k=true∧ca T.nm=false then 7
 else if (T.len:Int) < bF T.k∨bE T.k < T.len then 5
 else 0
def PT.badX:PT→Int
 | .node k t n nm xa b o len cap kids=>if cO (.node k t n nm xa b o len cap kids)=0 then gH (kf len 0 fun i=>PT.badX (kids i)) len else cO (.node k t n nm xa b o len cap kids)
theorem PT.badX_eq (T:PT):T.badX=if cO T=0 then gH (fun i=>(T.kid i).badX) T.len else cO T:=by
 obtain⟨k,t,n,nm,xa,b,o,len,cap,kids⟩:=T;have h:=AI (f:=kf len 0 fun i=>PT.badX (kids i)) (g:=fun i=>((PT.node k t n nm xa b o len cap kids).kid i).badX) len fun i hi=>by rw[ta hi,PT.kid_at (T:=.node k t n nm xa b o len cap kids) hi]
 show (if cO _=0 then gH (kf len 0 fun i=>PT.badX (kids i)) len else cO _)=_
 rw[h]
def PT.wrongX (T:PT):Int:=if T.fits then T.badX else 4
def gJ (w:World):Prop:=∀K:Nat,1≤K→K≤13→w.cell? ⟨0,K * 5,none⟩=some (.string (cI K))∧w.cell? ⟨0,K * 5+1,none⟩=some (.int .i64 (bs K))∧w.cell? ⟨0,K * 5+2,none⟩=some (.bool (ck K))∧w.cell? ⟨0,K * 5+3,none⟩=some (.int .i64 (bF K))∧w.cell? ⟨0,K * 5+4,none⟩=some (.int .i64 (bE K))
theorem gJ.later {w w':World} (h:gJ w) (hb:Below w.heap.size w w'):gJ w':=fun K h1 h2=>by
 obtain⟨a,b,c,d,e⟩:=h K h1 h2;exact⟨av hb a,av hb b,av hb c,av hb d,av hb e⟩
theorem IG (T:PT) (w:World) (h:T.k < 1∨13 < T.k):
  Calls prog 107 #[pv T] w fun e w'=>e=.returned (.int .i64 (cO T))∧Below w.heap.size w w':=by
 unfold pv;have HE:Hid (cO T=1):=ab (by unfold cO;rw[af h])
 rw[aa HE];rcases h with h | h
 ·go_enter func107,ntmps107
  go_wp2_with fail;go_ret;exact⟨rfl,ba _⟩
 ·have h1:¬T.k < 1:=by omega
  go_enter func107,ntmps107;go_wp2_with fail;go_ret;exact⟨rfl,ba _⟩
theorem IF (T:PT) (w:World) (hS:gJ w) (h:¬(T.k < 1∨13 < T.k)) (hk:T.k=1) (hl:65536 < T.t.size):
  Calls prog 107 #[pv T] w fun e w'=>e=.returned (.int .i64 (cO T))∧Below w.heap.size w w':=by
 unfold pv;have HE:Hid (cO T=4):=ab (by unfold cO;rw[ac h,af ⟨hk,hl⟩])
 rw[aa HE];obtain⟨K,hK⟩:∃K:Nat,T.k=(K:Int):=⟨T.k.toNat,by omega⟩
 obtain⟨s0,s1,s2,s3,s4⟩:=hS K (by omega) (by omega)
 have hz:0 < w.heap.size:=da _ _ s0;have hz':¬w.heap.size=0:=by omega
 rw[←hK] at s0 s1 s2 s3 s4;generalize bF T.k=least at *;generalize bE T.k=most at *;generalize bs T.k=level at *;generalize cI T.k=sign at *;obtain rfl:K=1:=by omega
 rw[show ck T.k=false by rw[hk];rfl] at s2
 rw[hk];clear hK hk;have h3:65536 < (T.t.size:Int):=by omega
 clear hS h HE;go_enter func107,ntmps107;go_wp2_with fail;go_ret;exact⟨rfl,(ba _).alloc (by simp) _⟩
theorem JF (T:PT) (w:World) (hS:gJ w) (h:¬(T.k < 1∨13 < T.k)) (hk:T.k=2) (hl:T.n < 0):
  Calls prog 107 #[pv T] w fun e w'=>e=.returned (.int .i64 (cO T))∧Below w.heap.size w w':=by
 unfold pv;have HE:Hid (cO T=3):=ab (by unfold cO;rw[ac h,ac (by omega),af ⟨hk,hl⟩])
 rw[aa HE];obtain⟨K,hK⟩:∃K:Nat,T.k=(K:Int):=⟨T.k.toNat,by omega⟩
 obtain⟨s0,s1,s2,s3,s4⟩:=hS K (by omega) (by omega)
 have hz:0 < w.heap.size:=da _ _ s0;have hz':¬w.heap.size=0:=by omega
 rw[←hK] at s0 s1 s2 s3 s4;generalize bF T.k=least at *;generalize bE T.k=most at *;generalize bs T.k=level at *;generalize cI T.k=sign at *;obtain rfl:K=2:=by omega
 rw[show ck T.k=false by rw[hk];rfl] at s2
 rw[hk];clear hK hk;clear hS h HE;go_enter func107,ntmps107;go_wp2_with fail;go_ret;exact⟨rfl,(ba _).alloc (by simp) _⟩
theorem IE (T:PT) (w:World) (hS:gJ w) (h:¬(T.k < 1∨13 < T.k)) (hk:3≤T.k) (hx:ck T.k=true) (hn:T.nm.size≤maxLen) (hl:ca T.nm=false):
  Calls prog 107 #[pv T] w fun e w'=>e=.returned (.int .i64 (cO T))∧Below w.heap.size w w':=by
 unfold pv;have HE:Hid (cO T=7):=ab (by unfold cO;rw[ac h,ac (by omega),ac (by omega),af ⟨hx,hl⟩])
 rw[aa HE];obtain⟨K,hK⟩:∃K:Nat,T.k=(K:Int):=⟨T.k.toNat,by omega⟩
 obtain⟨s0,s1,s2,s3,s4⟩:=hS K (by omega) (by omega)
 have hz:0 < w.heap.size:=da _ _ s0;have hz':¬w.heap.size=0:=by omega
 rw[←hK] at s0 s1 s2 s3 s4;generalize bF T.k=least at *;generalize bE T.k=most at *;generalize bs T.k=level at *;generalize cI T.k=sign at *;rw[hx] at s2;have h1:¬(K:Int) < 1:=by omega
 have h2:¬13 < (K:Int):=by omega
 have h3:¬(K:Int)=1:=by omega
 have h4:¬(K:Int)=2:=by omega
 have fQ:=hn;have HL:=ab hl;clear hl hn hx;rw[hK];clear hK hk;clear hS h HE;go_enter func107,ntmps107;go_wp2_with (go_at_call 30;refine(qF _ _ fQ).mono ?_;rintro e w ⟨rfl,rfl⟩;rw[aa HL]);go_ret;exact⟨rfl,(ba _).alloc (by simp) _⟩
theorem IT (T:PT) (w:World) (hS:gJ w) (h:¬(T.k < 1∨13 < T.k)) (hk:T.k=1) (hl:¬65536 < T.t.size) (hm:(T.len:Int) < bF T.k):
  Calls prog 107 #[pv T] w fun e w'=>e=.returned (.int .i64 (cO T))∧Below w.heap.size w w':=by
 unfold pv;have HE:Hid (cO T=5):=ab (by unfold cO;rw[ac h,ac (by omega),ac (by omega),ac (fun h=>by rw[hk] at h;exact absurd h.1 (by decide)),af (.inl hm)])
 rw[aa HE];obtain⟨K,hK⟩:∃K:Nat,T.k=(K:Int):=⟨T.k.toNat,by omega⟩
 obtain⟨s0,s1,s2,s3,s4⟩:=hS K (by omega) (by omega)
 have hz:0 < w.heap.size:=da _ _ s0;have hz':¬w.heap.size=0:=by omega
 rw[←hK] at s0 s1 s2 s3 s4;generalize bF T.k=least at *;generalize bE T.k=most at *;generalize bs T.k=level at *;generalize cI T.k=sign at *;obtain rfl:K=1:=by omega
 rw[show ck T.k=false by rw[hk];rfl] at s2
 rw[hk];clear hK hk;have h3:¬65536 < (T.t.size:Int):=by omega
 clear hS h HE;go_enter func107,ntmps107;go_wp2_with fail;go_ret;exact⟨rfl,(ba _).alloc (by simp) _⟩
theorem IU (T:PT) (w:World) (hS:gJ w) (h:¬(T.k < 1∨13 < T.k)) (hk:T.k=1) (hl:¬65536 < T.t.size) (hm:¬(T.len:Int) < bF T.k) (hq:bE T.k < (T.len:Int)):
  Calls prog 107 #[pv T] w fun e w'=>e=.returned (.int .i64 (cO T))∧Below w.heap.size w w':=by
 unfold pv;have HE:Hid (cO T=5):=ab (by unfold cO;rw[ac h,ac (by omega),ac (by omega),ac (fun h=>by rw[hk] at h;exact absurd h.1 (by decide)),af (.inr hq)])
 rw[aa HE];obtain⟨K,hK⟩:∃K:Nat,T.k=(K:Int):=⟨T.k.toNat,by omega⟩
 obtain⟨s0,s1,s2,s3,s4⟩:=hS K (by omega) (by omega)
 have hz:0 < w.heap.size:=da _ _ s0;have hz':¬w.heap.size=0:=by omega
 rw[←hK] at s0 s1 s2 s3 s4;generalize bF T.k=least at *;generalize bE T.k=most at *;generalize bs T.k=level at *;generalize cI T.k=sign at *;obtain rfl:K=1:=by omega
 rw[show ck T.k=false by rw[hk];rfl] at s2
 rw[hk];clear hK hk;have h3:¬65536 < (T.t.size:Int):=by omega
 clear hS h HE;go_enter func107,ntmps107;go_wp2_with fail;go_ret;exact⟨rfl,(ba _).alloc (by simp) _⟩
theorem IS (T:PT) (w:World) (hS:gJ w) (h:¬(T.k < 1∨13 < T.k)) (hk:T.k=1) (hl:¬65536 < T.t.size) (hm:¬(T.len:Int) < bF T.k) (hq:¬bE T.k < (T.len:Int)):
  Calls prog 107 #[pv T] w fun e w'=>e=.returned (.int .i64 (cO T))∧Below w.heap.size w w':=by
 unfold pv;have HE:Hid (cO T=0):=ab (by unfold cO;rw[ac h,ac (by omega),ac (by omega),ac (fun h=>by rw[hk] at h;exact absurd h.1 (by decide)),ac (fun h=>h.elim hm hq)])
 rw[aa HE];obtain⟨K,hK⟩:∃K:Nat,T.k=(K:Int):=⟨T.k.toNat,by omega⟩
 obtain⟨s0,s1,s2,s3,s4⟩:=hS K (by omega) (by omega)
 have hz:0 < w.heap.size:=da _ _ s0;have hz':¬w.heap.size=0:=by omega
 rw[←hK] at s0 s1 s2 s3 s4;generalize bF T.k=least at *;generalize bE T.k=most at *;generalize bs T.k=level at *;generalize cI T.k=sign at *;obtain rfl:K=1:=by omega
 rw[show ck T.k=false by rw[hk];rfl] at s2
 rw[hk];clear hK hk;have h3:¬65536 < (T.t.size:Int):=by omega
 clear hS h HE;go_enter func107,ntmps107;go_wp2_with fail;go_ret;exact⟨rfl,(ba _).alloc (by simp) _⟩
theorem IQ (T:PT) (w:World) (hS:gJ w) (h:¬(T.k < 1∨13 < T.k)) (hk:T.k=2) (hl:¬T.n < 0) (hm:(T.len:Int) < bF T.k):
  Calls prog 107 #[pv T] w fun e w'=>e=.returned (.int .i64 (cO T))∧Below w.heap.size w w':=by
 unfold pv;have HE:Hid (cO T=5):=ab (by unfold cO;rw[ac h,ac (by omega),ac (by omega),ac (fun h=>by rw[hk] at h;exact absurd h.1 (by decide)),af (.inl hm)])
 rw[aa HE];obtain⟨K,hK⟩:∃K:Nat,T.k=(K:Int):=⟨T.k.toNat,by omega⟩
 obtain⟨s0,s1,s2,s3,s4⟩:=hS K (by omega) (by omega)
 have hz:0 < w.heap.size:=da _ _ s0;have hz':¬w.heap.size=0:=by omega
 rw[←hK] at s0 s1 s2 s3 s4;generalize bF T.k=least at *;generalize bE T.k=most at *;generalize bs T.k=level at *;generalize cI T.k=sign at *;obtain rfl:K=2:=by omega
 rw[show ck T.k=false by rw[hk];rfl] at s2
 rw[hk];clear hK hk;have h3:¬T.n < 0:=hl;clear hS h HE;go_enter func107,ntmps107;go_wp2_with fail;go_ret;exact⟨rfl,(ba _).alloc (by simp) _⟩
theorem IR (T:PT) (w:World) (hS:gJ w) (h:¬(T.k < 1∨13 < T.k)) (hk:T.k=2) (hl:¬T.n < 0) (hm:¬(T.len:Int) < bF T.k) (hq:bE T.k < (T.len:Int)):
  Calls prog 107 #[pv T] w fun e w'=>e=.returned (.int .i64 (cO T))∧Below w.heap.size w w':=by
 unfold pv;have HE:Hid (cO T=5):=ab (by unfold cO;rw[ac h,ac (by omega),ac (by omega),ac (fun h=>by rw[hk] at h;exact absurd h.1 (by decide)),af (.inr hq)])
 rw[aa HE];obtain⟨K,hK⟩:∃K:Nat,T.k=(K:Int):=⟨T.k.toNat,by omega⟩
 obtain⟨s0,s1,s2,s3,s4⟩:=hS K (by omega) (by omega)
 have hz:0 < w.heap.size:=da _ _ s0;have hz':¬w.heap.size=0:=by omega
 rw[←hK] at s0 s1 s2 s3 s4;generalize bF T.k=least at *;generalize bE T.k=most at *;generalize bs T.k=level at *;generalize cI T.k=sign at *;obtain rfl:K=2:=by omega
 rw[show ck T.k=false by rw[hk];rfl] at s2
 rw[hk];clear hK hk;have h3:¬T.n < 0:=hl;clear hS h HE;go_enter func107,ntmps107;go_wp2_with fail;go_ret;exact⟨rfl,(ba _).alloc (by simp) _⟩
theorem IP (T:PT) (w:World) (hS:gJ w) (h:¬(T.k < 1∨13 < T.k)) (hk:T.k=2) (hl:¬T.n < 0) (hm:¬(T.len:Int) < bF T.k) (hq:¬bE T.k < (T.len:Int)):
  Calls prog 107 #[pv T] w fun e w'=>e=.returned (.int .i64 (cO T))∧Below w.heap.size w w':=by
 unfold pv;have HE:Hid (cO T=0):=ab (by unfold cO;rw[ac h,ac (by omega),ac (by omega),ac (fun h=>by rw[hk] at h;exact absurd h.1 (by decide)),ac (fun h=>h.elim hm hq)])
 rw[aa HE];obtain⟨K,hK⟩:∃K:Nat,T.k=(K:Int):=⟨T.k.toNat,by omega⟩
 obtain⟨s0,s1,s2,s3,s4⟩:=hS K (by omega) (by omega)
 have hz:0 < w.heap.size:=da _ _ s0;have hz':¬w.heap.size=0:=by omega
 rw[←hK] at s0 s1 s2 s3 s4;generalize bF T.k=least at *;generalize bE T.k=most at *;generalize bs T.k=level at *;generalize cI T.k=sign at *;obtain rfl:K=2:=by omega
 rw[show ck T.k=false by rw[hk];rfl] at s2
 rw[hk];clear hK hk;have h3:¬T.n < 0:=hl;clear hS h HE;go_enter func107,ntmps107;go_wp2_with fail;go_ret;exact⟨rfl,(ba _).alloc (by simp) _⟩
theorem IM (T:PT) (w:World) (hS:gJ w) (h:¬(T.k < 1∨13 < T.k)) (hk:3≤T.k) (hx:ck T.k=true) (hn:T.nm.size≤maxLen) (hl:ca T.nm=true) (hm:(T.len:Int) < bF T.k):
  Calls prog 107 #[pv T] w fun e w'=>e=.returned (.int .i64 (cO T))∧Below w.heap.size w w':=by
 unfold pv;have HE:Hid (cO T=5):=ab (by unfold cO;rw[ac h,ac (by omega),ac (by omega),ac (fun h=>by rw[hl] at h;exact absurd h.2 (by decide)),af (.inl hm)])
 rw[aa HE];obtain⟨K,hK⟩:∃K:Nat,T.k=(K:Int):=⟨T.k.toNat,by omega⟩
 obtain⟨s0,s1,s2,s3,s4⟩:=hS K (by omega) (by omega)
 have hz:0 < w.heap.size:=da _ _ s0;have hz':¬w.heap.size=0:=by omega
 rw[←hK] at s0 s1 s2 s3 s4;generalize bF T.k=least at *;generalize bE T.k=most at *;generalize bs T.k=level at *;generalize cI T.k=sign at *;rw[hx] at s2;have h1:¬(K:Int) < 1:=by omega
 have h2:¬13 < (K:Int):=by omega
 have h3:¬(K:Int)=1:=by omega
 have h4:¬(K:Int)=2:=by omega
 have fQ:=hn;have HL:=ab hl;clear hl hn hx;rw[hK];clear hK hk;clear hS h HE;go_enter func107,ntmps107;go_wp2_with (go_at_call 30;refine(qF _ _ fQ).mono ?_;rintro e w ⟨rfl,rfl⟩;rw[aa HL]);go_ret;exact⟨rfl,(ba _).alloc (by simp) _⟩
theorem IN (T:PT) (w:World) (hS:gJ w) (h:¬(T.k < 1∨13 < T.k)) (hk:3≤T.k) (hx:ck T.k=true) (hn:T.nm.size≤maxLen) (hl:ca T.nm=true) (hm:¬(T.len:Int) < bF T.k) (hq:bE T.k < (T.len:Int)):
  Calls prog 107 #[pv T] w fun e w'=>e=.returned (.int .i64 (cO T))∧Below w.heap.size w w':=by
 unfold pv;have HE:Hid (cO T=5):=ab (by unfold cO;rw[ac h,ac (by omega),ac (by omega),ac (fun h=>by rw[hl] at h;exact absurd h.2 (by decide)),af (.inr hq)])
 rw[aa HE];obtain⟨K,hK⟩:∃K:Nat,T.k=(K:Int):=⟨T.k.toNat,by omega⟩
 obtain⟨s0,s1,s2,s3,s4⟩:=hS K (by omega) (by omega)
 have hz:0 < w.heap.size:=da _ _ s0;have hz':¬w.heap.size=0:=by omega
 rw[←hK] at s0 s1 s2 s3 s4;generalize bF T.k=least at *;generalize bE T.k=most at *;generalize bs T.k=level at *;generalize cI T.k=sign at *;rw[hx] at s2;have h1:¬(K:Int) < 1:=by omega
 have h2:¬13 < (K:Int):=by omega
 have h3:¬(K:Int)=1:=by omega
 have h4:¬(K:Int)=2:=by omega
 have fQ:=hn;have HL:=ab hl;clear hl hn hx;rw[hK];clear hK hk;clear hS h HE;go_enter func107,ntmps107;go_wp2_with (go_at_call 30;refine(qF _ _ fQ).mono ?_;rintro e w ⟨rfl,rfl⟩;rw[aa HL]);go_ret;exact⟨rfl,(ba _).alloc (by simp) _⟩
theorem IL (T:PT) (w:World) (hS:gJ w) (h:¬(T.k < 1∨13 < T.k)) (hk:3≤T.k) (hx:ck T.k=true) (hn:T.nm.size≤maxLen) (hl:ca T.nm=true) (hm:¬(T.len:Int) < bF T.k) (hq:¬bE T.k < (T.len:Int)):
  Calls prog 107 #[pv T] w fun e w'=>e=.returned (.int .i64 (cO T))∧Below w.heap.size w w':=by
 unfold pv;have HE:Hid (cO T=0):=ab (by unfold cO;rw[ac h,ac (by omega),ac (by omega),ac (fun h=>by rw[hl] at h;exact absurd h.2 (by decide)),ac (fun h=>h.elim hm hq)])
 rw[aa HE];obtain⟨K,hK⟩:∃K:Nat,T.k=(K:Int):=⟨T.k.toNat,by omega⟩
 obtain⟨s0,s1,s2,s3,s4⟩:=hS K (by omega) (by omega)
 have hz:0 < w.heap.size:=da _ _ s0;have hz':¬w.heap.size=0:=by omega
 rw[←hK] at s0 s1 s2 s3 s4;generalize bF T.k=least at *;generalize bE T.k=most at *;generalize bs T.k=level at *;generalize cI T.k=sign at *;rw[hx] at s2;have h1:¬(K:Int) < 1:=by omega
 have h2:¬13 < (K:Int):=by omega
 have h3:¬(K:Int)=1:=by omega
 have h4:¬(K:Int)=2:=by omega
 have fQ:=hn;have HL:=ab hl;clear hl hn hx;rw[hK];clear hK hk;clear hS h HE;go_enter func107,ntmps107;go_wp2_with (go_at_call 30;refine(qF _ _ fQ).mono ?_;rintro e w ⟨rfl,rfl⟩;rw[aa HL]);go_ret;exact⟨rfl,(ba _).alloc (by simp) _⟩
theorem IJ (T:PT) (w:World) (hS:gJ w) (h:¬(T.k < 1∨13 < T.k)) (hk:3≤T.k) (hx:ck T.k=false) (hm:(T.len:Int) < bF T.k):
  Calls prog 107 #[pv T] w fun e w'=>e=.returned (.int .i64 (cO T))∧Below w.heap.size w w':=by
 unfold pv;have HE:Hid (cO T=5):=ab (by unfold cO;rw[ac h,ac (by omega),ac (by omega),ac (fun h=>by rw[hx] at h;exact absurd h.1 (by decide)),af (.inl hm)])
 rw[aa HE];obtain⟨K,hK⟩:∃K:Nat,T.k=(K:Int):=⟨T.k.toNat,by omega⟩
 obtain⟨s0,s1,s2,s3,s4⟩:=hS K (by omega) (by omega)
 have hz:0 < w.heap.size:=da _ _ s0;have hz':¬w.heap.size=0:=by omega
 rw[←hK] at s0 s1 s2 s3 s4;generalize bF T.k=least at *;generalize bE T.k=most at *;generalize bs T.k=level at *;generalize cI T.k=sign at *;rw[hx] at s2;have h1:¬(K:Int) < 1:=by omega
 have h2:¬13 < (K:Int):=by omega
 have h3:¬(K:Int)=1:=by omega
 have h4:¬(K:Int)=2:=by omega
 clear hx;rw[hK];clear hK hk;clear hS h HE;go_enter func107,ntmps107;go_wp2_with fail;go_ret;exact⟨rfl,(ba _).alloc (by simp) _⟩
theorem IK (T:PT) (w:World) (hS:gJ w) (h:¬(T.k < 1∨13 < T.k)) (hk:3≤T.k) (hx:ck T.k=false) (hm:¬(T.len:Int) < bF T.k) (hq:bE T.k < (T.len:Int)):
  Calls prog 107 #[pv T] w fun e w'=>e=.returned (.int .i64 (cO T))∧Below w.heap.size w w':=by
 unfold pv;have HE:Hid (cO T=5):=ab (by unfold cO;rw[ac h,ac (by omega),ac (by omega),ac (fun h=>by rw[hx] at h;exact absurd h.1 (by decide)),af (.inr hq)])
 rw[aa HE];obtain⟨K,hK⟩:∃K:Nat,T.k=(K:Int):=⟨T.k.toNat,by omega⟩
 obtain⟨s0,s1,s2,s3,s4⟩:=hS K (by omega) (by omega)
 have hz:0 < w.heap.size:=da _ _ s0;have hz':¬w.heap.size=0:=by omega
 rw[←hK] at s0 s1 s2 s3 s4;generalize bF T.k=least at *;generalize bE T.k=most at *;generalize bs T.k=level at *;generalize cI T.k=sign at *;rw[hx] at s2;have h1:¬(K:Int) < 1:=by omega
 have h2:¬13 < (K:Int):=by omega
 have h3:¬(K:Int)=1:=by omega
 have h4:¬(K:Int)=2:=by omega
 clear hx;rw[hK];clear hK hk;clear hS h HE;go_enter func107,ntmps107;go_wp2_with fail;go_ret;exact⟨rfl,(ba _).alloc (by simp) _⟩
theorem II (T:PT) (w:World) (hS:gJ w) (h:¬(T.k < 1∨13 < T.k)) (hk:3≤T.k) (hx:ck T.k=false) (hm:¬(T.len:Int) < bF T.k) (hq:¬bE T.k < (T.len:Int)):
  Calls prog 107 #[pv T] w fun e w'=>e=.returned (.int .i64 (cO T))∧Below w.heap.size w w':=by
 unfold pv;have HE:Hid (cO T=0):=ab (by unfold cO;rw[ac h,ac (by omega),ac (by omega),ac (fun h=>by rw[hx] at h;exact absurd h.1 (by decide)),ac (fun h=>h.elim hm hq)])
 rw[aa HE];obtain⟨K,hK⟩:∃K:Nat,T.k=(K:Int):=⟨T.k.toNat,by omega⟩
 obtain⟨s0,s1,s2,s3,s4⟩:=hS K (by omega) (by omega)
 have hz:0 < w.heap.size:=da _ _ s0;have hz':¬w.heap.size=0:=by omega
 rw[←hK] at s0 s1 s2 s3 s4;generalize bF T.k=least at *;generalize bE T.k=most at *;generalize bs T.k=level at *;generalize cI T.k=sign at *;rw[hx] at s2;have h1:¬(K:Int) < 1:=by omega
 have h2:¬13 < (K:Int):=by omega
 have h3:¬(K:Int)=1:=by omega
 have h4:¬(K:Int)=2:=by omega
 clear hx;rw[hK];clear hK hk;clear hS h HE;go_enter func107,ntmps107;go_wp2_with fail;go_ret;exact⟨rfl,(ba _).alloc (by simp) _⟩
theorem JG (T:PT) (w:World) (hT:T.In w) (hS:gJ w):
  Calls prog 107 #[pv T] w fun e w'=>e=.returned (.int .i64 (cO T))∧Below w.heap.size w w':=by
 by_cases h:T.k < 1∨13 < T.k
 ·exact IG T w h
 by_cases h1:T.k=1
 ·by_cases hl:65536 < T.t.size
  ·exact IF T w hS h h1 hl
  ·by_cases hm:(T.len:Int) < bF T.k
   ·exact IT T w hS h h1 hl hm
   ·by_cases hq:bE T.k < (T.len:Int)
    ·exact IU T w hS h h1 hl hm hq
    ·exact IS T w hS h h1 hl hm hq
 by_cases h2:T.k=2
 ·by_cases hl:T.n < 0
  ·exact JF T w hS h h2 hl
  ·by_cases hm:(T.len:Int) < bF T.k
   ·exact IQ T w hS h h2 hl hm
   ·by_cases hq:bE T.k < (T.len:Int)
    ·exact IR T w hS h h2 hl hm hq
    ·exact IP T w hS h h2 hl hm hq
 have h3:3≤T.k:=by omega
 cases hx:ck T.k
 ·by_cases hm:(T.len:Int) < bF T.k
  ·exact IJ T w hS h h3 hx hm
  ·by_cases hq:bE T.k < (T.len:Int)
   ·exact IK T w hS h h3 hx hm hq
   ·exact II T w hS h h3 hx hm hq
 ·cases hl:ca T.nm
  ·exact IE T w hS h h3 hx hT.name hl
  ·by_cases hm:(T.len:Int) < bF T.k
   ·exact IM T w hS h h3 hx hT.name hl hm
   ·by_cases hq:bE T.k < (T.len:Int)
    ·exact IN T w hS h h3 hx hT.name hl hm hq
    ·exact IL T w hS h h3 hx hT.name hl hm hq
open Go.RowKit
def Br (T:PT):Prop:=∀(w:World),T.In w→gJ w→
 Calls prog 63 #[.agg #[.int .i64 T.k,.string T.t,.int .i64 T.n,.string T.nm,.slice T.xa T.len T.cap]] w fun e w'=>e=.returned (.int .i64 T.badX)∧Below w.heap.size w w'
theorem Kc (T:PT) (ih:∀i,i < T.len→Br (T.kid i)):Br T:=by
 intro w hT hS;have HN:=ab (fun W (h:Below w.heap.size w W)=>JG T W (PT.In.later h hT) (hS.later h))
 unfold pv at HN;have je:=hT.max;unfold maxLen at je;have HD:=ab (And.intro hT (And.intro hS (And.intro ih T.badX_eq)));clear hT hS ih;have ei:=(aV w.heap.size w).alloc (aw _) (.cells #[.int .i64 T.k,.string T.t,.int .i64 T.n,.string T.nm,.slice T.xa T.len T.cap] 24);go_enter func63,ntmps63;go_wp2_with fail;refine(aa HN _ ei).mono ?_;rintro e w1 ⟨rfl,hb1⟩;have hb:=aq ei hb1;have c4:w1.cell? ⟨w.heap.size,4,none⟩=some (.slice T.xa T.len T.cap):=av hb1 (cr (ax rfl));have HB:=ab hb;clear ei hb1 hb HN
 by_cases he:cO T=0
 ·have H0:Hid (T.badX=gH (fun i=>(T.kid i).badX) T.len):=ab (by rw[(aa HD).2.2.2,af he])
  rw[he];clear he;go_wp2_with fail;go_loopw [15] (fun i wr=>∃k:Nat,k≤T.len∧i=.int .i64 (k:Int)∧Below w.heap.size w wr∧gH (fun i=>(T.kid i).badX) k=0) (fun i _=>T.len - (intOf i).toNat)
  case atStart=>exact⟨0,by omega,rfl,aa HB,rfl⟩
  case round=>
   obtain⟨k,hk,rfl,fD,hf⟩:=hrel;clear c4;have HF:=ab hf;clear hf;rcases cG k T.len with hkt | hkt
   ·obtain⟨hT,hS,ih, -⟩:=aa HD
    obtain⟨k0,k1,k2,k3,k4⟩:=hT.cells hkt;have k0:=av fD k0;have k1:=av fD k1;have k2:=av fD k2;have k3:=av fD k3;have k4:=av fD k4;unfold PT.kv at k4;have lo:=ms hT hkt;have HX:=ab (And.intro (PT.In.later fD (hT.kids hkt)) (hS.later fD));have HI:=ab (ih k hkt);have jj:=ab fD;clear hT hS ih fD;go_wp2_with fail;have hn:=(aV wr.heap.size wr).alloc (aw _) (.cells #[.int .i64 (T.kid k).k,.string (T.kid k).t,.int .i64 (T.kid k).n,.string (T.kid k).nm,.slice (T.kid k).xa (T.kid k).len (T.kid k).cap] 24);refine(aa HI _ (PT.In.later hn (aa HX).1) ((aa HX).2.later hn)).mono ?_;rintro e w2 ⟨rfl,hb2⟩;have aE:=ab (aq (aq (aa jj) hn) hb2);clear hn hb2
    by_cases he:(T.kid k).badX=0
    ·have HW:Hid (gH (fun i=>(T.kid i).badX) (k+1)=0):=ab (by rw[gH,af (aa HF)];exact he)
     rw[he];clear he;go_wp2_with fail;exact⟨⟨k+1,by omega,by go_num,aa aE,aa HW⟩,by simp[intOf];omega⟩
    ·have HW:Hid (T.badX=(T.kid k).badX):=ab (by
      have h1:gH (fun i=>(T.kid i).badX) (k+1)=(T.kid k).badX:=by rw[gH,af (aa HF)]
      rw[aa H0,CE _ (show k+1≤T.len from hkt) (by rw[h1];exact he),h1])
     have bi:((T.kid k).badX !=0)=true:=by rw[sf];exact he
     clear he;go_wp2_with fail;go_ret;exact⟨by rw[aa HW];rfl,aa aE⟩
   ·have hk':k=T.len:=by omega
    have jj:=ab fD;clear fD;go_wp2_with fail;go_ret;exact⟨by rw[aa H0,←hk',aa HF];rfl,aa jj⟩
 ·have H0:Hid (T.badX=cO T):=ab (by rw[(aa HD).2.2.2,ac he])
  have bi:(cO T !=0)=true:=by rw[sf];exact he
  clear he;go_wp2_with fail;go_ret;exact⟨by rw[aa H0];rfl,aa HB⟩
theorem LQ:∀T:PT,Br T:=PT.ind Kc
theorem xU (T:PT) (w:World) (hT:T.In w) (hS:gJ w):
  Calls prog 31 #[pv T] w fun e w'=>e=.returned (.int .i64 T.wrongX)∧Below w.heap.size w w':=by
 have HZ:=ab (fun W (h:Below w.heap.size w W)=>sQ T W (PT.In.later h hT))
 have HB:=ab (fun W (h:Below w.heap.size w W)=>LQ T W (PT.In.later h hT) (hS.later h))
 clear hT hS;unfold pv at HZ;unfold pv;have ei:=(aV w.heap.size w).alloc (aw _) (.cells #[.int .i64 T.k,.string T.t,.int .i64 T.n,.string T.nm,.slice T.xa T.len T.cap] 24);go_enter func31,ntmps31;go_wp2_with fail;refine(aa HZ _ ei).mono ?_;rintro e w1 ⟨rfl,hb1⟩;have H1:=ab (aq ei hb1);have aS:w1.heap[w.heap.size]? =some (.cells #[.int .i64 T.k,.string T.t,.int .i64 T.n,.string T.nm,.slice T.xa T.len T.cap] 24 (0,0)):=an (ax rfl) hb1;have c0:w1.cell? ⟨w.heap.size,0,none⟩=some (.int .i64 T.k):=cr aS;have c1:w1.cell? ⟨w.heap.size,1,none⟩=some (.string T.t):=cr aS;have c2:w1.cell? ⟨w.heap.size,2,none⟩=some (.int .i64 T.n):=cr aS;have c3:w1.cell? ⟨w.heap.size,3,none⟩=some (.string T.nm):=cr aS;have c4:w1.cell? ⟨w.heap.size,4,none⟩=some (.slice T.xa T.len T.cap):=cr aS;clear ei hb1 aS HZ
 cases hf:T.fits
 ·have HW:Hid (T.wrongX=4):=ab (by unfold PT.wrongX;rw[hf];rfl)
  clear hf;go_wp2_with fail;go_ret;exact⟨by rw[aa HW];rfl,aa H1⟩
 ·have HW:Hid (T.wrongX=T.badX):=ab (by unfold PT.wrongX;rw[hf];rfl)
  clear hf;go_wp2_with fail;refine(aa HB _ (aa H1)).mono ?_;rintro e w2 ⟨rfl,hb2⟩;have H2:=ab (aq (aa H1) hb2);clear hb2;go_wp2_with fail;go_ret;exact⟨by rw[aa HW];rfl,aa H2⟩
open Go.RowKit
structure SV where
 lab:ByteArray
 k:Int
 tg:PT
 va:PT
 pa:PT
 nm:ByteArray
 en:ByteArray
 ps:NL
 ls:NL
 al:ByteArray
 ye:ByteArray
 no:ByteArray
def SV.cells (S:SV):Array Value:= #[.string S.lab,.int .i64 S.k,.int .i64 S.tg.k,.string S.tg.t,.int .i64 S.tg.n,.string S.tg.nm,.slice S.tg.xa S.tg.len S.tg.cap,.int .i64 S.va.k,.string S.va.t,.int .i64 S.va.n,.string S.va.nm,.slice S.va.xa S.va.len S.va.cap,.int .i64 S.pa.k,.string S.pa.t,.int .i64 S.pa.n,.string S.pa.nm,.slice S.pa.xa S.pa.len S.pa.cap,.string S.nm,.string S.en,S.ps.v,S.ls.v,.string S.al,.string S.ye,.string S.no]
def SV.v (S:SV):Value:=.agg S.cells
structure SV.In (w:World) (S:SV):Prop where
 txt:S.lab.size≤maxLen∧S.nm.size≤maxLen∧S.en.size≤maxLen∧S.al.size≤maxLen∧S.ye.size≤maxLen∧S.no.size≤maxLen
 tg:S.tg.In w
 va:S.va.In w
 pa:S.pa.In w
 ps:S.ps.In w
 ls:S.ls.In w
theorem SV.In.later {w w':World} {S:SV} (h:S.In w) (hb:Below w.heap.size w w'):S.In w':=⟨h.txt,PT.In.later hb h.tg,PT.In.later hb h.va,PT.In.later hb h.pa,h.ps.later hb,h.ls.later hb⟩
def n5 (k:Int):Bool:=decide (k=3) || decide (k=4) || decide (k=5)
theorem AR (k:Int) (w:World):Calls prog 66 #[.int .i64 k] w fun e w'=>e=.returned (.bool (n5 k))∧w'=w:=by
 by_cases h3:k=3
 ·subst h3
  go_enter func66,ntmps66;go_wp2_with fail;go_ret;exact⟨rfl,rfl⟩
 ·by_cases h4:k=4
  ·subst h4
   go_enter func66,ntmps66;go_wp2_with fail;go_ret;exact⟨rfl,rfl⟩
  ·by_cases h5:k=5
   ·subst h5
    go_enter func66,ntmps66;go_wp2_with fail;go_ret;exact⟨rfl,rfl⟩
   ·have HP:Hid (n5 k=false):=ab (by unfold n5;rw[db h3,db h4,db h5];rfl)
    have q3:(k==3)=false:=bn h3;have q4:(k==4)=false:=bn h4;have q5:(k==5)=false:=bn h5;clear h3 h4 h5;go_enter func66,ntmps66;go_wp2_with fail;go_ret;exact⟨by rw[aa HP];rfl,rfl⟩
def lT (T:PT):Int:=if T.wrongX≠0 then T.wrongX else if n5 T.k=true then 0 else 8
theorem Cy (T:PT) (w:World) (hT:T.In w) (hS:gJ w):
  Calls prog 34 #[pv T] w fun e w'=>e=.returned (.int .i64 (lT T))∧Below w.heap.size w w':=by
 have ei:=(aV w.heap.size w).alloc (aw _) (.cells #[.int .i64 T.k,.string T.t,.int .i64 T.n,.string T.nm,.slice T.xa T.len T.cap] 24);have HX:=ab (xU T _ (PT.In.later ei hT) (hS.later ei));have HIP:=ab (AR T.k);have HE:Hid (lT T=if T.wrongX≠0 then T.wrongX else if n5 T.k=true then 0 else 8):=ab (rfl);clear hT hS ei;generalize T.wrongX=er at *;unfold pv at HX ⊢;go_enter func34,ntmps34;go_wp2_with fail;refine(aa HX).mono ?_;rintro e w1 ⟨rfl,hb1⟩;have aX:=ab (((aV w.heap.size w).alloc (aw _) (.cells #[.int .i64 T.k,.string T.t,.int .i64 T.n,.string T.nm,.slice T.xa T.len T.cap] 24)) |> fun h=>aq h hb1)
 have c0:w1.cell? ⟨w.heap.size,0,none⟩=some (.int .i64 T.k):=cr (an (ax rfl) hb1);clear hb1
 by_cases h0:er=0
 ·have q:(er==0)=true:=bt h0
  have dd:Hid (lT T=if n5 T.k=true then 0 else 8):=ab (by rw[aa HE,ac (by simp[h0])])
  clear h0 HE;go_wp2_with fail;refine(aa HIP w1).mono ?_;rintro e w1 ⟨rfl,rfl⟩
  cases hp:n5 T.k
  ·rw[hp,ac (by decide)] at dd
   go_wp2_with fail;go_ret;exact⟨by rw[aa dd];rfl,aa aX⟩
  ·rw[hp,af rfl] at dd
   go_wp2_with fail;go_ret;exact⟨by rw[aa dd];rfl,aa aX⟩
 ·have q:(er==0)=false:=bn h0
  have dd:Hid (lT T=er):=ab (by rw[aa HE,af h0])
  clear h0 HE;go_wp2_with fail;go_ret;exact⟨by rw[aa dd];rfl,aa aX⟩
end Go.Proofs.YtlmnjbipfacniaaGreatDoor
