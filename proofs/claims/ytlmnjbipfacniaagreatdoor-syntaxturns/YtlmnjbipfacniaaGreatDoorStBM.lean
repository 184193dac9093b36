/- What syntax.wrongNode, wrongBelow and Expr do, for every exp -/
import Derived.Test.YtlmnjbipfacniaaGreatDoorStAM
import Derived.Test.YtlmnjbipfacniaaGreatDoorPatBelowP
import Derived.Deep.RegionHeld3
set_option maxRecDepth 100000
set_option maxHeartbeats 1000000
namespace Go.Proofs.YtlmnjbipfacniaaGreatDoor
open Go.Proofs.Tryz
open Go.RowKit
def bW (k:Int):Bool:=decide (k=3∨k=4∨k=6)
def bG (k:Int):Int:=if k=4∨k=5∨k=7 then 1 else if 8≤k∧k≤13 then 2 else 0
def bF (k:Int):Int:=if k=6 then 8 else if k=4∨k=5∨k=7 then 1 else if 8≤k∧k≤13 then 2 else 0
def bB (k:Int):Int:=if k=7 then 4 else if k=8 then 1 else if k=9∨k=10 then 2 else if 11≤k∧k≤13 then 3 else 5
def cL (k:Int):ByteArray:=if k=5 then ⟨#[36]⟩ else if k=7∨k=10 then ⟨#[45]⟩ else if k=8 then ⟨#[38]⟩ else if k=9 then ⟨#[43]⟩ else if k=11 then ⟨#[42]⟩ else if k=12 then ⟨#[47]⟩ else if k=13 then ⟨#[37]⟩ else ByteArray.empty
def cJ (T:PT):Int:=
 if T.k < 1∨13 < T.k then 1
 else if T.k=1∧65536 < T.t.size then 4
 else if T.k=2∧T.n < 0 then 3
 else if bW T.k=true∧bp T.nm=false then 7
 else if (T.len:Int) < bG T.k∨bF T.k < T.len then 5
 else 0
def PT.badX:PT→Int
 | .node k t n nm xa b o len cap kids=>if cJ (.node k t n nm xa b o len cap kids)=0 then fT (kf len 0 fun i=>PT.badX (kids i)) len else cJ (.node k t n nm xa b o len cap kids)
theorem PT.badX_eq (T:PT):T.badX=if cJ T=0 then fT (fun i=>(T.kid i).badX) T.len else cJ T:=by
 obtain⟨k,t,n,nm,xa,b,o,len,cap,kids⟩:=T;have h:=xJ (f:=kf len 0 fun i=>PT.badX (kids i)) (g:=fun i=>((PT.node k t n nm xa b o len cap kids).kid i).badX) len fun i hi=>by rw[sS hi,PT.kid_at (T:=.node k t n nm xa b o len cap kids) hi]
 show (if cJ _=0 then fT (kf len 0 fun i=>PT.badX (kids i)) len else cJ _)=_
 rw[h]
def PT.wrongX (T:PT):Int:=if T.fits then T.badX else 4
def gP (w:World):Prop:=∀K:Nat,1≤K→K≤13→w.cell? ⟨0,K * 5,none⟩=some (.string (cL K))∧w.cell? ⟨0,K * 5+1,none⟩=some (.int .i64 (bB K))∧w.cell? ⟨0,K * 5+2,none⟩=some (.bool (bW K))∧w.cell? ⟨0,K * 5+3,none⟩=some (.int .i64 (bG K))∧w.cell? ⟨0,K * 5+4,none⟩=some (.int .i64 (bF K))
theorem gP.later {w w':World} (h:gP w) (hb:Below w.heap.size w w'):gP w':=fun K h1 h2=>by
 obtain⟨a,b,c,d,e⟩:=h K h1 h2;exact⟨av hb a,av hb b,av hb c,av hb d,av hb e⟩
theorem I6 (T:PT) (w:World) (h:T.k < 1∨13 < T.k):
  Calls prog 107 #[pv T] w fun e w'=>e=.returned (.int .i64 (cJ T))∧Below w.heap.size w w':=by
 unfold pv;have HE:Hid (cJ T=1):=ab (by unfold cJ;rw[af h])
 rw[aa HE];rcases h with h | h
 ·go_enter func107,ntmps107
  go_wp2_with fail;go_ret;exact⟨rfl,ba _⟩
 ·have h1:¬T.k < 1:=by omega
  go_enter func107,ntmps107;go_wp2_with fail;go_ret;exact⟨rfl,ba _⟩
theorem I5 (T:PT) (w:World) (hS:gP w) (h:¬(T.k < 1∨13 < T.k)) (hk:T.k=1) (hl:65536 < T.t.size):
  Calls prog 107 #[pv T] w fun e w'=>e=.returned (.int .i64 (cJ T))∧Below w.heap.size w w':=by
 unfold pv;have HE:Hid (cJ T=4):=ab (by unfold cJ;rw[ac h,af ⟨hk,hl⟩])
 rw[aa HE];obtain⟨K,hK⟩:∃K:Nat,T.k=(K:Int):=⟨T.k.toNat,by omega⟩
 obtain⟨s0,s1,s2,s3,s4⟩:=hS K (by omega) (by omega)
 have hz:0 < w.heap.size:=de _ _ s0;have hz':¬w.heap.size=0:=by omega
 rw[←hK] at s0 s1 s2 s3 s4;generalize bG T.k=least at *;generalize bF T.k=most at *;generalize bB T.k=level at *;generalize cL T.k=sign at *;obtain rfl:K=1:=by omega
 rw[show bW T.k=false by rw[hk];rfl] at s2
 rw[hk];clear hK hk;have h3:65536 < (T.t.size:Int):=by omega
 clear hS h HE;go_enter func107,ntmps107;go_wp2_with fail;go_ret;exact⟨rfl,(ba _).alloc (by simp) _⟩
theorem J2 (T:PT) (w:World) (hS:gP w) (h:¬(T.k < 1∨13 < T.k)) (hk:T.k=2) (hl:T.n < 0):
  Calls prog 107 #[pv T] w fun e w'=>e=.returned (.int .i64 (cJ T))∧Below w.heap.size w w':=by
 unfold pv;have HE:Hid (cJ T=3):=ab (by unfold cJ;rw[ac h,ac (by omega),af ⟨hk,hl⟩])
 rw[aa HE];obtain⟨K,hK⟩:∃K:Nat,T.k=(K:Int):=⟨T.k.toNat,by omega⟩
 obtain⟨s0,s1,s2,s3,s4⟩:=hS K (by omega) (by omega)
 have hz:0 < w.heap.size:=de _ _ s0;have hz':¬w.heap.size=0:=by omega
 rw[←hK] at s0 s1 s2 s3 s4;generalize bG T.k=least at *;generalize bF T.k=most at *;generalize bB T.k=level at *;generalize cL T.k=sign at *;obtain rfl:K=2:=by omega
 rw[show bW T.k=false by rw[hk];rfl] at s2
 rw[hk];clear hK hk;clear hS h HE;go_enter func107,ntmps107;go_wp2_with fail;go_ret;exact⟨rfl,(ba _).alloc (by simp) _⟩
theorem I4 (T:PT) (w:World) (hS:gP w) (h:¬(T.k < 1∨13 < T.k)) (hk:3≤T.k) (hx:bW T.k=true) (hn:T.nm.size≤maxLen) (hl:bp T.nm=false):
  Calls prog 107 #[pv T] w fun e w'=>e=.returned (.int .i64 (cJ T))∧Below w.heap.size w w':=by
 unfold pv;have HE:Hid (cJ T=7):=ab (by unfold cJ;rw[ac h,ac (by omega),ac (by omega),af ⟨hx,hl⟩])
 rw[aa HE];obtain⟨K,hK⟩:∃K:Nat,T.k=(K:Int):=⟨T.k.toNat,by omega⟩
 obtain⟨s0,s1,s2,s3,s4⟩:=hS K (by omega) (by omega)
 have hz:0 < w.heap.size:=de _ _ s0;have hz':¬w.heap.size=0:=by omega
 rw[←hK] at s0 s1 s2 s3 s4;generalize bG T.k=least at *;generalize bF T.k=most at *;generalize bB T.k=level at *;generalize cL T.k=sign at *;rw[hx] at s2;have h1:¬(K:Int) < 1:=by omega
 have h2:¬13 < (K:Int):=by omega
 have h3:¬(K:Int)=1:=by omega
 have h4:¬(K:Int)=2:=by omega
 have fY:=hn;have HL:=ab hl;clear hl hn hx;rw[hK];clear hK hk;clear hS h HE;go_enter func107,ntmps107;go_wp2_with (go_at_call 30;refine(qj _ _ fY).mono ?_;rintro e w ⟨rfl,rfl⟩;rw[aa HL]);go_ret;exact⟨rfl,(ba _).alloc (by simp) _⟩
theorem Jh (T:PT) (w:World) (hS:gP w) (h:¬(T.k < 1∨13 < T.k)) (hk:T.k=1) (hl:¬65536 < T.t.size) (hm:(T.len:Int) < bG T.k):
  Calls prog 107 #[pv T] w fun e w'=>e=.returned (.int .i64 (cJ T))∧Below w.heap.size w w':=by
 unfold pv;have HE:Hid (cJ T=5):=ab (by unfold cJ;rw[ac h,ac (by omega),ac (by omega),ac (fun h=>by rw[hk] at h;exact absurd h.1 (by decide)),af (.inl hm)])
 rw[aa HE];obtain⟨K,hK⟩:∃K:Nat,T.k=(K:Int):=⟨T.k.toNat,by omega⟩
 obtain⟨s0,s1,s2,s3,s4⟩:=hS K (by omega) (by omega)
 have hz:0 < w.heap.size:=de _ _ s0;have hz':¬w.heap.size=0:=by omega
 rw[←hK] at s0 s1 s2 s3 s4;generalize bG T.k=least at *;generalize bF T.k=most at *;generalize bB T.k=level at *;generalize cL T.k=sign at *;obtain rfl:K=1:=by omega
 rw[show bW T.k=false by rw[hk];rfl] at s2
 rw[hk];clear hK hk;have h3:¬65536 < (T.t.size:Int):=by omega
 clear hS h HE;go_enter func107,ntmps107;go_wp2_with fail;go_ret;exact⟨rfl,(ba _).alloc (by simp) _⟩
theorem Ji (T:PT) (w:World) (hS:gP w) (h:¬(T.k < 1∨13 < T.k)) (hk:T.k=1) (hl:¬65536 < T.t.size) (hm:¬(T.len:Int) < bG T.k) (hq:bF T.k < (T.len:Int)):
  Calls prog 107 #[pv T] w fun e w'=>e=.returned (.int .i64 (cJ T))∧Below w.heap.size w w':=by
 unfold pv;have HE:Hid (cJ T=5):=ab (by unfold cJ;rw[ac h,ac (by omega),ac (by omega),ac (fun h=>by rw[hk] at h;exact absurd h.1 (by decide)),af (.inr hq)])
 rw[aa HE];obtain⟨K,hK⟩:∃K:Nat,T.k=(K:Int):=⟨T.k.toNat,by omega⟩
 obtain⟨s0,s1,s2,s3,s4⟩:=hS K (by omega) (by omega)
 have hz:0 < w.heap.size:=de _ _ s0;have hz':¬w.heap.size=0:=by omega
 rw[←hK] at s0 s1 s2 s3 s4;generalize bG T.k=least at *;generalize bF T.k=most at *;generalize bB T.k=level at *;generalize cL T.k=sign at *;obtain rfl:K=1:=by omega
 rw[show bW T.k=false by rw[hk];rfl] at s2
 rw[hk];clear hK hk;have h3:¬65536 < (T.t.size:Int):=by omega
 clear hS h HE;go_enter func107,ntmps107;go_wp2_with fail;go_ret;exact⟨rfl,(ba _).alloc (by simp) _⟩
theorem Jg (T:PT) (w:World) (hS:gP w) (h:¬(T.k < 1∨13 < T.k)) (hk:T.k=1) (hl:¬65536 < T.t.size) (hm:¬(T.len:Int) < bG T.k) (hq:¬bF T.k < (T.len:Int)):
  Calls prog 107 #[pv T] w fun e w'=>e=.returned (.int .i64 (cJ T))∧Below w.heap.size w w':=by
 unfold pv;have HE:Hid (cJ T=0):=ab (by unfold cJ;rw[ac h,ac (by omega),ac (by omega),ac (fun h=>by rw[hk] at h;exact absurd h.1 (by decide)),ac (fun h=>h.elim hm hq)])
 rw[aa HE];obtain⟨K,hK⟩:∃K:Nat,T.k=(K:Int):=⟨T.k.toNat,by omega⟩
 obtain⟨s0,s1,s2,s3,s4⟩:=hS K (by omega) (by omega)
 have hz:0 < w.heap.size:=de _ _ s0;have hz':¬w.heap.size=0:=by omega
 rw[←hK] at s0 s1 s2 s3 s4;generalize bG T.k=least at *;generalize bF T.k=most at *;generalize bB T.k=level at *;generalize cL T.k=sign at *;obtain rfl:K=1:=by omega
 rw[show bW T.k=false by rw[hk];rfl] at s2
 rw[hk];clear hK hk;have h3:¬65536 < (T.t.size:Int):=by omega
 clear hS h HE;go_enter func107,ntmps107;go_wp2_with fail;go_ret;exact⟨rfl,(ba _).alloc (by simp) _⟩
theorem Je (T:PT) (w:World) (hS:gP w) (h:¬(T.k < 1∨13 < T.k)) (hk:T.k=2) (hl:¬T.n < 0) (hm:(T.len:Int) < bG T.k):
  Calls prog 107 #[pv T] w fun e w'=>e=.returned (.int .i64 (cJ T))∧Below w.heap.size w w':=by
 unfold pv;have HE:Hid (cJ T=5):=ab (by unfold cJ;rw[ac h,ac (by omega),ac (by omega),ac (fun h=>by rw[hk] at h;exact absurd h.1 (by decide)),af (.inl hm)])
 rw[aa HE];obtain⟨K,hK⟩:∃K:Nat,T.k=(K:Int):=⟨T.k.toNat,by omega⟩
 obtain⟨s0,s1,s2,s3,s4⟩:=hS K (by omega) (by omega)
 have hz:0 < w.heap.size:=de _ _ s0;have hz':¬w.heap.size=0:=by omega
 rw[←hK] at s0 s1 s2 s3 s4;generalize bG T.k=least at *;generalize bF T.k=most at *;generalize bB T.k=level at *;generalize cL T.k=sign at *;obtain rfl:K=2:=by omega
 rw[show bW T.k=false by rw[hk];rfl] at s2
 rw[hk];clear hK hk;have h3:¬T.n < 0:=hl;clear hS h HE;go_enter func107,ntmps107;go_wp2_with fail;go_ret;exact⟨rfl,(ba _).alloc (by simp) _⟩
theorem Jf (T:PT) (w:World) (hS:gP w) (h:¬(T.k < 1∨13 < T.k)) (hk:T.k=2) (hl:¬T.n < 0) (hm:¬(T.len:Int) < bG T.k) (hq:bF T.k < (T.len:Int)):
  Calls prog 107 #[pv T] w fun e w'=>e=.returned (.int .i64 (cJ T))∧Below w.heap.size w w':=by
 unfold pv;have HE:Hid (cJ T=5):=ab (by unfold cJ;rw[ac h,ac (by omega),ac (by omega),ac (fun h=>by rw[hk] at h;exact absurd h.1 (by decide)),af (.inr hq)])
 rw[aa HE];obtain⟨K,hK⟩:∃K:Nat,T.k=(K:Int):=⟨T.k.toNat,by omega⟩
 obtain⟨s0,s1,s2,s3,s4⟩:=hS K (by omega) (by omega)
 have hz:0 < w.heap.size:=de _ _ s0;have hz':¬w.heap.size=0:=by omega
 rw[←hK] at s0 s1 s2 s3 s4;generalize bG T.k=least at *;generalize bF T.k=most at *;generalize bB T.k=level at *;generalize cL T.k=sign at *;obtain rfl:K=2:=by omega
 rw[show bW T.k=false by rw[hk];rfl] at s2
 rw[hk];clear hK hk;have h3:¬T.n < 0:=hl;clear hS h HE;go_enter func107,ntmps107;go_wp2_with fail;go_ret;exact⟨rfl,(ba _).alloc (by simp) _⟩
theorem Jd (T:PT) (w:World) (hS:gP w) (h:¬(T.k < 1∨13 < T.k)) (hk:T.k=2) (hl:¬T.n < 0) (hm:¬(T.len:Int) < bG T.k) (hq:¬bF T.k < (T.len:Int)):
  Calls prog 107 #[pv T] w fun e w'=>e=.returned (.int .i64 (cJ T))∧Below w.heap.size w w':=by
 unfold pv;have HE:Hid (cJ T=0):=ab (by unfold cJ;rw[ac h,ac (by omega),ac (by omega),ac (fun h=>by rw[hk] at h;exact absurd h.1 (by decide)),ac (fun h=>h.elim hm hq)])
 rw[aa HE];obtain⟨K,hK⟩:∃K:Nat,T.k=(K:Int):=⟨T.k.toNat,by omega⟩
 obtain⟨s0,s1,s2,s3,s4⟩:=hS K (by omega) (by omega)
 have hz:0 < w.heap.size:=de _ _ s0;have hz':¬w.heap.size=0:=by omega
 rw[←hK] at s0 s1 s2 s3 s4;generalize bG T.k=least at *;generalize bF T.k=most at *;generalize bB T.k=level at *;generalize cL T.k=sign at *;obtain rfl:K=2:=by omega
 rw[show bW T.k=false by rw[hk];rfl] at s2
 rw[hk];clear hK hk;have h3:¬T.n < 0:=hl;clear hS h HE;go_enter func107,ntmps107;go_wp2_with fail;go_ret;exact⟨rfl,(ba _).alloc (by simp) _⟩
theorem Jb (T:PT) (w:World) (hS:gP w) (h:¬(T.k < 1∨13 < T.k)) (hk:3≤T.k) (hx:bW T.k=true) (hn:T.nm.size≤maxLen) (hl:bp T.nm=true) (hm:(T.len:Int) < bG T.k):
  Calls prog 107 #[pv T] w fun e w'=>e=.returned (.int .i64 (cJ T))∧Below w.heap.size w w':=by
 unfold pv;have HE:Hid (cJ T=5):=ab (by unfold cJ;rw[ac h,ac (by omega),ac (by omega),ac (fun h=>by rw[hl] at h;exact absurd h.2 (by decide)),af (.inl hm)])
 rw[aa HE];obtain⟨K,hK⟩:∃K:Nat,T.k=(K:Int):=⟨T.k.toNat,by omega⟩
 obtain⟨s0,s1,s2,s3,s4⟩:=hS K (by omega) (by omega)
 have hz:0 < w.heap.size:=de _ _ s0;have hz':¬w.heap.size=0:=by omega
 rw[←hK] at s0 s1 s2 s3 s4;generalize bG T.k=least at *;generalize bF T.k=most at *;generalize bB T.k=level at *;generalize cL T.k=sign at *;rw[hx] at s2;have h1:¬(K:Int) < 1:=by omega
 have h2:¬13 < (K:Int):=by omega
 have h3:¬(K:Int)=1:=by omega
 have h4:¬(K:Int)=2:=by omega
 have fY:=hn;have HL:=ab hl;clear hl hn hx;rw[hK];clear hK hk;clear hS h HE;go_enter func107,ntmps107;go_wp2_with (go_at_call 30;refine(qj _ _ fY).mono ?_;rintro e w ⟨rfl,rfl⟩;rw[aa HL]);go_ret;exact⟨rfl,(ba _).alloc (by simp) _⟩
theorem Jc (T:PT) (w:World) (hS:gP w) (h:¬(T.k < 1∨13 < T.k)) (hk:3≤T.k) (hx:bW T.k=true) (hn:T.nm.size≤maxLen) (hl:bp T.nm=true) (hm:¬(T.len:Int) < bG T.k) (hq:bF T.k < (T.len:Int)):
  Calls prog 107 #[pv T] w fun e w'=>e=.returned (.int .i64 (cJ T))∧Below w.heap.size w w':=by
 unfold pv;have HE:Hid (cJ T=5):=ab (by unfold cJ;rw[ac h,ac (by omega),ac (by omega),ac (fun h=>by rw[hl] at h;exact absurd h.2 (by decide)),af (.inr hq)])
 rw[aa HE];obtain⟨K,hK⟩:∃K:Nat,T.k=(K:Int):=⟨T.k.toNat,by omega⟩
 obtain⟨s0,s1,s2,s3,s4⟩:=hS K (by omega) (by omega)
 have hz:0 < w.heap.size:=de _ _ s0;have hz':¬w.heap.size=0:=by omega
 rw[←hK] at s0 s1 s2 s3 s4;generalize bG T.k=least at *;generalize bF T.k=most at *;generalize bB T.k=level at *;generalize cL T.k=sign at *;rw[hx] at s2;have h1:¬(K:Int) < 1:=by omega
 have h2:¬13 < (K:Int):=by omega
 have h3:¬(K:Int)=1:=by omega
 have h4:¬(K:Int)=2:=by omega
 have fY:=hn;have HL:=ab hl;clear hl hn hx;rw[hK];clear hK hk;clear hS h HE;go_enter func107,ntmps107;go_wp2_with (go_at_call 30;refine(qj _ _ fY).mono ?_;rintro e w ⟨rfl,rfl⟩;rw[aa HL]);go_ret;exact⟨rfl,(ba _).alloc (by simp) _⟩
theorem Ja (T:PT) (w:World) (hS:gP w) (h:¬(T.k < 1∨13 < T.k)) (hk:3≤T.k) (hx:bW T.k=true) (hn:T.nm.size≤maxLen) (hl:bp T.nm=true) (hm:¬(T.len:Int) < bG T.k) (hq:¬bF T.k < (T.len:Int)):
  Calls prog 107 #[pv T] w fun e w'=>e=.returned (.int .i64 (cJ T))∧Below w.heap.size w w':=by
 unfold pv;have HE:Hid (cJ T=0):=ab (by unfold cJ;rw[ac h,ac (by omega),ac (by omega),ac (fun h=>by rw[hl] at h;exact absurd h.2 (by decide)),ac (fun h=>h.elim hm hq)])
 rw[aa HE];obtain⟨K,hK⟩:∃K:Nat,T.k=(K:Int):=⟨T.k.toNat,by omega⟩
 obtain⟨s0,s1,s2,s3,s4⟩:=hS K (by omega) (by omega)
 have hz:0 < w.heap.size:=de _ _ s0;have hz':¬w.heap.size=0:=by omega
 rw[←hK] at s0 s1 s2 s3 s4;generalize bG T.k=least at *;generalize bF T.k=most at *;generalize bB T.k=level at *;generalize cL T.k=sign at *;rw[hx] at s2;have h1:¬(K:Int) < 1:=by omega
 have h2:¬13 < (K:Int):=by omega
 have h3:¬(K:Int)=1:=by omega
 have h4:¬(K:Int)=2:=by omega
 have fY:=hn;have HL:=ab hl;clear hl hn hx;rw[hK];clear hK hk;clear hS h HE;go_enter func107,ntmps107;go_wp2_with (go_at_call 30;refine(qj _ _ fY).mono ?_;rintro e w ⟨rfl,rfl⟩;rw[aa HL]);go_ret;exact⟨rfl,(ba _).alloc (by simp) _⟩
theorem I8 (T:PT) (w:World) (hS:gP w) (h:¬(T.k < 1∨13 < T.k)) (hk:3≤T.k) (hx:bW T.k=false) (hm:(T.len:Int) < bG T.k):
  Calls prog 107 #[pv T] w fun e w'=>e=.returned (.int .i64 (cJ T))∧Below w.heap.size w w':=by
 unfold pv;have HE:Hid (cJ T=5):=ab (by unfold cJ;rw[ac h,ac (by omega),ac (by omega),ac (fun h=>by rw[hx] at h;exact absurd h.1 (by decide)),af (.inl hm)])
 rw[aa HE];obtain⟨K,hK⟩:∃K:Nat,T.k=(K:Int):=⟨T.k.toNat,by omega⟩
 obtain⟨s0,s1,s2,s3,s4⟩:=hS K (by omega) (by omega)
 have hz:0 < w.heap.size:=de _ _ s0;have hz':¬w.heap.size=0:=by omega
 rw[←hK] at s0 s1 s2 s3 s4;generalize bG T.k=least at *;generalize bF T.k=most at *;generalize bB T.k=level at *;generalize cL T.k=sign at *;rw[hx] at s2;have h1:¬(K:Int) < 1:=by omega
 have h2:¬13 < (K:Int):=by omega
 have h3:¬(K:Int)=1:=by omega
 have h4:¬(K:Int)=2:=by omega
 clear hx;rw[hK];clear hK hk;clear hS h HE;go_enter func107,ntmps107;go_wp2_with fail;go_ret;exact⟨rfl,(ba _).alloc (by simp) _⟩
theorem I9 (T:PT) (w:World) (hS:gP w) (h:¬(T.k < 1∨13 < T.k)) (hk:3≤T.k) (hx:bW T.k=false) (hm:¬(T.len:Int) < bG T.k) (hq:bF T.k < (T.len:Int)):
  Calls prog 107 #[pv T] w fun e w'=>e=.returned (.int .i64 (cJ T))∧Below w.heap.size w w':=by
 unfold pv;have HE:Hid (cJ T=5):=ab (by unfold cJ;rw[ac h,ac (by omega),ac (by omega),ac (fun h=>by rw[hx] at h;exact absurd h.1 (by decide)),af (.inr hq)])
 rw[aa HE];obtain⟨K,hK⟩:∃K:Nat,T.k=(K:Int):=⟨T.k.toNat,by omega⟩
 obtain⟨s0,s1,s2,s3,s4⟩:=hS K (by omega) (by omega)
 have hz:0 < w.heap.size:=de _ _ s0;have hz':¬w.heap.size=0:=by omega
 rw[←hK] at s0 s1 s2 s3 s4;generalize bG T.k=least at *;generalize bF T.k=most at *;generalize bB T.k=level at *;generalize cL T.k=sign at *;rw[hx] at s2;have h1:¬(K:Int) < 1:=by omega
 have h2:¬13 < (K:Int):=by omega
 have h3:¬(K:Int)=1:=by omega
 have h4:¬(K:Int)=2:=by omega
 clear hx;rw[hK];clear hK hk;clear hS h HE;go_enter func107,ntmps107;go_wp2_with fail;go_ret;exact⟨rfl,(ba _).alloc (by simp) _⟩
theorem I7 (T:PT) (w:World) (hS:gP w) (h:¬(T.k < 1∨13 < T.k)) (hk:3≤T.k) (hx:bW T.k=false) (hm:¬(T.len:Int) < bG T.k) (hq:¬bF T.k < (T.len:Int)):
  Calls prog 107 #[pv T] w fun e w'=>e=.returned (.int .i64 (cJ T))∧Below w.heap.size w w':=by
 unfold pv;have HE:Hid (cJ T=0):=ab (by unfold cJ;rw[ac h,ac (by omega),ac (by omega),ac (fun h=>by rw[hx] at h;exact absurd h.1 (by decide)),ac (fun h=>h.elim hm hq)])
 rw[aa HE];obtain⟨K,hK⟩:∃K:Nat,T.k=(K:Int):=⟨T.k.toNat,by omega⟩
 obtain⟨s0,s1,s2,s3,s4⟩:=hS K (by omega) (by omega)
 have hz:0 < w.heap.size:=de _ _ s0;have hz':¬w.heap.size=0:=by omega
 rw[←hK] at s0 s1 s2 s3 s4;generalize bG T.k=least at *;generalize bF T.k=most at *;generalize bB T.k=level at *;generalize cL T.k=sign at *;rw[hx] at s2;have h1:¬(K:Int) < 1:=by omega
 have h2:¬13 < (K:Int):=by omega
 have h3:¬(K:Int)=1:=by omega
 have h4:¬(K:Int)=2:=by omega
 clear hx;rw[hK];clear hK hk;clear hS h HE;go_enter func107,ntmps107;go_wp2_with fail;go_ret;exact⟨rfl,(ba _).alloc (by simp) _⟩
theorem J3 (T:PT) (w:World) (hT:T.In w) (hS:gP w):
  Calls prog 107 #[pv T] w fun e w'=>e=.returned (.int .i64 (cJ T))∧Below w.heap.size w w':=by
 by_cases h:T.k < 1∨13 < T.k
 ·exact I6 T w h
 by_cases h1:T.k=1
 ·by_cases hl:65536 < T.t.size
  ·exact I5 T w hS h h1 hl
  ·by_cases hm:(T.len:Int) < bG T.k
   ·exact Jh T w hS h h1 hl hm
   ·by_cases hq:bF T.k < (T.len:Int)
    ·exact Ji T w hS h h1 hl hm hq
    ·exact Jg T w hS h h1 hl hm hq
 by_cases h2:T.k=2
 ·by_cases hl:T.n < 0
  ·exact J2 T w hS h h2 hl
  ·by_cases hm:(T.len:Int) < bG T.k
   ·exact Je T w hS h h2 hl hm
   ·by_cases hq:bF T.k < (T.len:Int)
    ·exact Jf T w hS h h2 hl hm hq
    ·exact Jd T w hS h h2 hl hm hq
 have h3:3≤T.k:=by omega
 cases hx:bW T.k
 ·by_cases hm:(T.len:Int) < bG T.k
  ·exact I8 T w hS h h3 hx hm
  ·by_cases hq:bF T.k < (T.len:Int)
   ·exact I9 T w hS h h3 hx hm hq
   ·exact I7 T w hS h h3 hx hm hq
 ·cases hl:bp T.nm
  ·exact I4 T w hS h h3 hx hT.name hl
  ·by_cases hm:(T.len:Int) < bG T.k
   ·exact Jb T w hS h h3 hx hT.name hl hm
   ·by_cases hq:bF T.k < (T.len:Int)
    ·exact Jc T w hS h h3 hx hT.name hl hm hq
    ·exact Ja T w hS h h3 hx hT.name hl hm hq
open Go.RowKit
def BH (T:PT):Prop:=∀(w:World),T.In w→gP w→
 Calls prog 63 #[.agg #[.int .i64 T.k,.string T.t,.int .i64 T.n,.string T.nm,.slice T.xa T.len T.cap]] w fun e w'=>e=.returned (.int .i64 T.badX)∧Below w.heap.size w w'
theorem KD (T:PT) (ih:∀i,i < T.len→BH (T.kid i)):BH T:=by
 intro w hT hS;have HN:=ab (fun W (h:Below w.heap.size w W)=>J3 T W (PT.In.later h hT) (hS.later h))
 unfold pv at HN;have jr:=hT.max;unfold maxLen at jr;have HD:=ab (And.intro hT (And.intro hS (And.intro ih T.badX_eq)));clear hT hS ih;have dr:=(aW w.heap.size w).alloc (ax _) (.cells #[.int .i64 T.k,.string T.t,.int .i64 T.n,.string T.nm,.slice T.xa T.len T.cap] 24);go_enter func63,ntmps63;go_wp2_with fail;refine(aa HN _ dr).mono ?_;rintro e w1 ⟨rfl,hb1⟩;have hb:=ap dr hb1;have c4:w1.cell? ⟨w.heap.size,4,none⟩=some (.slice T.xa T.len T.cap):=av hb1 (cr (aw rfl));have HB:=ab hb;clear dr hb1 hb HN
 by_cases he:cJ T=0
 ·have H0:Hid (T.badX=fT (fun i=>(T.kid i).badX) T.len):=ab (by rw[(aa HD).2.2.2,af he])
  rw[he];clear he;go_wp2_with fail;go_loopw [15] (fun i wr=>∃k:Nat,k≤T.len∧i=.int .i64 (k:Int)∧Below w.heap.size w wr∧fT (fun i=>(T.kid i).badX) k=0) (fun i _=>T.len - (intOf i).toNat)
  case atStart=>exact⟨0,by omega,rfl,aa HB,rfl⟩
  case round=>
   obtain⟨k,hk,rfl,fO,hf⟩:=hrel;clear c4;have HF:=ab hf;clear hf;rcases cX k T.len with hkt | hkt
   ·obtain⟨hT,hS,ih, -⟩:=aa HD
    obtain⟨k0,k1,k2,k3,k4⟩:=hT.cells hkt;have k0:=av fO k0;have k1:=av fO k1;have k2:=av fO k2;have k3:=av fO k3;have k4:=av fO k4;unfold PT.kv at k4;have lm:=mu hT hkt;have HX:=ab (And.intro (PT.In.later fO (hT.kids hkt)) (hS.later fO));have HI:=ab (ih k hkt);have jw:=ab fO;clear hT hS ih fO;go_wp2_with fail;have hn:=(aW wr.heap.size wr).alloc (ax _) (.cells #[.int .i64 (T.kid k).k,.string (T.kid k).t,.int .i64 (T.kid k).n,.string (T.kid k).nm,.slice (T.kid k).xa (T.kid k).len (T.kid k).cap] 24);refine(aa HI _ (PT.In.later hn (aa HX).1) ((aa HX).2.later hn)).mono ?_;rintro e w2 ⟨rfl,hb2⟩;have aF:=ab (ap (ap (aa jw) hn) hb2);clear hn hb2
    by_cases he:(T.kid k).badX=0
    ·have HW:Hid (fT (fun i=>(T.kid i).badX) (k+1)=0):=ab (by rw[fT,af (aa HF)];exact he)
     rw[he];clear he;go_wp2_with fail;exact⟨⟨k+1,by omega,by go_num,aa aF,aa HW⟩,by simp[intOf];omega⟩
    ·have HW:Hid (T.badX=(T.kid k).badX):=ab (by
      have h1:fT (fun i=>(T.kid i).badX) (k+1)=(T.kid k).badX:=by rw[fT,af (aa HF)]
      rw[aa H0,CY _ (show k+1≤T.len from hkt) (by rw[h1];exact he),h1])
     have bo:((T.kid k).badX !=0)=true:=by rw[rU];exact he
     clear he;go_wp2_with fail;go_ret;exact⟨by rw[aa HW];rfl,aa aF⟩
   ·have hk':k=T.len:=by omega
    have jw:=ab fO;clear fO;go_wp2_with fail;go_ret;exact⟨by rw[aa H0,←hk',aa HF];rfl,aa jw⟩
 ·have H0:Hid (T.badX=cJ T):=ab (by rw[(aa HD).2.2.2,ac he])
  have bo:(cJ T !=0)=true:=by rw[rU];exact he
  clear he;go_wp2_with fail;go_ret;exact⟨by rw[aa H0];rfl,aa HB⟩
theorem Mj:∀T:PT,BH T:=PT.ind KD
theorem ya (T:PT) (w:World) (hT:T.In w) (hS:gP w):
  Calls prog 31 #[pv T] w fun e w'=>e=.returned (.int .i64 T.wrongX)∧Below w.heap.size w w':=by
 have HZ:=ab (fun W (h:Below w.heap.size w W)=>sF T W (PT.In.later h hT))
 have HB:=ab (fun W (h:Below w.heap.size w W)=>Mj T W (PT.In.later h hT) (hS.later h))
 clear hT hS;unfold pv at HZ;unfold pv;have dr:=(aW w.heap.size w).alloc (ax _) (.cells #[.int .i64 T.k,.string T.t,.int .i64 T.n,.string T.nm,.slice T.xa T.len T.cap] 24);go_enter func31,ntmps31;go_wp2_with fail;refine(aa HZ _ dr).mono ?_;rintro e w1 ⟨rfl,hb1⟩;have H1:=ab (ap dr hb1);have aV:w1.heap[w.heap.size]? =some (.cells #[.int .i64 T.k,.string T.t,.int .i64 T.n,.string T.nm,.slice T.xa T.len T.cap] 24 (0,0)):=am (aw rfl) hb1;have c0:w1.cell? ⟨w.heap.size,0,none⟩=some (.int .i64 T.k):=cr aV;have c1:w1.cell? ⟨w.heap.size,1,none⟩=some (.string T.t):=cr aV;have c2:w1.cell? ⟨w.heap.size,2,none⟩=some (.int .i64 T.n):=cr aV;have c3:w1.cell? ⟨w.heap.size,3,none⟩=some (.string T.nm):=cr aV;have c4:w1.cell? ⟨w.heap.size,4,none⟩=some (.slice T.xa T.len T.cap):=cr aV;clear dr hb1 aV HZ
 cases hf:T.fits
 ·have HW:Hid (T.wrongX=4):=ab (by unfold PT.wrongX;rw[hf];rfl)
  clear hf;go_wp2_with fail;go_ret;exact⟨by rw[aa HW];rfl,aa H1⟩
 ·have HW:Hid (T.wrongX=T.badX):=ab (by unfold PT.wrongX;rw[hf];rfl)
  clear hf;go_wp2_with fail;refine(aa HB _ (aa H1)).mono ?_;rintro e w2 ⟨rfl,hb2⟩;have H2:=ab (ap (aa H1) hb2);clear hb2;go_wp2_with fail;go_ret;exact⟨by rw[aa HW];rfl,aa H2⟩
open Go.RowKit
structure SV where
 lab:ByteArray
 k:Int
 tg:PT
 va:PT
 pa:PT
 nm:ByteArray
 en:ByteArray
 ps:NL
 ls:NL
 al:ByteArray
 ye:ByteArray
 no:ByteArray
def SV.cells (S:SV):Array Value:= #[.string S.lab,.int .i64 S.k,.int .i64 S.tg.k,.string S.tg.t,.int .i64 S.tg.n,.string S.tg.nm,.slice S.tg.xa S.tg.len S.tg.cap,.int .i64 S.va.k,.string S.va.t,.int .i64 S.va.n,.string S.va.nm,.slice S.va.xa S.va.len S.va.cap,.int .i64 S.pa.k,.string S.pa.t,.int .i64 S.pa.n,.string S.pa.nm,.slice S.pa.xa S.pa.len S.pa.cap,.string S.nm,.string S.en,S.ps.v,S.ls.v,.string S.al,.string S.ye,.string S.no]
def SV.v (S:SV):Value:=.agg S.cells
structure SV.In (w:World) (S:SV):Prop where
 txt:S.lab.size≤maxLen∧S.nm.size≤maxLen∧S.en.size≤maxLen∧S.al.size≤maxLen∧S.ye.size≤maxLen∧S.no.size≤maxLen
 tg:S.tg.In w
 va:S.va.In w
 pa:S.pa.In w
 ps:S.ps.In w
 ls:S.ls.In w
theorem SV.In.later {w w':World} {S:SV} (h:S.In w) (hb:Below w.heap.size w w'):S.In w':=⟨h.txt,PT.In.later hb h.tg,PT.In.later hb h.va,PT.In.later hb h.pa,h.ps.later hb,h.ls.later hb⟩
def lU (k:Int):Bool:=decide (k=3) || decide (k=4) || decide (k=5)
theorem A2 (k:Int) (w:World):Calls prog 66 #[.int .i64 k] w fun e w'=>e=.returned (.bool (lU k))∧w'=w:=by
 by_cases h3:k=3
 ·subst h3
  go_enter func66,ntmps66;go_wp2_with fail;go_ret;exact⟨rfl,rfl⟩
 ·by_cases h4:k=4
  ·subst h4
   go_enter func66,ntmps66;go_wp2_with fail;go_ret;exact⟨rfl,rfl⟩
  ·by_cases h5:k=5
   ·subst h5
    go_enter func66,ntmps66;go_wp2_with fail;go_ret;exact⟨rfl,rfl⟩
   ·have HP:Hid (lU k=false):=ab (by unfold lU;rw[dh h3,dh h4,dh h5];rfl)
    have q3:(k==3)=false:=bn h3;have q4:(k==4)=false:=bn h4;have q5:(k==5)=false:=bn h5;clear h3 h4 h5;go_enter func66,ntmps66;go_wp2_with fail;go_ret;exact⟨by rw[aa HP];rfl,rfl⟩
def jo (T:PT):Int:=if T.wrongX≠0 then T.wrongX else if lU T.k=true then 0 else 8
theorem CU (T:PT) (w:World) (hT:T.In w) (hS:gP w):
  Calls prog 34 #[pv T] w fun e w'=>e=.returned (.int .i64 (jo T))∧Below w.heap.size w w':=by
 have dr:=(aW w.heap.size w).alloc (ax _) (.cells #[.int .i64 T.k,.string T.t,.int .i64 T.n,.string T.nm,.slice T.xa T.len T.cap] 24);have HX:=ab (ya T _ (PT.In.later dr hT) (hS.later dr));have HIP:=ab (A2 T.k);have HE:Hid (jo T=if T.wrongX≠0 then T.wrongX else if lU T.k=true then 0 else 8):=ab (rfl);clear hT hS dr;generalize T.wrongX=er at *;unfold pv at HX ⊢;go_enter func34,ntmps34;go_wp2_with fail;refine(aa HX).mono ?_;rintro e w1 ⟨rfl,hb1⟩;have bf:=ab (((aW w.heap.size w).alloc (ax _) (.cells #[.int .i64 T.k,.string T.t,.int .i64 T.n,.string T.nm,.slice T.xa T.len T.cap] 24)) |> fun h=>ap h hb1)
 have c0:w1.cell? ⟨w.heap.size,0,none⟩=some (.int .i64 T.k):=cr (am (aw rfl) hb1);clear hb1
 by_cases h0:er=0
 ·have q:(er==0)=true:=bt h0
  have dl:Hid (jo T=if lU T.k=true then 0 else 8):=ab (by rw[aa HE,ac (by simp[h0])])
  clear h0 HE;go_wp2_with fail;refine(aa HIP w1).mono ?_;rintro e w1 ⟨rfl,rfl⟩
  cases hp:lU T.k
  ·rw[hp,ac (by decide)] at dl
   go_wp2_with fail;go_ret;exact⟨by rw[aa dl];rfl,aa bf⟩
  ·rw[hp,af rfl] at dl
   go_wp2_with fail;go_ret;exact⟨by rw[aa dl];rfl,aa bf⟩
 ·have q:(er==0)=false:=bn h0
  have dl:Hid (jo T=er):=ab (by rw[aa HE,af h0])
  clear h0 HE;go_wp2_with fail;go_ret;exact⟨by rw[aa dl];rfl,aa bf⟩
end Go.Proofs.YtlmnjbipfacniaaGreatDoor
