/- What pats.Named and the document's Named answer, for every t -/
import Derived.Test.YtlmnjbipfacniaaGreatDoorPatBaseM
import Derived.Laws.IdiomStrings
set_option maxHeartbeats 400000
namespace Go.Proofs.YtlmnjbipfacniaaGreatDoor
open Go.Proofs.Tryz
open Go.RowKit
theorem AX (t:ByteArray) (h:t.size=0):t.toList.isEmpty=true:=by
 rw[m7,xD];apply kJ;simpa using h
theorem xI (t:ByteArray) (h:t.size≠0):t.toList.isEmpty=false:=by
 rw[m7];apply Bool.eq_false_iff.2;intro e;rw[xD] at e;apply h;have:=aJ List.length e
 simpa using this
theorem C6 (s:ByteArray) (i:Nat):mV s (i+1)=(mV s i && (di (aj s i) || cW (aj s i))):=rfl
theorem Hv (s:ByteArray) {i n:Nat} (h:i≤n) (hf:mV s i=false):mV s n=false:=by
 induction n with
 | zero=>rw[←hf];congr 1;omega
 | succ n ih=>
  rcases cX i (n+1) with h1 | h1
  ·rw[C6,ih (by omega)];rfl
  ·rw[←hf];congr 1;omega
theorem qj (s:ByteArray) (w:World) (hs:s.size≤maxLen):
  Calls prog 30 #[.string s] w fun e w'=>e=.returned (.bool (bp s))∧w'=w:=by
 unfold maxLen at hs;have HN:=ab (Ej s)
 by_cases h0:s.size=0
 ·have he:=AX s h0
  have HF:Hid (bp s=false):=ab (by rw[aa HN];simp[h0])
  rw[aa HF];go_enter func30,ntmps30;go_wp2_with fail;go_ret;exact⟨rfl,rfl⟩
 ·have he:=xI s h0
  have hp:0 < s.size:=by omega
  by_cases h1:16 < s.size
  ·have HF:Hid (bp s=false):=ab (by rw[aa HN];simp;omega)
   rw[aa HF];go_enter func30,ntmps30;go_wp2_with fail;go_ret;exact⟨rfl,rfl⟩
  ·have h2:s.size≤16:=by omega
   have b0:=mY s 0 hp
   cases hl:di (aj s 0)
   ·have HF:Hid (bp s=false):=ab (by rw[aa HN,hl];simp)
    rw[aa HF];have H0:=ab b0;have HL:=ab hl;clear b0 hl;go_enter func30,ntmps30;go_wp2_with (go_at_call 61;rw[aa H0];refine(sE _ (ke _ _) _).mono ?_;rintro e w ⟨rfl,rfl⟩;rw[aa HL]);go_ret;exact⟨rfl,rfl⟩
   ·have HF:Hid (bp s=mV s s.size):=ab (by rw[aa HN,hl,eW (show 1≤s.size by omega),eW h2];rfl)
    rw[aa HF];have H0:=ab b0;have HL:=ab hl;clear b0 hl;go_enter func30,ntmps30;go_wp2_with (go_at_call 61;rw[aa H0];refine(sE _ (ke _ _) _).mono ?_;rintro e w ⟨rfl,rfl⟩;rw[aa HL]);go_loop [19] (fun i=>∃k:Nat,k≤s.size∧i=.int .i64 (k:Int)∧mV s k=true) (fun i=>s.size - (intOf i).toNat)
    case atStart=>exact⟨0,by omega,rfl,rfl⟩
    case round=>
     obtain⟨k,hk,rfl,hu⟩:=hrel;have HU:=ab hu;clear hu;rcases cX k s.size with hkt | hkt
     ·have bk:=mY s k hkt
      have Hk:=ab bk;clear bk;have HS:=ab (C6 s k)
      cases hl:di (aj s k)
      ·cases hd:cW (aj s k)
       ·have HW:Hid (mV s s.size=false):=ab (Hv s (show k+1≤s.size by omega) (by rw[aa HS,hl,hd];simp))
        have HL:=ab hl;have HD:=ab hd;clear hl hd;go_wp2_with (first | (go_at_call 61;rw[aa Hk];refine(sE _ (ke _ _) _).mono ?_;rintro e w ⟨rfl,rfl⟩;rw[aa HL]) | (go_at_call 62;rw[aa Hk];refine(xM _ (ke _ _) _).mono ?_;rintro e w ⟨rfl,rfl⟩;rw[aa HD]));go_ret;exact⟨by rw[aa HW];rfl,rfl⟩
       ·have HW:Hid (mV s (k+1)=true):=ab (by rw[aa HS,aa HU,hl,hd];rfl)
        have HL:=ab hl;have HD:=ab hd;clear hl hd;go_wp2_with (first | (go_at_call 61;rw[aa Hk];refine(sE _ (ke _ _) _).mono ?_;rintro e w ⟨rfl,rfl⟩;rw[aa HL]) | (go_at_call 62;rw[aa Hk];refine(xM _ (ke _ _) _).mono ?_;rintro e w ⟨rfl,rfl⟩;rw[aa HD]));exact⟨⟨k+1,by omega,rfl,aa HW⟩,by simp[intOf];omega⟩
      ·have HW:Hid (mV s (k+1)=true):=ab (by rw[aa HS,aa HU,hl];rfl)
       have HL:=ab hl;clear hl;go_wp2_with (first | (go_at_call 61;rw[aa Hk];refine(sE _ (ke _ _) _).mono ?_;rintro e w ⟨rfl,rfl⟩;rw[aa HL]));exact⟨⟨k+1,by omega,rfl,aa HW⟩,by simp[intOf];omega⟩
     ·have hk':k=s.size:=by omega
      subst hk';go_wp2_with fail;go_ret;exact⟨by rw[aa HU];rfl,rfl⟩
end Go.Proofs.YtlmnjbipfacniaaGreatDoor
