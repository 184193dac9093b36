/- What pats.Named and the document's Named answer, for every t -/
import Derived.Test.YtlmnjbipfacniaaGreatDoorPatBaseMs
import Derived.Laws.IdiomStrings
set_option maxHeartbeats 400000
namespace Go.Proofs.YtlmnjbipfacniaaGreatDoor
open Go.Proofs.Tryz
open Go.RowKit
theorem AM (t:ByteArray) (h:t.size=0):t.toList.isEmpty=true:=by
 rw[lW,xC];apply kG;simpa using h
theorem xG (t:ByteArray) (h:t.size≠0):t.toList.isEmpty=false:=by
 rw[lW];apply Bool.eq_false_iff.2;intro e;rw[xC] at e;apply h;have:=aD List.length e
 simpa using this
theorem CN (s:ByteArray) (i:Nat):oO s (i+1)=(oO s i && (dj (aj s i) || cR (aj s i))):=rfl
theorem G2 (s:ByteArray) {i n:Nat} (h:i≤n) (hf:oO s i=false):oO s n=false:=by
 induction n with
 | zero=>rw[←hf];congr 1;omega
 | succ n ih=>
  rcases cG i (n+1) with h1 | h1
  ·rw[CN,ih (by omega)];rfl
  ·rw[←hf];congr 1;omega
theorem qF (s:ByteArray) (w:World) (hs:s.size≤maxLen):
  Calls prog 30 #[.string s] w fun e w'=>e=.returned (.bool (ca s))∧w'=w:=by
 unfold maxLen at hs;have HN:=ab (Lg s)
 by_cases h0:s.size=0
 ·have he:=AM s h0
  have HF:Hid (ca s=false):=ab (by rw[aa HN];simp[h0])
  rw[aa HF];go_enter func30,ntmps30;go_wp2_with fail;go_ret;exact⟨rfl,rfl⟩
 ·have he:=xG s h0
  have hp:0 < s.size:=by omega
  by_cases h1:16 < s.size
  ·have HF:Hid (ca s=false):=ab (by rw[aa HN];simp;omega)
   rw[aa HF];go_enter func30,ntmps30;go_wp2_with fail;go_ret;exact⟨rfl,rfl⟩
  ·have h2:s.size≤16:=by omega
   have b0:=mw s 0 hp
   cases hl:dj (aj s 0)
   ·have HF:Hid (ca s=false):=ab (by rw[aa HN,hl];simp)
    rw[aa HF];have H0:=ab b0;have HL:=ab hl;clear b0 hl;go_enter func30,ntmps30;go_wp2_with (go_at_call 61;rw[aa H0];refine(sP _ (jY _ _) _).mono ?_;rintro e w ⟨rfl,rfl⟩;rw[aa HL]);go_ret;exact⟨rfl,rfl⟩
   ·have HF:Hid (ca s=oO s s.size):=ab (by rw[aa HN,hl,fk (show 1≤s.size by omega),fk h2];rfl)
    rw[aa HF];have H0:=ab b0;have HL:=ab hl;clear b0 hl;go_enter func30,ntmps30;go_wp2_with (go_at_call 61;rw[aa H0];refine(sP _ (jY _ _) _).mono ?_;rintro e w ⟨rfl,rfl⟩;rw[aa HL]);go_loop [19] (fun i=>∃k:Nat,k≤s.size∧i=.int .i64 (k:Int)∧oO s k=true) (fun i=>s.size - (intOf i).toNat)
    case atStart=>exact⟨0,by omega,rfl,rfl⟩
    case round=>
     obtain⟨k,hk,rfl,hu⟩:=hrel;have HU:=ab hu;clear hu;rcases cG k s.size with hkt | hkt
     ·have bk:=mw s k hkt
      have Hk:=ab bk;clear bk;have HS:=ab (CN s k)
      cases hl:dj (aj s k)
      ·cases hd:cR (aj s k)
       ·have HW:Hid (oO s s.size=false):=ab (G2 s (show k+1≤s.size by omega) (by rw[aa HS,hl,hd];simp))
        have HL:=ab hl;have HD:=ab hd;clear hl hd;go_wp2_with (first | (go_at_call 61;rw[aa Hk];refine(sP _ (jY _ _) _).mono ?_;rintro e w ⟨rfl,rfl⟩;rw[aa HL]) | (go_at_call 62;rw[aa Hk];refine(xJ _ (jY _ _) _).mono ?_;rintro e w ⟨rfl,rfl⟩;rw[aa HD]));go_ret;exact⟨by rw[aa HW];rfl,rfl⟩
       ·have HW:Hid (oO s (k+1)=true):=ab (by rw[aa HS,aa HU,hl,hd];rfl)
        have HL:=ab hl;have HD:=ab hd;clear hl hd;go_wp2_with (first | (go_at_call 61;rw[aa Hk];refine(sP _ (jY _ _) _).mono ?_;rintro e w ⟨rfl,rfl⟩;rw[aa HL]) | (go_at_call 62;rw[aa Hk];refine(xJ _ (jY _ _) _).mono ?_;rintro e w ⟨rfl,rfl⟩;rw[aa HD]));exact⟨⟨k+1,by omega,rfl,aa HW⟩,by simp[intOf];omega⟩
      ·have HW:Hid (oO s (k+1)=true):=ab (by rw[aa HS,aa HU,hl];rfl)
       have HL:=ab hl;clear hl;go_wp2_with (first | (go_at_call 61;rw[aa Hk];refine(sP _ (jY _ _) _).mono ?_;rintro e w ⟨rfl,rfl⟩;rw[aa HL]));exact⟨⟨k+1,by omega,rfl,aa HW⟩,by simp[intOf];omega⟩
     ·have hk':k=s.size:=by omega
      subst hk';go_wp2_with fail;go_ret;exact⟨by rw[aa HU];rfl,rfl⟩
end Go.Proofs.YtlmnjbipfacniaaGreatDoor
