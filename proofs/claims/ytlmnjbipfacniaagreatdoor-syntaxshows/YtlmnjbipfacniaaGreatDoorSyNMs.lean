/- What pats.Read answers, for every text. The reader of lines: -/
import Derived.Test.YtlmnjbipfacniaaGreatDoorRdNzMs
import Derived.Test.YtlmnjbipfacniaaGreatDoorRdLMs
set_option maxRecDepth 100000
set_option maxHeartbeats 4000000
namespace Go.Proofs.YtlmnjbipfacniaaGreatDoor
open Go.Proofs.Tryz
open Go.RowKit
theorem jX {w:World} {z:Nat} {a b:Value} (h:w.heap[z]? =some (.cells #[a,b] 36 (0,0))):w.cell? ⟨z,0,none⟩=some a∧w.cell? ⟨z,1,none⟩=some b:=by
 constructor <;> (rw[eB _ _ _ _ _ _ h];rfl)
theorem zy (tmps:Array Value) (W:World) (gp gf:Nat) (cs fs:Array Value) (h2:tmps.getD 2 undef=.pointer (some ⟨gp,0,none⟩)) (h3:tmps.getD 3 undef=.pointer (some ⟨gf,0,none⟩)) (hp:W.heap[gp]? =some (.cells cs 27 (0,0))) (hf:W.heap[gf]? =some (.cells fs 36 (0,0))) (jg:cs.size=5) (hfs:fs.size=2):
  (results Tryz.f135 tmps).run prog W=.ok (.tuple #[.agg cs,.agg fs]) W:=by
 have h2':tmps[2]?.getD undef=.pointer (some ⟨gp,0,none⟩):=by simpa using h2
 have h3':tmps[3]?.getD undef=.pointer (some ⟨gf,0,none⟩):=by simpa using h3
 have e1:=uR (P:=prog) W gp 27 27 cs (0,0) _ hp underlying27 rfl (by rw[jg];exact dE)
 have e2:=uR (P:=prog) W gf 36 36 fs (0,0) _ hf underlying36 rfl (by rw[hfs];exact zc)
 simp[results,Tryz.results135,h2',h3',asAddr,e1,e2]
def uB (w:World) (gp gf:Nat) (v0 v1 v2 v3 v4 x y:Value):World:=
 ((((((w.setCell ⟨gp,0,none⟩ v0).setCell ⟨gp,1,none⟩ v1).setCell ⟨gp,2,none⟩ v2).setCell ⟨gp,3,none⟩ v3).setCell ⟨gp,4,none⟩ v4).setCell ⟨gf,0,none⟩ x).setCell ⟨gf,1,none⟩ y
theorem A9 {w0 w:World} {gp gf:Nat} {u0 u1 u2 u3 u4 a b:Value} (hp:w.heap[gp]? =some (.cells #[u0,u1,u2,u3,u4] 27 (0,0))) (hf:w.heap[gf]? =some (.cells #[a,b] 36 (0,0))) (bi:gp≠gf) (hB:Below w0.heap.size w0 w) (h1:w0.heap.size≤gp) (h2:w0.heap.size≤gf) (v0 v1 v2 v3 v4 x y:Value):
  (uB w gp gf v0 v1 v2 v3 v4 x y).heap[gp]? =some (.cells #[v0,v1,v2,v3,v4] 27 (0,0))∧(uB w gp gf v0 v1 v2 v3 v4 x y).heap[gf]? =some (.cells #[x,y] 36 (0,0))∧Below w0.heap.size w0 (uB w gp gf v0 v1 v2 v3 v4 x y)∧(∀k,k≠gp→k≠gf→(uB w gp gf v0 v1 v2 v3 v4 x y).heap[k]? =w.heap[k]?)∧(uB w gp gf v0 v1 v2 v3 v4 x y).heap.size=w.heap.size:=by
 unfold uB;have e0:=fB w gp 0 _ _ v0 hp;have e1:=fB _ gp 1 _ _ v1 e0;have e2:=fB _ gp 2 _ _ v2 e1;have e3:=fB _ gp 3 _ _ v3 e2;have e4:=fB _ gp 4 _ _ v4 e3;have o:∀k,k≠gp→(((((w.setCell ⟨gp,0,none⟩ v0).setCell ⟨gp,1,none⟩ v1).setCell ⟨gp,2,none⟩ v2).setCell ⟨gp,3,none⟩ v3).setCell ⟨gp,4,none⟩ v4).heap[k]? =w.heap[k]? :=fun k hk=>by
  rw[dh _ ⟨gp,4,none⟩ k _ hk,dh _ ⟨gp,3,none⟩ k _ hk,dh _ ⟨gp,2,none⟩ k _ hk,dh _ ⟨gp,1,none⟩ k _ hk,dh _ ⟨gp,0,none⟩ k _ hk]
 have g0:=fB _ gf 0 _ _ x ((o gf (Ne.symm bi)).trans hf);have g1:=fB _ gf 1 _ _ y g0;refine⟨?_,g1, ?_,fun k hk jP=> ?_,by simp⟩
 ·rw[dh _ ⟨gf,1,none⟩ gp _ bi,dh _ ⟨gf,0,none⟩ gp _ bi];exact e4
 ·exact lz (lz (lz (lz (lz (lz (lz hB h1 _ _) h1 _ _) h1 _ _) h1 _ _) h1 _ _) h2 _ _) h2 _ _
 ·rw[dh _ ⟨gf,1,none⟩ k _ jP,dh _ ⟨gf,0,none⟩ k _ jP];exact o k hk
def Bq (s:ByteArray) (w:World) (e:Ending) (w':World):Prop:=
 Below w.heap.size w w'∧(∀p j,j2 s=.ok (p,j)→∃U:PT,e=.returned (.tuple #[pv U,cY 0 0])∧U.can=p∧bf w.heap.size w' U)∧(∀er a,j2 s=.error (er,a)→e=.returned (.tuple #[.agg aB,cY er a]))
theorem Bb {s:ByteArray} {w w':World} {er:Int} {a:Nat} {e:Ending} (h:j2 s=.error (er,a)) (hb:Below w.heap.size w w') (he:e=.returned (.tuple #[.agg aB,cY er a])):Bq s w e w':=
 ⟨hb,fun p j q=>(by rw[h] at q;cases q),fun er' a' q=>by rw[h] at q;injection q with q;injection q with q1 q2;subst q1 q2;exact he⟩
theorem Mj {s:ByteArray} {w w':World} {p:PT} {j:Nat} {e:Ending} {U:PT} (h:j2 s=.ok (p,j)) (hb:Below w.heap.size w w') (he:e=.returned (.tuple #[pv U,cY 0 0])) (hc:U.can=p) (hi:bf w.heap.size w' U):Bq s w e w':=
 ⟨hb,fun p' j' q=>(by rw[h] at q;injection q with q;injection q with q1 q2;subst q1;exact⟨U,he,hc,hi⟩),fun er' a' q=>by rw[h] at q;cases q⟩
theorem KK (s:ByteArray) (w:World) (hS:dA w):Calls prog 135 #[.string s] w fun e w'=>Bq s w e w':=by
 obtain⟨w0,fV⟩:∃w0,w0=(w.alloc (.cells aB 27)).alloc (.cells #[.int .i64 0,.int .i64 0] 36):=⟨_,rfl⟩;have bd:Below w.heap.size w w0:=by rw[fV];exact(ba _).alloc (by simp) _
 have ay:w0.heap.size=w.heap.size+1+1:=by rw[fV];simp
 have rf:w0.heap[w.heap.size+1]? =some (.cells #[.int .i64 0,.int .i64 0] 36 (0,0)):=by rw[fV];exact ax (by simp)
 have hp0:w0.heap[w.heap.size]? =some (.cells aB 27 (0,0)):=by rw[fV];exact ci (by simp) oQ
 have HW:=ab fV;have H0:=ab (And.intro bd (And.intro rf hp0));have oC:=ab (fun h=>Hq s w0 h (hS.later bd))
 clear fV bd rf hp0 hS;have vD:Hid (j2 s=if 65536 < s.size then .error (4,0) else bJ (n9 s) fun p j=>if p.fits=true then .ok (p,j) else .error (4,0)):=ab (rfl)
 have pA:=ab (fun er a h=>BW (s:=s) (er:=er) (a:=a) h)
 by_cases hq:65536 < s.size
 ·have HE:Hid (j2 s=.error (4,0)):=ab (by rw[aa vD,af hq])
  have hg:(65536:Int) < (s.size:Int):=by omega
  clear hq oC vD pA;go_enter func135,ntmps135;go_wp2_with fail;exact bK (zy _ _ w.heap.size (w.heap.size+1) aB #[.int .i64 4,.int .i64 0] rfl rfl (ci (by simp) oQ) (ax (by simp)) rfl rfl) rfl (Bb (aa HE) ((ba _).alloc (by simp) _) rfl)
 ·have HR:=ab (aa oC (by omega))
  have hg:¬(65536:Int) < (s.size:Int):=by omega
  have HRQ:Hid (j2 s=bJ (n9 s) fun p j=>if p.fits=true then .ok (p,j) else .error (4,0)):=ab (by rw[aa vD,ac hq])
  clear hq oC vD;obtain⟨RP,hRP⟩:∃RP,j2 s=RP:=⟨_,rfl⟩;have vD:=ab hRP;rw[hRP] at HRQ;clear hRP;obtain⟨R,hR⟩:∃R,n9 s=R:=⟨_,rfl⟩;rw[hR] at HR HRQ pA;clear hR;rcases R with ⟨er,a⟩ | ⟨p,j⟩
  ·have HE:Hid (RP=.error (er,a)):=ab (by rw[aa HRQ,jr])
   have bi:=aa pA er a rfl;have hne2:(er==0)=false:=bn bi;clear pA bi;go_enter func135,ntmps135;go_wp2_with fail;rw[show (w.alloc (.cells #[.int .i64 0,.string ⟨#[]⟩,.int .i64 0,.string ⟨#[]⟩,.slice none 0 0] 27)).alloc (.cells #[.int .i64 0,.int .i64 0] 36)=w0 from (aa HW).symm];refine(aa HR).mono ?_;rintro e w1 ⟨hb1, -,h1⟩;obtain⟨V,rfl⟩:=h1 er a rfl;have iW:=ab (an (aa H0).2.1 hb1);have cg:=ab (an (aa H0).2.2 hb1);have aX:=ab (aq (aa H0).1 hb1);clear hb1 h1;obtain⟨w2,fm⟩:∃w2,w2=(w1.alloc (.cells (ai V) 27)).alloc (.cells #[.int .i64 er,.int .i64 (a:Int)] 36):=⟨_,rfl⟩;have hb2:Below w1.heap.size w1 w2:=by rw[fm];exact(ba _).alloc (by simp) _
   have gP:w.heap.size+1 < w1.heap.size:=by have:=(bC.1 (aa iW)).1;omega
   have eS:w2.heap[w1.heap.size+1]? =some (.cells #[.int .i64 er,.int .i64 (a:Int)] 36 (0,0)):=by rw[fm];exact ax (by simp)
   have rD:=ab (an (aa iW) hb2);have dz:=ab (an (aa cg) hb2);have aE:=ab (aq (aa aX) hb2);have H7:=ab (A9 (aa dz) (aa rD) (by omega) (aa aE) (aw _) (by omega) (.int .i64 0) (.string ⟨#[]⟩) (.int .i64 0) (.string ⟨#[]⟩) (.slice none 0 0) (.int .i64 er) (.int .i64 (a:Int)))
   obtain⟨y0,y1⟩:=jX eS;have fb:=ab fm;clear fm hb2 eS;unfold pv cY;go_wp2_with fail;rw[show (w1.alloc (.cells #[.int .i64 V.k,.string V.t,.int .i64 V.n,.string V.nm,.slice V.xa V.len V.cap] 27)).alloc (.cells #[.int .i64 er,.int .i64 (a:Int)] 36)=w2 from (aa fb).symm];obtain⟨p0,p1,p2,p3,p4⟩:=ee (show w2.heap[w.heap.size]? =_ from aa dz);obtain⟨f0,f1⟩:=jX (show w2.heap[w.heap.size+1]? =_ from aa rD);have fp:=fun k=>cN w2 w.heap.size k _ _ (aa dz)
   have ff:=fun k=>cN w2 (w.heap.size+1) k _ _ (aa rD)
   have n1:¬w.heap.size=w1.heap.size+1:=by omega
   have n2:¬w1.heap.size+1=w.heap.size:=by omega
   have n3:¬w.heap.size+1=w1.heap.size+1:=by omega
   have n4:¬w1.heap.size+1=w.heap.size+1:=by omega
   go_region;clear p0 p1 p2 p3 p4 f0 f1 fp ff n1 n2 n3 n4 y0 y1;rw[show ((((((w2.setCell ⟨w.heap.size,0,none⟩ (.int .i64 0)).setCell ⟨w.heap.size,1,none⟩ (.string ⟨#[]⟩)).setCell ⟨w.heap.size,2,none⟩ (.int .i64 0)).setCell ⟨w.heap.size,3,none⟩ (.string ⟨#[]⟩)).setCell ⟨w.heap.size,4,none⟩ (.slice none 0 0)).setCell ⟨w.heap.size+1,0,none⟩ (.int .i64 er)).setCell ⟨w.heap.size+1,1,none⟩ (.int .i64 (a:Int))=uB w2 w.heap.size (w.heap.size+1) (.int .i64 0) (.string ⟨#[]⟩) (.int .i64 0) (.string ⟨#[]⟩) (.slice none 0 0) (.int .i64 er) (.int .i64 (a:Int)) from rfl];generalize uB w2 w.heap.size (w.heap.size+1) (.int .i64 0) (.string ⟨#[]⟩) (.int .i64 0) (.string ⟨#[]⟩) (.slice none 0 0) (.int .i64 er) (.int .i64 (a:Int))=W7 at *;go_wp2_with fail;exact bK (zy _ _ w.heap.size (w.heap.size+1) aB #[.int .i64 er,.int .i64 (a:Int)] rfl rfl (aa H7).1 (aa H7).2.1 rfl rfl) rfl (Bb ((aa vD).trans (aa HE)) (aa H7).2.2.1.drew rfl)
  ·clear pA
   go_enter func135,ntmps135;go_wp2_with fail;rw[show (w.alloc (.cells #[.int .i64 0,.string ⟨#[]⟩,.int .i64 0,.string ⟨#[]⟩,.slice none 0 0] 27)).alloc (.cells #[.int .i64 0,.int .i64 0] 36)=w0 from (aa HW).symm];refine(aa HR).mono ?_;rintro e w1 ⟨hb1,h1, -⟩;obtain⟨U,rfl,hU,hUi⟩:=h1 p j rfl;have iW:=ab (an (aa H0).2.1 hb1);have cg:=ab (an (aa H0).2.2 hb1);have aX:=ab (aq (aa H0).1 hb1);have gP:w.heap.size+1 < w1.heap.size:=by have:=(bC.1 (aa iW)).1;omega
   obtain⟨w2,fm⟩:∃w2,w2=(w1.alloc (.cells (ai U) 27)).alloc (.cells #[.int .i64 0,.int .i64 0] 36):=⟨_,rfl⟩;have hb2:Below w1.heap.size w1 w2:=by rw[fm];exact(ba _).alloc (by simp) _
   have eS:w2.heap[w1.heap.size]? =some (.cells (ai U) 27 (0,0)):=by rw[fm];exact ci (by simp) (ax rfl)
   have jP:w2.heap[w1.heap.size+1]? =some (.cells #[.int .i64 0,.int .i64 0] 36 (0,0)):=by rw[fm];exact ax (by simp)
   have kO:=ab (DI U w2 (PT.In.later hb2 hUi.here));have rD:=ab (an (aa iW) hb2);have dz:=ab (an (aa cg) hb2);have aE:=ab (aq (aa aX) hb2);have tT:=ab (hUi.below hb2);have HUC:=ab hU;have qA:=ab eS;obtain⟨k0,k1⟩:=jX jP;obtain⟨g0,g1,g2,g3,g4⟩:=ee eS;have fb:=ab fm;clear fm hb2 eS hb1 h1 hU hUi jP;unfold pv at kO ⊢;unfold cY;have HFI:Hid (p.fits=U.fits):=ab (by rw[←aa HUC];unfold PT.fits;rw[Fi,Fh])
   have HSD:Hid (uj U=if U.fits then .tuple #[.int .i64 (U.cnt:Int),.int .i64 (U.dep:Int),.int .i64 0] else .tuple #[.int .i64 0,.int .i64 0,.int .i64 4]):=ab (rfl);generalize uj U=SD at *;generalize U.fits=FT at *;clear k0 k1 g0 g1 g2 g3 g4;go_wp2_with fail;rw[show (w1.alloc (.cells #[.int .i64 U.k,.string U.t,.int .i64 U.n,.string U.nm,.slice U.xa U.len U.cap] 27)).alloc (.cells #[.int .i64 0,.int .i64 0] 36)=w2 from (aa fb).symm];refine(aa kO).mono ?_;rintro e w3 ⟨rfl,hb3⟩;have pF:=ab (an (aa rD) hb3);have gq:=ab (an (aa dz) hb3);have ao:=ab (aq (aa aE) hb3);have HU3:=ab ((aa tT).below hb3);obtain⟨g0,g1,g2,g3,g4⟩:=ee (an (aa qA) hb3);obtain⟨p0,p1,p2,p3,p4⟩:=ee (aa gq);obtain⟨f0,f1⟩:=jX (aa pF);have fp:=fun k=>cN w3 w.heap.size k _ _ (aa gq)
   have ff:=fun k=>cN w3 (w.heap.size+1) k _ _ (aa pF)
   clear hb3
   cases FT
   ·have HSE:Hid (SD=.tuple #[.int .i64 0,.int .i64 0,.int .i64 4]):=ab (by rw[aa HSD];rfl)
    rw[aa HSE];have HE:Hid (RP=.error (4,0)):=ab (by rw[aa HRQ,dw,aa HFI,ac (by decide)])
    have H7:=ab (A9 (aa gq) (aa pF) (by omega) (aa ao) (aw _) (by omega) (.int .i64 0) (.string ⟨#[]⟩) (.int .i64 0) (.string ⟨#[]⟩) (.slice none 0 0) (.int .i64 4) (.int .i64 0))
    go_wp2_with fail;exact bK (zy _ _ w.heap.size (w.heap.size+1) aB #[.int .i64 4,.int .i64 0] rfl rfl (aa H7).1 (aa H7).2.1 rfl rfl) rfl (Bb ((aa vD).trans (aa HE)) (aa H7).2.2.1 rfl)
   ·have HSE:Hid (SD=.tuple #[.int .i64 (U.cnt:Int),.int .i64 (U.dep:Int),.int .i64 0]):=ab (by rw[aa HSD];rfl)
    rw[aa HSE];have HE:Hid (RP=.ok (p,j)):=ab (by rw[aa HRQ,dw,aa HFI,af rfl])
    have H7:=ab (A9 (aa gq) (aa pF) (by omega) (aa ao) (aw _) (by omega) (.int .i64 U.k) (.string U.t) (.int .i64 U.n) (.string U.nm) (.slice U.xa U.len U.cap) (.int .i64 0) (.int .i64 0))
    go_wp2_with fail;exact bK (zy _ _ w.heap.size (w.heap.size+1) (ai U) #[.int .i64 0,.int .i64 0] rfl rfl (aa H7).1 (aa H7).2.1 rfl rfl) rfl (Mj ((aa vD).trans (aa HE)) (aa H7).2.2.1 rfl (aa HUC) (((aa HU3).step (Nat.le_of_eq (aa H7).2.2.2.2.symm) (fun i h1 _=>(aa H7).2.2.2.1 i (by omega) (by omega))).mono (by omega)))
open Go.RowKit
theorem yt {E:Nat} {l:List Tk} (h:(ak E 0 l).k≠0):l≠[]:=by rintro rfl;exact h rfl
theorem vP {C:SyC} {l:List Tk} {o:Nat} (w:World) (hR:Syr C w l o):Calls prog 53 #[.pointer (some ⟨C.z,0,none⟩)] w fun e w'=>fJ lE C o w (dL C.E l) e w':=by
 have HA:=ab (rH w hR);have HR:=ab hR;have jf:=xq hR 0;have HS:=ab (fun w h=>rJ (C:=C) (l:=l) (o:=o) w h)
 have HT:=ab (fun w=>ue 7 (ak C.E 0 l).a w)
 have HN:=ab (fun w=>qF (ak C.E 0 l).t w (by have:=jf.2.1;unfold maxLen;omega))
 have HP:=ab (fun (q:(ak C.E 0 l).k=1) w h=>ug (l:=l) (o:=o) (C:=C) w h (yt (E:=C.E) (by rw[q];decide)))
 unfold dL;clear hR jf;generalize hq:ak C.E 0 l=t at *;clear hq;unfold jt at HA
 by_cases h1:t.k=1
 ·rw[af h1]
  have cg:=ab (aa HP h1);have q1:((t.k:Int) !=1)=false:=by rw[bne,Bool.not_eq_false',se];omega
  clear HP h1
  cases hn:ca t.t
  ·rw[ac (by decide)]
   rw[hn] at HN;clear hn cg HS;show Calls _ _ _ _ fun e w'=>fJ lE C o w (.error (7,t.a)) e w'
   go_enter func53,ntmps53;go_wp2_with fail;refine(aa HA).mono ?_;rintro e w2 ⟨rfl,hb2⟩;have aE:=ab (aq hb2 ((aV _ _).alloc (aw _) (.cells #[.int .i64 (t.k:Int),.string t.t,.int .i64 (t.a:Int)] 102)));clear hb2;go_wp2_with fail;refine(aa HN _).mono ?_;rintro e w3 ⟨rfl,rfl⟩;go_wp2_with fail;refine(aa HT _).mono ?_;rintro e w3 ⟨rfl,rfl⟩;unfold aC;go_wp2_with fail;exact⟨rfl,fu rfl (But.of_below (aa aE)) rfl⟩
  ·rw[af rfl]
   rw[hn] at HN;clear hn HS HT;show Calls _ _ _ _ fun e w'=>fJ lE C o w (.ok (t.t,l.tail)) e w'
   go_enter func53,ntmps53;go_wp2_with fail;refine(aa HA).mono ?_;rintro e w2 ⟨rfl,hb2⟩;have aE:=ab (aq hb2 ((aV _ _).alloc (aw _) (.cells #[.int .i64 (t.k:Int),.string t.t,.int .i64 (t.a:Int)] 102)));have eE:Hid ((w2.alloc (.cells #[.int .i64 (t.k:Int),.string t.t,.int .i64 (t.a:Int)] 102)).heap[w2.heap.size]? =some (.cells #[.int .i64 (t.k:Int),.string t.t,.int .i64 (t.a:Int)] 102 (0,0))):=ab (ax rfl);have tR:Hid (w2.heap.size≠C.z):=ab (by have:=(aa HR).lt;have:=hb2.size;omega)
   clear hb2;go_wp2_with fail;refine(aa HN _).mono ?_;rintro e w3 ⟨rfl,rfl⟩;go_wp2_with fail;refine(aa cg _ ((aa HR).below (aa aE))).mono ?_;rintro e w4 ⟨rfl,hb4,hR4⟩;have cv:=hb4.row (aa tR) (aa eE);have d1:w4.cell? ⟨w2.heap.size,1,none⟩=some (.string t.t):=cr cv;have HZ:=ab (And.intro ((But.of_below (aa aE)).trans hb4) hR4);clear hb4 hR4 cv;go_wp2_with fail;go_ret;exact nS rfl (aa HZ).1 rfl (aa HZ).2
 ·rw[ac h1]
  have q1:((t.k:Int) !=1)=true:=by rw[bne,Bool.not_eq_true',nc];omega
  clear HP h1 HN HT;show Calls _ _ _ _ fun e w'=>fJ lE C o w (.error (2,t.a)) e w'
  go_enter func53,ntmps53;go_wp2_with fail;refine(aa HA).mono ?_;rintro e w2 ⟨rfl,hb2⟩;have aE:=ab (aq hb2 ((aV _ _).alloc (aw _) (.cells #[.int .i64 (t.k:Int),.string t.t,.int .i64 (t.a:Int)] 102)));clear hb2;go_wp2_with fail;refine(aa HS _ ((aa HR).below (aa aE))).mono ?_;rintro e w3 ⟨rfl,hb3⟩;have ao:=ab (aq (aa aE) hb3);clear hb3;unfold aC;go_wp2_with fail;exact⟨rfl,fu rfl (But.of_below (aa ao)) rfl⟩
section
variable {C:SyC} {w w':World} {l:List Tk} {o:Nat}
theorem Syr.c2 (h:Syr C w l o):w.cell? ⟨C.z,2,none⟩=some (.int .i64 (o:Int)):=by obtain⟨xa,cap,off,h1, -⟩:=h.blk;rw[eB _ _ _ _ _ _ h1];rfl
theorem Syr.fz (h:Syr C w l o) (k:Nat):w.frozen? ⟨C.z,k,none⟩=false:=by obtain⟨xa,cap,off,h1, -⟩:=h.blk;exact cN w C.z k _ _ h1
theorem Syr.set2 (h:Syr C w l o) {x:Int} {p:Nat} (hp:x=(p:Int)):Syr C (w.setCell ⟨C.z,2,none⟩ (.int .i64 x)) l p:=by
 subst hp;obtain⟨xa,cap,off,h1,h2,h3,h4,h5⟩:=h.blk;exact h.put ((But.refl _ _).setCell 2 _) (fun t ht=>ht) (fB w C.z 2 _ _ _ h1) h2 h3 h4 h5
end
theorem A0 {C:SyC} {l:List Tk} {o:Nat} (w:World) (hR:Syr C w l o) (ho:o < 400):Calls prog 150 #[.pointer (some ⟨C.z,0,none⟩)] w fun e w'=>e=.returned (.tuple #[])∧But C.z w w'∧Syr C w' l (o+1):=by
 have c2:=hR.c2;have fz:=hR.fz 2;have HZ:Hid (But C.z w (w.setCell ⟨C.z,2,none⟩ (.int .i64 ((o:Int)+1)))∧Syr C (w.setCell ⟨C.z,2,none⟩ (.int .i64 ((o:Int)+1))) l (o+1)):=ab (⟨(But.refl _ _).setCell 2 _,hR.set2 (by omega)⟩)
 have d2:(w.setCell ⟨C.z,2,none⟩ (.int .i64 ((o:Int)+1))).cell? ⟨C.z,2,none⟩=some (.int .i64 ((o:Int)+1)):=by have:=(aa HZ).2.c2;rw[show (((o+1:Nat)):Int)=(o:Int)+1 by omega] at this;exact this
 have q:¬(400:Int) < (o:Int)+1:=by omega
 clear hR;go_enter func150,ntmps150;go_wp2_with fail;go_end0;exact⟨rfl,aa HZ⟩
theorem A1 {C:SyC} {l:List Tk} {o:Nat} (w:World) (hR:Syr C w l o) (ho:o=400):Calls prog 150 #[.pointer (some ⟨C.z,0,none⟩)] w fun e w'=>e=aC 4 (ak C.E 0 l).a∧But C.z w w':=by
 have c2:=hR.c2;have fz:=hR.fz 2;have HZ:Hid (But C.z w (w.setCell ⟨C.z,2,none⟩ (.int .i64 ((o:Int)+1)))∧Syr C (w.setCell ⟨C.z,2,none⟩ (.int .i64 ((o:Int)+1))) l (o+1)):=ab (⟨(But.refl _ _).setCell 2 _,hR.set2 (by omega)⟩)
 have q:(400:Int) < (o:Int)+1:=by omega
 have q2:o≤400:=by omega
 have HA:=ab (zL _ (aa HZ).2);have HT:=ab (fun w=>ue 4 (ak C.E 0 l).a w)
 clear hR ho;generalize (ak C.E 0 l).a=a at *;go_enter func150,ntmps150;go_wp2_with fail;refine(aa HA).mono ?_;rintro e w2 ⟨rfl,hb2⟩;have aE:=ab ((aa HZ).1.trans (But.of_below hb2));clear hb2;go_wp2_with fail;refine(aa HT _).mono ?_;rintro e w3 ⟨rfl,rfl⟩;unfold aC;go_wp2_with fail;exact⟨rfl,rfl,aa aE⟩
theorem AS {C:SyC} {l:List Tk} {o:Nat} (w:World) (hR:Syr C w l (o+1)) (ho:o < 400):Calls prog 152 #[.pointer (some ⟨C.z,0,none⟩)] w fun e w'=>e=.returned (.tuple #[])∧But C.z w w'∧Syr C w' l o:=by
 have c2:=hR.c2;have fz:=hR.fz 2;obtain⟨p,hp⟩:∃p:Nat,p=o+1:=⟨_,rfl⟩;rw[←hp] at c2 hR;have HZ:Hid (But C.z w (w.setCell ⟨C.z,2,none⟩ (.int .i64 ((p:Int) - 1)))∧Syr C (w.setCell ⟨C.z,2,none⟩ (.int .i64 ((p:Int) - 1))) l o):=ab (⟨(But.refl _ _).setCell 2 _,hR.set2 (by omega)⟩)
 have hp1:1≤p∧p≤400:=by omega
 clear hR hp ho;go_enter func152,ntmps152;go_wp2_with fail;go_end0;exact⟨rfl,aa HZ⟩
open Go.RowKit
def sV (t:ByteArray):List Value:=[.string t]
theorem L7:(prog.info? 9).map (fun i=>(i.zero,i.size,i.bytes))=some (some (.string ⟨#[]⟩),1,16):=by kernel_rfl
theorem sV_one:∀(y:ByteArray),∀u ∈ sV y,u.oneCell'=true:=fun y u hu=>by
 have:u=.string y:=by simpa [sV] using hu
 subst this;rfl
theorem Mf {w:World} {g:Nat} {x:ByteArray} (h:w.heap[g]? =some (.cells #[.string x] 9 (0,0))):∀k u,(sV x)[k]? =some u→w.cell? ⟨g,k,none⟩=some u:=fun k u hu=>by
 rw[eB _ _ _ _ _ _ h,←hu];unfold sV;rw[show (#[Value.string x]:Array Value)=[Value.string x].toArray from rfl,List.getElem?_toArray]
def lD (B:Nat) (w:World) (N:NL):Prop:=∀X:World,(∀i,B≤i→i < w.heap.size→X.heap[i]? =w.heap[i]?)→N.In X
def namsL (B:Nat) (p:List ByteArray) (e:Ending) (w:World):Prop:=∃N:NL,e=.returned N.v∧N.l=p∧lD B w N
theorem Jt {B:Nat} {w:World} {v:Value} {l:List ByteArray} (h:bP w B 9 1 sV v l) (hl:∀t ∈ l,t.size≤2000):∃N:NL,v=N.v∧N.l=l∧lD B w N:=by
 rcases h.2 with ⟨rfl,h0⟩ | ⟨g,cap,cur,rfl,hb,hg,hc,hm,hs,ht⟩
 ·obtain rfl:=kG h0
  exact⟨⟨none,0,0,0,[]⟩,rfl,rfl,fun X _=>⟨aw _,cU _,fun h=>absurd h (by simp),fun i t ht=>by simp at ht⟩⟩
 ·refine⟨⟨some ⟨g,0,none⟩,g,0,cap,l⟩,rfl,rfl,fun X hX=>⟨hc,hm,fun _=>rfl,fun i t ht=>⟨?_,by have:=hl t (oS ht);unfold maxLen;omega⟩⟩⟩
  have lg:=h.low (k:=g) rfl;have hr:bP X B 9 1 sV (.slice (some ⟨g,0,none⟩) l.length cap) l:=h.same fun k hk=>by
   have:k=g:=by simpa [Value.ownBlock] using hk.symm
   subst this;exact hX k lg.1 lg.2
  have:=hr.cell (fun _=>rfl) (i:=i) (k:=0) (u:=.string t) rfl ht rfl
  rw[Nat.mul_one,Nat.add_zero] at this;show X.cell? ⟨g,0+i,none⟩=_;rw[ni];exact this
theorem oP {C:SyC} {w:World} {l:List Tk} {o:Nat} (h:Syr C w l o) {t:ByteArray} {r:List Tk} (hq:dL C.E l=.ok (t,r)):t.size≤2000:=by
 have:=(xq h 0).2.1;unfold dL at hq;split at hq
 ·split at hq
  ·injection hq with hq;injection hq with hq _;rw[←hq];exact this
  ·cases hq
 ·cases hq
theorem MK {E f:Nat} {o:List ByteArray} {l:List Tk} {e:Int × Nat} (h:dL E l=.error e):ja E (f+1) o l=.error e:=by rw[ja,h];rfl
theorem K8 {E f:Nat} {o:List ByteArray} {l r:List Tk} {t:ByteArray} (h:dL E l=.ok (t,r)) (ho:o.length=8):ja E (f+1) o l=.error (5,(ak E 0 l).a):=by rw[ja,h,aQ,af ho]
theorem K1 {E f:Nat} {o:List ByteArray} {l r:List Tk} {t:ByteArray} (h:dL E l=.ok (t,r)) (ho:o.length≠8) (hc:aL (ak E 0 r) (ah 44)=true):ja E (f+1) o l=ja E f (o++[t]) r.tail:=by rw[ja,h,aQ,ac ho,af hc]
theorem K9 {E f:Nat} {o:List ByteArray} {l r:List Tk} {t:ByteArray} (h:dL E l=.ok (t,r)) (ho:o.length≠8) (hc:aL (ak E 0 r) (ah 44)=false):ja E (f+1) o l=.ok (o++[t],r):=by rw[ja,h,aQ,ac ho,ac (by rw[hc];decide)]
theorem CZ {α:Type} {B:Nat} {e:TypeId} {sz:Nat} {f:α→List Value} {v:Value} {l:List α} {w w':World} (hr:bP w B e sz f v l) (hB:B≤w.heap.size) (hg:w.grownBy w' v.ownBlock):∀k,k < B→w'.heap[k]? =w.heap[k]? :=
 fun k hk=>hg.block k (by omega) (fun e=>by have:=(hr.low e.symm).1;omega)
theorem Fk {z B:Nat} {w a b:World} (h:But z w a) (hB:w.heap.size=B) (hs:a.heap.size≤b.heap.size) (hb:∀k,k < B→b.heap[k]? =a.heap[k]?) (ho:b.os=a.os∧b.tape=a.tape∧b.output=a.output):But z w b:=
 ⟨ho.1.trans h.os,ho.2.1.trans h.tape,ho.2.2.trans h.output,bv h.size hs,fun k hk hz=>(hb k (by omega)).trans (h.block k hk hz)⟩
theorem Is {C:SyC} {l:List Tk} {od:Nat} (w:World) (hR:Syr C w l od):Calls prog 134 #[.pointer (some ⟨C.z,0,none⟩)] w fun e w'=>fJ (namsL w.heap.size) C od w (pX C.E l) e w':=by
 have nL:=ab hR;obtain⟨B,hB⟩:∃B,B=w.heap.size:=⟨_,rfl⟩;rw[←hB];have aF:=ab hB;have hN:pX C.E l=ja C.E 9 [] l:=rfl;rw[hN];obtain⟨RR,bD⟩:∃RR,RR=ja C.E 9 [] l:=⟨_,rfl⟩;rw[←bD];have sH:=ab bD;clear hR hB hN bD;go_enter func134,ntmps134;go_wp2_with fail;go_loopw [3] (fun v wr=>∃(o:List ByteArray) (l':List Tk) (a:Option Addr) (cap:Nat),o.length≤8∧v=.slice a o.length cap∧Hid (bP wr B 9 1 sV (.slice a o.length cap) o∧(∀t ∈ o,t.size≤2000)∧Syr C wr l' od∧But C.z w wr∧RR=ja C.E (9 - o.length) o l')) (fun v _=>9 - lenV v)
 case atStart=>exact⟨[],l,none,0,by simp,rfl,lX _ _ _ _,(fun t ht=>by simp at ht),aa nL,But.refl _ _,aa sH⟩
 case round=>
  obtain⟨o,l',a,cap,ho,rfl,HI⟩:=hrel;obtain⟨f,hf⟩:∃f,9 - o.length=f+1:=⟨8 - o.length,by omega⟩
  have hzB:C.z < B:=by rw[aa aF];exact(aa nL).lt
  have HA:=ab (zL wr (aa HI).2.2.1);have HN:=ab (fun w h=>vP (C:=C) (l:=l') (o:=od) w h)
  have HT:=ab (fun w=>ue 5 (ak C.E 0 l').a w)
  have ko:Hid (RR=ja C.E (f+1) o l'):=ab (by rw[←hf];exact(aa HI).2.2.2.2)
  obtain⟨at_,iu⟩:∃at_,at_=(ak C.E 0 l').a:=⟨_,rfl⟩;rw[←iu] at HA HT;have HAT:=ab iu;have HF:=ab hf;clear iu hf;go_wp2_with fail;refine(aa HA).mono ?_;rintro e w2 ⟨rfl,hb2⟩;have nN:=ab (aa HN w2 ((aa HI).2.2.1.below hb2));have ep:=ab (fun t r h=>oP (t:=t) (r:=r) ((aa HI).2.2.1.below hb2) h)
  have aE:=ab ((aa HI).2.2.2.1.trans (But.of_below hb2));have wF:=ab ((aa HI).1.later hb2);clear hb2 HA HN
  cases hq:dL C.E l' with
  | error er=>
   obtain⟨er,i⟩:=er;have HE:Hid (RR=.error (er,i)):=ab (by rw[aa ko];exact MK hq)
   rw[hq] at nN;clear hq ep ko HT;go_wp2_with fail;refine(aa nN).mono ?_;intro e w3 hp;obtain⟨hb3,rfl⟩:=dr hp rfl;have ao:=ab ((aa aE).trans hb3);clear hp hb3;unfold aC;go_wp2_with fail;exact⟨rfl,fu (aa HE) (aa ao) rfl⟩
  | ok x=>
   obtain⟨t,r⟩:=x;have oX:=aa ep t r hq;have HQ:=ab hq;rw[hq] at nN;clear hq ep;go_wp2_with fail;refine(aa nN).mono ?_;intro e w3 hp;obtain⟨hb3,rfl,hR3⟩:=dt hp rfl;have ao:=ab ((aa aE).trans hb3);have HRW3:=ab ((aa wF).same fun k hk=>hb3.block k ((aa wF).low hk).2 (by have:=((aa wF).low hk).1;omega))
   have oD:=ab hR3;clear hp hb3 hR3 nN wF aE
   by_cases h8:o.length=8
   ·have HE:Hid (RR=.error (5,at_)):=ab (by rw[aa ko,aa HAT];exact K8 (aa HQ) h8)
    have q8:((o.length:Int)==8)=true:=bt;clear h8 ko HQ;go_wp2_with fail;refine(aa HT _).mono ?_;rintro e w4 ⟨rfl,rfl⟩;unfold aC;go_wp2_with fail;exact⟨rfl,fu (aa HE) (aa ao) rfl⟩
   ·have q8:((o.length:Int)==8)=false:=bn
    have bp:Below w3.heap.size w3 (w3.alloc (.cells #[.string t] 9)):=ba _;have dT:=ab ((aa HRW3).later bp);have sw:B≤w3.heap.size:=by have:=(aa ao).size;rw[aa aF];exact this
    have kO:Hid (B≤(w3.alloc (.cells #[.string t] 9)).heap.size):=ab (by rw[dS];omega)
    have rE:=ab (Mf (x:=t) (show (w3.alloc (.cells #[.string t] 9)).heap[w3.heap.size]? =some (.cells #[.string t] 9 (0,0)) from ax rfl));have HAF:Hid (∀w6,(w3.alloc (.cells #[.string t] 9)).grownBy w6 (Value.slice a o.length cap).ownBlock→Syr C w6 r od∧But C.z w w6):=ab (fun w6 hg=>by
     have ho:=CZ (aa dT) (aa kO) hg;exact⟨((aa oD).below bp).old (aa nL) (aa aF).symm ho,Fk ((aa ao).trans (But.of_below bp)) (aa aF).symm hg.size ho ⟨hg.os,hg.tape,hg.output⟩⟩)
    have hol:o.length≤1000000:=by omega
    have H8:=ab h8;clear bp h8;have gG:=ab (fun w h hs=>pJ (C:=C) (l:=r) (o:=od) (ah 44) w h hs)
    have qt:=ab (fun w h hs=>pK (C:=C) (l:=r) (o:=od) (ah 44) w h hs)
    unfold ah at gG qt;go_wp2_with (first
     | (at_builtin;refine wL underlying28 L7 rfl (by decide) (by decide) (fun _=>rfl) sV_one rfl _ _ rfl (aa dT) (aa kO) t w3.heap.size 1 rfl rfl (aa rE) hol ?_;intro v6 w6 aS bI dP;have ec:=ab (aa HAF w6 bI);have HR6:=ab aS;clear bI dP aS HAF rE)
     | fail)
    obtain⟨a6,cap6,dZ, -, -⟩:=(aa HR6).len;subst dZ;have bU:(o++[t]).length=o.length+1:=by simp
    rw[bU] at HR6 ⊢;have HSZ6:Hid (∀x ∈ o++[t],x.size≤2000):=ab (fun x hx=>by
     rcases uQ.1 hx with h | h
     ·exact(aa HI).2.1 x h
     ·have:x=t:=by simpa using h
      subst this;exact oX)
    cases hc:aL (ak C.E 0 r) ⟨#[44]⟩
    ·have HE:Hid (RR=.ok (o++[t],r)):=ab (by rw[aa ko];exact K9 (aa HQ) (aa H8) hc)
     refine(aa qt w6 (aa ec).1 hc).mono ?_;rintro e w7 ⟨rfl,hb7⟩;obtain⟨M,hM1,hM2,hM3⟩:=Jt ((aa HR6).later hb7) (aa HSZ6);have HZ:Hid (Syr C w7 r od∧But C.z w w7∧Value.slice a6 (o.length+1) cap6=M.v∧M.l=o++[t]∧lD B w7 M):=ab (⟨(aa ec).1.below hb7,(aa ec).2.trans (But.of_below hb7),hM1,hM2,hM3⟩);clear hb7 hc hM1 hM2 hM3 qt gG bU;go_wp2_with fail;go_ret;exact nS (aa HE) (aa HZ).2.1 ⟨M,aD Ending.returned (aa HZ).2.2.1,(aa HZ).2.2.2⟩ (aa HZ).1
    ·have HE:Hid (RR=ja C.E f (o++[t]) r.tail):=ab (by rw[aa ko];exact K1 (aa HQ) (aa H8) hc)
     refine(aa gG w6 (aa ec).1 hc).mono ?_;rintro e w7 ⟨rfl,hb7,hR7⟩;have HZ:Hid (bP w7 B 9 1 sV (.slice a6 (o.length+1) cap6) (o++[t])∧Syr C w7 r.tail od∧But C.z w w7):=ab (⟨(aa HR6).same fun k hk=>hb7.block k ((aa HR6).low hk).2 (by have:=((aa HR6).low hk).1;omega),hR7,(aa ec).2.trans hb7⟩)
     clear hb7 hR7 hc qt gG;go_wp2_with fail;have hF:=aa HF;have h8:=aa H8;exact⟨⟨o++[t],r.tail,a6,cap6,by rw[bU];omega,by rw[bU],by rw[bU];exact(aa HZ).1,aa HSZ6,(aa HZ).2.1,(aa HZ).2.2,by rw[aa HE,bU,show 9 - (o.length+1)=f by omega]⟩,by show 9 - (o.length+1) < 9 - o.length;omega⟩
end Go.Proofs.YtlmnjbipfacniaaGreatDoor
