/- Ftt -/
import Derived.Test.YtjoaijbhpgekoaaGreatDoorFts
import Derived.Test.YtjoaijbhpgekoaaGreatDoorFtq
import Derived.Test.YtjoaijbhpgekoaaGreatDoorFth
namespace Go.Proofs.YtjoaijbhpgekoaaGreatDoor
open Go.RowKit Go.Deep
set_option linter.unusedVariables false
theorem OnA.bad {w w':World} {er:Nat} {T T':ByteArray} {i:Nat} {e:Ending} (h:OnA w w' er T i e) (he:er ≠ 0):OnA w w' er T' i e:=by
 obtain ⟨kd,U,a0,g,x4,n4,c4,x5,n5,c5,h1,h2,h3⟩:=h
 exact ⟨kd,U,a0,g,x4,n4,c4,x5,n5,c5,h1,fun z => absurd z he,h3⟩
theorem one_any (s:ByteArray) (i:Nat) (w:World) (hs:s.size ≤ 65536) (hi:i < s.size):Calls Tryz.prog 14 #[.string s,.int .i64 (i:Nat)] w fun e w' => OnA w w' (tokE s i).1 (s.extract i (tokE s i).2) i e:=by
 unfold tokE
 by_cases hL:ltrN (byA s i) = true
 ·rw [if_pos hL]
  have r:=enR_run wrdN s (i:=i) (by omega)
  obtain ⟨n,hn⟩:∃ n,enR wrdN s i = i + n:=⟨enR wrdN s i - i,by have:=r.le; omega⟩
  rw [hn,show i + n - i = n by omega]
  by_cases hb:31 < n
  ·rw [if_pos hb]
   exact (one_big s i w hs hi hL n hn hb).mono fun e w' h => h.bad (by decide)
  ·rw [if_neg hb]
   exact one_word s i w hs hi hL n hn (by omega)
 ·have hL2:ltrN (byA s i) = false:=by simpa using hL
  rw [if_neg hL]
  by_cases hN:dgtN (byA s i) = true ∨ byA s i = 91
  ·rw [if_pos hN]
   obtain ⟨n,hn⟩:∃ n,nuE s i - i = n:=⟨_,rfl⟩
   by_cases h0:nuE s i = 0
   ·rw [if_pos (.inl h0)]
    have hn0:n = 0:=by omega
    by_cases hD:dgtN (byA s i) = true
    ·exact (one_D0 s i w hs hi hL2 hD n hn (by omega) hn0).mono fun e w' h => h.bad (by decide)
    ·exact (one_K0 s i w hs hi hL2 (by simpa using hD) (hN.resolve_left hD) n hn (by omega) hn0).mono fun e w' h => h.bad (by decide)
   ·obtain ⟨g1,g2⟩:=nuE_gt hi h0 hN
    have hin:nuE s i = i + n:=by omega
    rw [hin]
    have hp:0 < n:=by omega
    have hle:i + n ≤ s.size:=by omega
    by_cases he:i + n < s.size
    ·by_cases hl:ltrN (byA s (i + n)) = true
     ·rw [if_pos (.inr ⟨he,.inl hl⟩)]
      by_cases hD:dgtN (byA s i) = true
      ·exact (one_DL s i w hs hi hL2 hD n hn hle hp he hl).mono fun e w' h => h.bad (by decide)
      ·exact (one_KL s i w hs hi hL2 (by simpa using hD) (hN.resolve_left hD) n hn hle hp he hl).mono fun e w' h => h.bad (by decide)
     ·have hl2:ltrN (byA s (i + n)) = false:=by simpa using hl
      by_cases hd:byA s (i + n) = 46
      ·rw [if_pos (.inr ⟨he,.inr hd⟩)]
       by_cases hD:dgtN (byA s i) = true
       ·exact (one_DD s i w hs hi hL2 hD n hn hle hp he hl2 hd).mono fun e w' h => h.bad (by decide)
       ·exact (one_KD s i w hs hi hL2 (by simpa using hD) (hN.resolve_left hD) n hn hle hp he hl2 hd).mono fun e w' h => h.bad (by decide)
      ·rw [if_neg (fun c => by rcases c with c | ⟨_,c | c⟩; omega; exact hl c; exact hd c)]
       by_cases hD:dgtN (byA s i) = true
       ·exact one_DO s i w hs hi hL2 hD n hn hle hp he hl2 hd
       ·exact one_KO s i w hs hi hL2 (by simpa using hD) (hN.resolve_left hD) n hn hle hp he hl2 hd
    ·rw [if_neg (fun c => by rcases c with c | ⟨c,_⟩ <;> omega)]
     by_cases hD:dgtN (byA s i) = true
     ·exact one_DE s i w hs hi hL2 hD n hn hle hp (by omega)
     ·exact one_KE s i w hs hi hL2 (by simpa using hD) (hN.resolve_left hD) n hn hle hp (by omega)
  ·rw [if_neg hN]
   have hD:dgtN (byA s i) = false:=by cases h:dgtN (byA s i); rfl; exact absurd (.inl h) hN
   have h91:byA s i ≠ 91:=fun e => hN (.inr e)
   have K:=one_mark s i w hs hi hL2 hD h91
   by_cases hm:markN (byA s i) = true
   ·rw [if_pos hm] at K
    rw [if_pos hm]
    exact K
   ·rw [if_neg hm] at K
    rw [if_neg hm]
    exact K.mono fun e w' h => h.bad (by decide)
structure BrF (s:ByteArray) (i j a:Nat):Prop where
 hi:i < s.size
 sg:j = 2 ∧ i + 1 < s.size ∧ byA s (i + 1) = 45 ∨ j = 1 ∧ ¬ (i + 1 < s.size ∧ byA s (i + 1) = 45)
 run:RunP dgtN s (i + j) (i + a)
 gt:j < a
section
variable {s:ByteArray} {i j a y:Nat}
theorem in_byte (h:i + y ≤ s.size) {q:Nat} (hq:q < y - 1):byA (s.extract (i + 1) (i + y)) q = byA s (i + 1 + q):=byA_ext (by omega) h
theorem in_size (h:i + y ≤ s.size):(s.extract (i + 1) (i + y)).size = y - 1:=by rw [ByteArray.size_extract]; omega
theorem BrF.hd (h:BrF s i j a) (hy:i + y ≤ s.size) (hay:a ≤ y):Hd (s.extract (i + 1) (i + y)) (decide (j = 2)) (j - 1):=by
 have hg:=h.gt
 have hsz:=in_size hy
 have hb:=in_byte hy (q:=0) (by rcases h.sg with c | c <;> omega)
 rw [Nat.add_zero] at hb
 rcases h.sg with ⟨e,c1,c2⟩ | ⟨e,c1⟩
 ·subst e
  refine ⟨(fun _ => ⟨rfl,?_⟩),(fun c => by simp at c)⟩
  rw [kd_two (by omega),hb]
  exact c2
 ·subst e
  refine ⟨(fun c => by simp at c),(fun _ => ⟨rfl,?_⟩)⟩
  rw [Ne,kd_two (by omega),hb]
  intro c
  have ht:=h.run.top
  exact c1 ⟨by omega,c⟩
theorem BrF.all (h:BrF s i j a) (hy:i + y ≤ s.size) (hay:a ≤ y):∀ q,j - 1 ≤ q → q < a - 1 → kdA (s.extract (i + 1) (i + y)) q = 1:=fun q h1 h2 => by
 have hsz:=in_size hy
 rw [← dgt_kd (by omega),in_byte hy (by omega)]
 exact h.run.all (i + 1 + q) (by rcases h.sg with c | c <;> omega) (by omega)
theorem BrF.first (h:BrF s i j a):¬ (byA s (i + 1) = 91 ∨ byA s (i + 1) = 93):=by
 rcases h.sg with ⟨e,c1,c2⟩ | ⟨e,c1⟩
 ·omega
 ·have:=h.run.all (i + 1) (by omega) (by have:=h.gt; omega)
  unfold dgtN at this
  rw [decide_eq_true_eq] at this
  omega
theorem br_trim (hs:s.size ≤ 65536) (h91:byA s i = 91) (hf:¬ (byA s (i + 1) = 91 ∨ byA s (i + 1) = 93)) (hy:i + y < s.size) (hy1:1 < y) (h93:byA s (i + y) = 93) (hl:dgtN (byA s (i + y - 1)) = true) (W:World):Calls Tryz.prog 28 #[.string (s.extract i (i + (y + 1))),.string ⟨#[91,93]⟩] W fun e w' => e = .returned (.string (s.extract (i + 1) (i + y))) ∧ Below W.heap.size W w':=by
 have hz:(s.extract i (i + (y + 1))).size = y + 1:=by rw [ByteArray.size_extract]; omega
 have hb:∀ q,q < y + 1 → byA (s.extract i (i + (y + 1))) q = byA s (i + q):=fun q hq => byA_ext (by omega) (by omega)
 have K:=trim_br (s.extract i (i + (y + 1))) W (by omega)
 unfold dgtN at hl
 rw [decide_eq_true_eq] at hl
 rw [trim_mid (x:=1) (y:=y) hy1 (by omega) (fun q hq => by rw [hb q (by omega),show i + q = i by omega]; exact .inl h91) (by rw [hb 1 (by omega)]; exact hf) (fun q h1 h2 => by rw [hb q (by omega),show i + q = i + y by omega]; exact .inr h93) (by rw [hb (y - 1) (by omega),show i + (y - 1) = i + y - 1 by omega]; omega),ByteArray.extract_extract] at K
 rw [show min (i + y) (i + (y + 1)) = i + y by omega] at K
 exact K
end
theorem num_brack {s:ByteArray} {i:Nat} (hs:s.size ≤ 65536) (hi:i < s.size) (h91:byA s i = 91):∃ n,nzE s i = n ∧ (n = 0 → nuE s i = 0) ∧ (0 < n → i + n ≤ s.size ∧ ∃ U,(∀ W,Calls Tryz.prog 28 #[.string (s.extract i (i + n)),.string ⟨#[91,93]⟩] W fun e w' => e = .returned (.string U) ∧ Below W.heap.size W w') ∧ ∃ rg rx ry ra re,(∀ W,Tab64 W → TabBh W → Calls Tryz.prog 27 #[.string U] W fun e w' => PsPost W w' rg rx ry ra re e) ∧ (re = 0 → nuE s i = i + n) ∧ (re ≠ 0 → nuE s i = 0)):=by
 have hz:(s.extract i s.size).size = s.size - i:=by rw [ByteArray.size_extract]; omega
 have e1:nzE s i = bzE (s.extract i s.size):=by unfold nzE; rw [if_pos h91]
 have e2:nuE s i = brE s i:=by unfold nuE; rw [if_pos h91]
 have hjs:=brS_shift hi
 obtain ⟨j,hJ⟩:∃ j,brS (s.extract i s.size) 0 = j:=⟨_,rfl⟩
 rw [hJ] at hjs
 have hsg:j = 2 ∧ i + 1 < s.size ∧ byA s (i + 1) = 45 ∨ j = 1 ∧ ¬ (i + 1 < s.size ∧ byA s (i + 1) = 45):=by
  unfold brS at hjs
  by_cases c:i + 1 < s.size ∧ byA s (i + 1) = 45
  ·rw [if_pos c] at hjs; exact .inl ⟨by omega,c⟩
  ·rw [if_neg c] at hjs; exact .inr ⟨by omega,c⟩
 have hjl:i + j ≤ s.size:=by rcases hsg with c | c <;> omega
 have hA:=enR_shift (p:=dgtN) (s:=s) (i:=i) (a:=j) hjl
 have rA:=enR_run dgtN s (i:=i + j) hjl
 obtain ⟨a,ha⟩:∃ a,enR dgtN (s.extract i s.size) j = a:=⟨_,rfl⟩
 rw [ha] at hA
 rw [hA] at rA
 have al:=rA.le
 have at_:=rA.top
 have eb:brE s i = if i + a < s.size ∧ byA s (i + a) = 47 then (if enR dgtN s (i + a + 1) < s.size ∧ byA s (enR dgtN s (i + a + 1)) = 93 ∧ fitD s (i + j) (i + a) = true ∧ fitD s (i + a + 1) (enR dgtN s (i + a + 1)) = true ∧ pwS s (i + a + 1) (enR dgtN s (i + a + 1) - (i + a + 1)) ≠ 0 then enR dgtN s (i + a + 1) + 1 else 0) else if i + a < s.size ∧ byA s (i + a) = 93 ∧ fitD s (i + j) (i + a) = true then i + a + 1 else 0:=by
  unfold brE
  dsimp only
  rw [hjs,hA]
 have ez:bzE (s.extract i s.size) = if a = j then 0 else if a < (s.extract i s.size).size ∧ byA (s.extract i s.size) a = 47 then (if enR dgtN (s.extract i s.size) (a + 1) = a + 1 then 0 else if enR dgtN (s.extract i s.size) (a + 1) < (s.extract i s.size).size ∧ byA (s.extract i s.size) (enR dgtN (s.extract i s.size) (a + 1)) = 93 then enR dgtN (s.extract i s.size) (a + 1) + 1 else 0) else if a < (s.extract i s.size).size ∧ byA (s.extract i s.size) a = 93 then a + 1 else 0:=by
  unfold bzE
  rw [hJ,ha]
 rw [e1,e2,eb,ez]
 clear e1 e2 eb ez hJ
 by_cases c0:a = j
 ·have hf:=fitD_no (s:=s) (x:=i + j) (y:=i + a) (by omega)
  refine ⟨0,by rw [if_pos c0],fun _ => ?_,fun h => by omega⟩
  rw [hf]
  split
  ·rw [if_neg (fun h => by cases h.2.2.1)]
  ·rw [if_neg (fun h => by cases h.2.2)]
 rw [if_neg c0]
 have B:BrF s i j a:=⟨hi,hsg,rA,by omega⟩
 have hfa:=B.first
 by_cases c1:i + a < s.size ∧ byA s (i + a) = 47
 ·have c1':a < (s.extract i s.size).size ∧ byA (s.extract i s.size) a = 47:=⟨by omega,by rw [ext_byte c1.1]; exact c1.2⟩
  have hK:=enR_shift (p:=dgtN) (s:=s) (i:=i) (a:=a + 1) (by omega)
  have rK:=enR_run dgtN s (i:=i + (a + 1)) (by omega)
  obtain ⟨k,hk⟩:∃ k,enR dgtN (s.extract i s.size) (a + 1) = k:=⟨_,rfl⟩
  rw [hk] at hK
  rw [hK] at rK
  have kl:=rK.le
  have kt:=rK.top
  rw [← Nat.add_assoc] at hK
  rw [if_pos c1,if_pos c1',hK,hk]
  by_cases c2:k = a + 1
  ·have hf:=fitD_no (s:=s) (x:=i + a + 1) (y:=i + k) (by omega)
   refine ⟨0,by rw [if_pos c2],fun _ => by rw [hf,if_neg (fun h => by cases h.2.2.2.1)],fun h => by omega⟩
  ·rw [if_neg c2]
   by_cases c3:i + k < s.size ∧ byA s (i + k) = 93
   ·have c3':k < (s.extract i s.size).size ∧ byA (s.extract i s.size) k = 93:=⟨by omega,by rw [ext_byte c3.1]; exact c3.2⟩
    refine ⟨k + 1,by rw [if_pos c3'],fun h => by omega,fun _ => ⟨by omega,s.extract (i + 1) (i + k),fun W => br_trim hs h91 hfa c3.1 (by omega) c3.2 (rK.all (i + k - 1) (by omega) (by omega)) W,?_⟩⟩
    have hsz:=in_size (s:=s) (i:=i) (y:=k) (by omega)
    have hU:∀ q,q < k - 1 → byA (s.extract (i + 1) (i + k)) q = byA s (i + 1 + q):=fun q hq => in_byte (by omega) hq
    have r1:RunK (s.extract (i + 1) (i + k)) (j - 1) (a - 1):=⟨by omega,by omega,B.all (by omega) (by omega),by rw [Ne,← dgt_kd (by omega),hU (a - 1) (by omega),show i + 1 + (a - 1) = i + a by omega,c1.2]; decide⟩
    have r2:RunK (s.extract (i + 1) (i + k)) (a - 1 + 1) (s.extract (i + 1) (i + k)).size:=⟨by omega,Nat.le_refl _,fun q h1 h2 => by rw [← dgt_kd h2,hU q (by omega)]; exact rK.all (i + 1 + q) (by omega) (by omega),by rw [kdA_top]; decide⟩
    obtain ⟨rg,rx,ry,ra,re,hP,hre⟩:=parse_frac_br (by omega) (B.hd (y:=k) (by omega) (by omega)) r1 (by rcases hsg with c | c <;> omega) (by rw [hU (a - 1) (by omega),show i + 1 + (a - 1) = i + a by omega]; exact c1.2) (by omega) r2 (by omega)
    have x1:(s.extract (i + 1) (i + k)).extract (j - 1) (a - 1) = s.extract (i + j) (i + a):=by
     rw [ByteArray.extract_extract]
     congr 1 <;> (rcases hsg with c | c <;> omega)
    have x2:(s.extract (i + 1) (i + k)).extract (a - 1 + 1) (s.extract (i + 1) (i + k)).size = s.extract (i + a + 1) (i + k):=by
     rw [hsz,ByteArray.extract_extract]
     congr 1 <;> omega
    have hyz:(s.extract (i + a + 1) (i + k)).size = i + k - (i + a + 1):=by rw [ByteArray.size_extract]; omega
    rw [x1,x2] at hre
    have f1:=fitD_is (s:=s) (x:=i + j) (y:=i + a) (by omega) (by omega)
    have f2:=fitD_is (s:=s) (x:=i + a + 1) (y:=i + k) (by omega) (by omega)
    have f3:=pws_pw (s:=s) (x:=i + a + 1) (y:=i + k) (by omega) (i + k - (i + a + 1)) (by omega)
    rw [← hyz] at f3
    refine ⟨rg,rx,ry,ra,re,hP,fun h => ?_,fun h => ?_⟩
    ·obtain ⟨g1,g2,g3⟩:=hre.1 h
     rw [if_pos ⟨c3.1,c3.2,by rw [f1]; exact decide_eq_true g1,by rw [f2]; exact decide_eq_true g2,by rw [← hyz,f3]; exact g3⟩]
     omega
    ·rw [if_neg]
     rintro ⟨_,_,g1,g2,g3⟩
     rw [f1,decide_eq_true_eq] at g1
     rw [f2,decide_eq_true_eq] at g2
     rw [← hyz,f3] at g3
     exact h (hre.2 ⟨g1,g2,g3⟩)
   ·have c3':¬ (k < (s.extract i s.size).size ∧ byA (s.extract i s.size) k = 93):=fun h => c3 ⟨by omega,by have:=h.2; rw [ext_byte (by omega)] at this; exact this⟩
    exact ⟨0,by rw [if_neg c3'],fun _ => by rw [if_neg (fun h => c3 ⟨h.1,h.2.1⟩)],fun h => by omega⟩
 ·have c1':¬ (a < (s.extract i s.size).size ∧ byA (s.extract i s.size) a = 47):=fun h => c1 ⟨by omega,by have:=h.2; rw [ext_byte (by omega)] at this; exact this⟩
  rw [if_neg c1,if_neg c1']
  by_cases c3:i + a < s.size ∧ byA s (i + a) = 93
  ·have c3':a < (s.extract i s.size).size ∧ byA (s.extract i s.size) a = 93:=⟨by omega,by rw [ext_byte c3.1]; exact c3.2⟩
   refine ⟨a + 1,by rw [if_pos c3'],fun h => by omega,fun _ => ⟨by omega,s.extract (i + 1) (i + a),fun W => br_trim hs h91 hfa c3.1 (by rcases hsg with c | c <;> omega) c3.2 (rA.all (i + a - 1) (by omega) (by omega)) W,?_⟩⟩
   have hsz:=in_size (s:=s) (i:=i) (y:=a) (by omega)
   have r1:RunK (s.extract (i + 1) (i + a)) (j - 1) (s.extract (i + 1) (i + a)).size:=⟨by omega,Nat.le_refl _,fun q h1 h2 => B.all (by omega) (Nat.le_refl _) q h1 (by omega),by rw [kdA_top]; decide⟩
   obtain ⟨rg,rx,ry,ra,re,hP,hre⟩:=parse_whole_br (by omega) (B.hd (y:=a) (by omega) (Nat.le_refl _)) r1 (by rcases hsg with c | c <;> omega)
   have x1:(s.extract (i + 1) (i + a)).extract (j - 1) (s.extract (i + 1) (i + a)).size = s.extract (i + j) (i + a):=by
    rw [hsz,ByteArray.extract_extract]
    congr 1 <;> (rcases hsg with c | c <;> omega)
   rw [x1] at hre
   have f1:=fitD_is (s:=s) (x:=i + j) (y:=i + a) (by omega) (by omega)
   refine ⟨rg,rx,ry,ra,re,hP,fun h => ?_,fun h => ?_⟩
   ·rw [if_pos ⟨c3.1,c3.2,by rw [f1]; exact decide_eq_true (hre.1 h)⟩]
    omega
   ·rw [if_neg]
    rintro ⟨_,_,g1⟩
    rw [f1,decide_eq_true_eq] at g1
    exact h (hre.2 g1)
  ·have c3':¬ (a < (s.extract i s.size).size ∧ byA (s.extract i s.size) a = 93):=fun h => c3 ⟨by omega,by have:=h.2; rw [ext_byte (by omega)] at this; exact this⟩
   exact ⟨0,by rw [if_neg c3'],fun _ => by rw [if_neg (fun h => c3 ⟨h.1,h.2.1⟩)],fun h => by omega⟩
theorem numK_all {s:ByteArray} {w0:World} (hs:s.size ≤ 65536) (hT:Tab64 w0) (hTB:TabBh w0):NumK s w0:=by
 intro w B st v cs hS hi hd hb
 rcases hd with hd | h91
 ·obtain ⟨n,h1,h2,h3⟩:=num_plain hs hi hd
  exact num_of hs hT hTB hS hi (ltr_dgt hd) (.inl hd) hb h1 h2 h3
 ·obtain ⟨n,h1,h2,h3⟩:=num_brack hs hi h91
  exact num_of hs hT hTB hS hi (by rw [h91]; decide) (.inr h91) hb h1 h2 h3
theorem fsplit_all (s:ByteArray) (w:World) (hT:Tab64 w) (hTB:TabBh w):Calls Tryz.prog 8 #[.string s] w fun e w' => SpPost w w' (TksF s) e:=by
 by_cases hs:s.size ≤ 65536
 ·rw [tksF_is hs]
  exact split_any s w hs (stepK_of hs (numK_all hs hT hTB))
 ·have e:TksF s = ([],65536,4):=by unfold TksF; rw [if_pos (by omega)]
  rw [e]
  exact split_long s w (by omega)
end Go.Proofs.YtjoaijbhpgekoaaGreatDoor
