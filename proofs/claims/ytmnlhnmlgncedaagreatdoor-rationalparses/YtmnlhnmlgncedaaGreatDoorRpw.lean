/- Rpv -/
import Derived.Test.YtmnlhnmlgncedaaGreatDoorRps1
import Derived.Test.YtmnlhnmlgncedaaGreatDoorRps3
import Derived.Test.YtmnlhnmlgncedaaGreatDoorRpt1
import Derived.Test.YtmnlhnmlgncedaaGreatDoorRpu
import Derived.Test.YtmnlhnmlgncedaaGreatDoorRu3
import Derived.Test.YtmnlhnmlgncedaaGreatDoorWr2
import Derived.Deep.RegionHeld3
namespace Go.Proofs.YtmnlhnmlgncedaaGreatDoor
open Go.RowKit Go.Deep
set_option linter.unusedVariables false
def PaTwo (s:ByteArray):Prop:=∃ (rg:Bool) (rx ry:List Nat) (ra re:Int),(∀ W,Calls Tryz.prog 24 #[.string s] W fun e w' => PsPost W w' rg rx ry ra re e) ∧ ∀ W,Tab64 W → TabBh W → Calls Tryz.prog 8 #[.string s] W fun e w' => PsPost W w' rg rx ry ra re e
def DcTwo (s:ByteArray) (g:Bool) (i j:Nat):Prop:=∃ (rg:Bool) (rx ry:List Nat) (ra re:Int),(∀ W,Calls Tryz.prog 61 #[.string s,.bool g,.int .i64 (i:Nat),.int .i64 (j:Nat)] W fun e w' => PsPost W w' rg rx ry ra re e) ∧ ∀ W,Tab64 W → TabBh W → Calls Tryz.prog 8 #[.string s] W fun e w' => PsPost W w' rg rx ry ra re e
theorem one_dig:∀ q,q < (⟨#[49]⟩:ByteArray).size → 48 ≤ byA ⟨#[49]⟩ q ∧ byA ⟨#[49]⟩ q ≤ 57:=fun q hq => by
 have hz:(⟨#[49]⟩:ByteArray).size = 1:=rfl
 obtain rfl:q = 0:=by omega
 decide
theorem wwr_up (g:Bool) (A:ByteArray) (Q:Nat) (W:World) (hQ:Q ≤ 100000) (sA:A.size ≤ 65536) (dA:∀ q,q < A.size → 48 ≤ byA A q ∧ byA A q ≤ 57) :
  Calls Tryz.prog 60 #[.bool g,.string A,.int .i64 (Q:Nat),.string ⟨#[49]⟩,.int .i64 0] W fun e w' => PsPost W w' (WfF g (pwB A A.size * 10 ^ Q) 1).1.1 (WfF g (pwB A A.size * 10 ^ Q) 1).1.2.1 (WfF g (pwB A A.size * 10 ^ Q) 1).1.2.2 0 (WfF g (pwB A A.size * 10 ^ Q) 1).2 e :=
 wwritten_any g A ⟨#[49]⟩ Q 0 W hQ (by omega) sA (by decide) dA one_dig (by decide)
theorem wwr_dn (g:Bool) (A:ByteArray) (Q:Nat) (W:World) (hQ:Q ≤ 100000) (sA:A.size ≤ 65536) (dA:∀ q,q < A.size → 48 ≤ byA A q ∧ byA A q ≤ 57) :
  Calls Tryz.prog 60 #[.bool g,.string A,.int .i64 0,.string ⟨#[49]⟩,.int .i64 (Q:Nat)] W fun e w' => PsPost W w' (WfF g (pwB A A.size) (10 ^ Q)).1.1 (WfF g (pwB A A.size) (10 ^ Q)).1.2.1 (WfF g (pwB A A.size) (10 ^ Q)).1.2.2 0 (WfF g (pwB A A.size) (10 ^ Q)).2 e:=by
 have K:=wwritten_any g A ⟨#[49]⟩ 0 Q W (by omega) hQ sA (by decide) dA one_dig (by decide)
 rw [show pwB (⟨#[49]⟩:ByteArray) (⟨#[49]⟩:ByteArray).size = 1 from rfl,Nat.pow_zero,Nat.mul_one,Nat.one_mul] at K
 exact K
section
variable {s:ByteArray} {g:Bool} {i j k e b m PT:Nat}
theorem wp_B (h:Hd s g i) (hs:s.size ≤ 65536) (r:RunK s i i) (W:World) :
  Calls Tryz.prog 24 #[.string s] W fun e w' => PsPost W w' false [] [] (i:Nat) 5 e:=by
 cases g
 ·obtain ⟨rfl,h0⟩:=h.no rfl
  by_cases hz:s.size = 0
  ·exact wparse_eB s 0 W hs hz r rfl
  ·exact wparse_pB s 0 W hs (by omega) (fun c => h0 ((kd_two (by omega)).2 c)) r rfl
 ·obtain ⟨rfl,h0⟩:=h.yes rfl
  have hz:0 < s.size:=kd_lt_top (Nat.zero_le _) (by omega)
  exact wparse_mB s 1 W hs hz ((kd_two hz).1 h0) r rfl
theorem wp_C1 (h:Hd s g i) (hs:s.size ≤ 65536) (r:RunK s i j) (hl:i < j) (hjl:j < s.size) (hk:byA s j = 47) (r2:RunK s (j + 1) k) (hk2:k = j + 1) (W:World) :
  Calls Tryz.prog 24 #[.string s] W fun e w' => PsPost W w' false [] [] (k:Nat) 5 e:=by
 have ht:=r.top
 cases g
 ·obtain ⟨rfl,h0⟩:=h.no rfl
  exact wparse_pC1 s j k W hs (by omega) (fun c => h0 ((kd_two (by omega)).2 c)) r hl hjl hk r2 hk2
 ·obtain ⟨rfl,h0⟩:=h.yes rfl
  exact wparse_mC1 s j k W hs (by omega) ((kd_two (by omega)).1 h0) r hl hjl hk r2 hk2
theorem wp_C4 (h:Hd s g i) (hs:s.size ≤ 65536) (r:RunK s i j) (hl:i < j) (hjl:j < s.size) (hk:byA s j = 47) (r2:RunK s (j + 1) k) (hk2:j + 1 < k) (hkl:k < s.size) (W:World) :
  Calls Tryz.prog 24 #[.string s] W fun e w' => PsPost W w' false [] [] (k:Nat) 5 e:=by
 have ht:=r.top
 cases g
 ·obtain ⟨rfl,h0⟩:=h.no rfl
  exact wparse_pC4 s j k W hs (by omega) (fun c => h0 ((kd_two (by omega)).2 c)) r hl hjl hk r2 hk2 hkl
 ·obtain ⟨rfl,h0⟩:=h.yes rfl
  exact wparse_mC4 s j k W hs (by omega) ((kd_two (by omega)).1 h0) r hl hjl hk r2 hk2 hkl
theorem wp_C2 (h:Hd s g i) (hs:s.size ≤ 65536) (r:RunK s i j) (hl:i < j) (hjl:j < s.size) (hk:byA s j = 47) (r2:RunK s (j + 1) k) (hk2:j + 1 < k) (hkl:k = s.size) (z:Nat) (hzr:Zr (s.extract (j + 1) s.size) z) (hze:((s.extract (j + 1) s.size).extract z (s.extract (j + 1) s.size).size).size = 0) (W:World) :
  Calls Tryz.prog 24 #[.string s] W fun e w' => PsPost W w' false [] [] (j:Nat) 3 e:=by
 have ht:=r.top
 cases g
 ·obtain ⟨rfl,h0⟩:=h.no rfl
  exact wparse_pC2 s j k W hs (by omega) (fun c => h0 ((kd_two (by omega)).2 c)) r hl hjl hk r2 hk2 hkl z hzr hze
 ·obtain ⟨rfl,h0⟩:=h.yes rfl
  exact wparse_mC2 s j k W hs (by omega) ((kd_two (by omega)).1 h0) r hl hjl hk r2 hk2 hkl z hzr hze
theorem wp_C3 (h:Hd s g i) (hs:s.size ≤ 65536) (r:RunK s i j) (hl:i < j) (hjl:j < s.size) (hk:byA s j = 47) (r2:RunK s (j + 1) k) (hk2:j + 1 < k) (hkl:k = s.size) (z:Nat) (hzr:Zr (s.extract (j + 1) s.size) z) (hze:¬ ((s.extract (j + 1) s.size).extract z (s.extract (j + 1) s.size).size).size = 0) (rg:Bool) (rx ry:List Nat) (ra re:Int) (hW:∀ W,Calls Tryz.prog 60 #[.bool g,.string (s.extract i j),.int .i64 0,.string (s.extract (j + 1) s.size),.int .i64 0] W fun e w' => PsPost W w' rg rx ry ra re e) (W:World) :
  Calls Tryz.prog 24 #[.string s] W fun e w' => PsPost W w' rg rx ry ra re e:=by
 have ht:=r.top
 cases g
 ·obtain ⟨rfl,h0⟩:=h.no rfl
  exact wparse_pC3 s j k W hs (by omega) (fun c => h0 ((kd_two (by omega)).2 c)) r hl hjl hk r2 hk2 hkl z hzr hze rg rx ry ra re hW
 ·obtain ⟨rfl,h0⟩:=h.yes rfl
  exact wparse_mC3 s j k W hs (by omega) ((kd_two (by omega)).1 h0) r hl hjl hk r2 hk2 hkl z hzr hze rg rx ry ra re hW
theorem wp_D1 (h:Hd s g i) (hs:s.size ≤ 65536) (r:RunK s i j) (hl:i < j) (hjl:j = s.size) (rg:Bool) (rx ry:List Nat) (ra re:Int) (hW:∀ W,Calls Tryz.prog 61 #[.string s,.bool g,.int .i64 (i:Nat),.int .i64 (j:Nat)] W fun e w' => PsPost W w' rg rx ry ra re e) (W:World) :
  Calls Tryz.prog 24 #[.string s] W fun e w' => PsPost W w' rg rx ry ra re e:=by
 have ht:=r.top
 cases g
 ·obtain ⟨rfl,h0⟩:=h.no rfl
  exact wparse_pD1 s j W hs (by omega) (fun c => h0 ((kd_two (by omega)).2 c)) r hl hjl rg rx ry ra re hW
 ·obtain ⟨rfl,h0⟩:=h.yes rfl
  exact wparse_mD1 s j W hs (by omega) ((kd_two (by omega)).1 h0) r hl hjl rg rx ry ra re hW
theorem wp_D2 (h:Hd s g i) (hs:s.size ≤ 65536) (r:RunK s i j) (hl:i < j) (hjl:j < s.size) (hk:byA s j ≠ 47) (rg:Bool) (rx ry:List Nat) (ra re:Int) (hW:∀ W,Calls Tryz.prog 61 #[.string s,.bool g,.int .i64 (i:Nat),.int .i64 (j:Nat)] W fun e w' => PsPost W w' rg rx ry ra re e) (W:World) :
  Calls Tryz.prog 24 #[.string s] W fun e w' => PsPost W w' rg rx ry ra re e:=by
 have ht:=r.top
 cases g
 ·obtain ⟨rfl,h0⟩:=h.no rfl
  exact wparse_pD2 s j W hs (by omega) (fun c => h0 ((kd_two (by omega)).2 c)) r hl hjl hk rg rx ry ra re hW
 ·obtain ⟨rfl,h0⟩:=h.yes rfl
  exact wparse_mD2 s j W hs (by omega) ((kd_two (by omega)).1 h0) r hl hjl hk rg rx ry ra re hW
theorem bare_nil {s:ByteArray} {z:Nat} (hz:Zr s z) (hd:∀ q,q < s.size → 48 ≤ byA s q ∧ byA s q ≤ 57):(s.extract z s.size).size = 0 ↔ pwB s s.size = 0:=by
 have h1:=hz.le
 rw [ext_size h1,pwB_nil (fun q hq => (hd q hq).1)]
 constructor
 ·intro e q hq
  exact hz.all q (by omega)
 ·intro a
  by_cases h:z < s.size
  ·exact absurd (a z h) (hz.stop h)
  ·omega
theorem wdec_0bad (hs:s.size ≤ 65536) (hl:i < j) (hel:j < s.size) (hle:byA s j = 101 ∨ byA s j = 69) (hg:Sg s (j + 1) b) (rm:RunK s b m) (hb:m = b ∨ m < s.size) (W:World) :
  Calls Tryz.prog 61 #[.string s,.bool g,.int .i64 (i:Nat),.int .i64 (j:Nat)] W fun e w' => PsPost W w' false [] [] (m:Nat) 5 e:=by
 have hle2:=rm.le
 have hmt:=rm.top
 have KP:=fun W => wpower_any (s.extract b m) W (by rw [ByteArray.size_extract]; omega) (run_dig rm)
 rcases hg.or with ⟨hc,rfl⟩ | ⟨hc,rfl⟩
 ·have hsl:j + 1 < s.size:=kd_lt_top (by omega) (by omega)
  rcases hc with hc | hc
  ·have h45:=(kd_two hsl).1 hc
   by_cases hm:m = j + 1 + 1
   ·exact wdec_0Lmb0 s g i j W hs hl hel hle hsl (by omega) h45 m rm hm
   ·exact wdec_0Lmb1 s g i j W hs hl hel hle hsl (by omega) h45 m rm (by omega) (by omega) _ KP (Nat.min_le_right _ _)
  ·have h43:=(kd_three hsl).1 hc
   by_cases hm:m = j + 1 + 1
   ·exact wdec_0Lpb0 s g i j W hs hl hel hle hsl h43 (by omega) m rm hm
   ·exact wdec_0Lpb1 s g i j W hs hl hel hle hsl h43 (by omega) m rm (by omega) (by omega) _ KP (Nat.min_le_right _ _)
 ·by_cases hsl:j + 1 < s.size
  ·have h45:byA s (j + 1) ≠ 45:=fun c => hc.1 ((kd_two hsl).2 c)
   have h43:byA s (j + 1) ≠ 43:=fun c => hc.2 ((kd_three hsl).2 c)
   by_cases hm:m = j + 1
   ·exact wdec_0Lob0 s g i j W hs hl hel hle hsl h43 h45 m rm hm
   ·exact wdec_0Lob1 s g i j W hs hl hel hle hsl h43 h45 m rm (by omega) (by omega) _ KP (Nat.min_le_right _ _)
  ·have ht:=rm.top
   exact wdec_0Leb0 s g i j W hs hl hel hle (by omega) m rm (by omega)
theorem wdec_0pa {dn:Bool} (hs:s.size ≤ 65536) (hl:i < j) (hel:j < s.size) (hle:byA s j = 101 ∨ byA s j = 69) (hg:Pw s (j + 1) b dn) (rm:RunK s b s.size) (N:Nat) (hP:∀ W,Calls Tryz.prog 115 #[.string (s.extract b s.size)] W fun e w' => e = .returned (.int .i64 (N:Nat)) ∧ w' = W) (hN:4096 < N) (hN2:N ≤ 4097) (W:World) :
  Calls Tryz.prog 61 #[.string s,.bool g,.int .i64 (i:Nat),.int .i64 (j:Nat)] W fun e w' => PsPost W w' false [] [] (j:Nat) 1 e:=by
 have hb:=hg.lt
 have h48:=hg.low
 rcases hg.or with ⟨rfl,rfl⟩ | ⟨rfl,⟨c,rfl⟩ | ⟨c,rfl⟩⟩
 ·exact wdec_0Loa s g i j W hs hl hel hle hb (by omega) (by omega) s.size rm hb rfl N hP hN hN2
 ·exact wdec_0Lpa s g i j W hs hl hel hle (by omega) c (by omega) s.size rm hb rfl N hP hN hN2
 ·exact wdec_0Lma s g i j W hs hl hel hle (by omega) (by omega) c s.size rm hb rfl N hP hN hN2
theorem wdec_0pu {dn:Bool} (hs:s.size ≤ 65536) (hl:i < j) (hel:j < s.size) (hle:byA s j = 101 ∨ byA s j = 69) (hg:Pw s (j + 1) b dn) (rm:RunK s b s.size) (N:Nat) (hP:∀ W,Calls Tryz.prog 115 #[.string (s.extract b s.size)] W fun e w' => e = .returned (.int .i64 (N:Nat)) ∧ w' = W) (hN:N ≤ 4096) (Q:Nat) (hQ:(if dn = true then -(N:Int) else (N:Int)) - 0 = (Q:Int)) (rg:Bool) (rx ry:List Nat) (ra re:Int) (hW:∀ W,Calls Tryz.prog 60 #[.bool g,.string (s.extract i j),.int .i64 (Q:Nat),.string ⟨#[49]⟩,.int .i64 0] W fun e w' => PsPost W w' rg rx ry ra re e) (W:World) :
  Calls Tryz.prog 61 #[.string s,.bool g,.int .i64 (i:Nat),.int .i64 (j:Nat)] W fun e w' => PsPost W w' rg rx ry ra re e:=by
 have hb:=hg.lt
 have h48:=hg.low
 rcases hg.or with ⟨rfl,rfl⟩ | ⟨rfl,⟨c,rfl⟩ | ⟨c,rfl⟩⟩
 ·exact wdec_0Lou s g i j W hs hl hel hle hb (by omega) (by omega) s.size rm hb rfl N hP hN Q hQ rg rx ry ra re hW
 ·exact wdec_0Lpu s g i j W hs hl hel hle (by omega) c (by omega) s.size rm hb rfl N hP hN Q hQ rg rx ry ra re hW
 ·exact wdec_0Lmu s g i j W hs hl hel hle (by omega) (by omega) c s.size rm hb rfl N hP hN Q hQ rg rx ry ra re hW
theorem wdec_0pd {dn:Bool} (hs:s.size ≤ 65536) (hl:i < j) (hel:j < s.size) (hle:byA s j = 101 ∨ byA s j = 69) (hg:Pw s (j + 1) b dn) (rm:RunK s b s.size) (N:Nat) (hP:∀ W,Calls Tryz.prog 115 #[.string (s.extract b s.size)] W fun e w' => e = .returned (.int .i64 (N:Nat)) ∧ w' = W) (hN:N ≤ 4096) (Q:Nat) (hQ:(if dn = true then -(N:Int) else (N:Int)) - 0 = -(Q:Int)) (hQ0:0 < Q) (rg:Bool) (rx ry:List Nat) (ra re:Int) (hW:∀ W,Calls Tryz.prog 60 #[.bool g,.string (s.extract i j),.int .i64 0,.string ⟨#[49]⟩,.int .i64 (Q:Nat)] W fun e w' => PsPost W w' rg rx ry ra re e) (W:World) :
  Calls Tryz.prog 61 #[.string s,.bool g,.int .i64 (i:Nat),.int .i64 (j:Nat)] W fun e w' => PsPost W w' rg rx ry ra re e:=by
 have hb:=hg.lt
 have h48:=hg.low
 rcases hg.or with ⟨rfl,rfl⟩ | ⟨rfl,⟨c,rfl⟩ | ⟨c,rfl⟩⟩
 ·exact wdec_0Lod s g i j W hs hl hel hle hb (by omega) (by omega) s.size rm hb rfl N hP hN Q hQ hQ0 rg rx ry ra re hW
 ·exact wdec_0Lpd s g i j W hs hl hel hle (by omega) c (by omega) s.size rm hb rfl N hP hN Q hQ hQ0 rg rx ry ra re hW
 ·exact wdec_0Lmd s g i j W hs hl hel hle (by omega) (by omega) c s.size rm hb rfl N hP hN Q hQ hQ0 rg rx ry ra re hW
theorem dec_0 (hs:s.size ≤ 65536) (h:Hd s g i) (r:RunK s i j) (hl:i < j) (h4:kdA s j ≠ 4) (h5:kdA s j ≠ 5):DcTwo s g i j:=by
 have mn:=mn_whole h r hl
 have hit:=r.top
 have sD:(s.extract i j).size ≤ 65536 ∧ 0 < (s.extract i j).size:=by
  rw [ByteArray.size_extract]
  omega
 have dD:=run_dig r
 have hcat:=cat_nil (s.extract i j)
 by_cases he:j = s.size
 ·have t:=ok_end mn he
  have T:Tk s g (s.extract i j) 0 ⟨#[]⟩ ⟨#[]⟩ 0 ⟨#[]⟩:=by
   have T:=tk_z h hs (by omega) t
   rw [← he] at T
   exact T
  refine ⟨_,_,_,_,_,fun W => wdec_0Nok s g i j W hs hl he _ _ _ _ _ (fun V => wwr_up g _ 0 V (by omega) sD.1 dD),fun W hT hB => ?_⟩
  have K:=rparse_up g s (s.extract i j) ⟨#[]⟩ ⟨#[]⟩ 0 0 0 W hs hT hB (by omega) (by decide) (by omega) T (fun V => readPower_nil V) (by rw [hcat]; exact sD.2) (by rw [hcat]; exact sD.1) (by rw [hcat]; exact dD)
  rw [hcat] at K
  exact K
 ·have hel:j < s.size:=by omega
  by_cases h6:kdA s j = 6
  ·have hle:=(kd_six hel).1 h6
   obtain ⟨b,hg⟩:=sg_any s (j + 1)
   have hbt:=hg.le (by omega)
   obtain ⟨m,rm⟩:=runK_any s (s.size - b) b (by omega)
   by_cases hb:m = b ∨ m < s.size
   ·exact ⟨_,_,_,_,_,fun W => wdec_0bad hs hl hel hle hg rm hb W,fun W _ hB => rparse_bad (bad_letter mn h6 hg rm hb) hs W hB⟩
   ·have hmt:=rm.top
    have hml:=rm.le
    obtain rfl:m = s.size:=by omega
    have hbl:b < s.size:=by omega
    obtain ⟨dn,pw⟩:∃ dn,Pw s (j + 1) b dn:=by
     have hlow:=((kd_one hbl).1 (rm.all b (Nat.le_refl _) hbl)).1
     rcases hg.or with ⟨hc,e2⟩ | ⟨hc,e2⟩
     ·have hsl:j + 1 < s.size:=by omega
      rcases hc with hc | hc
      ·exact ⟨true,hbl,hlow,.inr ⟨e2,.inr ⟨(kd_two hsl).1 hc,rfl⟩⟩⟩
      ·exact ⟨false,hbl,hlow,.inr ⟨e2,.inl ⟨(kd_three hsl).1 hc,rfl⟩⟩⟩
     ·exact ⟨false,hbl,hlow,.inl ⟨e2,rfl⟩⟩
    have t:=ok_letter mn h6 hg rm hbl rfl
    have T:=tk_l h hs hl hel t
    have dd:=run_dig rm
    have sd:(s.extract b s.size).size ≤ 65536:=by rw [ByteArray.size_extract]; omega
    have KP:=fun W => wpower_any (s.extract b s.size) W sd dd
    by_cases hN:pwB (s.extract b s.size) (s.extract b s.size).size ≤ 4096
    ·have RP:=fun W => read_pw pw hs rm hN W
     rw [Nat.min_eq_left (by omega)] at KP
     generalize pwB (s.extract b s.size) (s.extract b s.size).size = N at KP RP hN
     have hZ:∃ z:Int,(if dn = true then -(N:Int) else (N:Int)) = z ∧ -4096 ≤ z ∧ z ≤ 4096:=by
      refine ⟨_,rfl,?_⟩
      split <;> omega
     obtain ⟨z,hz,hz1⟩:=hZ
     rw [hz] at RP
     by_cases hq:0 ≤ z - 0
     ·obtain ⟨Q,hQ⟩:=Int.eq_ofNat_of_zero_le hq
      refine ⟨_,_,_,_,_,fun W => wdec_0pu hs hl hel hle pw rm N KP hN Q (by rw [hz]; exact hQ) _ _ _ _ _ (fun V => wwr_up g _ Q V (by omega) sD.1 dD) W,fun W hT hB => ?_⟩
      have K:=rparse_up g s (s.extract i j) ⟨#[]⟩ _ j Q z W hs hT hB hz1 hQ (by omega) T RP (by rw [hcat]; exact sD.2) (by rw [hcat]; exact sD.1) (by rw [hcat]; exact dD)
      rw [hcat] at K
      exact K
     ·obtain ⟨Q,hQ⟩:=Int.eq_ofNat_of_zero_le (show 0 ≤ -(z - 0) by omega)
      have hQ':z - 0 = -(Q:Int):=by omega
      refine ⟨_,_,_,_,_,fun W => wdec_0pd hs hl hel hle pw rm N KP hN Q (by rw [hz]; exact hQ') (by omega) _ _ _ _ _ (fun V => wwr_dn g _ Q V (by omega) sD.1 dD) W,fun W hT hB => ?_⟩
      have K:=rparse_dn g s (s.extract i j) ⟨#[]⟩ _ j Q z W hs hT hB hz1 hQ' (by omega) (by omega) T RP (by rw [hcat]; exact sD.2) (by rw [hcat]; exact sD.1) (by rw [hcat]; exact dD)
      rw [hcat] at K
      exact K
    ·rw [Nat.min_eq_right (by omega)] at KP
     exact ⟨_,_,_,_,_,fun W => wdec_0pa hs hl hel hle pw rm 4097 KP (by omega) (by omega) W,fun W hT hB => parse_zD g s _ _ _ _ 0 j W hs hT hB T rfl 0 (fun V => read_pw_no pw hs rm (by omega) V)⟩
  ·have h69:byA s j ≠ 101 ∧ byA s j ≠ 69:=by
    constructor
    ·exact fun c => h6 ((kd_six hel).2 (.inl c))
    ·exact fun c => h6 ((kd_six hel).2 (.inr c))
   exact ⟨_,_,_,_,_,fun W => wdec_0Nbad s g i j W hs hl hel h69.1 h69.2 (fun c => h5 ((kd_five hel).2 c)),fun W _ hB => rparse_bad (bad_end mn hel h6 (fun c => ⟨h4,h5⟩)) hs W hB⟩
theorem wdec_1bad (hs:s.size ≤ 65536) (hl:i < j) (hjl:j < s.size) (hk:byA s j = 46) (r2:RunK s (j + 1) k) (hjk:j + 1 < k) (hel:k < s.size) (hle:byA s k = 101 ∨ byA s k = 69) (hg:Sg s (k + 1) b) (rm:RunK s b m) (hb:m = b ∨ m < s.size) (W:World) :
  Calls Tryz.prog 61 #[.string s,.bool g,.int .i64 (i:Nat),.int .i64 (j:Nat)] W fun e w' => PsPost W w' false [] [] (m:Nat) 5 e:=by
 have hle2:=rm.le
 have hmt:=rm.top
 have KP:=fun W => wpower_any (s.extract b m) W (by rw [ByteArray.size_extract]; omega) (run_dig rm)
 rcases hg.or with ⟨hc,rfl⟩ | ⟨hc,rfl⟩
 ·have hsl:k + 1 < s.size:=kd_lt_top (by omega) (by omega)
  rcases hc with hc | hc
  ·have h45:=(kd_two hsl).1 hc
   by_cases hm:m = k + 1 + 1
   ·exact wdec_1Lmb0 s g i j k W hs hl hjl hk r2 hjk hel hle hsl (by omega) h45 m rm hm
   ·exact wdec_1Lmb1 s g i j k W hs hl hjl hk r2 hjk hel hle hsl (by omega) h45 m rm (by omega) (by omega) _ KP (Nat.min_le_right _ _)
  ·have h43:=(kd_three hsl).1 hc
   by_cases hm:m = k + 1 + 1
   ·exact wdec_1Lpb0 s g i j k W hs hl hjl hk r2 hjk hel hle hsl h43 (by omega) m rm hm
   ·exact wdec_1Lpb1 s g i j k W hs hl hjl hk r2 hjk hel hle hsl h43 (by omega) m rm (by omega) (by omega) _ KP (Nat.min_le_right _ _)
 ·by_cases hsl:k + 1 < s.size
  ·have h45:byA s (k + 1) ≠ 45:=fun c => hc.1 ((kd_two hsl).2 c)
   have h43:byA s (k + 1) ≠ 43:=fun c => hc.2 ((kd_three hsl).2 c)
   by_cases hm:m = k + 1
   ·exact wdec_1Lob0 s g i j k W hs hl hjl hk r2 hjk hel hle hsl h43 h45 m rm hm
   ·exact wdec_1Lob1 s g i j k W hs hl hjl hk r2 hjk hel hle hsl h43 h45 m rm (by omega) (by omega) _ KP (Nat.min_le_right _ _)
  ·have ht:=rm.top
   exact wdec_1Leb0 s g i j k W hs hl hjl hk r2 hjk hel hle (by omega) m rm (by omega)
theorem wdec_1pa {dn:Bool} (hs:s.size ≤ 65536) (hl:i < j) (hjl:j < s.size) (hk:byA s j = 46) (r2:RunK s (j + 1) k) (hjk:j + 1 < k) (hel:k < s.size) (hle:byA s k = 101 ∨ byA s k = 69) (hg:Pw s (k + 1) b dn) (rm:RunK s b s.size) (N:Nat) (hP:∀ W,Calls Tryz.prog 115 #[.string (s.extract b s.size)] W fun e w' => e = .returned (.int .i64 (N:Nat)) ∧ w' = W) (hN:4096 < N) (hN2:N ≤ 4097) (W:World) :
  Calls Tryz.prog 61 #[.string s,.bool g,.int .i64 (i:Nat),.int .i64 (j:Nat)] W fun e w' => PsPost W w' false [] [] (k:Nat) 1 e:=by
 have hb:=hg.lt
 have h48:=hg.low
 rcases hg.or with ⟨rfl,rfl⟩ | ⟨rfl,⟨c,rfl⟩ | ⟨c,rfl⟩⟩
 ·exact wdec_1Loa s g i j k W hs hl hjl hk r2 hjk hel hle hb (by omega) (by omega) s.size rm hb rfl N hP hN hN2
 ·exact wdec_1Lpa s g i j k W hs hl hjl hk r2 hjk hel hle (by omega) c (by omega) s.size rm hb rfl N hP hN hN2
 ·exact wdec_1Lma s g i j k W hs hl hjl hk r2 hjk hel hle (by omega) (by omega) c s.size rm hb rfl N hP hN hN2
theorem wdec_1pu {dn:Bool} (hs:s.size ≤ 65536) (hl:i < j) (hjl:j < s.size) (hk:byA s j = 46) (r2:RunK s (j + 1) k) (hjk:j + 1 < k) (hel:k < s.size) (hle:byA s k = 101 ∨ byA s k = 69) (hg:Pw s (k + 1) b dn) (rm:RunK s b s.size) (N:Nat) (hP:∀ W,Calls Tryz.prog 115 #[.string (s.extract b s.size)] W fun e w' => e = .returned (.int .i64 (N:Nat)) ∧ w' = W) (hN:N ≤ 4096) (Q:Nat) (hQ:(if dn = true then -(N:Int) else (N:Int)) - ((k - j - 1:Nat):Int) = (Q:Int)) (rg:Bool) (rx ry:List Nat) (ra re:Int) (hW:∀ W,Calls Tryz.prog 60 #[.bool g,.string (s.extract i j ++ s.extract (j + 1) k),.int .i64 (Q:Nat),.string ⟨#[49]⟩,.int .i64 0] W fun e w' => PsPost W w' rg rx ry ra re e) (W:World) :
  Calls Tryz.prog 61 #[.string s,.bool g,.int .i64 (i:Nat),.int .i64 (j:Nat)] W fun e w' => PsPost W w' rg rx ry ra re e:=by
 have hb:=hg.lt
 have h48:=hg.low
 rcases hg.or with ⟨rfl,rfl⟩ | ⟨rfl,⟨c,rfl⟩ | ⟨c,rfl⟩⟩
 ·exact wdec_1Lou s g i j k W hs hl hjl hk r2 hjk hel hle hb (by omega) (by omega) s.size rm hb rfl N hP hN Q hQ rg rx ry ra re hW
 ·exact wdec_1Lpu s g i j k W hs hl hjl hk r2 hjk hel hle (by omega) c (by omega) s.size rm hb rfl N hP hN Q hQ rg rx ry ra re hW
 ·exact wdec_1Lmu s g i j k W hs hl hjl hk r2 hjk hel hle (by omega) (by omega) c s.size rm hb rfl N hP hN Q hQ rg rx ry ra re hW
theorem wdec_1pd {dn:Bool} (hs:s.size ≤ 65536) (hl:i < j) (hjl:j < s.size) (hk:byA s j = 46) (r2:RunK s (j + 1) k) (hjk:j + 1 < k) (hel:k < s.size) (hle:byA s k = 101 ∨ byA s k = 69) (hg:Pw s (k + 1) b dn) (rm:RunK s b s.size) (N:Nat) (hP:∀ W,Calls Tryz.prog 115 #[.string (s.extract b s.size)] W fun e w' => e = .returned (.int .i64 (N:Nat)) ∧ w' = W) (hN:N ≤ 4096) (Q:Nat) (hQ:(if dn = true then -(N:Int) else (N:Int)) - ((k - j - 1:Nat):Int) = -(Q:Int)) (hQ0:0 < Q) (rg:Bool) (rx ry:List Nat) (ra re:Int) (hW:∀ W,Calls Tryz.prog 60 #[.bool g,.string (s.extract i j ++ s.extract (j + 1) k),.int .i64 0,.string ⟨#[49]⟩,.int .i64 (Q:Nat)] W fun e w' => PsPost W w' rg rx ry ra re e) (W:World) :
  Calls Tryz.prog 61 #[.string s,.bool g,.int .i64 (i:Nat),.int .i64 (j:Nat)] W fun e w' => PsPost W w' rg rx ry ra re e:=by
 have hb:=hg.lt
 have h48:=hg.low
 rcases hg.or with ⟨rfl,rfl⟩ | ⟨rfl,⟨c,rfl⟩ | ⟨c,rfl⟩⟩
 ·exact wdec_1Lod s g i j k W hs hl hjl hk r2 hjk hel hle hb (by omega) (by omega) s.size rm hb rfl N hP hN Q hQ hQ0 rg rx ry ra re hW
 ·exact wdec_1Lpd s g i j k W hs hl hjl hk r2 hjk hel hle (by omega) c (by omega) s.size rm hb rfl N hP hN Q hQ hQ0 rg rx ry ra re hW
 ·exact wdec_1Lmd s g i j k W hs hl hjl hk r2 hjk hel hle (by omega) (by omega) c s.size rm hb rfl N hP hN Q hQ hQ0 rg rx ry ra re hW
theorem dec_1 (hs:s.size ≤ 65536) (h:Hd s g i) (r:RunK s i j) (hl:i < j) (hjl:j < s.size) (hk:byA s j = 46) (h5:kdA s j = 5) (r2:RunK s (j + 1) k) (hjk:j + 1 < k):DcTwo s g i j:=by
 have mn:=mn_point h r hl h5 r2 hjk
 have hit:=r.top
 have hkt:=r2.top
 have sD:(s.extract i j ++ s.extract (j + 1) k).size ≤ 65536 ∧ 0 < (s.extract i j ++ s.extract (j + 1) k).size:=by
  rw [ByteArray.size_append,ByteArray.size_extract,ByteArray.size_extract]
  omega
 have dD:=dig_app (run_dig r) (run_dig r2)
 have hPL:(s.extract (j + 1) k).size = k - j - 1:=by rw [ByteArray.size_extract]; omega
 by_cases he:k = s.size
 ·have t:=ok_end mn he
  have T:Tk s g (s.extract i j) 0 ⟨#[]⟩ (s.extract (j + 1) k) 0 ⟨#[]⟩:=by
   have T:=tk_p h hs hl hjl t
   rw [← he] at T
   exact T
  refine ⟨_,_,_,_,_,fun W => wdec_1Nok s g i j k W hs hl hjl hk r2 hjk he _ _ _ _ _ (fun V => wwr_dn g _ (k - j - 1) V (by omega) sD.1 dD),fun W hT hB => ?_⟩
  exact rparse_dn g s _ _ ⟨#[]⟩ 0 (k - j - 1) 0 W hs hT hB (by omega) (by rw [hPL]; omega) (by omega) (by omega) T (fun V => readPower_nil V) sD.2 sD.1 dD
 ·have hel:k < s.size:=by omega
  by_cases h6:kdA s k = 6
  ·have hle:=(kd_six hel).1 h6
   obtain ⟨b,hg⟩:=sg_any s (k + 1)
   have hbt:=hg.le (by omega)
   obtain ⟨m,rm⟩:=runK_any s (s.size - b) b (by omega)
   by_cases hb:m = b ∨ m < s.size
   ·exact ⟨_,_,_,_,_,fun W => wdec_1bad hs hl hjl hk r2 hjk hel hle hg rm hb W,fun W _ hB => rparse_bad (bad_letter mn h6 hg rm hb) hs W hB⟩
   ·have hmt:=rm.top
    have hml:=rm.le
    obtain rfl:m = s.size:=by omega
    have hbl:b < s.size:=by omega
    obtain ⟨dn,pw⟩:∃ dn,Pw s (k + 1) b dn:=by
     have hlow:=((kd_one hbl).1 (rm.all b (Nat.le_refl _) hbl)).1
     rcases hg.or with ⟨hc,e2⟩ | ⟨hc,e2⟩
     ·have hsl:k + 1 < s.size:=by omega
      rcases hc with hc | hc
      ·exact ⟨true,hbl,hlow,.inr ⟨e2,.inr ⟨(kd_two hsl).1 hc,rfl⟩⟩⟩
      ·exact ⟨false,hbl,hlow,.inr ⟨e2,.inl ⟨(kd_three hsl).1 hc,rfl⟩⟩⟩
     ·exact ⟨false,hbl,hlow,.inl ⟨e2,rfl⟩⟩
    have t:=ok_letter mn h6 hg rm hbl rfl
    have T:=tk_b h hs hl (by omega) hel t
    have dd:=run_dig rm
    have sd:(s.extract b s.size).size ≤ 65536:=by rw [ByteArray.size_extract]; omega
    have KP:=fun W => wpower_any (s.extract b s.size) W sd dd
    by_cases hN:pwB (s.extract b s.size) (s.extract b s.size).size ≤ 4096
    ·have RP:=fun W => read_pw pw hs rm hN W
     rw [Nat.min_eq_left (by omega)] at KP
     generalize pwB (s.extract b s.size) (s.extract b s.size).size = N at KP RP hN
     have hZ:∃ z:Int,(if dn = true then -(N:Int) else (N:Int)) = z ∧ -4096 ≤ z ∧ z ≤ 4096:=by
      refine ⟨_,rfl,?_⟩
      split <;> omega
     obtain ⟨z,hz,hz1⟩:=hZ
     rw [hz] at RP
     by_cases hq:0 ≤ z - ((k - j - 1:Nat):Int)
     ·obtain ⟨Q,hQ⟩:=Int.eq_ofNat_of_zero_le hq
      refine ⟨_,_,_,_,_,fun W => wdec_1pu hs hl hjl hk r2 hjk hel hle pw rm N KP hN Q (by rw [hz]; exact hQ) _ _ _ _ _ (fun V => wwr_up g _ Q V (by omega) sD.1 dD) W,fun W hT hB => ?_⟩
      exact rparse_up g s _ _ _ k Q z W hs hT hB hz1 (by rw [hPL]; exact hQ) (by omega) T RP sD.2 sD.1 dD
     ·obtain ⟨Q,hQ⟩:=Int.eq_ofNat_of_zero_le (show 0 ≤ -(z - ((k - j - 1:Nat):Int)) by omega)
      have hQ':z - ((k - j - 1:Nat):Int) = -(Q:Int):=by omega
      refine ⟨_,_,_,_,_,fun W => wdec_1pd hs hl hjl hk r2 hjk hel hle pw rm N KP hN Q (by rw [hz]; exact hQ') (by omega) _ _ _ _ _ (fun V => wwr_dn g _ Q V (by omega) sD.1 dD) W,fun W hT hB => ?_⟩
      exact rparse_dn g s _ _ _ k Q z W hs hT hB hz1 (by rw [hPL]; exact hQ') (by omega) (by omega) T RP sD.2 sD.1 dD
    ·rw [Nat.min_eq_right (by omega)] at KP
     exact ⟨_,_,_,_,_,fun W => wdec_1pa hs hl hjl hk r2 hjk hel hle pw rm 4097 KP (by omega) (by omega) W,fun W hT hB => parse_zD g s _ _ _ _ 0 k W hs hT hB T rfl 0 (fun V => read_pw_no pw hs rm (by omega) V)⟩
  ·have h69:byA s k ≠ 101 ∧ byA s k ≠ 69:=by
    constructor
    ·exact fun c => h6 ((kd_six hel).2 (.inl c))
    ·exact fun c => h6 ((kd_six hel).2 (.inr c))
   exact ⟨_,_,_,_,_,fun W => wdec_1Nbad s g i j k W hs hl hjl hk r2 hjk hel h69.1 h69.2 ,fun W _ hB => rparse_bad (bad_end mn hel h6 (fun c => by omega)) hs W hB⟩
theorem pa_two (s:ByteArray):PaTwo s:=by
 by_cases hs:s.size ≤ 65536
 case neg => exact ⟨_,_,_,_,_,fun W => wparse_long s W (by omega),fun W _ _ => parse_long s W (by omega)⟩
 obtain ⟨g,i,h⟩:=hd_any s
 have hi:=h.st.2.2.1
 obtain ⟨j,r⟩:=runK_any s (s.size - i) i (by omega)
 have hle:=r.le
 have hjt:=r.top
 by_cases hij:j = i
 ·subst hij
  exact ⟨_,_,_,_,_,fun W => wp_B h hs r W,fun W _ hB => rparse_bad (bad_none h r) hs W hB⟩
 have hl:i < j:=by omega
 by_cases h4:kdA s j = 4
 ·have hjl:j < s.size:=kd_lt_top hjt (by omega)
  have h47:=(kd_four hjl).1 h4
  obtain ⟨k,r2⟩:=runK_any s (s.size - (j + 1)) (j + 1) (by omega)
  have hle2:=r2.le
  have hkt:=r2.top
  by_cases hb:k = j + 1 ∨ k < s.size
  ·refine ⟨_,_,_,_,_,fun W => ?_,fun W _ hB => rparse_bad (bad_slash h r hl h4 r2 hb) hs W hB⟩
   by_cases hk2:k = j + 1
   ·exact wp_C1 h hs r hl hjl h47 r2 hk2 W
   ·exact wp_C4 h hs r hl hjl h47 r2 (by omega) (by omega) W
  ·obtain rfl:k = s.size:=by omega
   have t:=ok_slash h r hl h4 r2 (by omega) rfl
   have T:=tk_n h hs hl hjl t
   have du:=run_dig r2
   have dd:=run_dig r
   have u1:(s.extract (j + 1) s.size).size ≤ 65536 ∧ 0 < (s.extract (j + 1) s.size).size:=by rw [ByteArray.size_extract]; omega
   have d1:(s.extract i j).size ≤ 65536 ∧ 0 < (s.extract i j).size:=by rw [ByteArray.size_extract]; omega
   obtain ⟨z,hz⟩:=zr_any (s.extract (j + 1) s.size)
   have hnil:=bare_nil hz du
   by_cases hU:pwB (s.extract (j + 1) s.size) (s.extract (j + 1) s.size).size = 0
   ·exact ⟨_,_,_,_,_,fun W => wp_C2 h hs r hl hjl h47 r2 (by omega) rfl z hz (hnil.2 hU) W,fun W hT hB => rparse_sl0 g s _ _ j W hs hT hB (by omega) T u1.1 du hU⟩
   ·refine ⟨_,_,_,_,_,fun W => wp_C3 h hs r hl hjl h47 r2 (by omega) rfl z hz (fun c => hU (hnil.1 c)) _ _ _ _ _ (fun V => ?_) W,fun W hT hB => rparse_sl g s _ _ j W hs hT hB (by omega) T d1.2 d1.1 dd u1.2 u1.1 du (by omega)⟩
    have K:=wwritten_any g (s.extract i j) (s.extract (j + 1) s.size) 0 0 V (by omega) (by omega) d1.1 u1.1 dd du (by omega)
    rw [Nat.pow_zero,Nat.mul_one,Nat.mul_one] at K
    exact K
 ·have D:DcTwo s g i j:=by
   by_cases h5:kdA s j = 5
   ·have hjl:j < s.size:=kd_lt_top hjt (by omega)
    have h46:=(kd_five hjl).1 h5
    obtain ⟨k,r2⟩:=runK_any s (s.size - (j + 1)) (j + 1) (by omega)
    have hle2:=r2.le
    by_cases hk2:k = j + 1
    ·subst hk2
     exact ⟨_,_,_,_,_,fun W => wdec_B s g i j W hs hl hjl h46 r2,fun W _ hB => rparse_bad (bad_point h r hl h5 r2) hs W hB⟩
    ·exact dec_1 hs h r hl hjl h46 h5 r2 (by omega)
   ·exact dec_0 hs h r hl h4 h5
  obtain ⟨rg,rx,ry,ra,re,D1,D2⟩:=D
  refine ⟨rg,rx,ry,ra,re,fun W => ?_,D2⟩
  by_cases hje:j = s.size
  ·exact wp_D1 h hs r hl hje _ _ _ _ _ D1 W
  ·exact wp_D2 h hs r hl (by omega) (fun c => h4 ((kd_four (by omega)).2 c)) _ _ _ _ _ D1 W
end
end Go.Proofs.YtmnlhnmlgncedaaGreatDoor
namespace Go.Proofs.YtmnlhnmlgncedaaGreatDoor
open Go.ChangeShapes Go.WideShapes Go.ChangeAt Go.RowKit Go.Deep
set_option linter.unusedVariables false

end Go.Proofs.YtmnlhnmlgncedaaGreatDoor
namespace Go.Proofs.YtmnlhnmlgncedaaGreatDoor
open Go.RowKit Go.Deep
set_option linter.unusedVariables false
set_option maxRecDepth 100000 in
set_option maxHeartbeats 16000000 in
theorem like_any (g1:Bool) (a1 b1 a2 b2:Option Addr) (n1 c1 m1 d1 n2 c2 m2 d2:Nat) (x1 y1:List Nat) (er:Int) (w:World) (hx1:Sl w a1 n1 c1 x1) (hy1:Sl w b1 m1 d1 y1) (hx2:Sl w a2 n2 c2 x1) (hy2:Sl w b2 m2 d2 y1) :
  Calls Tryz.prog 25 #[ratV g1 a1 n1 c1 b1 m1 d1,.int .i64 er,ratV g1 a2 n2 c2 b2 m2 d2,.int .i64 er] w fun e w' => e = .returned (.bool true) ∧ Below w.heap.size w w':=by
 have bx:=Box.made w g1 a1 n1 c1 b1 m1 d1
 obtain ⟨wa,hwa⟩:∃ wa,ratBox w g1 a1 n1 c1 b1 m1 d1 = wa:=⟨_,rfl⟩
 rw [hwa] at bx
 have by_:=Box.made wa g1 a2 n2 c2 b2 m2 d2
 obtain ⟨wb,hwb⟩:∃ wb,ratBox wa g1 a2 n2 c2 b2 m2 d2 = wb:=⟨_,rfl⟩
 rw [hwb] at by_
 have hba:Below w.heap.size w wa:=by rw [← hwa]; exact bAl
 have hbb:Below wa.heap.size wa wb:=by rw [← hwb]; exact bAl
 unfold ratBox at hwa hwb
 have bx2:=bx.keep hbb
 have by2:=by_
 have hB:=hba.trans (hbb.mono hba.size)
 have p0:=bx2.d0
 have p1:=bx2.d1
 have p2:=bx2.d2
 have p3:=by2.d0
 have p4:=by2.d1
 have p5:=by2.d2
 have HBo:=Hj hB
 have K:=fun (W:World) (hb:Below wb.heap.size wb W) => sameRat_any g1 g1 a1 b1 a2 b2 n1 c1 m1 d1 n2 c2 m2 d2 x1 y1 x1 y1 W ((hx1.below hB).below hb) ((hy1.below hB).below hb) ((hx2.below hB).below hb) ((hy2.below hB).below hb)
 have hs:sameR g1 x1 y1 g1 x1 y1 = true:=by unfold sameR; simp
 rw [hs] at K
 have HK:=Hj K
 have te:(er == er) = true:=by simp
 clear K hx1 hy1 hx2 hy2 bx by_ bx2 by2 hba hbb hB hs
 unfold ratV at HK ⊢
 go_enter Tryz.func25,Tryz.ntmps25
 go_wp2_with fail
 refine (rnum2_any er wb).mono ?_
 rintro _ _ ⟨rfl,hw⟩
 obtain rfl:=hw.symm
 clear hw
 go_wp2_with fail
 refine (Uh HK _ (Below.refl _ _)).mono ?_
 rintro _ w1 ⟨rfl,b1'⟩
 have HB1:=Hj ((Uh HBo).trans (b1'.mono (Uh HBo).size))
 clear b1' HK
 go_wp2_with fail
 go_ret
 exact ⟨rfl,Uh HB1⟩
end Go.Proofs.YtmnlhnmlgncedaaGreatDoor
namespace Go.Proofs.YtmnlhnmlgncedaaGreatDoor
open Go.ChangeShapes Go.WideShapes Go.ChangeAt Go.RowKit Go.Deep
set_option linter.unusedVariables false
set_option maxRecDepth 100000 in
set_option maxHeartbeats 64000000 in
theorem rationalParses_walk (t_s:ByteArray) (w:World)  (hT:Tab64 w) (hTB:TabBh w) :
  Calls Tryz.prog 5 #[.string t_s] w fun e w' => e = .returned (.bool true) ∧ Below w.heap.size w w':=by
 have A00:Fcts w w [fTab]:=⟨Below.refl _ _,fun f hf => by simp at hf; subst hf; exact hT⟩
 have A0:=Hj A00
 obtain ⟨rg,rx,ry,ra,re,KD,KP⟩:=pa_two t_s
 have HD:=Hj KD
 have HP:=Hj KP
 have HT2:=Hj hTB
 clear KD KP hTB
 clear A00 hT 
 go_enter Tryz.func5,Tryz.ntmps5
 go_wp2_with fail
 have K:=Uh HP w ((Uh A0).tab (.head _)) (Uh HT2)
 refine K.mono ?_
 clear K
 rintro _ w1 ⟨v,rfl,a_r,n_r,c_r,b_r,m_r,d_r,rfl,sx,sy,nx,ny,hb⟩
 unfold ratV
 have Aw1:=Hj (((Uh A0).step hb).add (fN a_r n_r c_r rx b_r m_r d_r ry) ⟨sx,sy⟩)
 clear A0 sx sy nx ny hb
 obtain ⟨w2,hw2⟩:∃ x,w1.alloc (.cells #[.bool rg,.slice a_r n_r c_r,.slice b_r m_r d_r] 25) = x:=⟨_,rfl⟩
 have Aw2:=Hj ((Uh Aw1).box (.bool rg) (.slice a_r n_r c_r) (.slice b_r m_r d_r) 25)
 rw [hw2] at Aw2
 clear Aw1
 go_wp2_with fail
 have K:=Uh HD w2
 refine K.mono ?_
 clear K
 rintro _ w3 ⟨v,rfl,a_t,n_t,c_t,b_t,m_t,d_t,rfl,sx,sy,nx,ny,hb⟩
 unfold ratV
 have Aw3:=Hj (((Uh Aw2).step hb).add (fN a_t n_t c_t rx b_t m_t d_t ry) ⟨sx,sy⟩)
 clear Aw2 sx sy nx ny hb
 obtain ⟨w4,hw4⟩:∃ x,w3.alloc (.cells #[.bool rg,.slice a_t n_t c_t,.slice b_t m_t d_t] 25) = x:=⟨_,rfl⟩
 have Aw4:=Hj ((Uh Aw3).box (.bool rg) (.slice a_t n_t c_t) (.slice b_t m_t d_t) 25)
 rw [hw4] at Aw4
 clear Aw3
 have tq:(ra == ra) = true:=by simp
 have t5:=(Uh Aw4).r (w1.heap.size) (.bool rg) (.slice a_r n_r c_r) (.slice b_r m_r d_r) mM2
 have t5a:=t5.c0
 have t5b:=t5.c1
 have t5c:=t5.c2
 clear t5
 have t6:=(Uh Aw4).r (w3.heap.size) (.bool rg) (.slice a_t n_t c_t) (.slice b_t m_t d_t) (.head _)
 have t6a:=t6.c0
 have t6b:=t6.c1
 have t6c:=t6.c2
 clear t6
 go_wp2_with fail
 clear t5a t5b t5c t6a t6b t6c
 have K:=like_any rg a_r b_r a_t b_t n_r c_r m_r d_r n_t c_t m_t d_t rx ry re w4 ((Uh Aw4).n (a_r) n_r c_r (rx) (b_r) m_r d_r (ry) mM3).num ((Uh Aw4).n (a_r) n_r c_r (rx) (b_r) m_r d_r (ry) mM3).den ((Uh Aw4).n (a_t) n_t c_t (rx) (b_t) m_t d_t (ry) mM1).num ((Uh Aw4).n (a_t) n_t c_t (rx) (b_t) m_t d_t (ry) mM1).den
 try unfold ratV at K
 refine K.mono ?_
 clear K
 rintro _ w7 ⟨rfl,hb⟩
 have Aw7:=Hj ((Uh Aw4).step hb)
 clear Aw4 hb
 go_wp2_with fail
 refine (ralive_any w7 ((Uh Aw7).tab mM4)).mono ?_
 rintro _ wz ⟨rfl,hb⟩
 have HZ:=Hj (((Uh Aw7).step hb).bel)
 clear hb
 go_wp2_with fail
 go_ret
 exact ⟨rfl,Uh HZ⟩
end Go.Proofs.YtmnlhnmlgncedaaGreatDoor
