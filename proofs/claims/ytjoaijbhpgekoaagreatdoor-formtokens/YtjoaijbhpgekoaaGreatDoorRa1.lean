/- Pa7 -/
import Derived.Test.YtjoaijbhpgekoaaGreatDoorPa6
import Derived.Test.YtjoaijbhpgekoaaGreatDoorPa2
import Derived.Test.YtjoaijbhpgekoaaGreatDoorCopy
import Derived.Test.YtjoaijbhpgekoaaGreatDoorGiv2
import Derived.Test.YtjoaijbhpgekoaaGreatDoorShl
import Derived.Test.YtjoaijbhpgekoaaGreatDoorRd1
import Derived.Test.YtjoaijbhpgekoaaGreatDoorMul
import Derived.Test.YtjoaijbhpgekoaaGreatDoorRSh
import Derived.Test.YtjoaijbhpgekoaaGreatDoorDv4
import Derived.Test.YtjoaijbhpgekoaaGreatDoorRd3
import Derived.Deep.LoopGhost
import Derived.Test.YtjoaijbhpgekoaaGreatDoorShN
namespace Go.Proofs.YtjoaijbhpgekoaaGreatDoor
open Go.RowKit Go.Deep
set_option linter.unusedVariables false
structure RpR (s:ByteArray) (b i:Nat) (w wr:World) (a:Option Addr) (n c:Nat) (zs:List Nat):Prop where
 sl:Sl wr a n c zs
 rep:Rep (numP s b i) zs
 le:n ≤ 2048
 bel:Below w.heap.size w wr

set_option maxRecDepth 20000 in
set_option maxHeartbeats 16000000 in
theorem rparse_any (s : ByteArray) (b : Int) (w : World) :
    Calls Tryz.prog 33 #[.string s, .int .i64 b] w fun e w' => PaPost s b w e w' := by
  by_cases hl : 65536 < s.size
  · have HL := hide hl
    have hl' : (65536:Int) < (s.size:Int) := by omega
    go_enter Tryz.func33, Tryz.ntmps33
    go_wp2_with fail
    go_ret3
    exact ⟨none, 0, 0, [], _, _, rfl, sl_nil _, Below.refl _ _, .long (unhide HL)⟩
  · have HL := hide hl
    have hl' : ¬ (65536:Int) < (s.size:Int) := by omega
    by_cases hb1 : b < 2
    · go_enter Tryz.func33, Tryz.ntmps33
      go_wp2_with fail
      go_ret3
      exact ⟨none, 0, 0, [], _, _, rfl, sl_nil _, Below.refl _ _, .base (by have := unhide HL; omega) (by omega)⟩
    by_cases hb2 : 36 < b
    · go_enter Tryz.func33, Tryz.ntmps33
      go_wp2_with fail
      go_ret3
      exact ⟨none, 0, 0, [], _, _, rfl, sl_nil _, Below.refl _ _, .base (by have := unhide HL; omega) (by omega)⟩
    obtain ⟨k, rfl⟩ : ∃ k : Nat, b = (k : Int) := ⟨b.toNat, by omega⟩
    have HB : Hid ((2:Int) ≤ (k:Int) ∧ (k:Int) ≤ 36) := by constructor <;> omega
    have k1 : 2 ≤ k := by omega
    have k2 : k ≤ 36 := by omega
    by_cases h0 : s.size = 0
    · have h0' : (s.size:Int) = 0 := by omega
      have H0 := hide h0
      clear h0
      go_enter Tryz.func33, Tryz.ntmps33
      go_wp2_with fail
      go_ret3
      exact ⟨none, 0, 0, [], _, _, rfl, sl_nil _, Below.refl _ _, .none (unhide H0) (unhide HB)⟩
    have h0' : ¬ (s.size:Int) = 0 := by omega
    go_enter Tryz.func33, Tryz.ntmps33
    go_wp2_with fail
    go_loop [7] (fun iv => ∃ i : Nat, i ≤ s.size ∧ iv = .int .i64 (i : Nat) ∧ Hid (∀ j, j < i → dig s j < k)) (fun iv => s.size - (intOf iv).toNat)
    case atStart => exact ⟨0, Nat.zero_le _, rfl, fun j hj => by omega⟩
    case round =>
      obtain ⟨i, hi, rfl, HA⟩ := hrel
      by_cases hlt : i < s.size
      · have hlt' : (i:Int) < (s.size:Int) := by omega
        have his := hlt
        go_wp2_with fail
        refine (rdigit_any _ (by have := (s[i]'his).toNat_lt; omega) _).mono ?_
        rintro e w' ⟨rfl, hw⟩
        obtain rfl := hw.symm
        clear hw
        rw [dig_of his]
        by_cases hd : dig s i < k
        · have HA2 := hide (show ∀ j, j < i + 1 → dig s j < k from fun j hj => by
            by_cases e : j = i
            · rw [e]; exact hd
            · exact unhide HA j (by omega))
          have hd' : ¬ (k:Int) ≤ (dig s i : Int) := by omega
          generalize dig s i = D at hd hd' ⊢
          clear HA
          go_wp2_with fail
          exact ⟨⟨i + 1, by omega, by go_num, unhide HA2⟩, by simp [intOf]; omega⟩
        · have hd' : (k:Int) ≤ (dig s i : Int) := by omega
          have HD := hide hd
          generalize hg : dig s i = D at hd hd' ⊢
          clear hg
          go_wp2_with fail
          go_ret3
          exact ⟨none, 0, 0, [], _, _, rfl, sl_nil _, Below.refl _ _, .digit i (by have := unhide HL; omega) (unhide HB) ⟨by omega, unhide HA, .inr (by have := unhide HD; simp only [Int.toNat_natCast]; omega)⟩ his⟩
      · have hin : i = s.size := by omega
        have HALL := hide (show ∀ j, j < s.size → dig s j < k from fun j hj => unhide HA j (by omega))
        have hlt' : ¬ (i:Int) < (s.size:Int) := by omega
        clear HA hin
        go_wp2_with fail
        go_loopw [8, 9] (fun v iv wr => ∃ (j : Nat) (a : Option Addr) (n c : Nat) (zs : List Nat), j ≤ s.size ∧ iv = .int .i64 (j : Nat) ∧ v = .slice a n c ∧ RpR s k j w wr a n c zs) (fun _ iv _ => s.size - (intOf iv).toNat)
        case atStart => exact ⟨0, none, 0, 0, [], Nat.zero_le _, rfl, rfl, sl_nil _, ⟨Ok.nil, .inl rfl, rfl⟩, Nat.zero_le _, Below.refl _ _⟩
        case round =>
          obtain ⟨j, a, n, c, zs, hj, rfl, rfl, hR⟩ := hrel
          by_cases hjl : j < s.size
          · have hjl' : (j:Int) < (s.size:Int) := by omega
            have hRd : RpR s k j w wr.drew a n c zs := ⟨hR.sl.below (Below.refl _ _).drew, hR.rep, hR.le, hR.bel.drew⟩
            have HR := hide hRd
            have hn := hR.le
            have K1 := hide (rfrom_any k wr.drew (by omega))
            have hD := dig_le s j
            obtain ⟨D, hDe⟩ : ∃ D, dig s j = D := ⟨_, rfl⟩
            have HD := hide hDe
            have KD := hide (fun wx => rdigit_any _ (by have := (s[j]'hjl).toNat_lt; omega) wx)
            rw [dig_of hjl, hDe] at KD
            rw [hDe] at hD
            have wk : IntKind.u64.wrap (k:Int) = (k:Int) := by rw [IntKind.wrap_u64]; omega
            have wD : IntKind.u64.wrap (D:Int) = (D:Int) := by rw [IntKind.wrap_u64]; omega
            clear hR hRd hDe
            go_wp2_with fail
            go_region_with (first
              | (go_at_call 35
                 refine (unhide K1).mono ?_
                 clear K1
                 rintro _ w1 ⟨a1, m1, y1, rfl, s1, r1, n1, b1⟩
                 have l1 : m1 ≤ 1 := by
                   have h1 := rep_len_le5 r1 (j := 1) (by omega)
                   have h2 := s1.len
                   omega
                 have H1 := hide (And.intro s1 (And.intro r1 b1))
                 have K2 := hide (rtimes_any a a1 n c m1 m1 zs y1 w1 ((unhide HR).sl.below (unhide H1).2.2) (unhide H1).1 (unhide HR).rep.ok (unhide H1).2.1.ok (by omega))
                 clear s1 r1 n1 b1)
              | (go_at_call 51
                 refine (unhide K2).mono ?_
                 clear K2
                 rintro _ w2 ⟨z2, rfl, s2, o2, v2, b2⟩
                 have H2 := hide (And.intro s2 (And.intro o2 (And.intro v2 b2)))
                 have K3 := hide (rfrom_any D w2 (by omega))
                 clear s2 o2 v2 b2)
              | (go_at_call 48
                 refine (unhide KD _).mono ?_
                 rintro _ _ ⟨rfl, hw⟩
                 obtain rfl := hw.symm
                 clear hw)
              | (go_at_call 35
                 refine (unhide K3).mono ?_
                 clear K3
                 rintro _ w3 ⟨a3, m3, y3, rfl, s3, r3, n3, b3⟩
                 have l3 : m3 ≤ 1 := by
                   have h1 := rep_len_le5 r3 (j := 1) (by omega)
                   have h2 := s3.len
                   omega
                 have H3 := hide (And.intro s3 (And.intro r3 b3))
                 have K4 := hide (rplus_any _ a3 (n + m1) (n + m1) m3 m3 z2 y3 w3 ((unhide H2).1.below (unhide H3).2.2) (unhide H3).1 (unhide H2).2.1 (unhide H3).2.1.ok (by omega) (by omega))
                 clear s3 r3 n3 b3)
              | (go_at_call 50
                 refine (unhide K4).mono ?_
                 clear K4
                 rintro _ w4 ⟨a4, m4, c4, z4, rfl, l4, s4, o4, v4, n4, b4⟩
                 have H4 := hide (And.intro s4 (And.intro o4 (And.intro v4 b4)))
                 have K5 := hide (rtrim_any a4 m4 c4 z4 w4 (unhide H4).1 (unhide H4).2.1 (by omega))
                 clear s4 o4 v4 n4 b4)
              | (go_at_call 49
                 refine (unhide K5).mono ?_
                 clear K5
                 rintro _ w5 ⟨a5, m5, z5, rfl, s5, r5, n5, b5⟩
                 have H5 := hide (And.intro s5 (And.intro r5 b5))
                 clear s5 r5 n5 b5))
            all_goals
              obtain ⟨s5, r5, b5⟩ := unhide H5
              have hval : val z4 = numP s k (j + 1) := by
                rw [(unhide H4).2.2.1, (unhide H2).2.2.1, (unhide HR).rep.val, (unhide H1).2.1.val, (unhide H3).2.1.val, numP_add s k j 1, ← unhide HD]
                simp [numS]
              rw [hval] at r5
              have hbel : Below w.heap.size w w5 := by
                have h0 := (unhide HR).bel
                have h1 := h0.size
                have h2 := (unhide H1).2.2
                have h3 := h2.size
                have h4 := (unhide H2).2.2.2
                have h5 := h4.size
                have h6 := (unhide H3).2.2
                have h7 := h6.size
                have h8 := (unhide H4).2.2.2
                have h9 := h8.size
                exact h0.trans ((h2.mono (by omega)).trans ((h4.mono (by omega)).trans ((h6.mono (by omega)).trans ((h8.mono (by omega)).trans (b5.mono (by omega))))))
              have hlen := s5.len
              have HQ := hide (And.intro s5 (And.intro r5 (And.intro hbel hlen)))
              clear s5 r5 hbel hlen hval b5 H1 H2 H3 H4 H5
              by_cases hbig : 2048 < m5
              · have hbig' : (2048:Int) < (m5:Int) := by omega
                have hfit : fitL (numP s k s.size) = ([], 2) := by
                  refine fitL_big ?_
                  have hh := unhide HQ
                  have h5 := limbs_len_mono5 (numP_mono s (b := k) (by omega) (j + 1) (s.size - (j + 1)))
                  rw [show j + 1 + (s.size - (j + 1)) = s.size from by omega, ← hh.2.1.eq] at h5
                  omega
                have HF := hide hfit
                clear hfit
                go_wp2_with fail
                go_ret3
                exact ⟨none, 0, 0, [], _, _, rfl, sl_nil _, (unhide HQ).2.2.1, .read [] 2 (by have := unhide HL; omega) (by omega) (unhide HB) (unhide HALL) (unhide HF)⟩
              · have hbig' : ¬ (2048:Int) < (m5:Int) := by omega
                go_wp2_with fail
                exact ⟨⟨j + 1, a5, m5, m5, z5, by omega, by go_num, rfl, (unhide HQ).1, (unhide HQ).2.1, by omega, (unhide HQ).2.2.1⟩, by simp [intOf]; omega⟩
          · have hjl' : ¬ (j:Int) < (s.size:Int) := by omega
            have hje : j = s.size := by omega
            have hfit : fitL (numP s k s.size) = (zs, 0) := by
              have e := (limbs_rep (numP s k s.size)).unique (by rw [← hje]; exact hR.rep)
              have hl := hR.sl.len
              have := hR.le
              rw [fitL_ok (by rw [e]; omega), e]
            have HF := hide (And.intro hR hfit)
            clear hfit hje hR
            go_wp2_with fail
            go_ret3
            exact ⟨a, n, c, zs, _, _, rfl, (unhide HF).1.sl, (unhide HF).1.bel, .read zs 0 (by have := unhide HL; omega) (by omega) (unhide HB) (unhide HALL) (unhide HF).2⟩
theorem limbs_ok (v:Nat):Ok (limbs v):=(limbs_rep v).ok
theorem limbs_norm (v:Nat):Norm (limbs v):=(limbs_rep v).norm
theorem limbs_v (v:Nat):val (limbs v) = v:=(limbs_rep v).val
theorem limbs_len {v j:Nat} (hv:v < 4294967296 ^ j):(limbs v).length ≤ j:=by
 rcases Nat.lt_or_ge j (limbs v).length with k | k
 ·exfalso
  have hz:limbs v ≠ []:=by intro e; rw [e] at k; simp at k
  have h1:=val_ge_of_norm (limbs_norm v) hz
  rw [limbs_v] at h1
  have h2:4294967296 ^ j ≤ 4294967296 ^ ((limbs v).length - 1):=Nat.pow_le_pow_right (by decide) (by omega)
  omega
 ·exact k
theorem limbs_eq_nil {v:Nat}:limbs v = [] ↔ v = 0:=by
 constructor
 ·intro h; have:=limbs_v v; rw [h] at this; exact this.symm
 ·rintro rfl; rfl
section
variable {P:Program} {w:World}
end








set_option maxHeartbeats 4000000 in
theorem isOne_any (a:Option Addr) (n c:Nat) (xs:List Nat) (w:World) (h:Sl w a n c xs) (ok:Ok xs) :
  Calls Tryz.prog 87 #[.slice a n c] w fun e w' => e = .returned (.bool (decide (xs = [1]))) ∧ w' = w:=by
 have hl:=h.len
 by_cases h1:n = 1
 ·subst h1
  obtain ⟨x,rfl⟩:∃ x,xs = [x]:=by
   match xs,hl with
   | [x],_ => exact ⟨x,rfl⟩
  obtain ⟨b,off,rfl,hc⟩:=h.cells.resolve_left (by simp)
  have c0:=hc 0 (by simp)
  have hx:=ok.head
  simp only [List.getD,List.getElem?_cons_zero,Option.getD_some] at c0
  rw [Nat.add_zero] at c0
  clear hc h
  by_cases hx1:x = 1
  ·subst hx1
   go_enter Tryz.func87,Tryz.ntmps87
   go_wp2_with fail
   go_ret
   exact ⟨by simp,rfl⟩
  ·have t1:((x:Int) == 1) = false:=by simp; omega
   have t2:¬ (x:Int) = 1:=by omega
   go_enter Tryz.func87,Tryz.ntmps87
   go_wp2_with fail
   go_ret
   exact ⟨by simp [hx1],rfl⟩
 ·have t1:((n:Int) == 1) = false:=by simp; omega
  have t2:¬ (n:Int) = 1:=by omega
  have hne:¬ xs = [1]:=by intro e; rw [e] at hl; simp at hl; omega
  have HN:=Hj hne
  clear h hne
  go_enter Tryz.func87,Tryz.ntmps87
  go_wp2_with fail
  go_ret
  exact ⟨by simp [Uh HN],rfl⟩

set_option maxHeartbeats 4000000 in
theorem ratOne_any (w:World) :
  Calls Tryz.prog 61 #[] w fun e w' => ∃ a m,e = .returned (.slice a m m) ∧ Sl w' a m m [1] ∧ NewAt w.heap.size a ∧ Below w.heap.size w w':=by
 have K:=Hj (from_any 1 w (by decide))
 go_enter Tryz.func61,Tryz.ntmps61
 go_wp2_with fail
 refine (Uh K).mono ?_
 rintro _ w1 ⟨a1,m1,y1,rfl,s1,r1,n1,b1⟩
 have e1:y1 = [1]:=r1.unique ⟨Ok.cons (by decide) Ok.nil,.inr (by decide),by simp [val]⟩
 subst e1
 have H:=Hj (And.intro s1 (And.intro n1 b1))
 clear s1 r1 n1 b1 K
 go_wp2_with fail
 go_ret
 exact ⟨a1,m1,rfl,(Uh H).1,(Uh H).2.1,(Uh H).2.2⟩

theorem sure_any (v:Value) (e:Int) (w:World):Calls Tryz.prog 60 #[v,.int .i64 e] w fun x w' => x = .returned v ∧ w' = w:=by
 go_enter Tryz.func60,Tryz.ntmps60
 go_wp2
 go_ret
 exact ⟨rfl,rfl⟩

def NewN (w w':World) (v:Nat) (e:Ending):Prop:=∃ a m c,e = .returned (.slice a m c) ∧ Sl w' a m c (limbs v) ∧ NewAt w.heap.size a ∧ Below w.heap.size w w'

theorem limbs_1:limbs 1 = [1]:=by decide

set_option maxHeartbeats 4000000 in
theorem ratDivisor_any (a1 a2:Option Addr) (n1 c1 n2 c2:Nat) (xs ys:List Nat) (w:World) (h1:Sl w a1 n1 c1 xs) (h2:Sl w a2 n2 c2 ys) (ox:Ok xs) (oy:Ok ys) (m1:MayL xs = true) (m2:MayL ys = true) (hT:Tab64 w) :
  Calls Tryz.prog 62 #[.slice a1 n1 c1,.slice a2 n2 c2] w fun e w' => NewN w w' (Nat.gcd (val xs) (val ys)) e:=by
 have K1:=isOne_any a1 n1 c1 xs w h1 ox
 have K2:=isOne_any a2 n2 c2 ys w h2 oy
 have KG:=ngcd_any a1 a2 n1 c1 n2 c2 xs ys w h1 h2 ox oy hT
 rw [show gcdL xs ys = (limbs (Nat.gcd (val xs) (val ys)),0) from by simp [gcdL,m1,m2]] at KG
 have KO:=Hj (ratOne_any w)
 have KG':=Hj KG
 clear KG h1 h2 ox oy m1 m2 hT
 by_cases e1:xs = [1]
 ·rw [decide_eq_true e1] at K1
  have HV:=Hj (show Nat.gcd (val xs) (val ys) = 1 from by rw [e1]; simp [val])
  have K1':=Hj K1
  clear K1 K2 e1 KG'
  go_enter Tryz.func62,Tryz.ntmps62
  go_wp2_with fail
  refine (Uh K1').mono ?_
  rintro _ _ ⟨rfl,hw⟩
  obtain rfl:=hw.symm
  clear hw
  go_wp2_with fail
  refine (Uh KO).mono ?_
  rintro _ w1 ⟨a3,m3,rfl,s3,n3,b3⟩
  have H:=Hj (And.intro s3 (And.intro n3 b3))
  clear s3 n3 b3
  go_wp2_with fail
  go_ret
  rw [Uh HV]
  exact ⟨a3,m3,m3,rfl,by rw [limbs_1]; exact (Uh H).1,(Uh H).2.1,(Uh H).2.2⟩
 ·rw [decide_eq_false e1] at K1
  by_cases e2:ys = [1]
  ·rw [decide_eq_true e2] at K2
   have HV:=Hj (show Nat.gcd (val xs) (val ys) = 1 from by rw [e2]; simp [val])
   have K1':=Hj K1
   have K2':=Hj K2
   clear K1 K2 e1 e2 KG'
   go_enter Tryz.func62,Tryz.ntmps62
   go_wp2_with fail
   refine (Uh K1').mono ?_
   rintro _ _ ⟨rfl,hw⟩
   obtain rfl:=hw.symm
   clear hw
   go_wp2_with fail
   refine (Uh K2').mono ?_
   rintro _ _ ⟨rfl,hw⟩
   obtain rfl:=hw.symm
   clear hw
   go_wp2_with fail
   refine (Uh KO).mono ?_
   rintro _ w1 ⟨a3,m3,rfl,s3,n3,b3⟩
   have H:=Hj (And.intro s3 (And.intro n3 b3))
   clear s3 n3 b3
   go_wp2_with fail
   go_ret
   rw [Uh HV]
   exact ⟨a3,m3,m3,rfl,by rw [limbs_1]; exact (Uh H).1,(Uh H).2.1,(Uh H).2.2⟩
  ·rw [decide_eq_false e2] at K2
   have K1':=Hj K1
   have K2':=Hj K2
   clear K1 K2 e1 e2 KO
   generalize Nat.gcd (val xs) (val ys) = G at *
   go_enter Tryz.func62,Tryz.ntmps62
   go_wp2_with fail
   refine (Uh K1').mono ?_
   rintro _ _ ⟨rfl,hw⟩
   obtain rfl:=hw.symm
   clear hw
   go_wp2_with fail
   refine (Uh K2').mono ?_
   rintro _ _ ⟨rfl,hw⟩
   obtain rfl:=hw.symm
   clear hw
   go_wp2_with fail
   refine (Uh KG').mono ?_
   rintro _ w1 ⟨a3,m3,c3,rfl,s3,n3,b3⟩
   have H:=Hj (And.intro s3 (And.intro n3 b3))
   clear s3 n3 b3
   go_wp2_with fail
   refine (sure_any _ _ _).mono ?_
   rintro _ _ ⟨rfl,hw⟩
   obtain rfl:=hw.symm
   clear hw
   go_wp2_with fail
   go_ret
   exact ⟨a3,m3,c3,rfl,(Uh H).1,(Uh H).2.1,(Uh H).2.2⟩

def OldN (w w':World) (a:Option Addr) (n c:Nat) (v:Nat) (e:Ending):Prop:=∃ a' m c',e = .returned (.slice a' m c') ∧ Sl w' a' m c' (limbs v) ∧ (NewAt w.heap.size a' ∨ (a' = a ∧ m = n ∧ c' = c)) ∧ Below w.heap.size w w'

set_option maxHeartbeats 4000000 in
theorem ratQuotient_any (a1 a2:Option Addr) (n1 c1 n2 c2:Nat) (xs ys:List Nat) (w:World) (h1:Sl w a1 n1 c1 xs) (h2:Sl w a2 n2 c2 ys) (ox:Ok xs) (oy:Ok ys) (m1:MayL xs = true) (m2:MayL ys = true) (hy:ys ≠ []) :
  Calls Tryz.prog 65 #[.slice a1 n1 c1,.slice a2 n2 c2] w fun e w' => OldN w w' a1 n1 c1 (val xs / val ys) e:=by
 have K2:=isOne_any a2 n2 c2 ys w h2 oy
 have KD:=ndivmod_any a1 a2 n1 c1 n2 c2 xs ys w h1 h2 ox oy
 rw [show divL xs ys = (limbs (val xs / val ys),limbs (val xs % val ys),0) from by simp [divL,m1,m2,hy]] at KD
 have KD':=Hj KD
 clear KD
 by_cases e2:ys = [1]
 ·rw [decide_eq_true e2] at K2
  have HV:=Hj (show limbs (val xs / val ys) = xs from by rw [e2]; simp [val]; exact limbs_val ox (MayL.norm m1))
  have K2':=Hj K2
  have H1:=Hj h1
  clear K2 e2 KD' h1 h2
  go_enter Tryz.func65,Tryz.ntmps65
  go_wp2_with fail
  refine (Uh K2').mono ?_
  rintro _ _ ⟨rfl,hw⟩
  obtain rfl:=hw.symm
  clear hw
  go_wp2_with fail
  go_ret
  exact ⟨a1,n1,c1,rfl,by rw [Uh HV]; exact Uh H1,.inr ⟨rfl,rfl,rfl⟩,Below.refl _ _⟩
 ·rw [decide_eq_false e2] at K2
  have K2':=Hj K2
  clear K2 e2 h1 h2
  generalize val xs / val ys = Q at *
  generalize val xs % val ys = R at *
  go_enter Tryz.func65,Tryz.ntmps65
  go_wp2_with fail
  refine (Uh K2').mono ?_
  rintro _ _ ⟨rfl,hw⟩
  obtain rfl:=hw.symm
  clear hw
  go_wp2_with fail
  refine (Uh KD').mono ?_
  rintro _ w1 ⟨aq,mq,cq,ar,mr,cr,rfl,s1,q1,s2,q2,_,hB⟩
  have H:=Hj (And.intro s1 (And.intro q1 hB))
  clear s1 q1 s2 q2 hB
  go_wp2_with fail
  go_ret
  exact ⟨aq,mq,cq,rfl,(Uh H).1,.inl (Uh H).2.1,(Uh H).2.2⟩
end Go.Proofs.YtjoaijbhpgekoaaGreatDoor
