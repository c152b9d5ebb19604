/- Txp -/
import Derived.Test.YtmnlhnmlgncedaaGreatDoorPa2
import Derived.Test.YtmnlhnmlgncedaaGreatDoorPa6
import Derived.Test.YtmnlhnmlgncedaaGreatDoorUpd
import Derived.Test.YtmnlhnmlgncedaaGreatDoorBase
namespace Go.Proofs.YtmnlhnmlgncedaaGreatDoor
open Go.RowKit Go.Deep
set_option linter.unusedVariables false
theorem strB_size (bs:List Nat):(strB bs).size = bs.length:=by unfold strB; rw [strOfNums_size]; simp
theorem strB_get {bs:List Nat} {p:Nat} (hp:p < bs.length) (h:bs.getD p 0 < 256):((strB bs).get! p).toNat = bs.getD p 0:=by
 have e:(strB bs).get! p = UInt8.ofNat (bs.getD p 0):=by
  show (strB bs).data[p]! = _
  unfold strB strOfNums
  simp [hp,List.getD]
 rw [e]
 simp only [UInt8.toNat_ofNat']
 omega
theorem digitN_chrN {d:Nat} (h:d < 36):digitN (chrN d) = d:=by
 unfold chrN digitN
 by_cases h9:d < 10
 ·rw [if_pos h9,if_pos (by omega)]; omega
 ·rw [if_neg h9,if_neg (by omega),if_pos (by omega)]; omega

theorem dig_txt {V b n p:Nat} (hb:2 ≤ b) (hb2:b ≤ 36) (hp:p < n):dig (strB (txtL V b n)) p = dgt V b (n - 1 - p):=by
 have hl:(txtL V b n).length = n:=lst_len _ _
 have hg:(txtL V b n).getD p 0 = chrN (dgt V b (n - 1 - p)):=lst_getD _ _ _ hp
 unfold dig
 rw [strB_get (by rw [hl]; exact hp) (by rw [hg]; exact chr_ok V hb hb2 _),hg]
 exact digitN_chrN (by have:=dgt_lt V (n - 1 - p) (b:=b) (by omega); omega)

theorem num_txt {V b n:Nat} (hb:2 ≤ b) (hb2:b ≤ 36) (hV:V < b ^ n):numP (strB (txtL V b n)) b n = V:=by
 have h:∀ k,k ≤ n → numS (strB (txtL V b n)) b 0 k = V / b ^ (n - k):=by
  intro k
  induction k with
  | zero => intro _; simp only [numS,Nat.sub_zero]; rw [Nat.div_eq_of_lt hV]
  | succ k ih =>
   intro hk
   simp only [numS]
   rw [ih (by omega),Nat.zero_add,dig_txt hb hb2 (by omega)]
   unfold dgt
   rw [show n - k = (n - 1 - k) + 1 from by omega,Nat.pow_succ,← Nat.div_div_eq_div_mul,show n - (k + 1) = n - 1 - k from by omega,Nat.mul_comm,Nat.div_add_mod]
 have:=h n (Nat.le_refl _)
 rw [Nat.sub_self,Nat.pow_zero,Nat.div_one] at this
 exact this
theorem lastS_none {s:ByteArray} {v:Nat}:∀ {N:Nat},(∀ j,j < N → stS s (j + 1) ≠ v) → lastS s v N = 0
 | 0,_ => rfl
 | N + 1,h => by
  unfold lastS
  rw [if_neg (h N (Nat.lt_succ_self N))]
  exact lastS_none fun j hj => h j (by omega)
theorem lastS_at {s:ByteArray} {v p:Nat}:∀ {N:Nat},p < N → stS s (p + 1) = v → (∀ j,p < j → j < N → stS s (j + 1) ≠ v) → lastS s v N = p
 | 0,h,_,_ => by omega
 | N + 1,h,hp,hn => by
  unfold lastS
  by_cases e:p = N
  ·subst e
   rw [if_pos hp]
  ·rw [if_neg (hn N (by omega) (by omega))]
   exact lastS_at (by omega) hp fun j h1 h2 => hn j h1 (by omega)
theorem hasS_none {s:ByteArray} {v:Nat}:∀ {N:Nat},(∀ j,j < N → stS s (j + 1) ≠ v) → hasS s v N = false
 | 0,_ => rfl
 | N + 1,h => by
  unfold hasS
  rw [if_neg (h N (Nat.lt_succ_self N))]
  exact hasS_none fun j hj => h j (by omega)
theorem hasS_some {s:ByteArray} {v p:Nat}:∀ {N:Nat},p < N → stS s (p + 1) = v → hasS s v N = true
 | 0,h,_ => by omega
 | N + 1,h,hp => by
  unfold hasS
  by_cases e:stS s (N + 1) = v
  ·rw [if_pos e]
  ·rw [if_neg e]
   refine hasS_some (p:=p) ?_ hp
   rcases Nat.lt_or_eq_of_le (Nat.le_of_lt_succ h) with k | k
   ·exact k
   ·rw [k] at hp; exact absurd hp e
theorem st_run {s:ByteArray} {i b:Nat} (h1:nxS (stS s i) 1 = b) (h2:nxS b 1 = b):∀ {k:Nat},(∀ j,j < k → kdA s (i + j) = 1) → ∀ j,j < k → stS s (i + j + 1) = b
 | k,hk,0,h => by
  show nxS (stS s (i + 0)) (kdA s (i + 0)) = b
  rw [hk 0 h]
  exact h1
 | k,hk,j + 1,h => by
  have ih:=st_run h1 h2 hk j (by omega)
  show nxS (stS s (i + (j + 1))) (kdA s (i + (j + 1))) = b
  rw [hk (j + 1) h,show i + (j + 1) = i + j + 1 by omega,ih]
  exact h2
structure RunK (s:ByteArray) (i j:Nat):Prop where
 le:i ≤ j
 top:j ≤ s.size
 all:∀ q,i ≤ q → q < j → kdA s q = 1
 stop:kdA s j ≠ 1
theorem kdA_top (s:ByteArray):kdA s s.size = 7:=by unfold kdA; rw [if_pos rfl]
theorem RunK.st {s:ByteArray} {i j b:Nat} (h:RunK s i j) (h1:nxS (stS s i) 1 = b) (h2:nxS b 1 = b):∀ q,i ≤ q → q < j → stS s (q + 1) = b:=fun q hq hj => by
 have:=st_run (s:=s) (i:=i) (b:=b) (k:=j - i) h1 h2 (fun t ht => h.all (i + t) (by omega) (by omega)) (q - i) (by omega)
 rwa [show i + (q - i) = q by omega] at this
theorem RunK.last {s:ByteArray} {i j b:Nat} (h:RunK s i j) (hl:i < j) (h1:nxS (stS s i) 1 = b) (h2:nxS b 1 = b):stS s j = b:=by
 have:=h.st h1 h2 (j - 1) (by omega) (by omega)
 rwa [show j - 1 + 1 = j by omega] at this
theorem st_next (s:ByteArray) (i:Nat):stS s (i + 1) = nxS (stS s i) (kdA s i):=rfl
structure Hd (s:ByteArray) (g:Bool) (i:Nat):Prop where
 yes:g = true → i = 1 ∧ kdA s 0 = 2
 no:g = false → i = 0 ∧ kdA s 0 ≠ 2
theorem Hd.st {s : ByteArray} {g : Bool} {i : Nat} (h : Hd s g i) : (∀ q, q < i → stS s (q + 1) = 2) ∧ nxS (stS s i) 1 = 3 ∧ i ≤ s.size ∧ (kdA s i ≠ 1 → stS s (i + 1) = 0) ∧ (g = true → stS s 1 = 2) ∧ (g = false → i = 0) := by
  cases g
  · obtain ⟨rfl, h0⟩ := h.no rfl
    refine ⟨fun q hq => by omega, rfl, Nat.zero_le _, fun hk => ?_, (fun e => by cases e), fun _ => rfl⟩
    have : ∀ b : Fin 8, b.1 ≠ 1 → b.1 ≠ 2 → nxS 1 b.1 = 0 := by decide
    exact this ⟨kdA s 0, kdA_lt s 0⟩ hk h0
  · obtain ⟨rfl, h0⟩ := h.yes rfl
    have h1 : stS s 1 = 2 := by
      show nxS 1 (kdA s 0) = 2
      rw [h0]; rfl
    refine ⟨fun q hq => by obtain rfl : q = 0 := by omega
                           exact h1, by rw [h1]; rfl, ?_, fun hk => ?_, fun _ => h1, fun e => by cases e⟩
    · rcases Nat.eq_zero_or_pos s.size with e | e
      · have := kdA_top s
        rw [e] at this
        omega
      · exact e
    · rw [st_next, h1]
      have : ∀ b : Fin 8, b.1 ≠ 1 → nxS 2 b.1 = 0 := by decide
      exact this ⟨kdA s 1, kdA_lt s 1⟩ hk
structure TkBad (s:ByteArray) (b:Nat):Prop where
 le:b ≤ s.size
 now:stS s (b + 1) = 0
 ahead:∀ q,q < b → stS s (q + 1) ≠ 0
structure TkOk (s:ByteArray) (g:Bool) (SL PT LT:Nat):Prop where
 fine:∀ q,q ≤ s.size → stS s (q + 1) ≠ 0
 sign:hasS s 2 (s.size + 1) = g
 slash:lastS s 4 (s.size + 1) = SL
 point:lastS s 6 (s.size + 1) = PT
 letter:lastS s 8 (s.size + 1) = LT
theorem sign_is {s:ByteArray} {g:Bool} {i:Nat} (h:Hd s g i) (hn:∀ q,i ≤ q → q ≤ s.size → stS s (q + 1) ≠ 2):hasS s 2 (s.size + 1) = g:=by
 obtain ⟨a1,a2,a3,a4,a5,a6⟩:=h.st
 cases g
 ·obtain rfl:=a6 rfl
  exact hasS_none fun j hj => hn j (Nat.zero_le _) (by omega)
 ·exact hasS_some (p:=0) (by omega) (a5 rfl)
section
variable {s:ByteArray} {g:Bool} {i j k m:Nat}
theorem bad_none (h:Hd s g i) (r:RunK s i i):TkBad s i:=by
 obtain ⟨a1,a2,a3,a4,a5,a6⟩:=h.st
 exact ⟨a3,a4 r.stop,fun q hq => by rw [a1 q hq]; decide⟩
theorem st_point (h:Hd s g i) (r:RunK s i j) (hl:i < j) (hk:kdA s j = 5):stS s (j + 1) = 6:=by
 rw [st_next,r.last hl h.st.2.1 rfl,hk]; rfl
end
structure Mn (s:ByteArray) (g:Bool) (i PT e:Nat):Prop where
 hd:Hd s g i
 ends:stS s e = 3 ∧ PT = 0 ∨ stS s e = 7 ∧ 0 < PT
 top:e ≤ s.size
 stop:kdA s e ≠ 1
 all:∀ q,q < e → stS s (q + 1) = 2 ∧ q < i ∨ stS s (q + 1) = 3 ∨ stS s (q + 1) = 6 ∧ q = PT ∧ 0 < PT ∨ stS s (q + 1) = 7
 pt:0 < PT → PT < e ∧ stS s (PT + 1) = 6
 ie:i < e
section
variable {s:ByteArray} {g:Bool} {i j k e b m PT:Nat}
theorem mn_whole (h:Hd s g i) (r:RunK s i j) (hl:i < j):Mn s g i 0 j:=by
 obtain ⟨a1,a2,a3,a4,a5,a6⟩:=h.st
 have b1:=r.st a2 rfl
 refine ⟨h,.inl ⟨r.last hl a2 rfl,rfl⟩,r.top,r.stop,fun q hq => ?_,(fun h0 => by omega),hl⟩
 rcases Nat.lt_or_ge q i with e | e
 ·exact .inl ⟨a1 q e,e⟩
 ·exact .inr (.inl (b1 q e hq))
theorem mn_point (h:Hd s g i) (r:RunK s i j) (hl:i < j) (hk:kdA s j = 5) (r2:RunK s (j + 1) k) (hl2:j + 1 < k):Mn s g i j k:=by
 obtain ⟨a1,a2,a3,a4,a5,a6⟩:=h.st
 have b1:=r.st a2 rfl
 have c0:=st_point h r hl hk
 have c1:=r2.st (b:=7) (by rw [c0]; rfl) rfl
 refine ⟨h,.inr ⟨r2.last hl2 (by rw [c0]; rfl) rfl,by omega⟩,r2.top,r2.stop,fun q hq => ?_,fun _ => ⟨by omega,c0⟩,by omega⟩
 rcases Nat.lt_or_ge q i with e | e
 ·exact .inl ⟨a1 q e,e⟩
 ·rcases Nat.lt_trichotomy q j with e2 | e2 | e2
  ·exact .inr (.inl (b1 q e e2))
  ·exact .inr (.inr (.inl ⟨by rw [e2]; exact c0,e2,by omega⟩))
  ·exact .inr (.inr (.inr (c1 q e2 hq)))
theorem ok_end (h:Mn s g i PT e) (he:e = s.size):TkOk s g 0 PT 0:=by
 have hl:stS s (e + 1) = 11:=by
  rw [st_next]
  rcases h.ends with ⟨a,_⟩ | ⟨a,_⟩
  ·rw [a,he,kdA_top]; rfl
  ·rw [a,he,kdA_top]; rfl
 have all:∀ q,q ≤ s.size → stS s (q + 1) = 2 ∧ q < i ∨ stS s (q + 1) = 3 ∨ stS s (q + 1) = 6 ∧ q = PT ∧ 0 < PT ∨ stS s (q + 1) = 7 ∨ stS s (q + 1) = 11:=fun q hq => by
  rcases Nat.lt_or_ge q e with a | a
  ·have:=h.all q a; omega
  ·obtain rfl:q = e:=by omega
   omega
 refine ⟨fun q hq => by have:=all q hq; omega,sign_is h.hd fun q h1 h2 => by (have:=all q h2); omega,lastS_none fun q hq => by (have:=all q (by omega)); omega,?_,lastS_none fun q hq => by (have:=all q (by omega)); omega⟩
 rcases Nat.eq_zero_or_pos PT with z | z
 ·rw [lastS_none fun q hq => by (have:=all q (by omega)); omega,z]
 ·obtain ⟨p1,p2⟩:=h.pt z
  exact lastS_at (by omega) p2 fun q h1 h2 => by (have:=all q (by omega)); omega
end
theorem byA_get (s:ByteArray) (i:Nat) (h:i < s.size):((s[i]'h).toNat:Int) = (byA s i:Int):=by
 unfold byA
 have:s.get! i = s[i]'h:=by
  show s.data[i]! = s.data[i]
  exact getElem!_pos s.data i h
 rw [this]
theorem byte_cases (c:Nat):c = 48 ∨ c = 49 ∨ c = 50 ∨ c = 51 ∨ c = 52 ∨ c = 53 ∨ c = 54 ∨ c = 55 ∨ c = 56 ∨ c = 57 ∨ c = 45 ∨ c = 43 ∨ c = 47 ∨ c = 46 ∨ c = 101 ∨ c = 69 ∨ (c ≠ 48 ∧ c ≠ 49 ∧ c ≠ 50 ∧ c ≠ 51 ∧ c ≠ 52 ∧ c ≠ 53 ∧ c ≠ 54 ∧ c ≠ 55 ∧ c ≠ 56 ∧ c ≠ 57 ∧ c ≠ 45 ∧ c ≠ 43 ∧ c ≠ 47 ∧ c ≠ 46 ∧ c ≠ 101 ∧ c ≠ 69):=by
 by_cases h48:c = 48
 ·exact .inl h48
 by_cases h49:c = 49
 ·exact .inr (.inl h49)
 by_cases h50:c = 50
 ·exact .inr (.inr (.inl h50))
 by_cases h51:c = 51
 ·exact .inr (.inr (.inr (.inl h51)))
 by_cases h52:c = 52
 ·exact .inr (.inr (.inr (.inr (.inl h52))))
 by_cases h53:c = 53
 ·exact .inr (.inr (.inr (.inr (.inr (.inl h53)))))
 by_cases h54:c = 54
 ·exact .inr (.inr (.inr (.inr (.inr (.inr (.inl h54))))))
 by_cases h55:c = 55
 ·exact .inr (.inr (.inr (.inr (.inr (.inr (.inr (.inl h55)))))))
 by_cases h56:c = 56
 ·exact .inr (.inr (.inr (.inr (.inr (.inr (.inr (.inr (.inl h56))))))))
 by_cases h57:c = 57
 ·exact .inr (.inr (.inr (.inr (.inr (.inr (.inr (.inr (.inr (.inl h57)))))))))
 by_cases h45:c = 45
 ·exact .inr (.inr (.inr (.inr (.inr (.inr (.inr (.inr (.inr (.inr (.inl h45))))))))))
 by_cases h43:c = 43
 ·exact .inr (.inr (.inr (.inr (.inr (.inr (.inr (.inr (.inr (.inr (.inr (.inl h43)))))))))))
 by_cases h47:c = 47
 ·exact .inr (.inr (.inr (.inr (.inr (.inr (.inr (.inr (.inr (.inr (.inr (.inr (.inl h47))))))))))))
 by_cases h46:c = 46
 ·exact .inr (.inr (.inr (.inr (.inr (.inr (.inr (.inr (.inr (.inr (.inr (.inr (.inr (.inl h46)))))))))))))
 by_cases h101:c = 101
 ·exact .inr (.inr (.inr (.inr (.inr (.inr (.inr (.inr (.inr (.inr (.inr (.inr (.inr (.inr (.inl h101))))))))))))))
 by_cases h69:c = 69
 ·exact .inr (.inr (.inr (.inr (.inr (.inr (.inr (.inr (.inr (.inr (.inr (.inr (.inr (.inr (.inr (.inl h69)))))))))))))))
 exact .inr (.inr (.inr (.inr (.inr (.inr (.inr (.inr (.inr (.inr (.inr (.inr (.inr (.inr (.inr (.inr (⟨h48,h49,h50,h51,h52,h53,h54,h55,h56,h57,h45,h43,h47,h46,h101,h69⟩))))))))))))))))
set_option maxHeartbeats 4000000 in
theorem kindAt_any (s:ByteArray) (i:Nat) (w:World) (hs:s.size ≤ 65536) (hi:i ≤ s.size) :
  Calls Tryz.prog 64 #[.string s,.int .i64 (i:Nat)] w fun e w' => e = .returned (.int .i64 (kdA s i:Nat)) ∧ w' = w:=by
 by_cases e:i = s.size
 ·have hk:kdA s i = 7:=by unfold kdA; rw [if_pos e]
  rw [hk]
  have t0:((i:Int) == (s.size:Int)) = true:=by simp [e]
  clear hk e
  go_enter Tryz.func64,Tryz.ntmps64
  go_wp2_with fail
  go_ret
  exact ⟨rfl,rfl⟩
 ·have hlt:i < s.size:=by omega
  have hlt':(i:Int) < (s.size:Int):=by omega
  have t0:((i:Int) == (s.size:Int)) = false:=by simp; omega
  have hk:kdA s i = kdN (byA s i):=by unfold kdA; rw [if_neg e]
  rw [hk]
  have hg:=byA_get s i hlt
  clear hk e
  generalize byA s i = c at *
  rcases byte_cases c with rfl | rfl | rfl | rfl | rfl | rfl | rfl | rfl | rfl | rfl | rfl | rfl | rfl | rfl | rfl | rfl | hn
  ·have hv:((s[i]'hlt).toNat:Int) = 48:=hg
   clear hg
   go_enter Tryz.func64,Tryz.ntmps64
   go_wp2_with fail
   go_ret
   exact ⟨rfl,rfl⟩
  ·have hv:((s[i]'hlt).toNat:Int) = 49:=hg
   clear hg
   go_enter Tryz.func64,Tryz.ntmps64
   go_wp2_with fail
   go_ret
   exact ⟨rfl,rfl⟩
  ·have hv:((s[i]'hlt).toNat:Int) = 50:=hg
   clear hg
   go_enter Tryz.func64,Tryz.ntmps64
   go_wp2_with fail
   go_ret
   exact ⟨rfl,rfl⟩
  ·have hv:((s[i]'hlt).toNat:Int) = 51:=hg
   clear hg
   go_enter Tryz.func64,Tryz.ntmps64
   go_wp2_with fail
   go_ret
   exact ⟨rfl,rfl⟩
  ·have hv:((s[i]'hlt).toNat:Int) = 52:=hg
   clear hg
   go_enter Tryz.func64,Tryz.ntmps64
   go_wp2_with fail
   go_ret
   exact ⟨rfl,rfl⟩
  ·have hv:((s[i]'hlt).toNat:Int) = 53:=hg
   clear hg
   go_enter Tryz.func64,Tryz.ntmps64
   go_wp2_with fail
   go_ret
   exact ⟨rfl,rfl⟩
  ·have hv:((s[i]'hlt).toNat:Int) = 54:=hg
   clear hg
   go_enter Tryz.func64,Tryz.ntmps64
   go_wp2_with fail
   go_ret
   exact ⟨rfl,rfl⟩
  ·have hv:((s[i]'hlt).toNat:Int) = 55:=hg
   clear hg
   go_enter Tryz.func64,Tryz.ntmps64
   go_wp2_with fail
   go_ret
   exact ⟨rfl,rfl⟩
  ·have hv:((s[i]'hlt).toNat:Int) = 56:=hg
   clear hg
   go_enter Tryz.func64,Tryz.ntmps64
   go_wp2_with fail
   go_ret
   exact ⟨rfl,rfl⟩
  ·have hv:((s[i]'hlt).toNat:Int) = 57:=hg
   clear hg
   go_enter Tryz.func64,Tryz.ntmps64
   go_wp2_with fail
   go_ret
   exact ⟨rfl,rfl⟩
  ·have hv:((s[i]'hlt).toNat:Int) = 45:=hg
   clear hg
   go_enter Tryz.func64,Tryz.ntmps64
   go_wp2_with fail
   go_ret
   exact ⟨rfl,rfl⟩
  ·have hv:((s[i]'hlt).toNat:Int) = 43:=hg
   clear hg
   go_enter Tryz.func64,Tryz.ntmps64
   go_wp2_with fail
   go_ret
   exact ⟨rfl,rfl⟩
  ·have hv:((s[i]'hlt).toNat:Int) = 47:=hg
   clear hg
   go_enter Tryz.func64,Tryz.ntmps64
   go_wp2_with fail
   go_ret
   exact ⟨rfl,rfl⟩
  ·have hv:((s[i]'hlt).toNat:Int) = 46:=hg
   clear hg
   go_enter Tryz.func64,Tryz.ntmps64
   go_wp2_with fail
   go_ret
   exact ⟨rfl,rfl⟩
  ·have hv:((s[i]'hlt).toNat:Int) = 101:=hg
   clear hg
   go_enter Tryz.func64,Tryz.ntmps64
   go_wp2_with fail
   go_ret
   exact ⟨rfl,rfl⟩
  ·have hv:((s[i]'hlt).toNat:Int) = 69:=hg
   clear hg
   go_enter Tryz.func64,Tryz.ntmps64
   go_wp2_with fail
   go_ret
   exact ⟨rfl,rfl⟩
  ·obtain ⟨n48,n49,n50,n51,n52,n53,n54,n55,n56,n57,n45,n43,n47,n46,n101,n69⟩:=hn
   have t48:((c:Int) == 48) = false:=by simp; omega
   have t49:((c:Int) == 49) = false:=by simp; omega
   have t50:((c:Int) == 50) = false:=by simp; omega
   have t51:((c:Int) == 51) = false:=by simp; omega
   have t52:((c:Int) == 52) = false:=by simp; omega
   have t53:((c:Int) == 53) = false:=by simp; omega
   have t54:((c:Int) == 54) = false:=by simp; omega
   have t55:((c:Int) == 55) = false:=by simp; omega
   have t56:((c:Int) == 56) = false:=by simp; omega
   have t57:((c:Int) == 57) = false:=by simp; omega
   have t45:((c:Int) == 45) = false:=by simp; omega
   have t43:((c:Int) == 43) = false:=by simp; omega
   have t47:((c:Int) == 47) = false:=by simp; omega
   have t46:((c:Int) == 46) = false:=by simp; omega
   have t101:((c:Int) == 101) = false:=by simp; omega
   have t69:((c:Int) == 69) = false:=by simp; omega
   have hk0:kdN c = 0:=by unfold kdN; rw [if_neg (by omega),if_neg n45,if_neg n43,if_neg n47,if_neg n46,if_neg (by omega)]
   rw [hk0]
   clear n48 n49 n50 n51 n52 n53 n54 n55 n56 n57 n45 n43 n47 n46 n101 n69 hk0
   go_enter Tryz.func64,Tryz.ntmps64
   go_wp2_with fail
   go_ret
   exact ⟨rfl,rfl⟩
structure Ext (w0:World) where
 w:World
 bel:Below w0.heap.size w0 w
theorem Ext.ne (w:World):Nonempty (Ext w):=⟨⟨w,Below.refl _ _⟩⟩
section
variable {P:Program}
theorem wp_region_ext {id:Nat} {Q:Exit → Act → World → Prop} {a:Act} {w:World} {l:List Oper} (hm:P.follows .mixedOrders = true) (hB:Region.lexB .any l.toArray = true)
  (h:wpQuiet P l.toArray (fun w' => ∃ x:Ext w,w' = x.w) (fun a' => ∀ w',(∃ x:Ext w,w' = x.w) → Q .normal a' w') l a):(Code.region id l.toArray true).wp P Q a w :=
 wp_region_quiet (C:=fun w' => ∃ x:Ext w,w' = x.w) hm hB ⟨⟨w.drew,(Below.refl _ _).drew⟩,rfl⟩ (by simpa using h)
end
theorem Ext.call {P:Program} {f:FuncId} {args:Array Value} {w:World} {x:Ext w} {v:Value} {R:Ending → World → Prop} (h:Calls P f args x.w R) (hR:∀ e w',R e w' → e = .returned v ∧ Below x.w.heap.size x.w w') :
  Calls P f args x.w fun e w'' => e = .returned v ∧ ∃ y:Ext w,w'' = y.w :=
 h.mono fun e w' hr => ⟨(hR e w' hr).1,⟨⟨w',x.bel.trans ((hR e w' hr).2.mono x.bel.size)⟩,rfl⟩⟩
theorem Ext.cell {w:World} (x:Ext w) {p:Addr} {v:Value} (h:w.cell? p = some v):x.w.cell? p = some v:=(x.bel.cell (p:=p) (World.block_lt_of_cell? _ _ h)).trans h
end Go.Proofs.YtmnlhnmlgncedaaGreatDoor
