/- Pa7 -/
import Derived.Test.YtjoaijbhpgekoaaGreatDoorPa6
import Derived.Test.YtjoaijbhpgekoaaGreatDoorPa2
import Derived.Test.YtjoaijbhpgekoaaGreatDoorCopy
import Derived.Test.YtjoaijbhpgekoaaGreatDoorGiv2
import Derived.Test.YtjoaijbhpgekoaaGreatDoorShl
import Derived.Test.YtjoaijbhpgekoaaGreatDoorRd1
import Derived.Test.YtjoaijbhpgekoaaGreatDoorMul
import Derived.Test.YtjoaijbhpgekoaaGreatDoorRSh
import Derived.Test.YtjoaijbhpgekoaaGreatDoorDv4
import Derived.Test.YtjoaijbhpgekoaaGreatDoorRd3
import Derived.Deep.LoopGhost
namespace Go.Proofs.YtjoaijbhpgekoaaGreatDoor
open Go.RowKit Go.Deep
set_option linter.unusedVariables false
structure RpR (s:ByteArray) (b i:Nat) (w wr:World) (a:Option Addr) (n c:Nat) (zs:List Nat):Prop where
 sl:Sl wr a n c zs
 rep:Rep (numP s b i) zs
 le:n ≤ 2048
 bel:Below w.heap.size w wr

set_option maxRecDepth 20000 in
set_option maxHeartbeats 16000000 in
theorem rparse_any (s : ByteArray) (b : Int) (w : World) :
    Calls Tryz.prog 33 #[.string s, .int .i64 b] w fun e w' => PaPost s b w e w' := by
  by_cases hl : 65536 < s.size
  · have HL := hide hl
    have hl' : (65536:Int) < (s.size:Int) := by omega
    go_enter Tryz.func33, Tryz.ntmps33
    go_wp2_with fail
    go_ret3
    exact ⟨none, 0, 0, [], _, _, rfl, sl_nil _, Below.refl _ _, .long (unhide HL)⟩
  · have HL := hide hl
    have hl' : ¬ (65536:Int) < (s.size:Int) := by omega
    by_cases hb1 : b < 2
    · go_enter Tryz.func33, Tryz.ntmps33
      go_wp2_with fail
      go_ret3
      exact ⟨none, 0, 0, [], _, _, rfl, sl_nil _, Below.refl _ _, .base (by have := unhide HL; omega) (by omega)⟩
    by_cases hb2 : 36 < b
    · go_enter Tryz.func33, Tryz.ntmps33
      go_wp2_with fail
      go_ret3
      exact ⟨none, 0, 0, [], _, _, rfl, sl_nil _, Below.refl _ _, .base (by have := unhide HL; omega) (by omega)⟩
    obtain ⟨k, rfl⟩ : ∃ k : Nat, b = (k : Int) := ⟨b.toNat, by omega⟩
    have HB : Hid ((2:Int) ≤ (k:Int) ∧ (k:Int) ≤ 36) := by constructor <;> omega
    have k1 : 2 ≤ k := by omega
    have k2 : k ≤ 36 := by omega
    by_cases h0 : s.size = 0
    · have h0' : (s.size:Int) = 0 := by omega
      have H0 := hide h0
      clear h0
      go_enter Tryz.func33, Tryz.ntmps33
      go_wp2_with fail
      go_ret3
      exact ⟨none, 0, 0, [], _, _, rfl, sl_nil _, Below.refl _ _, .none (unhide H0) (unhide HB)⟩
    have h0' : ¬ (s.size:Int) = 0 := by omega
    go_enter Tryz.func33, Tryz.ntmps33
    go_wp2_with fail
    go_loop [7] (fun iv => ∃ i : Nat, i ≤ s.size ∧ iv = .int .i64 (i : Nat) ∧ Hid (∀ j, j < i → dig s j < k)) (fun iv => s.size - (intOf iv).toNat)
    case atStart => exact ⟨0, Nat.zero_le _, rfl, fun j hj => by omega⟩
    case round =>
      obtain ⟨i, hi, rfl, HA⟩ := hrel
      by_cases hlt : i < s.size
      · have hlt' : (i:Int) < (s.size:Int) := by omega
        have his := hlt
        go_wp2_with fail
        refine (rdigit_any _ (by have := (s[i]'his).toNat_lt; omega) _).mono ?_
        rintro e w' ⟨rfl, hw⟩
        obtain rfl := hw.symm
        clear hw
        rw [dig_of his]
        by_cases hd : dig s i < k
        · have HA2 := hide (show ∀ j, j < i + 1 → dig s j < k from fun j hj => by
            by_cases e : j = i
            · rw [e]; exact hd
            · exact unhide HA j (by omega))
          have hd' : ¬ (k:Int) ≤ (dig s i : Int) := by omega
          generalize dig s i = D at hd hd' ⊢
          clear HA
          go_wp2_with fail
          exact ⟨⟨i + 1, by omega, by go_num, unhide HA2⟩, by simp [intOf]; omega⟩
        · have hd' : (k:Int) ≤ (dig s i : Int) := by omega
          have HD := hide hd
          generalize hg : dig s i = D at hd hd' ⊢
          clear hg
          go_wp2_with fail
          go_ret3
          exact ⟨none, 0, 0, [], _, _, rfl, sl_nil _, Below.refl _ _, .digit i (by have := unhide HL; omega) (unhide HB) ⟨by omega, unhide HA, .inr (by have := unhide HD; simp only [Int.toNat_natCast]; omega)⟩ his⟩
      · have hin : i = s.size := by omega
        have HALL := hide (show ∀ j, j < s.size → dig s j < k from fun j hj => unhide HA j (by omega))
        have hlt' : ¬ (i:Int) < (s.size:Int) := by omega
        clear HA hin
        go_wp2_with fail
        go_loopw [8, 9] (fun v iv wr => ∃ (j : Nat) (a : Option Addr) (n c : Nat) (zs : List Nat), j ≤ s.size ∧ iv = .int .i64 (j : Nat) ∧ v = .slice a n c ∧ RpR s k j w wr a n c zs) (fun _ iv _ => s.size - (intOf iv).toNat)
        case atStart => exact ⟨0, none, 0, 0, [], Nat.zero_le _, rfl, rfl, sl_nil _, ⟨Ok.nil, .inl rfl, rfl⟩, Nat.zero_le _, Below.refl _ _⟩
        case round =>
          obtain ⟨j, a, n, c, zs, hj, rfl, rfl, hR⟩ := hrel
          by_cases hjl : j < s.size
          · have hjl' : (j:Int) < (s.size:Int) := by omega
            have hRd : RpR s k j w wr.drew a n c zs := ⟨hR.sl.below (Below.refl _ _).drew, hR.rep, hR.le, hR.bel.drew⟩
            have HR := hide hRd
            have hn := hR.le
            have K1 := hide (rfrom_any k wr.drew (by omega))
            have hD := dig_le s j
            obtain ⟨D, hDe⟩ : ∃ D, dig s j = D := ⟨_, rfl⟩
            have HD := hide hDe
            have KD := hide (fun wx => rdigit_any _ (by have := (s[j]'hjl).toNat_lt; omega) wx)
            rw [dig_of hjl, hDe] at KD
            rw [hDe] at hD
            have wk : IntKind.u64.wrap (k:Int) = (k:Int) := by rw [IntKind.wrap_u64]; omega
            have wD : IntKind.u64.wrap (D:Int) = (D:Int) := by rw [IntKind.wrap_u64]; omega
            clear hR hRd hDe
            go_wp2_with fail
            go_region_with (first
              | (go_at_call 35
                 refine (unhide K1).mono ?_
                 clear K1
                 rintro _ w1 ⟨a1, m1, y1, rfl, s1, r1, n1, b1⟩
                 have l1 : m1 ≤ 1 := by
                   have h1 := rep_len_le5 r1 (j := 1) (by omega)
                   have h2 := s1.len
                   omega
                 have H1 := hide (And.intro s1 (And.intro r1 b1))
                 have K2 := hide (rtimes_any a a1 n c m1 m1 zs y1 w1 ((unhide HR).sl.below (unhide H1).2.2) (unhide H1).1 (unhide HR).rep.ok (unhide H1).2.1.ok (by omega))
                 clear s1 r1 n1 b1)
              | (go_at_call 51
                 refine (unhide K2).mono ?_
                 clear K2
                 rintro _ w2 ⟨z2, rfl, s2, o2, v2, b2⟩
                 have H2 := hide (And.intro s2 (And.intro o2 (And.intro v2 b2)))
                 have K3 := hide (rfrom_any D w2 (by omega))
                 clear s2 o2 v2 b2)
              | (go_at_call 48
                 refine (unhide KD _).mono ?_
                 rintro _ _ ⟨rfl, hw⟩
                 obtain rfl := hw.symm
                 clear hw)
              | (go_at_call 35
                 refine (unhide K3).mono ?_
                 clear K3
                 rintro _ w3 ⟨a3, m3, y3, rfl, s3, r3, n3, b3⟩
                 have l3 : m3 ≤ 1 := by
                   have h1 := rep_len_le5 r3 (j := 1) (by omega)
                   have h2 := s3.len
                   omega
                 have H3 := hide (And.intro s3 (And.intro r3 b3))
                 have K4 := hide (rplus_any _ a3 (n + m1) (n + m1) m3 m3 z2 y3 w3 ((unhide H2).1.below (unhide H3).2.2) (unhide H3).1 (unhide H2).2.1 (unhide H3).2.1.ok (by omega) (by omega))
                 clear s3 r3 n3 b3)
              | (go_at_call 50
                 refine (unhide K4).mono ?_
                 clear K4
                 rintro _ w4 ⟨a4, m4, c4, z4, rfl, l4, s4, o4, v4, n4, b4⟩
                 have H4 := hide (And.intro s4 (And.intro o4 (And.intro v4 b4)))
                 have K5 := hide (rtrim_any a4 m4 c4 z4 w4 (unhide H4).1 (unhide H4).2.1 (by omega))
                 clear s4 o4 v4 n4 b4)
              | (go_at_call 49
                 refine (unhide K5).mono ?_
                 clear K5
                 rintro _ w5 ⟨a5, m5, z5, rfl, s5, r5, n5, b5⟩
                 have H5 := hide (And.intro s5 (And.intro r5 b5))
                 clear s5 r5 n5 b5))
            all_goals
              obtain ⟨s5, r5, b5⟩ := unhide H5
              have hval : val z4 = numP s k (j + 1) := by
                rw [(unhide H4).2.2.1, (unhide H2).2.2.1, (unhide HR).rep.val, (unhide H1).2.1.val, (unhide H3).2.1.val, numP_add s k j 1, ← unhide HD]
                simp [numS]
              rw [hval] at r5
              have hbel : Below w.heap.size w w5 := by
                have h0 := (unhide HR).bel
                have h1 := h0.size
                have h2 := (unhide H1).2.2
                have h3 := h2.size
                have h4 := (unhide H2).2.2.2
                have h5 := h4.size
                have h6 := (unhide H3).2.2
                have h7 := h6.size
                have h8 := (unhide H4).2.2.2
                have h9 := h8.size
                exact h0.trans ((h2.mono (by omega)).trans ((h4.mono (by omega)).trans ((h6.mono (by omega)).trans ((h8.mono (by omega)).trans (b5.mono (by omega))))))
              have hlen := s5.len
              have HQ := hide (And.intro s5 (And.intro r5 (And.intro hbel hlen)))
              clear s5 r5 hbel hlen hval b5 H1 H2 H3 H4 H5
              by_cases hbig : 2048 < m5
              · have hbig' : (2048:Int) < (m5:Int) := by omega
                have hfit : fitL (numP s k s.size) = ([], 2) := by
                  refine fitL_big ?_
                  have hh := unhide HQ
                  have h5 := limbs_len_mono5 (numP_mono s (b := k) (by omega) (j + 1) (s.size - (j + 1)))
                  rw [show j + 1 + (s.size - (j + 1)) = s.size from by omega, ← hh.2.1.eq] at h5
                  omega
                have HF := hide hfit
                clear hfit
                go_wp2_with fail
                go_ret3
                exact ⟨none, 0, 0, [], _, _, rfl, sl_nil _, (unhide HQ).2.2.1, .read [] 2 (by have := unhide HL; omega) (by omega) (unhide HB) (unhide HALL) (unhide HF)⟩
              · have hbig' : ¬ (2048:Int) < (m5:Int) := by omega
                go_wp2_with fail
                exact ⟨⟨j + 1, a5, m5, m5, z5, by omega, by go_num, rfl, (unhide HQ).1, (unhide HQ).2.1, by omega, (unhide HQ).2.2.1⟩, by simp [intOf]; omega⟩
          · have hjl' : ¬ (j:Int) < (s.size:Int) := by omega
            have hje : j = s.size := by omega
            have hfit : fitL (numP s k s.size) = (zs, 0) := by
              have e := (limbs_rep (numP s k s.size)).unique (by rw [← hje]; exact hR.rep)
              have hl := hR.sl.len
              have := hR.le
              rw [fitL_ok (by rw [e]; omega), e]
            have HF := hide (And.intro hR hfit)
            clear hfit hje hR
            go_wp2_with fail
            go_ret3
            exact ⟨a, n, c, zs, _, _, rfl, (unhide HF).1.sl, (unhide HF).1.bel, .read zs 0 (by have := unhide HL; omega) (by omega) (unhide HB) (unhide HALL) (unhide HF).2⟩
def Ow (w:World) (B:Nat) (a:Option Addr) (n c:Nat) (xs:List Nat):Prop:=w.ownsRow B 94 1 (.slice a n c) n (vals xs)
def AtB (a:Option Addr) (k:Nat):Prop:=∃ x,a = some x ∧ x.block = k
theorem atB_some {g o:Nat}:AtB (some ⟨g,o,none⟩) g:=⟨_,rfl,rfl⟩
theorem atB_none {k:Nat} (h:AtB none k):False:=by obtain ⟨x,e,_⟩:=h; cases e
theorem atB_own {a:Option Addr} {n c k:Nat}:(Value.slice a n c).ownBlock = some k ↔ AtB a k:=by
 cases a with
 | none => exact ⟨fun h => (by cases h),fun h => (atB_none h).elim⟩
 | some x => exact ⟨fun h => ⟨x,rfl,by simpa [Value.ownBlock] using h⟩,fun ⟨y,e,h⟩ => (by cases e; simp [Value.ownBlock,h])⟩

theorem Ow.nil (w:World) (B:Nat):Ow w B none 0 0 []:=World.ownsRow_nil _ _ _ _
theorem Ow.len {w:World} {B n c:Nat} {a:Option Addr} {xs:List Nat} (h:Ow w B a n c xs):xs.length = n:=by have:=h.1; simpa [vals] using this
theorem Ow.sl {w:World} {B n c:Nat} {a:Option Addr} {xs:List Nat} (h:Ow w B a n c xs):Sl w a n c xs:=by
 obtain ⟨a',c',e,k,_⟩:=own_sl h
 cases e; exact k
theorem Ow.new {w:World} {B n c:Nat} {a:Option Addr} {xs:List Nat} (h:Ow w B a n c xs):NewAt B a:=by
 obtain ⟨a',c',e,_,k⟩:=own_sl h
 cases e; exact k
theorem Ow.lt {w:World} {B n c k:Nat} {a:Option Addr} {xs:List Nat} (h:Ow w B a n c xs) (hk:AtB a k):B ≤ k ∧ k < w.heap.size:=own_ge h k (atB_own.2 hk)
theorem Ow.mono {w:World} {B B' n c:Nat} {a:Option Addr} {xs:List Nat} (h:Ow w B a n c xs) (hb:B' ≤ B):Ow w B' a n c xs :=
 ⟨h.1,h.2.imp id (fun ⟨g,cap,cur,e,h1,h2⟩ => ⟨g,cap,cur,e,Nat.le_trans hb h1,h2⟩)⟩
theorem Ow.chg {S:Nat → Prop} {w w':World} {B n c:Nat} {a:Option Addr} {xs:List Nat} (h:Ow w B a n c xs) (k:Chg S w w') (hs:∀ k,AtB a k → ¬ S k):Ow w' B a n c xs :=
 ownsRow_chg h k (fun k hk => hs k (atB_own.1 hk))
theorem Ow.below {w w':World} {B n c:Nat} {a:Option Addr} {xs:List Nat} (h:Ow w B a n c xs) (k:Below w.heap.size w w'):Ow w' B a n c xs :=
 h.chg (S:=fun _ => False) (.of_below k) (fun _ _ => id)
theorem Ow.form {w:World} {B n c:Nat} {a:Option Addr} {xs:List Nat} (h:Ow w B a n c xs) (hn:0 < n):∃ g,a = some ⟨g,0,none⟩ ∧ B ≤ g ∧ g < w.heap.size:=by
 obtain ⟨g,cap,e,h1,h2⟩:=World.ownsRow.form h hn
 cases e
 exact ⟨g,rfl,h1,h2⟩
theorem Ow.cell {w:World} {B g n c i:Nat} {xs:List Nat} (h:Ow w B (some ⟨g,0,none⟩) n c xs) (hi:i < n):w.cell? ⟨g,i,none⟩ = some (.int .u32 (xs.getD i 0:Nat)):=by
 have:=World.ownsRow.cellAt h i (by omega)
 rw [this,vals_get (by rw [h.len]; exact hi)]
theorem Ow.froz {w:World} {B g n c i:Nat} {xs:List Nat} (h:Ow w B (some ⟨g,0,none⟩) n c xs):w.frozen? ⟨g,i,none⟩ = false:=World.ownsRow.frozenAt h i
theorem Ow.set {w:World} {B g n c:Nat} {xs:List Nat} (h:Ow w B (some ⟨g,0,none⟩) n c xs) (j x:Nat):Ow (w.setCell ⟨g,j,none⟩ (.int .u32 (x:Nat))) B (some ⟨g,0,none⟩) n c (xs.set j x):=by
 have:=(World.ownsRow.stored h j (.int .u32 (x:Nat))).1
 have e:(vals xs).set j (.int .u32 (x:Nat)) = vals (xs.set j x):=by simp [vals,List.map_set]
 rw [e] at this
 exact this
theorem Ow.take {w:World} {B n c m:Nat} {a:Option Addr} {xs:List Nat} (h:Ow w B a n c xs) (hm:m ≤ n):Ow w B a m c (xs.take m):=by
 have hl:=h.len
 refine ⟨by simp [vals,hl]; omega,?_⟩
 rcases h.2 with ⟨e,h0⟩ | ⟨g,cap,cur,e,h1,h2,h3,h4,h5,h6⟩
 ·cases e; left; exact ⟨by congr; omega,by omega⟩
 ·cases e
  right
  refine ⟨g,c,cur,rfl,h1,h2,by omega,h4,h5,?_⟩
  have e2:vals (xs.take m) = (vals xs).take m:=by simp [vals]
  rw [e2,← h6,List.take_take]
  congr 1; omega
theorem Ow.made (w:World) (n:Nat) (hn:n ≤ 70368744177600):Ow (w.alloc (.cells (madeCells #[.int .u32 0] n) 94)) w.heap.size (some ⟨w.heap.size,0,none⟩) n n (List.replicate n 0):=by
 have:=World.ownsRow_lit (base:=w.heap.size) (e:=94) (size:=1) w (madeCells #[.int .u32 0] n) n (Nat.le_refl _) (by unfold maxLen; omega) (by simp [madeCells])
 rw [toList_madeCells_one] at this
 have e:vals (List.replicate n 0) = List.replicate n (.int .u32 0):=by simp [vals]
 unfold Ow
 rw [e]
 exact this

theorem TrimAt.limbs {xs:List Nat} {m:Nat} (h:TrimAt xs m) (ok:Ok xs):xs.take m = limbs (val xs):=(h.rep ok).eq
theorem limbs_ok (v:Nat):Ok (limbs v):=(limbs_rep v).ok
theorem limbs_norm (v:Nat):Norm (limbs v):=(limbs_rep v).norm
theorem limbs_v (v:Nat):val (limbs v) = v:=(limbs_rep v).val
theorem limbs_len {v j:Nat} (hv:v < 4294967296 ^ j):(limbs v).length ≤ j:=by
 rcases Nat.lt_or_ge j (limbs v).length with k | k
 ·exfalso
  have hz:limbs v ≠ []:=by intro e; rw [e] at k; simp at k
  have h1:=val_ge_of_norm (limbs_norm v) hz
  rw [limbs_v] at h1
  have h2:4294967296 ^ j ≤ 4294967296 ^ ((limbs v).length - 1):=Nat.pow_le_pow_right (by decide) (by omega)
  omega
 ·exact k
theorem limbs_eq_nil {v:Nat}:limbs v = [] ↔ v = 0:=by
 constructor
 ·intro h; have:=limbs_v v; rw [h] at this; exact this.symm
 ·rintro rfl; rfl
section
variable {P:Program} {w:World}
end

theorem Sl.news {w:World} {a:Option Addr} {n c:Nat} {xs:List Nat} (h:Sl w a n c xs):∀ ad,a = some ad → ∀ j u,(vals xs)[j]? = some u → w.cell? (ad.add j) = some u:=by
 intro ad had j u hu
 have hj:j < xs.length:=by
  have:=(List.getElem?_eq_some_iff.1 hu).1
  simpa [vals] using this
 have hne:xs ≠ []:=by intro e; rw [e] at hj; simp at hj
 obtain ⟨b,off,e,hc⟩:=h.cells.resolve_left hne
 rw [e] at had
 cases had
 have e2:(⟨b,off,none⟩:Addr).add j = ⟨b,off + j,none⟩:=by unfold Addr.add; split <;> simp_all
 rw [e2,hc j hj,← hu]
 simp [vals,List.getD,hj]

structure TakR (wr w:World) (B g n cp:Nat) (xs:List Nat) (s t:Nat) (k c:Nat) (zs:List Nat):Prop where
 len:zs.length = k
 ok:Ok zs
 cle:c ≤ 1
 own:Ow wr B (some ⟨g,0,none⟩) n cp (zs ++ xs.drop k)
 val:val zs + t = s + 4294967296 ^ k * c
 chg:Chg (fun j => AtB (some ⟨g,0,none⟩) j) w wr

theorem set_mid {zs xs:List Nat} {k n:Nat} (hz:zs.length = k) (hx:xs.length = n) (hk:k < n) (v:Nat):(zs ++ xs.drop k).set k v = (zs ++ [v]) ++ xs.drop (k + 1):=by
 rw [drop_cons (by omega),List.set_append_right k v (by omega),hz,Nat.sub_self]
 simp
theorem TakR.step {wr w:World} {B g n cp:Nat} {xs:List Nat} {s t k c:Nat} {zs:List Nat} (h:TakR wr w B g n cp xs s t k c zs) (hl:xs.length = n) (hk:k < n) (x y:Nat) (hx:x < 4294967296) (hy:y < 4294967296) :
  TakR (wr.setCell ⟨g,k,none⟩ (.int .u32 (lim x y c:Nat))) w B g n cp xs (s + 4294967296 ^ k * x) (t + 4294967296 ^ k * y) (k + 1) (bor x (y + c)) (zs ++ [lim x y c]):=by
 refine ⟨by simp [h.len],?_,bor_le _ _,?_,?_,h.chg.trans (.of_set _ _ _ _ atB_some)⟩
 ·intro z hz
  rcases List.mem_append.1 hz with hz | hz
  ·exact h.ok z hz
  ·simp at hz; subst hz; exact lim_lt _ _ _
 ·have:=h.own.set k (lim x y c)
  rw [set_mid h.len hl hk] at this
  exact this
 ·rw [val_append,h.len]
  simp only [Go.Proofs.YtjoaijbhpgekoaaGreatDoor.val,Nat.mul_zero,Nat.add_zero]
  rw [Nat.pow_succ]
  exact minus_arith h.val (lim_eq x y c hx hy h.cle)

structure DbR (wr w:World) (B g n cp:Nat) (xs:List Nat) (s bit:Nat) (k c:Nat) (zs:List Nat):Prop where
 len:zs.length = k
 ok:Ok zs
 cle:c ≤ 1
 own:Ow wr B (some ⟨g,0,none⟩) n cp (zs ++ xs.drop k)
 val:val zs + 4294967296 ^ k * c = 2 * s + bit
 chg:Chg (fun j => AtB (some ⟨g,0,none⟩) j) w wr

theorem DbR.step {wr w:World} {B g n cp:Nat} {xs:List Nat} {s bit k c:Nat} {zs:List Nat} (h:DbR wr w B g n cp xs s bit k c zs) (hl:xs.length = n) (hk:k < n) (x:Nat) (hx:x < 4294967296) :
  DbR (wr.setCell ⟨g,k,none⟩ (.int .u32 (tw x c:Nat))) w B g n cp xs (s + 4294967296 ^ k * x) bit (k + 1) (x / 2147483648) (zs ++ [tw x c]):=by
 refine ⟨by simp [h.len],?_,by omega,?_,?_,h.chg.trans (.of_set _ _ _ _ atB_some)⟩
 ·intro z hz
  rcases List.mem_append.1 hz with hz | hz
  ·exact h.ok z hz
  ·simp at hz; subst hz; exact tw_lt h.cle
 ·have:=h.own.set k (tw x c)
  rw [set_mid h.len hl hk] at this
  exact this
 ·rw [val_append,h.len]
  simp only [Go.Proofs.YtjoaijbhpgekoaaGreatDoor.val,Nat.mul_zero,Nat.add_zero]
  rw [Nat.pow_succ]
  refine tw_arith h.val ?_
  unfold tw
  omega
structure ShrR (wr w:World) (bq n:Nat) (xs:List Nat) (d k r:Nat) (g:Nat → Nat):Prop where
 fn:Fn wr bq 0 n g
 ok:∀ i,i < n → g i < 4294967296
 rlt:r < d
 val:valF (fun i => xs.getD (k + i) 0) (n - k) = valF (fun i => g (k + i)) (n - k) * d + r
 bel:Below w.heap.size w wr

theorem ShrR.step {wr w:World} {bq n:Nat} {xs:List Nat} {d k r:Nat} {g:Nat → Nat} (h:ShrR wr w bq n xs d (k + 1) r g) (ox:Ok xs) (hk:k < n) (hb:w.heap.size ≤ bq) :
  ShrR (wr.setCell ⟨bq,k,none⟩ (.int .u32 (dv (xs.getD k 0) r / d:Nat))) w bq n xs d k (dv (xs.getD k 0) r % d) (fun i => if i = k then dv (xs.getD k 0) r / d else g i):=by
 have hq:=dv_div_lt (ox.getD k) h.rlt
 have hs:=h.fn.set k (dv (xs.getD k 0) r / d) hk
 rw [Nat.zero_add] at hs
 refine ⟨hs,?_,Nat.mod_lt _ (by have:=h.rlt; omega),?_,h.bel.setCell hb _⟩
 ·intro i hi
  by_cases e:i = k
  ·simp only [e,if_true]; exact hq
  ·simp only [e,if_false]; exact h.ok i hi
 ·rw [valF_head (fun i => xs.getD i 0) k n hk,valF_head (fun i => if i = k then dv (xs.getD k 0) r / d else g i) k n hk]
  simp only [if_true]
  have e0:valF (fun i => if k + 1 + i = k then dv (xs.getD k 0) r / d else g (k + 1 + i)) (n - (k + 1)) = valF (fun i => g (k + 1 + i)) (n - (k + 1)):=valF_congr (fun i _ => by rw [if_neg (by omega)])
  rw [e0]
  refine dl_arith h.val ?_
  have:=Nat.div_add_mod (dv (xs.getD k 0) r) d
  unfold dv at *
  omega

structure RaR (wr w:World) (L s t:Nat) (v:Value) (k c:Nat) (zs:List Nat):Prop where
 len:zs.length = L + k
 ok:Ok zs
 clt:c < 2 ^ s
 own:wr.ownsRow w.heap.size 94 1 v (L + k) (vals zs)
 val:val zs + 4294967296 ^ (L + k) * c = 4294967296 ^ L * (t * 2 ^ s)
 bel:Below w.heap.size w wr

theorem RaR.step {wr w w1:World} {L s t:Nat} {v v':Value} {k c:Nat} {zs:List Nat} {o:Obj} (h:RaR wr w L s t v k c zs) (y:Nat) (hy:y < 4294967296) (hs:s < 32)
  (hown:w1.ownsRow w.heap.size 94 1 v' (L + k + 1) (vals zs ++ [.int .u32 ((y * 2 ^ s + c) % 4294967296:Nat)])) (hg:(wr.alloc o).grownBy w1 v.ownBlock) :
  RaR w1 w L s (t + 4294967296 ^ k * y) v' (k + 1) ((y * 2 ^ s + c) / 4294967296) (zs ++ [(y * 2 ^ s + c) % 4294967296]):=by
 have hz:=h.bel.size
 have hp:=pow_s hs
 refine ⟨by simp [h.len]; omega,?_,?_,by simpa [vals,Nat.add_assoc] using hown,?_,Below.grown (h.bel.alloc (by omega) o) hg (by simp; omega) (fun k hk => (own_ge h.own k hk).1)⟩
 ·intro z hz
  rcases List.mem_append.1 hz with hz | hz
  ·exact h.ok z hz
  ·simp at hz; subst hz; omega
 ·have hc:=h.clt
  rw [Nat.div_lt_iff_lt_mul (by decide)]
  have:(y + 1) * 2 ^ s ≤ 4294967296 * 2 ^ s:=Nat.mul_le_mul_right _ hy
  rw [Nat.add_mul,Nat.one_mul] at this
  rw [Nat.mul_comm (2 ^ s)]
  omega
 ·rw [val_append,h.len]
  simp only [Go.Proofs.YtjoaijbhpgekoaaGreatDoor.val,Nat.mul_zero,Nat.add_zero]
  have e:=Nat.div_add_mod (y * 2 ^ s + c) 4294967296
  rw [show L + (k + 1) = L + k + 1 from rfl,Nat.pow_succ]
  have h1:4294967296 ^ (L + k) * ((y * 2 ^ s + c) % 4294967296) + 4294967296 ^ (L + k) * 4294967296 * ((y * 2 ^ s + c) / 4294967296) = 4294967296 ^ (L + k) * (y * 2 ^ s) + 4294967296 ^ (L + k) * c:=by
   rw [Nat.mul_assoc,← Nat.mul_add,Nat.add_comm ((y * 2 ^ s + c) % 4294967296),e,Nat.mul_add]
  have h2:4294967296 ^ L * ((t + 4294967296 ^ k * y) * 2 ^ s) = 4294967296 ^ L * (t * 2 ^ s) + 4294967296 ^ (L + k) * (y * 2 ^ s):=by
   rw [Nat.add_mul,Nat.mul_add,Nat.pow_add,Nat.mul_assoc,Nat.mul_assoc]
  have:=h.val
  omega
theorem Fn.chgW {S:Nat → Prop} {w w':World} {b off n:Nat} {f:Nat → Nat} (h:Fn w b off n f) (k:Chg S w w') (hs:¬ S b):Fn w' b off n f:=by
 intro i hi
 have:=h i hi
 have hlt:=World.block_lt_of_cell? _ _ this.1
 exact ⟨k.cell hs this.1,by rw [World.frozen?_of_block (w:=w) (k.block b hlt hs)]; exact this.2⟩

structure DwR (wr w:World) (nq A D k:Nat) (f:Nat → Nat) (a:Option Addr) (m c R:Nat):Prop where
 q:Fn wr w.heap.size 0 nq f
 qok:∀ j,j < nq → f j < 4294967296
 qv:valF f nq = A / 2 ^ k / D * 2 ^ k
 r:Ow wr (w.heap.size + 1) a m c (limbs R)
 bel:Below w.heap.size w wr

theorem DwR.less {wr w wd:World} {nq A D i:Nat} {f:Nat → Nat} {a a':Option Addr} {m c m' c' R T:Nat} (h:DwR wr w nq A D (i + 1) f a m c R) (hc:Chg (fun k => AtB a k) wr wd) (hO:Ow wd (w.heap.size + 1) a' m' c' (limbs T)) (hT:T = 2 * (A / 2 ^ (i + 1) % D) + bitN A i) (hD:0 < D) (hlt:T < D) (j:Nat) :
  DwR (wd.drewN j) w nq A D i f a' m' c' T:=by
 have e:=dm_less hD hT hlt
 have hne:¬ AtB a w.heap.size:=fun hk => by have:=(h.r.lt hk).1; omega
 refine ⟨h.q.chgW (hc.trans (Chg.of_drewN _ j)) hne,h.qok,by rw [h.qv,e.2],hO.below (bel_drewN (Below.refl _ _) j),bel_drewN (h.bel.trans (hc.below h.bel.size (fun k hk hh => by have:=(h.r.lt hh).1; omega))) j⟩

theorem DwR.more {wr w wd w6:World} {nq A D i:Nat} {f:Nat → Nat} {a a':Option Addr} {m c m' c' R T m6:Nat} (h:DwR wr w nq A D (i + 1) f a m c R) (hc:Chg (fun k => AtB a k) wr wd) (hO:Ow wd (w.heap.size + 1) a' m' c' (limbs T)) (hT:T = 2 * (A / 2 ^ (i + 1) % D) + bitN A i) (hD:0 < D) (hge:D ≤ T) (j:Nat)
  (hO6:Ow w6 (w.heap.size + 1) a' m6 c' (limbs (T - D))) (hc6:Chg (fun k => AtB a' k) (wd.drewN j) w6) {l s:Nat} (hi:i = 32 * l + s) (hs:s < 32) (hl:l < nq) (h0:f l % 2 ^ (s + 1) = 0) :
  DwR (w6.setCell ⟨w.heap.size,l,none⟩ (.int .u32 (f l + 2 ^ s:Nat))) w nq A D i (fun j => if j = l then f l + 2 ^ s else f j) a' m6 c' (T - D):=by
 have e:=dm_more (V:=A) (D:=D) (i:=i) (r:=T - D) hD (by omega)
 have hne:¬ AtB a w.heap.size:=fun hk => by have:=(h.r.lt hk).1; omega
 have hne':¬ AtB a' w.heap.size:=fun hk => by have:=(hO.lt hk).1; omega
 have k6:Chg (fun k => AtB a' k) wd w6:=(Chg.of_drewN (S:=fun k => AtB a' k) wd j).trans hc6
 have hb1:Below w.heap.size w wd:=h.bel.trans (hc.below h.bel.size (fun k hk hh => by have:=(h.r.lt hh).1; omega))
 have hb2:Below w.heap.size w w6:=hb1.trans (k6.below hb1.size (fun k hk hh => by have:=(hO.lt hh).1; omega))
 have hq:=((h.q.chgW hc hne).chgW k6 hne').set l (f l + 2 ^ s) hl
 rw [Nat.zero_add] at hq
 have hx:=(or_bit (h.qok l hl) hs h0).2
 refine ⟨hq,?_,?_,hO6.chg (.of_set (S:=fun k => k = w.heap.size) _ _ _ _ rfl) (fun k hk hh => by subst hh; exact hne' hk),hb2.setCell (Nat.le_refl _) _⟩
 ·intro j hj
  by_cases k:j = l
  ·simp only [k,if_true]; exact hx
  ·simp only [k,if_false]; exact h.qok j hj
 ·rw [valF_put hl,h.qv,e.2,pow_limb,← Nat.pow_add,← hi]
structure MvR (wr w:World) (B g n cp:Nat) (xs:List Nat) (k:Nat):Prop where
 own:Ow wr B (some ⟨g,0,none⟩) n cp ((xs.drop 1).take k ++ xs.drop k)
 chg:Chg (fun j => AtB (some ⟨g,0,none⟩) j) w wr

theorem mv_len {xs:List Nat} {k n:Nat} (hl:xs.length = n) (hk:k + 1 ≤ n):((xs.drop 1).take k).length = k:=by simp [hl]; omega
theorem MvR.step {wr w:World} {B g n cp:Nat} {xs:List Nat} {k:Nat} (h:MvR wr w B g n cp xs k) (hl:xs.length = n) (hk:k + 1 < n) :
  MvR (wr.setCell ⟨g,k,none⟩ (.int .u32 (xs.getD (k + 1) 0:Nat))) w B g n cp xs (k + 1):=by
 refine ⟨?_,h.chg.trans (.of_set _ _ _ _ atB_some)⟩
 have:=h.own.set k (xs.getD (k + 1) 0)
 rw [set_mid (mv_len hl (by omega)) hl (by omega)] at this
 have e:(xs.drop 1).take k ++ [xs.getD (k + 1) 0] = (xs.drop 1).take (k + 1):=by
  rw [List.take_succ_eq_append_getElem (by simp; omega)]
  simp [List.getD,show k + 1 < xs.length from by omega]
 rw [e] at this
 exact this
structure MbR (wr w:World) (B g n cp:Nat) (xs:List Nat) (s k:Nat):Prop where
 own:Ow wr B (some ⟨g,0,none⟩) n cp (lst (shF xs 0 s) k ++ xs.drop k)
 chg:Chg (fun j => AtB (some ⟨g,0,none⟩) j) w wr
theorem MbR.step {wr w:World} {B g n cp:Nat} {xs:List Nat} {s k:Nat} (h:MbR wr w B g n cp xs s k) (hl:xs.length = n) (hk:k < n) :
  MbR (wr.setCell ⟨g,k,none⟩ (.int .u32 (srd (xs.getD k 0) (xs.getD (k + 1) 0) s:Nat))) w B g n cp xs s (k + 1):=by
 refine ⟨?_,h.chg.trans (.of_set _ _ _ _ atB_some)⟩
 have:=h.own.set k (srd (xs.getD k 0) (xs.getD (k + 1) 0) s)
 rw [set_mid (lst_len _ _) hl hk] at this
 have e:lst (shF xs 0 s) k ++ [srd (xs.getD k 0) (xs.getD (k + 1) 0) s] = lst (shF xs 0 s) (k + 1):=by
  simp [lst,List.range_succ,shF]
 rw [e] at this
 exact this
structure StrP (w w':World) (B:Nat) (a:Option Addr) (cp v m k u:Nat):Prop where
 own:Ow w' B a m cp (limbs u)
 eq:v = u * 2 ^ k
 odd:u % 2 = 1
 chg:Chg (fun j => AtB a j) w w'
theorem odd_cop {u:Nat} (h:u % 2 = 1) (k:Nat):Nat.Coprime (2 ^ k) u:=by
 apply Nat.Coprime.pow_left
 show Nat.gcd 2 u = 1
 rw [Nat.gcd_rec,h,Nat.gcd_one_left]
theorem wgcd_odd {u:Nat} (h:u % 2 = 1) (x k:Nat):Nat.gcd (x * 2 ^ k) u = Nat.gcd x u:=Nat.Coprime.gcd_mul_right_cancel x (odd_cop h k)
theorem gcd_less {a b:Nat} (h:b ≤ a):Nat.gcd (a - b) b = Nat.gcd a b:=by
 obtain ⟨c,rfl⟩:∃ c,a = b + c:=⟨a - b,by omega⟩
 rw [Nat.add_sub_cancel_left,Nat.gcd_comm,Nat.gcd_comm (b + c)]
 rw [Nat.add_comm,Nat.gcd_add_self_right]

structure GwR (wr w:World) (M G g:Nat) (aa:Option Addr) (ma ca A:Nat) (ab:Option Addr) (mb cb Bv:Nat):Prop where
 oa:Ow wr w.heap.size aa ma ca (limbs A)
 ob:Ow wr w.heap.size ab mb cb (limbs Bv)
 ne:∀ k,AtB aa k → ¬ AtB ab k
 odd:Bv % 2 = 1
 gcd:Nat.gcd A Bv = G
 gh:g = A + Bv
 ba:A < 4294967296 ^ M
 bb:Bv < 4294967296 ^ M
 bel:Below w.heap.size w wr

theorem GwR.stripped {wr w w3:World} {M G g:Nat} {aa:Option Addr} {ma ca A:Nat} {ab:Option Addr} {mb cb Bv m2 k2 A2:Nat} (h:GwR wr w M G g aa ma ca A ab mb cb Bv) (p:StrP wr w3 w.heap.size aa ca A m2 k2 A2):Nat.gcd A2 Bv = G:=by
 rw [← h.gcd,p.eq,wgcd_odd h.odd]
theorem GwR.le {wr w w3:World} {A m2 k2 A2 ca:Nat} {aa:Option Addr} (p:StrP wr w3 w.heap.size aa ca A m2 k2 A2):A2 ≤ A ∧ 0 < A2:=by
 have h2:A2 * 1 ≤ A2 * 2 ^ k2:=Nat.mul_le_mul_left _ (Nat.two_pow_pos _)
 have:=p.eq
 have:=p.odd
 omega
theorem GwR.less {wr w w3 w6:World} {M G g:Nat} {aa:Option Addr} {ma ca A:Nat} {ab:Option Addr} {mb cb Bv m2 k2 A2 m6 j:Nat} (h:GwR wr w M G g aa ma ca A ab mb cb Bv) (p:StrP wr w3 w.heap.size aa ca A m2 k2 A2) (hlt:A2 < Bv)
  (hO6:Ow w6 w.heap.size ab m6 cb (limbs (Bv - A2))) (hc6:Chg (fun k => AtB ab k) (w3.drewN j) w6):∃ g6,g6 < g ∧ GwR w6 w M G g6 ab m6 cb (Bv - A2) aa m2 ca A2:=by
 have hl:=GwR.le p
 have h6:Chg (fun k => AtB ab k) w3 w6:=(Chg.of_drewN w3 j).trans hc6
 have hb3:Below w.heap.size w w3:=h.bel.trans (p.chg.below h.bel.size (fun k hk hh => by have:=(h.oa.lt hh).1; omega))
 refine ⟨Bv - A2 + A2,by have:=h.gh; omega,hO6,p.own.chg h6 (fun k hk hh => h.ne k hk hh),fun k hk hh => h.ne k hh hk,p.odd,?_,rfl,by have:=h.bb; omega,by have:=h.ba; omega,hb3.trans (h6.below hb3.size (fun k hk hh => by have:=(h.ob.lt hh).1; omega))⟩
 rw [gcd_less (by omega),Nat.gcd_comm]
 exact h.stripped p
theorem GwR.more {wr w w3 w6:World} {M G g:Nat} {aa:Option Addr} {ma ca A:Nat} {ab:Option Addr} {mb cb Bv m2 k2 A2 m6 j:Nat} (h:GwR wr w M G g aa ma ca A ab mb cb Bv) (p:StrP wr w3 w.heap.size aa ca A m2 k2 A2) (hge:Bv ≤ A2)
  (hO6:Ow w6 w.heap.size aa m6 ca (limbs (A2 - Bv))) (hc6:Chg (fun k => AtB aa k) (w3.drewN j) w6):∃ g6,g6 < g ∧ GwR w6 w M G g6 aa m6 ca (A2 - Bv) ab mb cb Bv:=by
 have hl:=GwR.le p
 have hod:=h.odd
 have h6:Chg (fun k => AtB aa k) w3 w6:=(Chg.of_drewN w3 j).trans hc6
 have hb3:Below w.heap.size w w3:=h.bel.trans (p.chg.below h.bel.size (fun k hk hh => by have:=(h.oa.lt hh).1; omega))
 refine ⟨A2 - Bv + Bv,by have:=h.gh; omega,hO6,(h.ob.chg p.chg (fun k hk hh => h.ne k hh hk)).chg h6 (fun k hk hh => h.ne k hh hk),h.ne,h.odd,?_,rfl,by have:=h.ba; omega,h.bb,hb3.trans (h6.below hb3.size (fun k hk hh => by have:=(h.oa.lt hh).1; omega))⟩
 rw [gcd_less hge]
 exact h.stripped p
end Go.Proofs.YtjoaijbhpgekoaaGreatDoor
