/- Rpc -/
import Derived.Test.YtmnlhnmlgncedaaGreatDoorRp5
import Derived.Test.YtmnlhnmlgncedaaGreatDoorRp9
import Derived.Test.YtmnlhnmlgncedaaGreatDoorRq0
import Derived.Test.YtmnlhnmlgncedaaGreatDoorGb
import Derived.Test.YtmnlhnmlgncedaaGreatDoorWr4
import Derived.Test.YtmnlhnmlgncedaaGreatDoorWr9
namespace Go.Proofs.YtmnlhnmlgncedaaGreatDoor
open Go.RowKit Go.Deep
set_option linter.unusedVariables false
def pwB (d:ByteArray):Nat → Nat
 | 0 => 0
 | i + 1 => 10 * pwB d i + (byA d i - 48)
theorem pwB_le (d : ByteArray) {i : Nat} : ∀ {j : Nat}, i ≤ j → pwB d i ≤ pwB d j
  | 0, h => by obtain rfl : i = 0 := by omega
               exact Nat.le_refl _
  | j + 1, h => by
    rcases Nat.lt_or_eq_of_le h with e | e
    · have := pwB_le d (i := i) (j := j) (by omega)
      show pwB d i ≤ 10 * pwB d j + (byA d j - 48)
      omega
    · rw [e]
      exact Nat.le_refl _
theorem bytes_at {w:World} {d:ByteArray} {cap i:Nat} {e:TypeId} {p:Nat × Nat} (h:i < d.size):(w.alloc (.cells (bytesRow d cap) e p)).cell? ⟨w.heap.size,i,none⟩ = some (.int .u8 (byA d i:Nat)):=by
 have h1:=bytesRow_at d cap i h
 have h2:byA d i = (d.data[i]'h).toNat:=by
  unfold byA
  cases d with
  | mk a => 
   show (a[i]!).toNat = _
   rw [getElem!_pos a i h]
 rw [h2]
 have e1:(w.alloc (.cells (bytesRow d cap) e p)).heap[w.heap.size]? = some (.cells (bytesRow d cap) e p):=by
  show (w.heap.push (.cells (bytesRow d cap) e p))[w.heap.size]? = _
  simp
 unfold World.cell?
 simp only [e1]
 exact h1

set_option maxRecDepth 100000 in
set_option maxHeartbeats 8000000 in
theorem readPower_py (s d:ByteArray) (w:World) (hNG:(decide (1 ≤ s.size) && ((s.extract 0 1).toList == [45])) = false) (hd:(⟨(Lib.trimLeftS s.data.toList [43,45]).toArray⟩:ByteArray) = d) (hds:d.size ≤ 65536) (hdg:∀ j,j < d.size → 48 ≤ byA d j ∧ byA d j ≤ 57) (hN:pwB d d.size ≤ 4096) :
  Calls Tryz.prog 33 #[.string s] w fun e w' => e = .returned (.tuple #[.int .i64 (pwB d d.size:Nat),.bool true]) ∧ Below w.heap.size w w':=by
 have HP:=Hj (hasPrefix_any s false w hNG)
 have KL:=trimLeft_pm s w
 rw [hd] at KL
 have HL:=Hj KL
 have HDG:=Hj hdg
 have HN:=Hj hN
 clear KL hd hdg hN hNG
 go_enter Tryz.func33,Tryz.ntmps33
 go_wp2_with fail
 refine (Uh HP).mono ?_
 rintro _ _ ⟨rfl,hw⟩
 obtain rfl:=hw.symm
 clear hw
 go_wp2_with fail
 refine (Uh HL).mono ?_
 rintro _ w1 ⟨rfl,b1⟩
 have hconv:=run_bytes_of_string (P:=Tryz.prog) w1 9 108 5 d Tryz.underlying9 Tryz.underlying108 Tryz.underlying5
 obtain ⟨wc,hwc⟩:∃ x,w1.drew.alloc (.cells (bytesRow d (grownCap w1 d.size 0 5)) 5 ((bytesRow d (grownCap w1 d.size 0 5)).size,(bytesRow d (grownCap w1 d.size 0 5)).size + 1)) = x:=⟨_,rfl⟩
 have HC:=Hj (show ∀ i,i < d.size → wc.cell? ⟨w1.heap.size,i,none⟩ = some (.int .u8 (byA d i:Nat)) from fun i hi => by rw [← hwc]; exact bytes_at (w:=w1.drew) hi)
 rw [hwc] at hconv
 have hbc:Below w1.heap.size w1 wc:=by rw [← hwc]; exact (Below.refl _ _).drew.alloc (by simp) _
 have HBc:=Hj (b1.trans (hbc.mono b1.size))
 obtain ⟨cp,hcp⟩:∃ c,grownCap w1 d.size 0 5 = c:=⟨_,rfl⟩
 rw [hcp] at hconv
 clear hbc hwc hcp b1
 go_wp2_with fail
 go_loopw [5,14] (fun nv cv wr => ∃ i:Nat,i ≤ d.size ∧ pwB d i ≤ 4096 ∧ nv = .int .i64 (pwB d i:Nat) ∧ cv = .int .i64 (i:Nat) ∧ Hid (wr = wc)) (fun _ cv _ => d.size - (intOf cv).toNat)
 case atStart => exact ⟨0,Nat.zero_le _,(by decide:(0:Nat) ≤ 4096),rfl,rfl,rfl⟩
 case round =>
  obtain ⟨i,hi,hle,rfl,rfl,HW⟩:=hrel
  obtain rfl:=Uh HW
  clear HW
  by_cases hlt:i < d.size
  ·have hc:=Uh HC i hlt
   obtain ⟨g1,g2⟩:=Uh HDG i hlt
   have hlt':(i:Int) < (d.size:Int):=by omega
   have hnx:pwB d (i + 1) = 10 * pwB d i + (byA d i - 48):=rfl
   have HNX:=Hj hnx
   obtain ⟨c,hcv⟩:∃ z,byA d i = z:=⟨_,rfl⟩
   obtain ⟨v,hv⟩:∃ z,pwB d i = z:=⟨_,rfl⟩
   rw [hcv] at hc g1 g2 hnx
   rw [hv] at hnx hle ⊢
   obtain ⟨u,hu⟩:∃ z,pwB d (i + 1) = z:=⟨_,rfl⟩
   rw [hu] at hnx
   have HU:=Hj hu
   clear hcv hv hu
   have ex:10 * (v:Int) + ((c:Int) - 48) = (u:Int):=by omega
   have ex2:(v:Int) * 10 + ((c:Int) - 48) = (u:Int):=by omega
   clear hnx
   have hun:u ≤ 4096:=by
    have:=pwB_le d (i:=i + 1) (j:=d.size) (by omega)
    rw [Uh HU] at this
    have:=Uh HN
    omega
   have tb:¬ (4096:Int) < (u:Int):=by omega
   go_wp2_with fail
   exact ⟨⟨i + 1,by omega,by rw [Uh HU]; exact hun,by rw [Uh HU],by (first | rfl | go_num),Hj trivial⟩,by simp [intOf]; omega⟩
  ·have hlt':¬ (i:Int) < (d.size:Int):=by omega
   obtain rfl:i = d.size:=by omega
   go_wp2_with fail
   go_ret2
   exact ⟨rfl,Uh HBc⟩
set_option maxRecDepth 100000 in
set_option maxHeartbeats 8000000 in
theorem readPower_my (s d:ByteArray) (w:World) (hNG:(decide (1 ≤ s.size) && ((s.extract 0 1).toList == [45])) = true) (hd:(⟨(Lib.trimLeftS s.data.toList [43,45]).toArray⟩:ByteArray) = d) (hds:d.size ≤ 65536) (hdg:∀ j,j < d.size → 48 ≤ byA d j ∧ byA d j ≤ 57) (hN:pwB d d.size ≤ 4096) :
  Calls Tryz.prog 33 #[.string s] w fun e w' => e = .returned (.tuple #[.int .i64 (-(pwB d d.size:Int)),.bool true]) ∧ Below w.heap.size w w':=by
 have HP:=Hj (hasPrefix_any s true w hNG)
 have KL:=trimLeft_pm s w
 rw [hd] at KL
 have HL:=Hj KL
 have HDG:=Hj hdg
 have HN:=Hj hN
 clear KL hd hdg hN hNG
 go_enter Tryz.func33,Tryz.ntmps33
 go_wp2_with fail
 refine (Uh HP).mono ?_
 rintro _ _ ⟨rfl,hw⟩
 obtain rfl:=hw.symm
 clear hw
 go_wp2_with fail
 refine (Uh HL).mono ?_
 rintro _ w1 ⟨rfl,b1⟩
 have hconv:=run_bytes_of_string (P:=Tryz.prog) w1 9 108 5 d Tryz.underlying9 Tryz.underlying108 Tryz.underlying5
 obtain ⟨wc,hwc⟩:∃ x,w1.drew.alloc (.cells (bytesRow d (grownCap w1 d.size 0 5)) 5 ((bytesRow d (grownCap w1 d.size 0 5)).size,(bytesRow d (grownCap w1 d.size 0 5)).size + 1)) = x:=⟨_,rfl⟩
 have HC:=Hj (show ∀ i,i < d.size → wc.cell? ⟨w1.heap.size,i,none⟩ = some (.int .u8 (byA d i:Nat)) from fun i hi => by rw [← hwc]; exact bytes_at (w:=w1.drew) hi)
 rw [hwc] at hconv
 have hbc:Below w1.heap.size w1 wc:=by rw [← hwc]; exact (Below.refl _ _).drew.alloc (by simp) _
 have HBc:=Hj (b1.trans (hbc.mono b1.size))
 obtain ⟨cp,hcp⟩:∃ c,grownCap w1 d.size 0 5 = c:=⟨_,rfl⟩
 rw [hcp] at hconv
 clear hbc hwc hcp b1
 go_wp2_with fail
 go_loopw [5,14] (fun nv cv wr => ∃ i:Nat,i ≤ d.size ∧ pwB d i ≤ 4096 ∧ nv = .int .i64 (pwB d i:Nat) ∧ cv = .int .i64 (i:Nat) ∧ Hid (wr = wc)) (fun _ cv _ => d.size - (intOf cv).toNat)
 case atStart => exact ⟨0,Nat.zero_le _,(by decide:(0:Nat) ≤ 4096),rfl,rfl,rfl⟩
 case round =>
  obtain ⟨i,hi,hle,rfl,rfl,HW⟩:=hrel
  obtain rfl:=Uh HW
  clear HW
  by_cases hlt:i < d.size
  ·have hc:=Uh HC i hlt
   obtain ⟨g1,g2⟩:=Uh HDG i hlt
   have hlt':(i:Int) < (d.size:Int):=by omega
   have hnx:pwB d (i + 1) = 10 * pwB d i + (byA d i - 48):=rfl
   have HNX:=Hj hnx
   obtain ⟨c,hcv⟩:∃ z,byA d i = z:=⟨_,rfl⟩
   obtain ⟨v,hv⟩:∃ z,pwB d i = z:=⟨_,rfl⟩
   rw [hcv] at hc g1 g2 hnx
   rw [hv] at hnx hle ⊢
   obtain ⟨u,hu⟩:∃ z,pwB d (i + 1) = z:=⟨_,rfl⟩
   rw [hu] at hnx
   have HU:=Hj hu
   clear hcv hv hu
   have ex:10 * (v:Int) + ((c:Int) - 48) = (u:Int):=by omega
   have ex2:(v:Int) * 10 + ((c:Int) - 48) = (u:Int):=by omega
   clear hnx
   have hun:u ≤ 4096:=by
    have:=pwB_le d (i:=i + 1) (j:=d.size) (by omega)
    rw [Uh HU] at this
    have:=Uh HN
    omega
   have tb:¬ (4096:Int) < (u:Int):=by omega
   go_wp2_with fail
   exact ⟨⟨i + 1,by omega,by rw [Uh HU]; exact hun,by rw [Uh HU],by (first | rfl | go_num),Hj trivial⟩,by simp [intOf]; omega⟩
  ·have hlt':¬ (i:Int) < (d.size:Int):=by omega
   obtain rfl:i = d.size:=by omega
   go_wp2_with fail
   go_ret2
   exact ⟨rfl,Uh HBc⟩
set_option maxRecDepth 100000 in
set_option maxHeartbeats 8000000 in
theorem readPower_pn (s d:ByteArray) (w:World) (hNG:(decide (1 ≤ s.size) && ((s.extract 0 1).toList == [45])) = false) (hd:(⟨(Lib.trimLeftS s.data.toList [43,45]).toArray⟩:ByteArray) = d) (hds:d.size ≤ 65536) (hdg:∀ j,j < d.size → 48 ≤ byA d j ∧ byA d j ≤ 57) (hN:4096 < pwB d d.size) :
  Calls Tryz.prog 33 #[.string s] w fun e w' => e = .returned (.tuple #[.int .i64 0,.bool false]) ∧ Below w.heap.size w w':=by
 have HP:=Hj (hasPrefix_any s false w hNG)
 have KL:=trimLeft_pm s w
 rw [hd] at KL
 have HL:=Hj KL
 have HDG:=Hj hdg
 have HN:=Hj hN
 clear KL hd hdg hN hNG
 go_enter Tryz.func33,Tryz.ntmps33
 go_wp2_with fail
 refine (Uh HP).mono ?_
 rintro _ _ ⟨rfl,hw⟩
 obtain rfl:=hw.symm
 clear hw
 go_wp2_with fail
 refine (Uh HL).mono ?_
 rintro _ w1 ⟨rfl,b1⟩
 have hconv:=run_bytes_of_string (P:=Tryz.prog) w1 9 108 5 d Tryz.underlying9 Tryz.underlying108 Tryz.underlying5
 obtain ⟨wc,hwc⟩:∃ x,w1.drew.alloc (.cells (bytesRow d (grownCap w1 d.size 0 5)) 5 ((bytesRow d (grownCap w1 d.size 0 5)).size,(bytesRow d (grownCap w1 d.size 0 5)).size + 1)) = x:=⟨_,rfl⟩
 have HC:=Hj (show ∀ i,i < d.size → wc.cell? ⟨w1.heap.size,i,none⟩ = some (.int .u8 (byA d i:Nat)) from fun i hi => by rw [← hwc]; exact bytes_at (w:=w1.drew) hi)
 rw [hwc] at hconv
 have hbc:Below w1.heap.size w1 wc:=by rw [← hwc]; exact (Below.refl _ _).drew.alloc (by simp) _
 have HBc:=Hj (b1.trans (hbc.mono b1.size))
 obtain ⟨cp,hcp⟩:∃ c,grownCap w1 d.size 0 5 = c:=⟨_,rfl⟩
 rw [hcp] at hconv
 clear hbc hwc hcp b1
 go_wp2_with fail
 go_loopw [5,14] (fun nv cv wr => ∃ i:Nat,i ≤ d.size ∧ pwB d i ≤ 4096 ∧ nv = .int .i64 (pwB d i:Nat) ∧ cv = .int .i64 (i:Nat) ∧ Hid (wr = wc)) (fun _ cv _ => d.size - (intOf cv).toNat)
 case atStart => exact ⟨0,Nat.zero_le _,(by decide:(0:Nat) ≤ 4096),rfl,rfl,rfl⟩
 case round =>
  obtain ⟨i,hi,hle,rfl,rfl,HW⟩:=hrel
  obtain rfl:=Uh HW
  clear HW
  by_cases hlt:i < d.size
  ·have hc:=Uh HC i hlt
   obtain ⟨g1,g2⟩:=Uh HDG i hlt
   have hlt':(i:Int) < (d.size:Int):=by omega
   have hnx:pwB d (i + 1) = 10 * pwB d i + (byA d i - 48):=rfl
   have HNX:=Hj hnx
   obtain ⟨c,hcv⟩:∃ z,byA d i = z:=⟨_,rfl⟩
   obtain ⟨v,hv⟩:∃ z,pwB d i = z:=⟨_,rfl⟩
   rw [hcv] at hc g1 g2 hnx
   rw [hv] at hnx hle ⊢
   obtain ⟨u,hu⟩:∃ z,pwB d (i + 1) = z:=⟨_,rfl⟩
   rw [hu] at hnx
   have HU:=Hj hu
   clear hcv hv hu
   have ex:10 * (v:Int) + ((c:Int) - 48) = (u:Int):=by omega
   have ex2:(v:Int) * 10 + ((c:Int) - 48) = (u:Int):=by omega
   clear hnx
   by_cases hun:u ≤ 4096
   ·have tb:¬ (4096:Int) < (u:Int):=by omega
    go_wp2_with fail
    exact ⟨⟨i + 1,by omega,by rw [Uh HU]; exact hun,by rw [Uh HU],by (first | rfl | go_num),Hj trivial⟩,by simp [intOf]; omega⟩
   ·have tb:(4096:Int) < (u:Int):=by omega
    go_wp2_with fail
    go_ret2
    exact ⟨rfl,Uh HBc⟩
  ·exfalso
   obtain rfl:i = d.size:=by omega
   have:=Uh HN
   omega
set_option maxRecDepth 100000 in
set_option maxHeartbeats 8000000 in
theorem readPower_mn (s d:ByteArray) (w:World) (hNG:(decide (1 ≤ s.size) && ((s.extract 0 1).toList == [45])) = true) (hd:(⟨(Lib.trimLeftS s.data.toList [43,45]).toArray⟩:ByteArray) = d) (hds:d.size ≤ 65536) (hdg:∀ j,j < d.size → 48 ≤ byA d j ∧ byA d j ≤ 57) (hN:4096 < pwB d d.size) :
  Calls Tryz.prog 33 #[.string s] w fun e w' => e = .returned (.tuple #[.int .i64 0,.bool false]) ∧ Below w.heap.size w w':=by
 have HP:=Hj (hasPrefix_any s true w hNG)
 have KL:=trimLeft_pm s w
 rw [hd] at KL
 have HL:=Hj KL
 have HDG:=Hj hdg
 have HN:=Hj hN
 clear KL hd hdg hN hNG
 go_enter Tryz.func33,Tryz.ntmps33
 go_wp2_with fail
 refine (Uh HP).mono ?_
 rintro _ _ ⟨rfl,hw⟩
 obtain rfl:=hw.symm
 clear hw
 go_wp2_with fail
 refine (Uh HL).mono ?_
 rintro _ w1 ⟨rfl,b1⟩
 have hconv:=run_bytes_of_string (P:=Tryz.prog) w1 9 108 5 d Tryz.underlying9 Tryz.underlying108 Tryz.underlying5
 obtain ⟨wc,hwc⟩:∃ x,w1.drew.alloc (.cells (bytesRow d (grownCap w1 d.size 0 5)) 5 ((bytesRow d (grownCap w1 d.size 0 5)).size,(bytesRow d (grownCap w1 d.size 0 5)).size + 1)) = x:=⟨_,rfl⟩
 have HC:=Hj (show ∀ i,i < d.size → wc.cell? ⟨w1.heap.size,i,none⟩ = some (.int .u8 (byA d i:Nat)) from fun i hi => by rw [← hwc]; exact bytes_at (w:=w1.drew) hi)
 rw [hwc] at hconv
 have hbc:Below w1.heap.size w1 wc:=by rw [← hwc]; exact (Below.refl _ _).drew.alloc (by simp) _
 have HBc:=Hj (b1.trans (hbc.mono b1.size))
 obtain ⟨cp,hcp⟩:∃ c,grownCap w1 d.size 0 5 = c:=⟨_,rfl⟩
 rw [hcp] at hconv
 clear hbc hwc hcp b1
 go_wp2_with fail
 go_loopw [5,14] (fun nv cv wr => ∃ i:Nat,i ≤ d.size ∧ pwB d i ≤ 4096 ∧ nv = .int .i64 (pwB d i:Nat) ∧ cv = .int .i64 (i:Nat) ∧ Hid (wr = wc)) (fun _ cv _ => d.size - (intOf cv).toNat)
 case atStart => exact ⟨0,Nat.zero_le _,(by decide:(0:Nat) ≤ 4096),rfl,rfl,rfl⟩
 case round =>
  obtain ⟨i,hi,hle,rfl,rfl,HW⟩:=hrel
  obtain rfl:=Uh HW
  clear HW
  by_cases hlt:i < d.size
  ·have hc:=Uh HC i hlt
   obtain ⟨g1,g2⟩:=Uh HDG i hlt
   have hlt':(i:Int) < (d.size:Int):=by omega
   have hnx:pwB d (i + 1) = 10 * pwB d i + (byA d i - 48):=rfl
   have HNX:=Hj hnx
   obtain ⟨c,hcv⟩:∃ z,byA d i = z:=⟨_,rfl⟩
   obtain ⟨v,hv⟩:∃ z,pwB d i = z:=⟨_,rfl⟩
   rw [hcv] at hc g1 g2 hnx
   rw [hv] at hnx hle ⊢
   obtain ⟨u,hu⟩:∃ z,pwB d (i + 1) = z:=⟨_,rfl⟩
   rw [hu] at hnx
   have HU:=Hj hu
   clear hcv hv hu
   have ex:10 * (v:Int) + ((c:Int) - 48) = (u:Int):=by omega
   have ex2:(v:Int) * 10 + ((c:Int) - 48) = (u:Int):=by omega
   clear hnx
   by_cases hun:u ≤ 4096
   ·have tb:¬ (4096:Int) < (u:Int):=by omega
    go_wp2_with fail
    exact ⟨⟨i + 1,by omega,by rw [Uh HU]; exact hun,by rw [Uh HU],by (first | rfl | go_num),Hj trivial⟩,by simp [intOf]; omega⟩
   ·have tb:(4096:Int) < (u:Int):=by omega
    go_wp2_with fail
    go_ret2
    exact ⟨rfl,Uh HBc⟩
  ·exfalso
   obtain rfl:i = d.size:=by omega
   have:=Uh HN
   omega
theorem kd_one {s:ByteArray} {i:Nat} (h:i < s.size):kdA s i = 1 ↔ 48 ≤ byA s i ∧ byA s i ≤ 57:=by
 unfold kdA
 rw [if_neg (by omega)]
 unfold kdN
 constructor
 ·intro k
  by_cases c:48 ≤ byA s i ∧ byA s i ≤ 57
  ·exact c
  ·rw [if_neg c] at k
   revert k
   repeat (first | split | (intro k; omega))
 ·intro k
  rw [if_pos k]
set_option maxHeartbeats 8000000 in
theorem wdigEnd_any (s:ByteArray) (i j:Nat) (w:World) (hs:s.size ≤ 65536) (hr:RunK s i j) :
  Calls Tryz.prog 58 #[.string s,.int .i64 (i:Nat)] w fun e w' => e = .returned (.int .i64 (j:Nat)) ∧ w' = w:=by
 have HR:=Hj hr
 have hij:=hr.le
 have hjt:=hr.top
 clear hr
 go_enter Tryz.func58,Tryz.ntmps58
 go_wp2_with fail
 go_loopw [1] (fun iv wr => ∃ q:Nat,i ≤ q ∧ q ≤ j ∧ iv = .int .i64 (q:Nat) ∧ Hid (wr = w)) (fun iv _ => s.size - (intOf iv).toNat)
 case atStart => exact ⟨i,Nat.le_refl _,hij,rfl,rfl⟩
 case round =>
  obtain ⟨q,h1,h2,rfl,HW⟩:=hrel
  obtain rfl:=Uh HW
  clear HW
  by_cases hlt:q < s.size
  ·have hlt':(q:Int) < (s.size:Int):=by omega
   have hb:=byA_get s q hlt
   have hk:=kd_one hlt
   rcases Nat.lt_or_eq_of_le h2 with e | e
   ·obtain ⟨g1,g2⟩:=hk.1 ((Uh HR).all q h1 e)
    have f1:(48:Int) ≤ ((s[q]'hlt).toNat:Int):=by omega
    have f2:((s[q]'hlt).toNat:Int) ≤ 57:=by omega
    clear hb hk g1 g2
    go_wp2_with fail
    exact ⟨⟨q + 1,by omega,by omega,by (first | rfl | go_num),Hj trivial⟩,by simp [intOf]; omega⟩
   ·subst e
    have hn:=(Uh HR).stop
    by_cases c:48 ≤ byA s q
    ·have f1:(48:Int) ≤ ((s[q]'hlt).toNat:Int):=by omega
     have f2:¬ ((s[q]'hlt).toNat:Int) ≤ 57:=fun f => hn (hk.2 ⟨c,by omega⟩)
     clear hb hk
     go_wp2_with fail
     go_ret
     exact ⟨rfl,rfl⟩
    ·have f1:¬ (48:Int) ≤ ((s[q]'hlt).toNat:Int):=by omega
     clear hb hk
     go_wp2_with fail
     go_ret
     exact ⟨rfl,rfl⟩
  ·have hlt':¬ (q:Int) < (s.size:Int):=by omega
   obtain rfl:q = j:=by omega
   go_wp2_with fail
   go_ret
   exact ⟨rfl,rfl⟩
set_option maxHeartbeats 8000000 in
theorem wpower_any (s:ByteArray) (w:World) (hs:s.size ≤ 65536) (hd:∀ q,q < s.size → 48 ≤ byA s q ∧ byA s q ≤ 57) :
  Calls Tryz.prog 115 #[.string s] w fun e w' => e = .returned (.int .i64 (min (pwB s s.size) 4097:Nat)) ∧ w' = w:=by
 have HD:=Hj hd
 clear hd
 go_enter Tryz.func115,Tryz.ntmps115
 go_wp2_with fail
 go_loopw [3,4] (fun nv iv wr => ∃ q:Nat,q ≤ s.size ∧ nv = .int .i64 (min (pwB s q) 4097:Nat) ∧ iv = .int .i64 (q:Nat) ∧ Hid (wr = w)) (fun _ iv _ => s.size - (intOf iv).toNat)
 case atStart => exact ⟨0,Nat.zero_le _,rfl,rfl,rfl⟩
 case round =>
  obtain ⟨q,h1,rfl,rfl,HW⟩:=hrel
  obtain rfl:=Uh HW
  clear HW
  by_cases hlt:q < s.size
  ·have hlt':(q:Int) < (s.size:Int):=by omega
   have hb:=byA_get s q hlt
   obtain ⟨g1,g2⟩:=Uh HD q hlt
   have hn:pwB s (q + 1) = 10 * pwB s q + (byA s q - 48):=rfl
   obtain ⟨v,hv⟩:∃ v,min (pwB s q) 4097 = v:=⟨_,rfl⟩
   obtain ⟨u,hu⟩:∃ u,min (pwB s (q + 1)) 4097 = u:=⟨_,rfl⟩
   obtain ⟨t,ht⟩:∃ t,10 * v + (byA s q - 48) = t:=⟨_,rfl⟩
   have hv2:v ≤ 4097:=by omega
   have f1:(48:Int) ≤ ((s[q]'hlt).toNat:Int):=by omega
   have f2:((s[q]'hlt).toNat:Int) ≤ 57:=by omega
   have ex:10 * (v:Int) + (((s[q]'hlt).toNat:Int) - 48) = (t:Int):=by omega
   have ht2:t ≤ 41000:=by omega
   by_cases hb4:t ≤ 4096
   ·have hut:u = t:=by omega
    have tb:¬ (4096:Int) < (t:Int):=by omega
    rw [hv]
    have HU:=Hj (hu.trans hut)
    clear hb g1 g2 hn hv hu ht hut hb4
    go_wp2_with fail
    exact ⟨⟨q + 1,by omega,by rw [Uh HU],by (first | rfl | go_num),Hj trivial⟩,by simp [intOf]; omega⟩
   ·have hut:u = 4097:=by omega
    have tb:(4096:Int) < (t:Int):=by omega
    rw [hv]
    have HU:=Hj (hu.trans hut)
    clear hb g1 g2 hn hv hu ht hut hb4
    go_wp2_with fail
    exact ⟨⟨q + 1,by omega,by rw [Uh HU]; rfl,by (first | rfl | go_num),Hj trivial⟩,by simp [intOf]; omega⟩
  ·have hlt':¬ (q:Int) < (s.size:Int):=by omega
   obtain rfl:q = s.size:=by omega
   obtain ⟨v,hv⟩:∃ v,min (pwB s s.size) 4097 = v:=⟨_,rfl⟩
   rw [hv]
   have HV:=Hj hv
   clear hv
   go_wp2_with fail
   go_ret
   rw [Uh HV]
   exact ⟨rfl,rfl⟩
structure Zr (s:ByteArray) (z:Nat):Prop where
 le:z ≤ s.size
 all:∀ q,q < z → byA s q = 48
 stop:z < s.size → byA s z ≠ 48
theorem zr_from (s:ByteArray):∀ (f i:Nat),i + f = s.size → (∀ q,q < i → byA s q = 48) → ∃ z,Zr s z
 | 0,i,h,ha => ⟨i,by omega,ha,fun k => by omega⟩
 | f + 1,i,h,ha => by
  by_cases hk:byA s i = 48
  ·refine zr_from s f (i + 1) (by omega) fun q hq => ?_
   rcases Nat.lt_or_eq_of_le (Nat.le_of_lt_succ hq) with e | e
   ·exact ha q e
   ·rw [e]; exact hk
  ·exact ⟨i,by omega,ha,fun _ => hk⟩
theorem zr_any (s:ByteArray):∃ z,Zr s z:=zr_from s s.size 0 (by omega) fun q hq => by omega
set_option maxHeartbeats 8000000 in
theorem wbare_any (s:ByteArray) (z:Nat) (w:World) (hs:s.size ≤ 65536) (hz:Zr s z) :
  Calls Tryz.prog 59 #[.string s] w fun e w' => e = .returned (.string (s.extract z s.size)) ∧ w' = w:=by
 have HZ:=Hj hz
 have hle:=hz.le
 clear hz
 go_enter Tryz.func59,Tryz.ntmps59
 go_wp2_with fail
 go_loopw [3] (fun iv wr => ∃ q:Nat,q ≤ z ∧ iv = .int .i64 (q:Nat) ∧ Hid (wr = w)) (fun iv _ => s.size - (intOf iv).toNat)
 case atStart => exact ⟨0,Nat.zero_le _,rfl,rfl⟩
 case round =>
  obtain ⟨q,h1,rfl,HW⟩:=hrel
  obtain rfl:=Uh HW
  clear HW
  by_cases hlt:q < s.size
  ·have hlt':(q:Int) < (s.size:Int):=by omega
   have hb:=byA_get s q hlt
   rcases Nat.lt_or_eq_of_le h1 with e | e
   ·have g1:=(Uh HZ).all q e
    have f1:(((s[q]'hlt).toNat:Int) == 48) = true:=by rw [hb,g1]; rfl
    have f2:((s[q]'hlt).toNat:Int) = 48:=by omega
    clear hb g1
    go_wp2_with fail
    exact ⟨⟨q + 1,by omega,by (first | rfl | go_num),Hj trivial⟩,by simp [intOf]; omega⟩
   ·subst e
    have g1:=(Uh HZ).stop hlt
    have f2:¬ ((s[q]'hlt).toNat:Int) = 48:=by omega
    have f1:(((s[q]'hlt).toNat:Int) == 48) = false:=by simp; omega
    clear hb g1
    go_wp2_with fail
    go_ret
    exact ⟨rfl,rfl⟩
  ·have hlt':¬ (q:Int) < (s.size:Int):=by omega
   obtain rfl:q = z:=by omega
   have hq:(q:Int) ≤ (s.size:Int):=by omega
   go_wp2_with fail
   go_ret
   exact ⟨rfl,rfl⟩
def sgB (s:ByteArray) (b:Nat):Nat → Nat
 | 0 => 0
 | k + 1 => 10 * sgB s b k + (byA s (b + k) - 48)
theorem sgB_lt {s:ByteArray} {b:Nat}:∀ {k:Nat},(∀ q,q < k → byA s (b + q) ≤ 57) → sgB s b k < 10 ^ k
 | 0,_ => by simp [sgB]
 | k + 1,h => by
  have h1:=sgB_lt (s:=s) (b:=b) (k:=k) (fun q hq => h q (by omega))
  have h2:=h k (by omega)
  show 10 * sgB s b k + (byA s (b + k) - 48) < 10 ^ (k + 1)
  rw [Nat.pow_succ]
  omega
theorem pwB_sg (s:ByteArray) (b:Nat):∀ k,pwB s (b + k) = pwB s b * 10 ^ k + sgB s b k
 | 0 => by simp [sgB]
 | k + 1 => by
  have h:=pwB_sg s b k
  show 10 * pwB s (b + k) + (byA s (b + k) - 48) = pwB s b * 10 ^ (k + 1) + (10 * sgB s b k + (byA s (b + k) - 48))
  rw [h,Nat.pow_succ,Nat.mul_add,Nat.mul_comm (10 ^ k) 10,Nat.mul_left_comm]
  omega
theorem ten_small {k:Nat} (h:k ≤ 8):10 ^ k ≤ 100000000:=Nat.le_trans (Nat.pow_le_pow_right (n:=10) (by decide) h) (by decide)
theorem pwB_lt {s:ByteArray}:∀ {b:Nat},(∀ q,q < b → byA s q ≤ 57) → pwB s b < 10 ^ b
 | 0,_ => by simp [pwB]
 | b + 1,h => by
  have h1:=pwB_lt (s:=s) (b:=b) (fun q hq => h q (by omega))
  have h2:=h b (by omega)
  show 10 * pwB s b + (byA s b - 48) < 10 ^ (b + 1)
  rw [Nat.pow_succ]
  omega
structure FdI (w wr:World) (s:ByteArray) (a:Option Addr) (m c b:Nat):Prop where
 sl:Sl wr a m c (limbs (pwB s b))
 bel:Below w.heap.size w wr
 new:NewAt w.heap.size a
 nil:a = none → c = 0
set_option maxRecDepth 100000 in
set_option maxHeartbeats 16000000 in
theorem wfromDigits_any (s:ByteArray) (w:World) (hs:s.size ≤ 65536) (hd:∀ q,q < s.size → 48 ≤ byA s q ∧ byA s q ≤ 57) :
  Calls Tryz.prog 112 #[.string s] w fun e w' => NewL w w' (pwB s s.size) e:=by
 have HD:=Hj hd
 clear hd
 go_enter Tryz.func112,Tryz.ntmps112
 go_wp2_with fail
 go_loopw [3,4,5,6,7] (fun av iv _ _ _ wr => ∃ (b:Nat) (a:Option Addr) (m c:Nat),b ≤ s.size ∧ av = .slice a m c ∧ iv = .int .i64 (b:Nat) ∧ Hid (FdI w wr s a m c b)) (fun _ iv _ _ _ _ => s.size - (intOf iv).toNat)
 case atStart => exact ⟨0,none,0,0,Nat.zero_le _,rfl,rfl,⟨by rw [show limbs (pwB s 0) = [] from rfl]; exact sl_nil _,Below.refl _ _,newAt_nil _,fun _ => rfl⟩⟩
 case round =>
  obtain ⟨b,a,m,c,hb,rfl,rfl,HI⟩:=hrel
  by_cases hlt:b < s.size
  ·have hlt':(b:Int) < (s.size:Int):=by omega
   go_wp2_with fail
   go_loopw [4,5,6,7] (fun iv xv pv kv wz => ∃ k:Nat,k ≤ 9 ∧ b + k ≤ s.size ∧ iv = .int .i64 ((b + k:Nat)) ∧ xv = .int .u32 (sgB s b k:Nat) ∧ pv = .int .u32 ((10 ^ k:Nat)) ∧ kv = .int .i64 (k:Nat) ∧ Hid (wz = wr)) (fun _ _ _ kv _ => 9 - (intOf kv).toNat)
   case atStart => exact ⟨0,by omega,by omega,rfl,rfl,rfl,rfl,rfl⟩
   case round =>
    obtain ⟨k,hk9,hbk,rfl,rfl,rfl,rfl,HW⟩:=hrel
    obtain rfl:=Uh HW
    clear HW
    by_cases hin:k < 9 ∧ b + k < s.size
    ·obtain ⟨hk,hbk2⟩:=hin
     have g:=byA_get s (b + k) hbk2
     obtain ⟨g1,g2⟩:=Uh HD (b + k) hbk2
     have hx:=sgB_lt (s:=s) (b:=b) (k:=k) (fun q hq => (Uh HD (b + q) (by omega)).2)
     have hp:=ten_small (k:=k) (by omega)
     have hp1:10 ^ (k + 1) = 10 * 10 ^ k:=by rw [Nat.pow_succ,Nat.mul_comm]
     have hx1:sgB s b (k + 1) = 10 * sgB s b k + (byA s (b + k) - 48):=rfl
     have HP1:=Hj hp1
     have HX1:=Hj hx1
     obtain ⟨x,hxv⟩:∃ z,sgB s b k = z:=⟨_,rfl⟩
     obtain ⟨p,hpv⟩:∃ z,10 ^ k = z:=⟨_,rfl⟩
     obtain ⟨x1,hx1v⟩:∃ z,sgB s b (k + 1) = z:=⟨_,rfl⟩
     obtain ⟨i,hiv⟩:∃ z,b + k = z:=⟨_,rfl⟩
     rw [hxv,hpv,hiv]
     rw [hxv,hx1v,hiv] at hx1
     rw [hxv,hpv] at hx
     rw [hpv] at hp
     rw [hiv] at g1 g2 hbk2 hbk
     simp only [hiv] at g
     have HX:=Hj hx1v
     have HPV:=Hj hpv
     have f1:(48:Int) ≤ ((s[i]'hbk2).toNat:Int):=by omega
     have f2:((s[i]'hbk2).toNat:Int) ≤ 57:=by omega
     have hbk3:(i:Int) < (s.size:Int):=by omega
     have hk':(k:Int) < 9:=by omega
     have ex:10 * (x:Int) + (((s[i]'hbk2).toNat:Int) - 48) = (x1:Int):=by omega
     have hx2:x ≤ 100000000:=by omega
     have hx3:x1 ≤ 1000000100:=by omega
     clear hx hx1 hx1v hxv hpv hp1 g g1 g2
     go_wp2_with fail
     exact ⟨⟨k + 1,by omega,by omega,by (first | go_num | (congr 1; omega)),by rw [Uh HX],by rw [Uh HP1,Uh HPV]; (first | rfl | go_num),by (first | rfl | go_num),Hj trivial⟩,by simp [intOf]; omega⟩
    ·have hout:9 ≤ k ∨ b + k = s.size:=by omega
     have hk0:0 < k:=by
      rcases Nat.eq_zero_or_pos k with z | z
      ·exfalso; omega
      ·exact z
     have hx:=sgB_lt (s:=s) (b:=b) (k:=k) (fun q hq => (Uh HD (b + q) (by omega)).2)
     have hpw:=pwB_sg s b k
     have hp9:10 ^ k ≤ 1000000000:=Nat.le_trans (Nat.pow_le_pow_right (n:=10) (by decide) hk9) (by decide)
     have HPW:=Hj hpw
     have HLT:=Hj hx
     obtain ⟨x,hxv⟩:∃ z,sgB s b k = z:=⟨_,rfl⟩
     obtain ⟨p,hpv⟩:∃ z,10 ^ k = z:=⟨_,rfl⟩
     rw [hxv,hpv] at hx HPW
     rw [hpv] at hp9
     rw [hxv,hpv]
     have hx9:x < 1000000000:=by omega
     obtain ⟨i,hiv⟩:∃ z,b + k = z:=⟨_,rfl⟩
     rw [hiv] at HPW hbk hout ⊢
     have hbi:b < i:=by omega
     clear hxv hpv hx hpw HLT hiv hin
     rcases hout with h9 | h9
     ·have hk':¬ (k:Int) < 9:=by omega
      go_wp2_with fail
      have hIr:=Uh HI
      have bp:Below wr.heap.size wr (wr.alloc (.cells #[.int .u32 (p:Nat)] 84)):=bAl
      have sp:=one_sl wr p 84
      generalize wr.alloc (.cells #[.int .u32 (p:Nat)] 84) = wp at *
      have hlen:=hIr.sl.len
      have hml:m ≤ 65537:=by
       have h1:=pwB_lt (s:=s) (b:=b) (fun q hq => (Uh HD q (by omega)).2)
       have h2:=ten_len (Nat.le_of_lt h1)
       omega
      have okp:Ok [p]:=fun u hu => by simp at hu; omega
      have okx:Ok [x]:=fun u hu => by simp at hu; omega
      have KM:=wmulw_any a (some ⟨wr.heap.size,0,none⟩) m c 1 1 (limbs (pwB s b)) [p] wp (hIr.sl.below bp) sp (limbs_ok _) okp (by omega)
      rw [limbs_v,show val [p] = p from by simp [val]] at KM
      have H1:=Hj (hIr.bel.trans (bp.mono hIr.bel.size))
      clear sp bp hIr hlen
      refine KM.mono ?_
      clear KM
      rintro _ w2 ⟨a2,m2,c2,rfl,s2,n2,z2,b2⟩
      have H2:=Hj (And.intro s2 ((Uh H1).trans (b2.mono (Uh H1).size)))
      clear s2 n2 z2 b2 H1
      go_wp2_with fail
      have bq:Below w2.heap.size w2 (w2.alloc (.cells #[.int .u32 (x:Nat)] 84)):=bAl
      have sq:=one_sl w2 x 84
      generalize w2.alloc (.cells #[.int .u32 (x:Nat)] 84) = wq at *
      have KN:=wnorm_sl (some ⟨w2.heap.size,0,none⟩) 1 1 [x] wq sq (fun h => by cases h) okx
      rw [show val [x] = x from by simp [val]] at KN
      have H3:=Hj (And.intro ((Uh H2).1.below bq) ((Uh H2).2.trans (bq.mono (Uh H2).2.size)))
      clear sq bq H2
      refine KN.mono ?_
      clear KN
      rintro _ w4 ⟨m4,rfl,hm4,s4,hw⟩
      obtain rfl:=hw.symm
      clear hw
      have hl2:m2 ≤ 200000:=by
       have h0:=(Uh H3).1.len
       have h1:=pwB_lt (s:=s) (b:=i) (fun q hq => (Uh HD q (by omega)).2)
       have h2:=ten_len (n:=i) (v:=pwB s b * p) (by have:=Uh HPW; omega)
       omega
      have KA:=waddw_any a2 (some ⟨w2.heap.size,0,none⟩) m2 c2 m4 1 (limbs (pwB s b * p)) (limbs x) wq (Uh H3).1 s4 (limbs_ok _) (limbs_ok _) (by omega) (by omega)
      rw [limbs_v,limbs_v,← Uh HPW] at KA
      have H5:=Hj (Uh H3).2
      clear s4 H3
      go_wp2_with fail
      refine KA.mono ?_
      clear KA
      rintro _ w5 ⟨a5,m5,c5,rfl,s5,n5,z5,b5⟩
      have HN:=Hj (show FdI w w5 s a5 m5 c5 i from ⟨s5,(Uh H5).trans (b5.mono (Uh H5).size),fun y hy => Nat.le_trans (Uh H5).size (n5 y hy),z5⟩)
      clear s5 n5 z5 b5 H5
      go_wp2_with fail
      exact ⟨⟨i,a5,m5,c5,by omega,rfl,by (first | rfl | rw [h9]),HN⟩,by simp [intOf]; omega⟩
     ·have hi':¬ (i:Int) < (s.size:Int):=by omega
      by_cases h8:k < 9
      ·have hk':(k:Int) < 9:=by omega
       go_wp2_with fail
       have hIr:=Uh HI
       have bp:Below wr.heap.size wr (wr.alloc (.cells #[.int .u32 (p:Nat)] 84)):=bAl
       have sp:=one_sl wr p 84
       generalize wr.alloc (.cells #[.int .u32 (p:Nat)] 84) = wp at *
       have hlen:=hIr.sl.len
       have hml:m ≤ 65537:=by
        have h1:=pwB_lt (s:=s) (b:=b) (fun q hq => (Uh HD q (by omega)).2)
        have h2:=ten_len (Nat.le_of_lt h1)
        omega
       have okp:Ok [p]:=fun u hu => by simp at hu; omega
       have okx:Ok [x]:=fun u hu => by simp at hu; omega
       have KM:=wmulw_any a (some ⟨wr.heap.size,0,none⟩) m c 1 1 (limbs (pwB s b)) [p] wp (hIr.sl.below bp) sp (limbs_ok _) okp (by omega)
       rw [limbs_v,show val [p] = p from by simp [val]] at KM
       have H1:=Hj (hIr.bel.trans (bp.mono hIr.bel.size))
       clear sp bp hIr hlen
       refine KM.mono ?_
       clear KM
       rintro _ w2 ⟨a2,m2,c2,rfl,s2,n2,z2,b2⟩
       have H2:=Hj (And.intro s2 ((Uh H1).trans (b2.mono (Uh H1).size)))
       clear s2 n2 z2 b2 H1
       go_wp2_with fail
       have bq:Below w2.heap.size w2 (w2.alloc (.cells #[.int .u32 (x:Nat)] 84)):=bAl
       have sq:=one_sl w2 x 84
       generalize w2.alloc (.cells #[.int .u32 (x:Nat)] 84) = wq at *
       have KN:=wnorm_sl (some ⟨w2.heap.size,0,none⟩) 1 1 [x] wq sq (fun h => by cases h) okx
       rw [show val [x] = x from by simp [val]] at KN
       have H3:=Hj (And.intro ((Uh H2).1.below bq) ((Uh H2).2.trans (bq.mono (Uh H2).2.size)))
       clear sq bq H2
       refine KN.mono ?_
       clear KN
       rintro _ w4 ⟨m4,rfl,hm4,s4,hw⟩
       obtain rfl:=hw.symm
       clear hw
       have hl2:m2 ≤ 200000:=by
        have h0:=(Uh H3).1.len
        have h1:=pwB_lt (s:=s) (b:=i) (fun q hq => (Uh HD q (by omega)).2)
        have h2:=ten_len (n:=i) (v:=pwB s b * p) (by have:=Uh HPW; omega)
        omega
       have KA:=waddw_any a2 (some ⟨w2.heap.size,0,none⟩) m2 c2 m4 1 (limbs (pwB s b * p)) (limbs x) wq (Uh H3).1 s4 (limbs_ok _) (limbs_ok _) (by omega) (by omega)
       rw [limbs_v,limbs_v,← Uh HPW] at KA
       have H5:=Hj (Uh H3).2
       clear s4 H3
       go_wp2_with fail
       refine KA.mono ?_
       clear KA
       rintro _ w5 ⟨a5,m5,c5,rfl,s5,n5,z5,b5⟩
       have HN:=Hj (show FdI w w5 s a5 m5 c5 i from ⟨s5,(Uh H5).trans (b5.mono (Uh H5).size),fun y hy => Nat.le_trans (Uh H5).size (n5 y hy),z5⟩)
       clear s5 n5 z5 b5 H5
       go_wp2_with fail
       exact ⟨⟨i,a5,m5,c5,by omega,rfl,by (first | rfl | rw [h9]),HN⟩,by simp [intOf]; omega⟩
      ·have hk':¬ (k:Int) < 9:=by omega
       go_wp2_with fail
       have hIr:=Uh HI
       have bp:Below wr.heap.size wr (wr.alloc (.cells #[.int .u32 (p:Nat)] 84)):=bAl
       have sp:=one_sl wr p 84
       generalize wr.alloc (.cells #[.int .u32 (p:Nat)] 84) = wp at *
       have hlen:=hIr.sl.len
       have hml:m ≤ 65537:=by
        have h1:=pwB_lt (s:=s) (b:=b) (fun q hq => (Uh HD q (by omega)).2)
        have h2:=ten_len (Nat.le_of_lt h1)
        omega
       have okp:Ok [p]:=fun u hu => by simp at hu; omega
       have okx:Ok [x]:=fun u hu => by simp at hu; omega
       have KM:=wmulw_any a (some ⟨wr.heap.size,0,none⟩) m c 1 1 (limbs (pwB s b)) [p] wp (hIr.sl.below bp) sp (limbs_ok _) okp (by omega)
       rw [limbs_v,show val [p] = p from by simp [val]] at KM
       have H1:=Hj (hIr.bel.trans (bp.mono hIr.bel.size))
       clear sp bp hIr hlen
       refine KM.mono ?_
       clear KM
       rintro _ w2 ⟨a2,m2,c2,rfl,s2,n2,z2,b2⟩
       have H2:=Hj (And.intro s2 ((Uh H1).trans (b2.mono (Uh H1).size)))
       clear s2 n2 z2 b2 H1
       go_wp2_with fail
       have bq:Below w2.heap.size w2 (w2.alloc (.cells #[.int .u32 (x:Nat)] 84)):=bAl
       have sq:=one_sl w2 x 84
       generalize w2.alloc (.cells #[.int .u32 (x:Nat)] 84) = wq at *
       have KN:=wnorm_sl (some ⟨w2.heap.size,0,none⟩) 1 1 [x] wq sq (fun h => by cases h) okx
       rw [show val [x] = x from by simp [val]] at KN
       have H3:=Hj (And.intro ((Uh H2).1.below bq) ((Uh H2).2.trans (bq.mono (Uh H2).2.size)))
       clear sq bq H2
       refine KN.mono ?_
       clear KN
       rintro _ w4 ⟨m4,rfl,hm4,s4,hw⟩
       obtain rfl:=hw.symm
       clear hw
       have hl2:m2 ≤ 200000:=by
        have h0:=(Uh H3).1.len
        have h1:=pwB_lt (s:=s) (b:=i) (fun q hq => (Uh HD q (by omega)).2)
        have h2:=ten_len (n:=i) (v:=pwB s b * p) (by have:=Uh HPW; omega)
        omega
       have KA:=waddw_any a2 (some ⟨w2.heap.size,0,none⟩) m2 c2 m4 1 (limbs (pwB s b * p)) (limbs x) wq (Uh H3).1 s4 (limbs_ok _) (limbs_ok _) (by omega) (by omega)
       rw [limbs_v,limbs_v,← Uh HPW] at KA
       have H5:=Hj (Uh H3).2
       clear s4 H3
       go_wp2_with fail
       refine KA.mono ?_
       clear KA
       rintro _ w5 ⟨a5,m5,c5,rfl,s5,n5,z5,b5⟩
       have HN:=Hj (show FdI w w5 s a5 m5 c5 i from ⟨s5,(Uh H5).trans (b5.mono (Uh H5).size),fun y hy => Nat.le_trans (Uh H5).size (n5 y hy),z5⟩)
       clear s5 n5 z5 b5 H5
       go_wp2_with fail
       exact ⟨⟨i,a5,m5,c5,by omega,rfl,by (first | rfl | rw [h9]),HN⟩,by simp [intOf]; omega⟩
  ·have hlt':¬ (b:Int) < (s.size:Int):=by omega
   obtain rfl:b = s.size:=by omega
   go_wp2_with fail
   go_ret
   have h:=Uh HI
   exact ⟨a,m,c,rfl,h.sl,h.new,h.nil,h.bel⟩
end Go.Proofs.YtmnlhnmlgncedaaGreatDoor
