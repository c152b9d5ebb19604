/- Sa0 -/
import Derived.Test.YtkbcmnjgkmkeaaaGreatGiv2
namespace Go.Proofs.YtkbcmnjgkmkeaaaGreat
open Go.RowKit Go.Deep
set_option linter.unusedVariables false
def CellsI (w:World) (b off:Nat) (xs:List Int):Prop :=
 ∀ i,i < xs.length → w.cell? ⟨b,off + i,none⟩ = some (.int .i64 (xs.getD i 0))
structure SlI (w:World) (a:Option Addr) (n c:Nat) (xs:List Int):Prop where
 len:xs.length = n
 le:n ≤ c
 cap:c ≤ maxLen
 cells:xs = [] ∨ ∃ b off,a = some ⟨b,off,none⟩ ∧ CellsI w b off xs
theorem SlI.below {w w':World} {a:Option Addr} {n c:Nat} {xs:List Int} (h:SlI w a n c xs) (hb:Below w.heap.size w w'):SlI w' a n c xs :=
 ⟨h.len,h.le,h.cap,h.cells.imp id (fun ⟨b,off,e,k⟩ => ⟨b,off,e,fun i hi => (Chg.of_below hb).cell (S:=fun _ => False) (fun x => x) (k i hi)⟩)⟩
theorem SlI.at {w:World} {a:Option Addr} {n c:Nat} {xs:List Int} (h:SlI w a n c xs) (hn:0 < n):∃ b off,a = some ⟨b,off,none⟩ ∧ ∀ i,i < n → w.cell? ⟨b,off + i,none⟩ = some (.int .i64 (xs.getD i 0)):=by
 rcases h.cells with e | ⟨b,off,e,k⟩
 ·have:=h.len; rw [e] at this; simp at this; omega
 ·exact ⟨b,off,e,fun i hi => k i (by rw [h.len]; exact hi)⟩
theorem SlI.nil (w:World):SlI w none 0 0 []:=⟨rfl,Nat.le_refl _,Nat.zero_le _,.inl rfl⟩
structure RowP (width:Int) (cols:List Int) (x y:Nat):Prop where
 rng:∀ i,x ≤ i → i < y → 0 ≤ cols.getD i 0 ∧ cols.getD i 0 < width
 up:∀ i,x < i → i < y → cols.getD (i - 1) 0 < cols.getD i 0
structure HeadP (rows width:Int) (st cols:List Int):Prop where
 fit:0 ≤ rows ∧ rows ≤ 128 ∧ 0 ≤ width ∧ width ≤ 128
 len:(st.length:Int) = rows + 1
 first:st.getD 0 0 = 0
 last:st.getD rows.toNat 0 = (cols.length:Int)
def SortP (st:List Int) (x:Nat):Prop:=∀ i,x ≤ i → i + 1 < st.length → st.getD i 0 ≤ st.getD (i + 1) 0
structure MayP (rows width:Int) (st cols:List Int):Prop where
 head:HeadP rows width st cols
 sort:SortP st 0
 row:∀ r,r + 1 < st.length → RowP width cols (st.getD r 0).toNat (st.getD (r + 1) 0).toNat
theorem SortP.mono {st:List Int} (h:SortP st 0):∀ d i,i + d < st.length → st.getD i 0 ≤ st.getD (i + d) 0
 | 0,i,_ => Int.le_refl _
 | d + 1,i,hi => Int.le_trans (SortP.mono h d i (by omega)) (h (i + d) (Nat.zero_le _) (by omega))
theorem HeadP.rng {rows width:Int} {st cols:List Int} (h:HeadP rows width st cols) (hs:SortP st 0) {i:Nat} (hi:i < st.length):0 ≤ st.getD i 0 ∧ st.getD i 0 ≤ (cols.length:Int):=by
 have h1:=hs.mono i 0 (by omega)
 rw [Nat.zero_add,h.first] at h1
 have hl:=h.len
 have hf:=h.fit
 have h2:=hs.mono (rows.toNat - i) i (by omega)
 rw [show i + (rows.toNat - i) = rows.toNat by omega,h.last] at h2
 exact ⟨h1,h2⟩
end Go.Proofs.YtkbcmnjgkmkeaaaGreat
