/- Giv3 -/
import Derived.Test.YtjdljjkmhdgghaaGiv2
namespace Go.Proofs.Ytjdljjkmhdgghaa
open Go.RowKit Go.Deep
set_option linter.unusedVariables false
theorem quiet_at {P:Program} {f:FuncId} {args:Array Value} {w:World} {d x:Nat} {v:Value} (h:Calls P f args (w.drewN (d + x)) fun e w' => e = .returned v ∧ ∃ k,w' = (w.drewN (d + x)).drewN k) :
  Calls P f args (w.drewN (d + x)) fun e w'' => e = .returned v ∧ ∃ n,w'' = w.drewN (d + n) :=
 h.mono fun _ _ ⟨he,m,hm⟩ => ⟨he,x + m,by rw [hm,drewN_add,Nat.add_assoc]⟩

set_option maxHeartbeats 2000000 in
theorem whole_any (w:World) (B:Nat) (h1:w.cell? ⟨B,12,none⟩ = some (.slice none 0 0)) (h2:w.cell? ⟨B,14,none⟩ = some (.slice none 0 0)) (h3:w.cell? ⟨B,16,none⟩ = some (.slice none 0 0)) (h4:w.cell? ⟨B,18,none⟩ = some (.slice none 0 0)) :
  Calls Try.prog 31 #[.pointer (some ⟨B,0,none⟩)] w fun e w' => e = .returned (.bool true) ∧ w' = w:=by
 go_enter Try.func31,Try.ntmps31
 go_wp2
 go_loop [3] (fun i => i = .int .i64 0) (fun i => (intOf i).toNat)
 case atStart => rfl
 case round =>
  subst hrel
  go_wp2
  go_loop [4] (fun i => i = .int .i64 0) (fun i => (intOf i).toNat)
  case atStart => rfl
  case round =>
   subst hrel
   go_wp2
   go_loop [5] (fun i => i = .int .i64 0) (fun i => (intOf i).toNat)
   case atStart => rfl
   case round =>
    subst hrel
    go_wp2
    go_loop [9] (fun i => i = .int .i64 0) (fun i => (intOf i).toNat)
    case atStart => rfl
    case round =>
     subst hrel
     go_wp2
     go_ret
     exact ⟨rfl,rfl⟩
end Go.Proofs.Ytjdljjkmhdgghaa
