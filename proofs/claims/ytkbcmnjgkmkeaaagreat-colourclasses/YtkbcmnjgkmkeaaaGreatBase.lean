/- Base -/
import Derived.Test.YtkbcmnjgkmkeaaaGreatRows
import Derived.Test.YtkbcmnjgkmkeaaaGreatNum
import Derived.WalkKit
import Derived.WalkSpells
import Derived.WalkLawsBesides
import Derived.Deep.QuietTactic
import Derived.BigQuiet
import Derived.Deep.OwnRows
namespace Go.Proofs.YtkbcmnjgkmkeaaaGreat
open Go.RowKit Go.Deep
set_option linter.unusedVariables false
theorem hide {p:Prop} (h:p):Hid p:=h
theorem Hj {p:Prop} (h:p):Hid p:=h
theorem unhide {p:Prop} (h:Hid p):p:=h
theorem Uh {p:Prop} (h:Hid p):p:=h
theorem mM1 {X:Type _} {a x0:X} {l:List X}:a ∈ x0 :: a :: l:=.tail _ (.head _)
theorem mM2 {X:Type _} {a x0 x1:X} {l:List X}:a ∈ x0 :: x1 :: a :: l:=.tail _ mM1
theorem mM3 {X:Type _} {a x0 x1 x2:X} {l:List X}:a ∈ x0 :: x1 :: x2 :: a :: l:=.tail _ mM2
theorem mM4 {X:Type _} {a x0 x1 x2 x3:X} {l:List X}:a ∈ x0 :: x1 :: x2 :: x3 :: a :: l:=.tail _ mM3
theorem mM5 {X:Type _} {a x0 x1 x2 x3 x4:X} {l:List X}:a ∈ x0 :: x1 :: x2 :: x3 :: x4 :: a :: l:=.tail _ mM4
theorem mM6 {X:Type _} {a x0 x1 x2 x3 x4 x5:X} {l:List X}:a ∈ x0 :: x1 :: x2 :: x3 :: x4 :: x5 :: a :: l:=.tail _ mM5
theorem mM7 {X:Type _} {a x0 x1 x2 x3 x4 x5 x6:X} {l:List X}:a ∈ x0 :: x1 :: x2 :: x3 :: x4 :: x5 :: x6 :: a :: l:=.tail _ mM6
theorem mM8 {X:Type _} {a x0 x1 x2 x3 x4 x5 x6 x7:X} {l:List X}:a ∈ x0 :: x1 :: x2 :: x3 :: x4 :: x5 :: x6 :: x7 :: a :: l:=.tail _ mM7
theorem mM9 {X:Type _} {a x0 x1 x2 x3 x4 x5 x6 x7 x8:X} {l:List X}:a ∈ x0 :: x1 :: x2 :: x3 :: x4 :: x5 :: x6 :: x7 :: x8 :: a :: l:=.tail _ mM8
theorem mM10 {X:Type _} {a x0 x1 x2 x3 x4 x5 x6 x7 x8 x9:X} {l:List X}:a ∈ x0 :: x1 :: x2 :: x3 :: x4 :: x5 :: x6 :: x7 :: x8 :: x9 :: a :: l:=.tail _ mM9
theorem mM11 {X:Type _} {a x0 x1 x2 x3 x4 x5 x6 x7 x8 x9 x10:X} {l:List X}:a ∈ x0 :: x1 :: x2 :: x3 :: x4 :: x5 :: x6 :: x7 :: x8 :: x9 :: x10 :: a :: l:=.tail _ mM10
theorem mM12 {X:Type _} {a x0 x1 x2 x3 x4 x5 x6 x7 x8 x9 x10 x11:X} {l:List X}:a ∈ x0 :: x1 :: x2 :: x3 :: x4 :: x5 :: x6 :: x7 :: x8 :: x9 :: x10 :: x11 :: a :: l:=.tail _ mM11
theorem mM13 {X:Type _} {a x0 x1 x2 x3 x4 x5 x6 x7 x8 x9 x10 x11 x12:X} {l:List X}:a ∈ x0 :: x1 :: x2 :: x3 :: x4 :: x5 :: x6 :: x7 :: x8 :: x9 :: x10 :: x11 :: x12 :: a :: l:=.tail _ mM12
theorem mM14 {X:Type _} {a x0 x1 x2 x3 x4 x5 x6 x7 x8 x9 x10 x11 x12 x13:X} {l:List X}:a ∈ x0 :: x1 :: x2 :: x3 :: x4 :: x5 :: x6 :: x7 :: x8 :: x9 :: x10 :: x11 :: x12 :: x13 :: a :: l:=.tail _ mM13
theorem mM15 {X:Type _} {a x0 x1 x2 x3 x4 x5 x6 x7 x8 x9 x10 x11 x12 x13 x14:X} {l:List X}:a ∈ x0 :: x1 :: x2 :: x3 :: x4 :: x5 :: x6 :: x7 :: x8 :: x9 :: x10 :: x11 :: x12 :: x13 :: x14 :: a :: l:=.tail _ mM14
theorem mM16 {X:Type _} {a x0 x1 x2 x3 x4 x5 x6 x7 x8 x9 x10 x11 x12 x13 x14 x15:X} {l:List X}:a ∈ x0 :: x1 :: x2 :: x3 :: x4 :: x5 :: x6 :: x7 :: x8 :: x9 :: x10 :: x11 :: x12 :: x13 :: x14 :: x15 :: a :: l:=.tail _ mM15
theorem mM17 {X:Type _} {a x0 x1 x2 x3 x4 x5 x6 x7 x8 x9 x10 x11 x12 x13 x14 x15 x16:X} {l:List X}:a ∈ x0 :: x1 :: x2 :: x3 :: x4 :: x5 :: x6 :: x7 :: x8 :: x9 :: x10 :: x11 :: x12 :: x13 :: x14 :: x15 :: x16 :: a :: l:=.tail _ mM16
theorem mM18 {X:Type _} {a x0 x1 x2 x3 x4 x5 x6 x7 x8 x9 x10 x11 x12 x13 x14 x15 x16 x17:X} {l:List X}:a ∈ x0 :: x1 :: x2 :: x3 :: x4 :: x5 :: x6 :: x7 :: x8 :: x9 :: x10 :: x11 :: x12 :: x13 :: x14 :: x15 :: x16 :: x17 :: a :: l:=.tail _ mM17
theorem mM19 {X:Type _} {a x0 x1 x2 x3 x4 x5 x6 x7 x8 x9 x10 x11 x12 x13 x14 x15 x16 x17 x18:X} {l:List X}:a ∈ x0 :: x1 :: x2 :: x3 :: x4 :: x5 :: x6 :: x7 :: x8 :: x9 :: x10 :: x11 :: x12 :: x13 :: x14 :: x15 :: x16 :: x17 :: x18 :: a :: l:=.tail _ mM18
theorem mM20 {X:Type _} {a x0 x1 x2 x3 x4 x5 x6 x7 x8 x9 x10 x11 x12 x13 x14 x15 x16 x17 x18 x19:X} {l:List X}:a ∈ x0 :: x1 :: x2 :: x3 :: x4 :: x5 :: x6 :: x7 :: x8 :: x9 :: x10 :: x11 :: x12 :: x13 :: x14 :: x15 :: x16 :: x17 :: x18 :: x19 :: a :: l:=.tail _ mM19
theorem mM21 {X:Type _} {a x0 x1 x2 x3 x4 x5 x6 x7 x8 x9 x10 x11 x12 x13 x14 x15 x16 x17 x18 x19 x20:X} {l:List X}:a ∈ x0 :: x1 :: x2 :: x3 :: x4 :: x5 :: x6 :: x7 :: x8 :: x9 :: x10 :: x11 :: x12 :: x13 :: x14 :: x15 :: x16 :: x17 :: x18 :: x19 :: x20 :: a :: l:=.tail _ mM20
theorem mM22 {X:Type _} {a x0 x1 x2 x3 x4 x5 x6 x7 x8 x9 x10 x11 x12 x13 x14 x15 x16 x17 x18 x19 x20 x21:X} {l:List X}:a ∈ x0 :: x1 :: x2 :: x3 :: x4 :: x5 :: x6 :: x7 :: x8 :: x9 :: x10 :: x11 :: x12 :: x13 :: x14 :: x15 :: x16 :: x17 :: x18 :: x19 :: x20 :: x21 :: a :: l:=.tail _ mM21
theorem mM23 {X:Type _} {a x0 x1 x2 x3 x4 x5 x6 x7 x8 x9 x10 x11 x12 x13 x14 x15 x16 x17 x18 x19 x20 x21 x22:X} {l:List X}:a ∈ x0 :: x1 :: x2 :: x3 :: x4 :: x5 :: x6 :: x7 :: x8 :: x9 :: x10 :: x11 :: x12 :: x13 :: x14 :: x15 :: x16 :: x17 :: x18 :: x19 :: x20 :: x21 :: x22 :: a :: l:=.tail _ mM22
theorem mM24 {X:Type _} {a x0 x1 x2 x3 x4 x5 x6 x7 x8 x9 x10 x11 x12 x13 x14 x15 x16 x17 x18 x19 x20 x21 x22 x23:X} {l:List X}:a ∈ x0 :: x1 :: x2 :: x3 :: x4 :: x5 :: x6 :: x7 :: x8 :: x9 :: x10 :: x11 :: x12 :: x13 :: x14 :: x15 :: x16 :: x17 :: x18 :: x19 :: x20 :: x21 :: x22 :: x23 :: a :: l:=.tail _ mM23
theorem mM25 {X:Type _} {a x0 x1 x2 x3 x4 x5 x6 x7 x8 x9 x10 x11 x12 x13 x14 x15 x16 x17 x18 x19 x20 x21 x22 x23 x24:X} {l:List X}:a ∈ x0 :: x1 :: x2 :: x3 :: x4 :: x5 :: x6 :: x7 :: x8 :: x9 :: x10 :: x11 :: x12 :: x13 :: x14 :: x15 :: x16 :: x17 :: x18 :: x19 :: x20 :: x21 :: x22 :: x23 :: x24 :: a :: l:=.tail _ mM24
theorem mM26 {X:Type _} {a x0 x1 x2 x3 x4 x5 x6 x7 x8 x9 x10 x11 x12 x13 x14 x15 x16 x17 x18 x19 x20 x21 x22 x23 x24 x25:X} {l:List X}:a ∈ x0 :: x1 :: x2 :: x3 :: x4 :: x5 :: x6 :: x7 :: x8 :: x9 :: x10 :: x11 :: x12 :: x13 :: x14 :: x15 :: x16 :: x17 :: x18 :: x19 :: x20 :: x21 :: x22 :: x23 :: x24 :: x25 :: a :: l:=.tail _ mM25
theorem mM27 {X:Type _} {a x0 x1 x2 x3 x4 x5 x6 x7 x8 x9 x10 x11 x12 x13 x14 x15 x16 x17 x18 x19 x20 x21 x22 x23 x24 x25 x26:X} {l:List X}:a ∈ x0 :: x1 :: x2 :: x3 :: x4 :: x5 :: x6 :: x7 :: x8 :: x9 :: x10 :: x11 :: x12 :: x13 :: x14 :: x15 :: x16 :: x17 :: x18 :: x19 :: x20 :: x21 :: x22 :: x23 :: x24 :: x25 :: x26 :: a :: l:=.tail _ mM26
theorem mM28 {X:Type _} {a x0 x1 x2 x3 x4 x5 x6 x7 x8 x9 x10 x11 x12 x13 x14 x15 x16 x17 x18 x19 x20 x21 x22 x23 x24 x25 x26 x27:X} {l:List X}:a ∈ x0 :: x1 :: x2 :: x3 :: x4 :: x5 :: x6 :: x7 :: x8 :: x9 :: x10 :: x11 :: x12 :: x13 :: x14 :: x15 :: x16 :: x17 :: x18 :: x19 :: x20 :: x21 :: x22 :: x23 :: x24 :: x25 :: x26 :: x27 :: a :: l:=.tail _ mM27
theorem mM29 {X:Type _} {a x0 x1 x2 x3 x4 x5 x6 x7 x8 x9 x10 x11 x12 x13 x14 x15 x16 x17 x18 x19 x20 x21 x22 x23 x24 x25 x26 x27 x28:X} {l:List X}:a ∈ x0 :: x1 :: x2 :: x3 :: x4 :: x5 :: x6 :: x7 :: x8 :: x9 :: x10 :: x11 :: x12 :: x13 :: x14 :: x15 :: x16 :: x17 :: x18 :: x19 :: x20 :: x21 :: x22 :: x23 :: x24 :: x25 :: x26 :: x27 :: x28 :: a :: l:=.tail _ mM28
theorem mM30 {X:Type _} {a x0 x1 x2 x3 x4 x5 x6 x7 x8 x9 x10 x11 x12 x13 x14 x15 x16 x17 x18 x19 x20 x21 x22 x23 x24 x25 x26 x27 x28 x29:X} {l:List X}:a ∈ x0 :: x1 :: x2 :: x3 :: x4 :: x5 :: x6 :: x7 :: x8 :: x9 :: x10 :: x11 :: x12 :: x13 :: x14 :: x15 :: x16 :: x17 :: x18 :: x19 :: x20 :: x21 :: x22 :: x23 :: x24 :: x25 :: x26 :: x27 :: x28 :: x29 :: a :: l:=.tail _ mM29
theorem mM31 {X:Type _} {a x0 x1 x2 x3 x4 x5 x6 x7 x8 x9 x10 x11 x12 x13 x14 x15 x16 x17 x18 x19 x20 x21 x22 x23 x24 x25 x26 x27 x28 x29 x30:X} {l:List X}:a ∈ x0 :: x1 :: x2 :: x3 :: x4 :: x5 :: x6 :: x7 :: x8 :: x9 :: x10 :: x11 :: x12 :: x13 :: x14 :: x15 :: x16 :: x17 :: x18 :: x19 :: x20 :: x21 :: x22 :: x23 :: x24 :: x25 :: x26 :: x27 :: x28 :: x29 :: x30 :: a :: l:=.tail _ mM30
theorem mM32 {X:Type _} {a x0 x1 x2 x3 x4 x5 x6 x7 x8 x9 x10 x11 x12 x13 x14 x15 x16 x17 x18 x19 x20 x21 x22 x23 x24 x25 x26 x27 x28 x29 x30 x31:X} {l:List X}:a ∈ x0 :: x1 :: x2 :: x3 :: x4 :: x5 :: x6 :: x7 :: x8 :: x9 :: x10 :: x11 :: x12 :: x13 :: x14 :: x15 :: x16 :: x17 :: x18 :: x19 :: x20 :: x21 :: x22 :: x23 :: x24 :: x25 :: x26 :: x27 :: x28 :: x29 :: x30 :: x31 :: a :: l:=.tail _ mM31
theorem mM33 {X:Type _} {a x0 x1 x2 x3 x4 x5 x6 x7 x8 x9 x10 x11 x12 x13 x14 x15 x16 x17 x18 x19 x20 x21 x22 x23 x24 x25 x26 x27 x28 x29 x30 x31 x32:X} {l:List X}:a ∈ x0 :: x1 :: x2 :: x3 :: x4 :: x5 :: x6 :: x7 :: x8 :: x9 :: x10 :: x11 :: x12 :: x13 :: x14 :: x15 :: x16 :: x17 :: x18 :: x19 :: x20 :: x21 :: x22 :: x23 :: x24 :: x25 :: x26 :: x27 :: x28 :: x29 :: x30 :: x31 :: x32 :: a :: l:=.tail _ mM32
theorem mM34 {X:Type _} {a x0 x1 x2 x3 x4 x5 x6 x7 x8 x9 x10 x11 x12 x13 x14 x15 x16 x17 x18 x19 x20 x21 x22 x23 x24 x25 x26 x27 x28 x29 x30 x31 x32 x33:X} {l:List X}:a ∈ x0 :: x1 :: x2 :: x3 :: x4 :: x5 :: x6 :: x7 :: x8 :: x9 :: x10 :: x11 :: x12 :: x13 :: x14 :: x15 :: x16 :: x17 :: x18 :: x19 :: x20 :: x21 :: x22 :: x23 :: x24 :: x25 :: x26 :: x27 :: x28 :: x29 :: x30 :: x31 :: x32 :: x33 :: a :: l:=.tail _ mM33
theorem mM35 {X:Type _} {a x0 x1 x2 x3 x4 x5 x6 x7 x8 x9 x10 x11 x12 x13 x14 x15 x16 x17 x18 x19 x20 x21 x22 x23 x24 x25 x26 x27 x28 x29 x30 x31 x32 x33 x34:X} {l:List X}:a ∈ x0 :: x1 :: x2 :: x3 :: x4 :: x5 :: x6 :: x7 :: x8 :: x9 :: x10 :: x11 :: x12 :: x13 :: x14 :: x15 :: x16 :: x17 :: x18 :: x19 :: x20 :: x21 :: x22 :: x23 :: x24 :: x25 :: x26 :: x27 :: x28 :: x29 :: x30 :: x31 :: x32 :: x33 :: x34 :: a :: l:=.tail _ mM34
theorem mM36 {X:Type _} {a x0 x1 x2 x3 x4 x5 x6 x7 x8 x9 x10 x11 x12 x13 x14 x15 x16 x17 x18 x19 x20 x21 x22 x23 x24 x25 x26 x27 x28 x29 x30 x31 x32 x33 x34 x35:X} {l:List X}:a ∈ x0 :: x1 :: x2 :: x3 :: x4 :: x5 :: x6 :: x7 :: x8 :: x9 :: x10 :: x11 :: x12 :: x13 :: x14 :: x15 :: x16 :: x17 :: x18 :: x19 :: x20 :: x21 :: x22 :: x23 :: x24 :: x25 :: x26 :: x27 :: x28 :: x29 :: x30 :: x31 :: x32 :: x33 :: x34 :: x35 :: a :: l:=.tail _ mM35
theorem mM37 {X:Type _} {a x0 x1 x2 x3 x4 x5 x6 x7 x8 x9 x10 x11 x12 x13 x14 x15 x16 x17 x18 x19 x20 x21 x22 x23 x24 x25 x26 x27 x28 x29 x30 x31 x32 x33 x34 x35 x36:X} {l:List X}:a ∈ x0 :: x1 :: x2 :: x3 :: x4 :: x5 :: x6 :: x7 :: x8 :: x9 :: x10 :: x11 :: x12 :: x13 :: x14 :: x15 :: x16 :: x17 :: x18 :: x19 :: x20 :: x21 :: x22 :: x23 :: x24 :: x25 :: x26 :: x27 :: x28 :: x29 :: x30 :: x31 :: x32 :: x33 :: x34 :: x35 :: x36 :: a :: l:=.tail _ mM36
theorem mM38 {X:Type _} {a x0 x1 x2 x3 x4 x5 x6 x7 x8 x9 x10 x11 x12 x13 x14 x15 x16 x17 x18 x19 x20 x21 x22 x23 x24 x25 x26 x27 x28 x29 x30 x31 x32 x33 x34 x35 x36 x37:X} {l:List X}:a ∈ x0 :: x1 :: x2 :: x3 :: x4 :: x5 :: x6 :: x7 :: x8 :: x9 :: x10 :: x11 :: x12 :: x13 :: x14 :: x15 :: x16 :: x17 :: x18 :: x19 :: x20 :: x21 :: x22 :: x23 :: x24 :: x25 :: x26 :: x27 :: x28 :: x29 :: x30 :: x31 :: x32 :: x33 :: x34 :: x35 :: x36 :: x37 :: a :: l:=.tail _ mM37
theorem mM39 {X:Type _} {a x0 x1 x2 x3 x4 x5 x6 x7 x8 x9 x10 x11 x12 x13 x14 x15 x16 x17 x18 x19 x20 x21 x22 x23 x24 x25 x26 x27 x28 x29 x30 x31 x32 x33 x34 x35 x36 x37 x38:X} {l:List X}:a ∈ x0 :: x1 :: x2 :: x3 :: x4 :: x5 :: x6 :: x7 :: x8 :: x9 :: x10 :: x11 :: x12 :: x13 :: x14 :: x15 :: x16 :: x17 :: x18 :: x19 :: x20 :: x21 :: x22 :: x23 :: x24 :: x25 :: x26 :: x27 :: x28 :: x29 :: x30 :: x31 :: x32 :: x33 :: x34 :: x35 :: x36 :: x37 :: x38 :: a :: l:=.tail _ mM38
theorem mM40 {X:Type _} {a x0 x1 x2 x3 x4 x5 x6 x7 x8 x9 x10 x11 x12 x13 x14 x15 x16 x17 x18 x19 x20 x21 x22 x23 x24 x25 x26 x27 x28 x29 x30 x31 x32 x33 x34 x35 x36 x37 x38 x39:X} {l:List X}:a ∈ x0 :: x1 :: x2 :: x3 :: x4 :: x5 :: x6 :: x7 :: x8 :: x9 :: x10 :: x11 :: x12 :: x13 :: x14 :: x15 :: x16 :: x17 :: x18 :: x19 :: x20 :: x21 :: x22 :: x23 :: x24 :: x25 :: x26 :: x27 :: x28 :: x29 :: x30 :: x31 :: x32 :: x33 :: x34 :: x35 :: x36 :: x37 :: x38 :: x39 :: a :: l:=.tail _ mM39
theorem mM41 {X:Type _} {a x0 x1 x2 x3 x4 x5 x6 x7 x8 x9 x10 x11 x12 x13 x14 x15 x16 x17 x18 x19 x20 x21 x22 x23 x24 x25 x26 x27 x28 x29 x30 x31 x32 x33 x34 x35 x36 x37 x38 x39 x40:X} {l:List X}:a ∈ x0 :: x1 :: x2 :: x3 :: x4 :: x5 :: x6 :: x7 :: x8 :: x9 :: x10 :: x11 :: x12 :: x13 :: x14 :: x15 :: x16 :: x17 :: x18 :: x19 :: x20 :: x21 :: x22 :: x23 :: x24 :: x25 :: x26 :: x27 :: x28 :: x29 :: x30 :: x31 :: x32 :: x33 :: x34 :: x35 :: x36 :: x37 :: x38 :: x39 :: x40 :: a :: l:=.tail _ mM40
theorem mM42 {X:Type _} {a x0 x1 x2 x3 x4 x5 x6 x7 x8 x9 x10 x11 x12 x13 x14 x15 x16 x17 x18 x19 x20 x21 x22 x23 x24 x25 x26 x27 x28 x29 x30 x31 x32 x33 x34 x35 x36 x37 x38 x39 x40 x41:X} {l:List X}:a ∈ x0 :: x1 :: x2 :: x3 :: x4 :: x5 :: x6 :: x7 :: x8 :: x9 :: x10 :: x11 :: x12 :: x13 :: x14 :: x15 :: x16 :: x17 :: x18 :: x19 :: x20 :: x21 :: x22 :: x23 :: x24 :: x25 :: x26 :: x27 :: x28 :: x29 :: x30 :: x31 :: x32 :: x33 :: x34 :: x35 :: x36 :: x37 :: x38 :: x39 :: x40 :: x41 :: a :: l:=.tail _ mM41
theorem mM43 {X:Type _} {a x0 x1 x2 x3 x4 x5 x6 x7 x8 x9 x10 x11 x12 x13 x14 x15 x16 x17 x18 x19 x20 x21 x22 x23 x24 x25 x26 x27 x28 x29 x30 x31 x32 x33 x34 x35 x36 x37 x38 x39 x40 x41 x42:X} {l:List X}:a ∈ x0 :: x1 :: x2 :: x3 :: x4 :: x5 :: x6 :: x7 :: x8 :: x9 :: x10 :: x11 :: x12 :: x13 :: x14 :: x15 :: x16 :: x17 :: x18 :: x19 :: x20 :: x21 :: x22 :: x23 :: x24 :: x25 :: x26 :: x27 :: x28 :: x29 :: x30 :: x31 :: x32 :: x33 :: x34 :: x35 :: x36 :: x37 :: x38 :: x39 :: x40 :: x41 :: x42 :: a :: l:=.tail _ mM42
theorem mM44 {X:Type _} {a x0 x1 x2 x3 x4 x5 x6 x7 x8 x9 x10 x11 x12 x13 x14 x15 x16 x17 x18 x19 x20 x21 x22 x23 x24 x25 x26 x27 x28 x29 x30 x31 x32 x33 x34 x35 x36 x37 x38 x39 x40 x41 x42 x43:X} {l:List X}:a ∈ x0 :: x1 :: x2 :: x3 :: x4 :: x5 :: x6 :: x7 :: x8 :: x9 :: x10 :: x11 :: x12 :: x13 :: x14 :: x15 :: x16 :: x17 :: x18 :: x19 :: x20 :: x21 :: x22 :: x23 :: x24 :: x25 :: x26 :: x27 :: x28 :: x29 :: x30 :: x31 :: x32 :: x33 :: x34 :: x35 :: x36 :: x37 :: x38 :: x39 :: x40 :: x41 :: x42 :: x43 :: a :: l:=.tail _ mM43
theorem mM45 {X:Type _} {a x0 x1 x2 x3 x4 x5 x6 x7 x8 x9 x10 x11 x12 x13 x14 x15 x16 x17 x18 x19 x20 x21 x22 x23 x24 x25 x26 x27 x28 x29 x30 x31 x32 x33 x34 x35 x36 x37 x38 x39 x40 x41 x42 x43 x44:X} {l:List X}:a ∈ x0 :: x1 :: x2 :: x3 :: x4 :: x5 :: x6 :: x7 :: x8 :: x9 :: x10 :: x11 :: x12 :: x13 :: x14 :: x15 :: x16 :: x17 :: x18 :: x19 :: x20 :: x21 :: x22 :: x23 :: x24 :: x25 :: x26 :: x27 :: x28 :: x29 :: x30 :: x31 :: x32 :: x33 :: x34 :: x35 :: x36 :: x37 :: x38 :: x39 :: x40 :: x41 :: x42 :: x43 :: x44 :: a :: l:=.tail _ mM44
theorem bAl {w:World} {o:Obj}:Below w.heap.size w (w.alloc o):=(Below.refl _ _).alloc (Nat.le_refl _) o
theorem ck {w w':World} {p:Addr} {v:Value} (h:Below w.heap.size w w') (t:w.cell? p = some v):w'.cell? p = some v:=(h.cell (World.block_lt_of_cell? _ _ t)).trans t
theorem drewN_add (w:World) (a b:Nat):(w.drewN a).drewN b = w.drewN (a + b):=by simp [World.drewN,Nat.add_assoc]

def Cells (w:World) (b off:Nat) (xs:List Nat):Prop :=
 ∀ i,i < xs.length → w.cell? ⟨b,off + i,none⟩ = some (.int .u32 (xs.getD i 0:Nat))

structure Sl (w:World) (a:Option Addr) (n c:Nat) (xs:List Nat):Prop where
 len:xs.length = n
 le:n ≤ c
 cap:c ≤ maxLen
 cells:xs = [] ∨ ∃ b off,a = some ⟨b,off,none⟩ ∧ Cells w b off xs

def MayL (xs:List Nat):Bool:=decide (xs.length ≤ 2048) && (xs.isEmpty || xs.getD (xs.length - 1) 0 != 0)

theorem MayL.norm {xs:List Nat} (h:MayL xs = true):Norm xs:=by
 simp only [MayL,Bool.and_eq_true,Bool.or_eq_true,decide_eq_true_eq,List.isEmpty_iff,bne_iff_ne] at h
 exact h.2
theorem MayL.len {xs:List Nat} (h:MayL xs = true):xs.length ≤ 2048:=by
 simp only [MayL,Bool.and_eq_true,decide_eq_true_eq] at h
 exact h.1
theorem MayL.mk {xs:List Nat} (h:Norm xs) (k:xs.length ≤ 2048):MayL xs = true:=by
 simp only [MayL,Bool.and_eq_true,Bool.or_eq_true,decide_eq_true_eq,List.isEmpty_iff,bne_iff_ne]
 exact ⟨k,h⟩
/-! ### rows that are written -/
def Fn (w:World) (b off n:Nat) (f:Nat → Nat):Prop :=
 ∀ i,i < n → w.cell? ⟨b,off + i,none⟩ = some (.int .u32 (f i:Nat)) ∧ w.frozen? ⟨b,off + i,none⟩ = false

theorem Fn.set {w:World} {b off n:Nat} {f:Nat → Nat} (h:Fn w b off n f) (k v:Nat) (hk:k < n) :
  Fn (w.setCell ⟨b,off + k,none⟩ (.int .u32 (v:Nat))) b off n (fun i => if i = k then v else f i):=by
 intro i hi
 refine ⟨?_,by rw [World.frozen?_setCell]; exact (h i hi).2⟩
 by_cases e:i = k
 ·subst e
  rw [World.cell?_setCell_same _ _ _ (h i hi).1]
  simp
 ·rw [World.cell?_setCell_other _ _ _ _ (by intro h; injection h with h1 h2; omega)]
  simp [e,(h i hi).1]

theorem Fn.cells {w:World} {b off n:Nat} {f:Nat → Nat} {xs:List Nat} (h:Fn w b off n f) (hl:xs.length ≤ n) (he:∀ i,i < xs.length → f i = xs.getD i 0):Cells w b off xs:=by
 intro i hi
 rw [(h i (by omega)).1,he i hi]

theorem Cells.below {w w':World} {b off:Nat} {xs:List Nat} (h:Cells w b off xs) (hb:Below w.heap.size w w'):Cells w' b off xs:=by
 intro i hi
 have:=h i hi
 rw [hb.cell (World.block_lt_of_cell? _ _ this)]
 exact this

theorem Fn.made (w:World) (n:Nat) (e:TypeId):Fn (w.alloc (.cells (madeCells #[.int .u32 0] n) e)) w.heap.size 0 n (fun _ => 0):=by
 intro i hi
 refine ⟨?_,by simp⟩
 simp [madeCells,hi,Nat.mod_one]

theorem Sl.below {w w':World} {a:Option Addr} {n c:Nat} {xs:List Nat} (h:Sl w a n c xs) (hb:Below w.heap.size w w'):Sl w' a n c xs :=
 ⟨h.len,h.le,h.cap,h.cells.imp id (fun ⟨b,off,e,k⟩ => ⟨b,off,e,k.below hb⟩)⟩

theorem bel_drewN {B:Nat} {a w:World} (h:Below B a w) (k:Nat):Below B a (w.drewN k):=⟨h.os,h.tape,h.output,h.size,h.block⟩

theorem Sl.drewN {w:World} {a:Option Addr} {n c:Nat} {xs:List Nat} (h:Sl w a n c xs) (k:Nat):Sl (w.drewN k) a n c xs :=
 h.below (bel_drewN (Below.refl _ _) k)
end Go.Proofs.YtkbcmnjgkmkeaaaGreat
