import Derived.Lib.Hide
namespace Go.Proofs.YtpginkdkblmnbaaGreatDoor
section
open Go.RowKit
theorem ħ {P : Prop} (h : P) : Hid P := Lib.hid h
theorem _root_.Go.RowKit.Hid.o {P : Prop} (h : Hid P) : P := h.out
theorem ł : type_of% @List.setIfInBounds_toArray := @List.setIfInBounds_toArray
theorem ø : type_of% @List.set_cons_zero := @List.set_cons_zero
theorem đ : type_of% @List.set_cons_succ := @List.set_cons_succ
theorem ŋ : type_of% @Nat.le_refl := @Nat.le_refl
theorem Ā : type_of% @List.getElem?_eq_getElem := @List.getElem?_eq_getElem
theorem ā : type_of% @Below.refl := @Below.refl
theorem Ă : type_of% @List.take_length := @List.take_length
theorem ă : type_of% @List.length_append := @List.length_append
theorem Ą : type_of% @Nat.zero_le := @Nat.zero_le
theorem Ć : type_of% @Nat.lt_of_lt_of_le := @Nat.lt_of_lt_of_le
theorem ć : type_of% @List.length_cons := @List.length_cons
theorem Ĉ : type_of% @List.mem_singleton := @List.mem_singleton
theorem ĉ : type_of% @Nat.zero_add := @Nat.zero_add
theorem Ċ : type_of% @Bool.false_eq_true := @Bool.false_eq_true
theorem ċ : type_of% @List.length_drop := @List.length_drop
theorem Č : type_of% @List.mem_of_getElem? := @List.mem_of_getElem?
theorem Ď : type_of% @List.length_nil := @List.length_nil
theorem ď : type_of% @List.eq_nil_of_length_eq_zero := @List.eq_nil_of_length_eq_zero
theorem Ē : type_of% @List.getElem_mem := @List.getElem_mem
theorem ē : type_of% @Nat.le_trans := @Nat.le_trans
theorem Ĕ : type_of% @List.map_append := @List.map_append
theorem ĕ : type_of% @List.take_succ_eq_append_getElem := @List.take_succ_eq_append_getElem
theorem Ė : type_of% @List.mem_append := @List.mem_append
theorem ė : type_of% @List.mem_cons := @List.mem_cons
theorem Ę : type_of% @List.length_singleton := @List.length_singleton
end
end Go.Proofs.YtpginkdkblmnbaaGreatDoor
