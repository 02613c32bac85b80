/- What stands behind an operation, a region, a part of the code waits, as a name, until its state is known. -/
import Derived.Test.YtnaloeoiobcifaaYB
namespace Go.Proofs.Ytnaloeoiobcifaa.Y
open Go.RowKit
variable {Γ : Gam} {s : St}
def kOps (Γ : Gam) (rest : List SOp) (i : Nat) (K : St → Prop) : St → Prop := fun s => vcOps Γ rest i s K
def kReg (live : List Nat) (K : SE → St → Prop) : St → Prop := fun s => K .normal (keepSt live s)
def kSeq (Γ : Gam) (b : SC) (K : SE → St → Prop) : SE → St → Prop := fun e s => match e with
  | .normal => vc Γ b s K
  | .exit i => K (.exit i) s
  | .ret => K .ret s
def kBlk (id : Nat) (K : SE → St → Prop) : SE → St → Prop := fun e s => match e with
  | .exit i => if i = id then K .normal s else K (.exit i) s
  | .normal => K .normal s
  | .ret => K .ret s
def kFun (ow : Option Nat) (R : SV → Option (Nat × Row SV) → Prop) (rs : List SR) : SE → St → Prop := fun e s => match e with
  | .exit _ => False
  | .normal => vcRet ow R rs s
  | .ret => vcRet ow R rs s
theorem kOps_ap (rest : List SOp) (i : Nat) (K : St → Prop) : kOps Γ rest i K s = vcOps Γ rest i s K := by rw [kOps]
theorem kReg_ap (live : List Nat) (K : SE → St → Prop) : kReg live K s = K .normal (keepSt live s) := by rw [kReg]
theorem kSeq_n (b : SC) (K : SE → St → Prop) : kSeq Γ b K .normal s = vc Γ b s K := by rw [kSeq]
theorem kSeq_e (b : SC) (K : SE → St → Prop) (i : Nat) : kSeq Γ b K (.exit i) s = K (.exit i) s := by rw [kSeq]
theorem kSeq_r (b : SC) (K : SE → St → Prop) : kSeq Γ b K .ret s = K .ret s := by rw [kSeq]
theorem kBlk_n (id : Nat) (K : SE → St → Prop) : kBlk id K .normal s = K .normal s := by rw [kBlk]
theorem kBlk_e (id i : Nat) (K : SE → St → Prop) : kBlk id K (.exit i) s = if i = id then K .normal s else K (.exit i) s := by rw [kBlk]
theorem kBlk_r (id : Nat) (K : SE → St → Prop) : kBlk id K .ret s = K .ret s := by rw [kBlk]
theorem kFun_e (ow : Option Nat) (R : SV → Option (Nat × Row SV) → Prop) (rs : List SR) (i : Nat) : kFun ow R rs (.exit i) s = False := by rw [kFun]
theorem kFun_n (ow : Option Nat) (R : SV → Option (Nat × Row SV) → Prop) (rs : List SR) : kFun ow R rs .normal s = vcRet ow R rs s := by rw [kFun]
theorem kFun_r (ow : Option Nat) (R : SV → Option (Nat × Row SV) → Prop) (rs : List SR) : kFun ow R rs .ret s = vcRet ow R rs s := by rw [kFun]
theorem z_fun (F : SF) (xs : List SV) (ow : Option Nat) (R : SV → Option (Nat × Row SV) → Prop) : vcFun Γ F xs ow R = vc Γ F.body (St.of (entFr 0 xs) []) (kFun ow R F.res) := by rw [e_fun]; rfl
theorem z_reg (id : Nat) (ops : List SOp) (live : List Nat) (K : SE → St → Prop) : vc Γ (.reg id ops live) s K = vcOps Γ ops (1000 * id) s (kReg live K) := by rw [e_reg]; rfl
theorem z_seq (a b : SC) (K : SE → St → Prop) : vc Γ (.seq a b) s K = vc Γ a s (kSeq Γ b K) := by rw [e_seq]; rfl
theorem z_block (id : Nat) (b : SC) (K : SE → St → Prop) : vc Γ (.block id b) s K = vc Γ b s (kBlk id K) := by rw [e_block]; rfl
theorem z_op (dst : Option Nat) (k : SK) (rest : List SOp) (i : Nat) (K : St → Prop) : vcOps Γ (⟨dst, none, k⟩ :: rest) i s K = vcOp Γ i dst k s (kOps Γ rest (i + 1) K) := by rw [e_op]; rfl
theorem z_opg (dst : Option Nat) (g : Nat) (want : Bool) (k : SK) (rest : List SOp) (i : Nat) (K : St → Prop) : vcOps Γ (⟨dst, some (g, want), k⟩ :: rest) i s K = match s.fr g with
    | .bool b => if b = want then vcOp Γ i dst k (s.put (some g) (.bool want)) (kOps Γ rest (i + 1) K)
        else vcOps Γ rest (i + 1) ((s.put (some g) (.bool (!want))).put dst (.tup [])) K
    | .tup [] => vcOps Γ rest (i + 1) (s.put dst (.tup [])) K
    | _ => False := by rw [e_opg]; rfl
end Go.Proofs.Ytnaloeoiobcifaa.Y
