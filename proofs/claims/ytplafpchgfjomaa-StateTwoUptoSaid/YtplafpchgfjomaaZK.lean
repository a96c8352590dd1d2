import Derived.WalkKit
namespace Go
theorem k4 {V W : Type} {R : W → W → Prop} {P : V → Prop} : ∀ (v : V) (a b : W), R a b → P v → P v := fun _ _ _ _ h => h
end Go
