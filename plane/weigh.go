package plane

import (
	"math"

	"tollgate/api"
)

// scale is what each weight of a list is multiplied by.
type scale float64

// Weigh is the target that a draw takes.
func Weigh(l []api.Target, draw float64) (int, bool) {
	by := scale(1)
	sum := by.sum(l)
	if math.IsInf(sum, 1) {
		by = 1.0 / 1024
		sum = by.sum(l)
	}
	if !(sum > 0) {
		return 0, false
	}
	if draw >= 1 {
		return by.last(l), true
	}
	if !(draw >= 0) {
		draw = 0
	}
	if i, ok := by.first(l, float64(draw*sum)); ok {
		return i, true
	}
	return by.last(l), true
}

// weight is rounded for itself: what is added to it must not be reckoned in one with it.
func (s scale) weight(t api.Target) float64 {
	if !(t.Weight > 0) || math.IsInf(t.Weight, 1) {
		return 0
	}
	return float64(t.Weight * float64(s))
}

func (s scale) sum(l []api.Target) float64 {
	sum := 0.0
	for _, t := range l {
		sum += s.weight(t)
	}
	return sum
}

// first is the first target up to which the weights' sum is above x.
func (s scale) first(l []api.Target, x float64) (int, bool) {
	sum := 0.0
	for i, t := range l {
		w := s.weight(t)
		sum += w
		if w > 0 && x < sum {
			return i, true
		}
	}
	return 0, false
}

// last is the last target whose weight counts: with a sum above 0 there is one.
func (s scale) last(l []api.Target) int {
	i := len(l) - 1
	for i > 0 && !(s.weight(l[i]) > 0) {
		i--
	}
	return i
}
