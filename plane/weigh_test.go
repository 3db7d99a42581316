package plane_test

import (
	"math"
	"math/big"
	"slices"
	"testing"

	"tollgate/api"
	"tollgate/plane"
)

var (
	nan      = math.NaN()
	infinite = math.Inf(1)
	below0   = math.Copysign(0, -1)
	tiny     = math.SmallestNonzeroFloat64
	huge     = math.MaxFloat64
	almost1  = math.Nextafter(1, 0)
)

func targets(weights ...float64) []api.Target {
	var l []api.Target
	for i, w := range weights {
		l = append(l, api.Target{Addr: string(rune('a' + i%26)), Weight: w})
	}
	return l
}

func wantTaken(t *testing.T, weights []float64, draw float64, want int) {
	t.Helper()
	if i, ok := plane.Weigh(targets(weights...), draw); i != want || !ok {
		t.Errorf("Weigh(%.30v, %v): %d, %t; want %d", weights, draw, i, ok, want)
	}
}

func wantNone(t *testing.T, l []api.Target, draw float64) {
	t.Helper()
	if i, ok := plane.Weigh(l, draw); i != 0 || ok {
		t.Errorf("Weigh(%.30v, %v): %d, %t; want none", l, draw, i, ok)
	}
}

func draws() []float64 {
	return []float64{0, below0, tiny, 0.1, 0.2, 0.25, 0.5, 0.75, 0.9, almost1, 1, math.Nextafter(1, 2), 2, huge, infinite, -tiny, -0.5, -1, -huge, math.Inf(-1), nan, math.Float64frombits(0xfff0000000000001), math.Float64frombits(0x7fffffffffffffff)}
}

// P10.2: the document's example, and draws beside its edges.
func TestWeighExample(t *testing.T) {
	for _, x := range []struct {
		draw float64
		at   int
	}{
		{0, 0}, {0.2, 0}, {math.Nextafter(0.25, 0), 0}, {0.25, 2}, {0.5, 2}, {almost1, 2}, {1, 2}, {nan, 0},
		{below0, 0}, {tiny, 0}, {-tiny, 0}, {-1, 0}, {-huge, 0}, {math.Inf(-1), 0}, {-nan, 0}, {math.Float64frombits(0xfff0000000000001), 0},
		{math.Nextafter(1, 2), 2}, {2, 2}, {huge, 2}, {infinite, 2},
	} {
		wantTaken(t, []float64{1, 0, 3}, x.draw, x.at)
	}
}

// P10.2: false, unless the sum is above 0.
func TestWeighNone(t *testing.T) {
	for _, draw := range draws() {
		wantNone(t, nil, draw)
		wantNone(t, []api.Target{}, draw)
		for _, w := range []float64{0, below0, -1, -tiny, -huge, nan, -nan, infinite, math.Inf(-1)} {
			wantNone(t, targets(w), draw)
			wantNone(t, targets(w, w), draw)
			wantNone(t, targets(0, w, nan, infinite), draw)
		}
	}
}

// P10.2: a weight that is none counts as 0, wherever it stands.
func TestWeighOddWeights(t *testing.T) {
	for _, w := range []float64{0, below0, -1, -tiny, -huge, nan, infinite, math.Inf(-1)} {
		for _, draw := range []float64{0, 0.2, nan, -1} {
			wantTaken(t, []float64{w, 1, w, 3, w}, draw, 1)
		}
		for _, draw := range []float64{0.25, 0.9, almost1, 1, infinite} {
			wantTaken(t, []float64{w, 1, w, 3, w}, draw, 3)
		}
	}
	for _, draw := range draws() {
		wantTaken(t, []float64{0, tiny, nan}, draw, 1)
		wantTaken(t, []float64{infinite, huge}, draw, 1)
		wantTaken(t, []float64{3}, draw, 0)
	}
}

// P10.2: the sum is made from the first weight on, each sum rounded.
func TestWeighRounds(t *testing.T) {
	half := math.Ldexp(1, -53)
	wantTaken(t, []float64{1, half, half}, almost1, 0)
	wantTaken(t, []float64{1, half, half}, 1, 2)
	wantTaken(t, []float64{half, half, 1}, almost1, 2)
	wantTaken(t, []float64{1, 2 * half}, almost1, 1)
	wantTaken(t, []float64{tiny, tiny, 0}, 0.25, 0)
	wantTaken(t, []float64{tiny, tiny, 0}, 0.3, 1)
	wantTaken(t, []float64{tiny, tiny, 0}, 0.75, 1)
	wantTaken(t, []float64{tiny, tiny, 0}, 0.9, 1)
	wantTaken(t, []float64{tiny, 0}, 0.75, 0)
	wantTaken(t, []float64{0, tiny, 0}, 0.75, 1)
	wantTaken(t, []float64{0.1, 0.2, 0.3}, 0.5, 2)
	wantTaken(t, []float64{0.1, 0.2, 0.3}, math.Nextafter(0.5, 0), 1)
	wantTaken(t, []float64{0.3, 0.2, 0.1}, 0.5, 1)
}

// P10.2: a sum that is not finite: weights count as themselves times 2^-10.
func TestWeighShrinks(t *testing.T) {
	for _, draw := range []float64{nan, -1, 0, 0.4, math.Nextafter(0.5, 0)} {
		wantTaken(t, []float64{huge, huge}, draw, 0)
	}
	for _, draw := range []float64{0.5, 0.6, almost1, 1, 2} {
		wantTaken(t, []float64{huge, huge}, draw, 1)
	}
	wantTaken(t, []float64{huge, nan, huge, infinite, huge}, 0.4, 2)
	wantTaken(t, []float64{huge, nan, huge, infinite, huge}, 0.7, 4)
	// What is too small to be seen, shrunk, counts as 0.
	for _, w := range []float64{tiny, math.Ldexp(1, -1065)} {
		wantTaken(t, []float64{w, huge, huge}, 0, 1)
		wantTaken(t, []float64{huge, huge, w}, 1, 1)
		wantTaken(t, []float64{w, huge}, 0, 0)
		wantTaken(t, []float64{huge, w}, 1, 1)
	}
	for _, w := range []float64{math.Nextafter(math.Ldexp(1, -1065), 1), math.Ldexp(1, -1064)} {
		wantTaken(t, []float64{w, huge, huge}, 0, 0)
		wantTaken(t, []float64{huge, huge, w}, 1, 2)
	}
	// Half a step of the greatest float makes the sum round up, less does not.
	step := math.Ldexp(1, 970)
	wantTaken(t, []float64{tiny, huge, step}, 0, 1)
	wantTaken(t, []float64{tiny, huge, math.Nextafter(step, 0)}, 0, 0)
	wantTaken(t, []float64{tiny, math.Nextafter(huge, 0), step}, 0, 0)
}

// P10.2: 2^10 times the greatest float, shrunk, is a sum; of one more the sum stays infinite, and no draw is below it.
func TestWeighManyHuge(t *testing.T) {
	l := slices.Repeat([]float64{huge}, 1025)
	wantTaken(t, l[:1024], 0, 0)
	wantTaken(t, l[:1024], 0.5, 512)
	wantTaken(t, l[:1024], 1, 1023)
	for _, draw := range draws() {
		wantTaken(t, append(l, 0), draw, 1024)
		wantTaken(t, append(l[:1024:1024], huge/2), draw, 1024)
	}
}

// P10.6, P10.8: with whole weights each target has just its part of the sum, as whole numbers reckon it.
func TestWeighShares(t *testing.T) {
	c := chance(5)
	for range 3000 {
		var weights []float64
		sum := 0
		for range 1 + c.below(8) {
			w := c.below(4) * c.below(50)
			weights = append(weights, float64(w))
			sum += w
		}
		if sum == 0 {
			continue
		}
		const parts = 1 << 20
		draw := c.below(parts)
		want, part := 0, 0
		for i, w := range weights {
			if part += int(w); draw*sum < part*parts {
				want = i
				break
			}
		}
		wantTaken(t, weights, float64(draw)/parts, want)
	}
	for i := range 16 {
		wantTaken(t, slices.Repeat([]float64{0.5}, 16), float64(i)/16, i)
		wantTaken(t, slices.Repeat([]float64{0.5}, 16), math.Nextafter(float64(i+1)/16, 0), i)
	}
}

// someWeight is of any size, odd ones too.
func someWeight(c *chance) float64 {
	switch c.below(8) {
	case 0:
		return []float64{0, below0, nan, infinite, math.Inf(-1), -1, tiny, huge}[c.below(8)]
	case 1:
		return math.Float64frombits(uint64(c.below(1<<31))<<33 | uint64(c.below(1<<31)))
	case 2:
		return math.Ldexp(float64(1+c.below(1<<30)), 990+c.below(5))
	case 3:
		return float64(c.below(20)) * tiny
	default:
		return float64(c.below(1000)) / 7
	}
}

// rounded adds as floats do, by numbers of another kind.
func rounded(a, b float64) float64 {
	x := new(big.Float).SetPrec(5000).SetFloat64(a)
	sum, _ := x.Add(x, new(big.Float).SetFloat64(b)).Float64()
	return sum
}

// modelWeigh has all the sums first, and then looks for the place from behind.
func modelWeigh(l []api.Target, draw float64) (int, bool) {
	for _, by := range []float64{1, 1.0 / 1024} {
		weights, sums := make([]float64, len(l)), make([]float64, len(l)+1)
		for i, t := range l {
			if t.Weight > 0 && t.Weight <= huge {
				weights[i] = t.Weight * by
			}
			sums[i+1] = rounded(sums[i], weights[i])
		}
		sum := sums[len(l)]
		if sum > huge && by == 1 {
			continue
		}
		at, last := -1, 0
		x := max(draw, 0) * sum
		if draw != draw {
			x = 0 * sum
		}
		for i := len(l) - 1; i >= 0; i-- {
			if weights[i] > 0 {
				if at < 0 {
					at, last = i, i
				} else if x < sums[i+1] {
					at = i
				}
			}
		}
		if draw >= 1 {
			at = last
		}
		return max(at, 0), sum > 0
	}
	return 0, false
}

// P10.2, P10.6: any weights and rising draws, beside the model: none of weight 0, none earlier with a greater draw.
func TestWeighScript(t *testing.T) {
	c := chance(6)
	none := 0
	for range 5000 {
		var l []api.Target
		for range c.below(6) {
			l = append(l, api.Target{Weight: someWeight(&c)})
		}
		before := slices.Clone(l)
		rising := []float64{-1, 0, 1, 2}
		for range 8 {
			rising = append(rising, float64(c.below(1<<30))/(1<<30), someWeight(&c))
		}
		slices.Sort(rising) // NaN, which counts as 0, stands first
		at := 0
		for _, draw := range rising {
			i, ok := plane.Weigh(l, draw)
			want, wantOk := modelWeigh(l, draw)
			if i != want || ok != wantOk {
				t.Fatalf("Weigh(%v, %v): %d, %t; want %d, %t", l, draw, i, ok, want, wantOk)
			}
			if i < at || ok && !(l[i].Weight > 0 && l[i].Weight <= huge) {
				t.Fatalf("Weigh(%v, %v): %d, behind %d", l, draw, i, at)
			}
			at = i
			if !ok {
				none++
			}
		}
		for i := range l {
			if l[i].Addr != before[i].Addr || math.Float64bits(l[i].Weight) != math.Float64bits(before[i].Weight) {
				t.Fatalf("Weigh changed %v to %v", before, l)
			}
		}
	}
	if none < 5000 || none > 50000 {
		t.Errorf("%d times there is none", none)
	}
}
