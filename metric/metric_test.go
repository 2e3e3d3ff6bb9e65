package metric

import (
	"math"
	"math/rand"
	"slices"
	"testing"
)

var (
	inf     = math.Inf(1)
	nan     = math.NaN()
	minus   = math.Copysign(0, -1)
	tiny    = math.SmallestNonzeroFloat64
	biggest = math.MaxFloat64
)

// P2.1
func TestRightAndClean(t *testing.T) {
	for _, c := range []struct {
		cost, clean float64
		right       bool
	}{{0, 0, true}, {minus, 0, true}, {tiny, tiny, true}, {3.5, 3.5, true}, {biggest, biggest, true}, {inf, inf, true}, {-tiny, inf, false}, {-1, inf, false}, {-inf, inf, false}, {nan, inf, false}} {
		if Right(c.cost) != c.right || Clean(c.cost) != c.clean || math.Signbit(Clean(c.cost)) {
			t.Errorf("%v: %v, %v", c.cost, Right(c.cost), Clean(c.cost))
		}
	}
}

// P2.1
func TestAddLessSame(t *testing.T) {
	if Add(2, 3) != 5 || Add(inf, 1) != inf || Add(biggest, biggest) != inf || Add(-1, 1) != inf || Add(nan, nan) != inf || math.Signbit(Add(minus, minus)) {
		t.Error("Add")
	}
	row := []float64{minus, tiny, 1, biggest, nan}
	for i, a := range row {
		for j, b := range row {
			if Less(a, b) != (i < j) || Same(a, b) != (i == j) {
				t.Errorf("%v and %v", a, b)
			}
		}
	}
	if Less(minus, 0) || !Same(minus, 0) || !Same(nan, -3) || !Same(-inf, inf) {
		t.Error("edges")
	}
}

// P2.1
func TestBits(t *testing.T) {
	for c, want := range map[float64]uint64{0: 0, minus: 0, 1: 0x3ff0000000000000, tiny: 1, inf: 0x7ff0000000000000, -5: 0x7ff0000000000000} {
		if Bits(c) != want {
			t.Errorf("Bits(%v): %x", c, Bits(c))
		}
		if got, ok := Of(want); !ok || got != Clean(c) {
			t.Errorf("Of(%x): %v", want, got)
		}
	}
	for _, u := range []uint64{1 << 63, 1<<63 | 1, 0x7ff0000000000001, 0x7ff8000000000001, 0xfff0000000000000, 0xffffffffffffffff, 0xbff0000000000000} {
		if got, ok := Of(u); ok || got != 0 || math.Signbit(got) {
			t.Errorf("Of(%x): %v, %v", u, got, ok)
		}
	}
}

// P2.2
func TestShares(t *testing.T) {
	for i, c := range []struct {
		l    []float64
		n    int
		want []int
	}{
		{[]float64{1, 1, 1}, 10, []int{4, 3, 3}},
		{[]float64{inf, 5, inf}, 4, []int{2, 0, 2}},
		{[]float64{inf, 5, inf}, 5, []int{3, 0, 2}},
		{[]float64{nan, -1, 0, minus, 2, -inf}, 7, []int{0, 0, 0, 0, 7, 0}},
		{[]float64{nan, 1, 1}, 3, []int{0, 2, 1}},
		{[]float64{nan, 0}, 7, []int{0, 0}},
		{[]float64{1, 3}, 16, []int{4, 12}},
		{[]float64{1, 1}, 0, []int{0, 0}},
		{[]float64{1, 1}, -9, []int{0, 0}},
		{[]float64{1, 1}, math.MinInt, []int{0, 0}},
		{[]float64{1}, math.MaxInt, []int{1000}},
		{[]float64{1, 1}, 1001, []int{500, 500}},
		{[]float64{biggest, biggest}, 3, []int{2, 1}},
		{[]float64{biggest, 1, biggest}, 3, []int{2, 0, 1}},
		{[]float64{tiny, biggest, biggest}, 3, []int{1, 1, 1}},
		{[]float64{tiny, tiny, tiny}, 3, []int{1, 1, 1}},
		{[]float64{1e-300, 1}, 5, []int{0, 5}}, // the whole part of 1 times 5 is all: nothing is left over
		{nil, 5, nil},
	} {
		if got := Shares(c.l, c.n); !slices.Equal(got, c.want) {
			t.Errorf("case %d: %v, not %v", i, got, c.want)
		}
	}
}

// P2.2
func TestSharesInAll(t *testing.T) {
	r := rand.New(rand.NewSource(1))
	for range 20000 {
		l := make([]float64, 1+r.Intn(6))
		any := false
		for i := range l {
			l[i] = []float64{r.Float64(), 1, float64(r.Intn(9)), nan, inf, biggest, tiny, -1}[r.Intn(8)]
			any = any || l[i] > 0
		}
		n := r.Intn(1100)
		ahead := slices.Clone(l)
		sum := 0
		for i, x := range Shares(l, n) {
			if x < 0 || x > 0 && !(l[i] > 0) {
				t.Fatalf("%v, %d: %v", l, n, Shares(l, n))
			}
			sum += x
		}
		if any && sum != min(n, 1000) || !any && sum != 0 {
			t.Fatalf("%v, %d: %v", l, n, Shares(l, n))
		}
		for i := range l {
			if math.Float64bits(l[i]) != math.Float64bits(ahead[i]) {
				t.Fatal("R2: the weights were changed")
			}
		}
	}
}
