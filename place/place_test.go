package place

import (
	"math"
	"math/rand"
	"slices"
	"sync"
	"testing"
	"time"
)

var (
	minus = math.Copysign(0, -1)
	nan   = math.NaN()
	inf   = math.Inf(1)
)

// Parts at all edges, and what may be none.
func rightParts() []float64 {
	return []float64{0, minus, 1, -1, 2, -2, 3, 4, -5, 255, 4096, -9999, 9999, 10000, -10000}
}

func wrongParts() []float64 {
	return []float64{
		0.5, -0.5, 1.5, 9999.5, -9999.5, 10000.5, 10001, -10001, 1e5, 1e18, -1e300, inf, -inf, nan,
		math.SmallestNonzeroFloat64, -math.SmallestNonzeroFloat64, math.MaxFloat64,
		math.Nextafter(10000, inf), math.Nextafter(10000, 0), math.Nextafter(-10000, -inf),
		math.Nextafter(1, 0), math.Nextafter(1, 2), 1 << 32, 1 << 53, 1 << 63, 1 << 64,
	}
}

func rightPlaces() []complex128 {
	var l []complex128
	for _, x := range rightParts() {
		for _, y := range rightParts() {
			l = append(l, complex(x, y))
		}
	}
	return l
}

// Places of which one part, or both, may be none.
func wrongPlaces() []complex128 {
	var l []complex128
	for _, wrong := range wrongParts() {
		for _, x := range append(rightParts(), wrong, nan, inf) {
			l = append(l, complex(x, wrong), complex(wrong, x))
		}
	}
	return l
}

// wholes is the parts of p, which is right.
func wholes(p complex128) (x, y int) { return int(real(p)), int(imag(p)) }

func place(x, y int) complex128 { return complex(float64(x), float64(y)) }

// same tells whether a and b are the same, -0 not being 0.
func same(a, b complex128) bool {
	bits := math.Float64bits
	return bits(real(a)) == bits(real(b)) && bits(imag(a)) == bits(imag(b))
}

// TestMost: it is what the chapter says.
func TestMost(t *testing.T) {
	if Most != 10000 {
		t.Errorf("Most is %d", Most)
	}
}

// TestRight (P5.1): both parts whole, and not above Most, nor below -Most.
func TestRight(t *testing.T) {
	for _, p := range rightPlaces() {
		if !Right(p) {
			t.Errorf("%v is not right", p)
		}
	}
	for _, p := range wrongPlaces() {
		if Right(p) {
			t.Errorf("%v is right", p)
		}
	}
}

// TestRightEach (P5.1): every whole number, and none beside it, as either part.
func TestRightEach(t *testing.T) {
	for x := -10010; x <= 10010; x++ {
		want := x >= -10000 && x <= 10000
		if Right(place(x, 7)) != want || Right(place(-7, x)) != want {
			t.Errorf("%d is right: not %v", x, want)
		}
		if half := float64(x) + 0.5; Right(complex(half, 0)) || Right(complex(0, half)) {
			t.Errorf("%v is right", half)
		}
	}
}

// TestFarKnown (P5.1): the square of the distance.
func TestFarKnown(t *testing.T) {
	for _, c := range []struct {
		a, b complex128
		want uint64
	}{
		{0, 0, 0},
		{1, 0, 1},
		{1, -1, 4},
		{1, 1i, 2},
		{3, 4i, 25},
		{1 + 2i, 4 + 6i, 25},
		{-1 - 2i, 1 + 2i, 20},
		{complex(minus, minus), 0, 0},
		{10000, -10000, 400000000},
		{10000i, -10000i, 400000000},
		{10000 + 10000i, -10000 - 10000i, 800000000},
		{-10000 + 10000i, 10000 - 9999i, 799960001},
	} {
		if got := Far(c.a, c.b); got != c.want {
			t.Errorf("Far(%v, %v) is %d, not %d", c.a, c.b, got, c.want)
		}
	}
}

// TestFar (P5.1): of right ones, by whole numbers, from either.
func TestFar(t *testing.T) {
	all := rightPlaces()
	for _, a := range all {
		for _, b := range all {
			ax, ay := wholes(a)
			bx, by := wholes(b)
			want := uint64((ax-bx)*(ax-bx) + (ay-by)*(ay-by))
			if got, back := Far(a, b), Far(b, a); got != want || back != want {
				t.Errorf("Far of %v and %v is %d, and back %d, not %d", a, b, got, back, want)
			}
		}
	}
}

// TestFarNone (P5.1): 0, if one is not right, or neither.
func TestFarNone(t *testing.T) {
	for _, wrong := range wrongPlaces() {
		for _, p := range []complex128{0, 1, 3 + 4i, -10000 - 10000i, wrong, complex(nan, inf), 20000.5i} {
			if Far(wrong, p) != 0 || Far(p, wrong) != 0 {
				t.Errorf("Far of %v and %v is %d, and back %d", wrong, p, Far(wrong, p), Far(p, wrong))
			}
		}
	}
}

// spunByTheWords is Spin of a right place, in whole numbers.
func spunByTheWords(p complex128, quarters int) complex128 {
	times := quarters % 4
	if times < 0 {
		times += 4
	}
	x, y := wholes(p)
	for range times {
		x, y = -y, x
	}
	return place(x, y)
}

// TestSpinKnown (P5.1): round once, forth and back.
func TestSpinKnown(t *testing.T) {
	for _, c := range []struct {
		p        complex128
		quarters int
		want     complex128
	}{
		{1, 0, 1}, {1, 1, 1i}, {1, 2, -1}, {1, 3, -1i}, {1, 4, 1}, {1, 5, 1i},
		{1, -1, -1i}, {1, -2, -1}, {1, -3, 1i}, {1, -4, 1}, {1, -5, -1i},
		{3 + 4i, 1, -4 + 3i}, {3 + 4i, 2, -3 - 4i}, {3 + 4i, 3, 4 - 3i}, {3 + 4i, -1, 4 - 3i},
		{10000 - 10000i, 1, 10000 + 10000i}, {-10000, 3, 10000i}, {0, 2, 0},
		{5, math.MaxInt, -5i}, {5, math.MinInt, 5}, {5, math.MinInt + 1, 5i}, {5, 1 << 32, 5}, {5, 1<<53 + 1, 5i},
	} {
		if got := Spin(c.p, c.quarters); !same(got, c.want) {
			t.Errorf("Spin(%v, %d) is %v, not %v", c.p, c.quarters, got, c.want)
		}
	}
}

// TestSpin (P5.1): right places, by any quarters, and never -0.
func TestSpin(t *testing.T) {
	turns := []int{math.MinInt, math.MinInt + 1, math.MinInt + 2, math.MinInt + 3, math.MaxInt, math.MaxInt - 1}
	for quarters := -9; quarters <= 9; quarters++ {
		turns = append(turns, quarters)
	}
	for _, p := range rightPlaces() {
		for _, quarters := range turns {
			if got, want := Spin(p, quarters), spunByTheWords(p, quarters); !same(got, want) {
				t.Errorf("Spin(%v, %d) is %v, not %v", p, quarters, got, want)
			}
		}
	}
}

// TestSpinNone (P5.1): 0, and not -0, if it is not right.
func TestSpinNone(t *testing.T) {
	for _, wrong := range wrongPlaces() {
		for _, quarters := range []int{0, 1, 2, 3, 4, -1, -2, -3, math.MinInt, math.MaxInt} {
			if got := Spin(wrong, quarters); !same(got, 0) {
				t.Errorf("Spin(%v, %d) is %v", wrong, quarters, got)
			}
		}
	}
}

func sameRing(a, b []complex128) bool { return slices.EqualFunc(a, b, same) }

// TestRingKnown (P5.2): the chapter's example, and a greater one.
func TestRingKnown(t *testing.T) {
	if got := Ring(3); !sameRing(got, []complex128{1, 1i, -1}) {
		t.Errorf("Ring(3) is %v", got)
	}
	want := []complex128{1, 1i, -1, -1i, 2, 2i, -2, -2i, 3, 3i}
	for n := range len(want) + 1 {
		if got := Ring(n); !sameRing(got, want[:n]) {
			t.Errorf("Ring(%d) is %v", n, got)
		}
	}
}

// TestRing (P5.2): each place of each ring; none below 1, and 64 at most.
func TestRing(t *testing.T) {
	sizes := []int{math.MinInt, -1 << 32, math.MaxInt, math.MaxInt - 1, 1 << 31, 1 << 32, 1<<32 + 3, 1000}
	for n := -70; n <= 140; n++ {
		sizes = append(sizes, n)
	}
	for _, n := range sizes {
		var want []complex128
		for k := 0; k < n && k < 64; k++ {
			want = append(want, spunByTheWords(place(1+k/4, 0), k))
		}
		if got := Ring(n); !sameRing(got, want) {
			t.Errorf("Ring(%d) has %d places, or others: %v", n, len(got), got)
		}
	}
}

// TestRingNew (P3): what is told is new memory, spare room too.
func TestRingNew(t *testing.T) {
	for _, n := range []int{0, 3, 64} {
		a, b := Ring(n), Ring(n)
		want := slices.Clone(b)
		fill(a, 7)
		if !sameRing(b, want) || !sameRing(Ring(n), want) {
			t.Errorf("Ring(%d) shares its memory", n)
		}
	}
}

// fill writes over all of l, with its spare room.
func fill[T any](l []T, with T) {
	l = l[:cap(l)]
	for i := range l {
		l[i] = with
	}
}

// nextByTheWords tells who of left is next: the least far from l[me], or from 0, and of the same the first going round.
func nextByTheWords(l []complex128, me int, left []int) int {
	isOne := me >= 0 && me < len(l)
	rank := func(i int) (far uint64, steps int) {
		if !isOne {
			return Far(l[i], 0), i
		}
		steps = i - me
		if steps < 0 {
			steps += len(l)
		}
		return Far(l[i], l[me]), steps
	}
	next := left[0]
	for _, i := range left {
		far, steps := rank(i)
		least, first := rank(next)
		if far < least || far == least && steps < first {
			next = i
		}
	}
	return next
}

// orderByTheWords is Order as the chapter tells it, one by one.
func orderByTheWords(l []complex128, me int) []int {
	var left, all []int
	for i := range l {
		if i != me {
			left = append(left, i)
		}
	}
	for len(left) > 0 {
		next := nextByTheWords(l, me, left)
		all = append(all, next)
		left = slices.DeleteFunc(left, func(i int) bool { return i == next })
	}
	return all
}

func wantOrder(t *testing.T, l []complex128, me int, want []int) {
	t.Helper()
	if got := Order(l, me); !slices.Equal(got, want) {
		t.Errorf("Order(%v, %d) is %v, not %v", l, me, got, want)
	}
}

// TestOrderKnown (P5.2): orders that are worked out by hand.
func TestOrderKnown(t *testing.T) {
	for _, c := range []struct {
		l    []complex128
		me   int
		want []int
	}{
		{nil, 0, nil},
		{nil, -1, nil},
		{[]complex128{5}, 0, nil},
		{[]complex128{5}, 1, []int{0}},
		{[]complex128{5}, -1, []int{0}},
		// 1, i, -1: who is in the midst is as far from both others.
		{Ring(3), 0, []int{1, 2}},
		{Ring(3), 1, []int{2, 0}},
		{Ring(3), 2, []int{1, 0}},
		{Ring(3), 3, []int{0, 1, 2}},
		{Ring(3), -1, []int{0, 1, 2}},
		// 1, i, -1, -i, 2: the first two far 2, the last far 1, -1 far 4.
		{Ring(5), 0, []int{4, 1, 3, 2}},
		{Ring(5), 1, []int{2, 0, 3, 4}},
		{Ring(5), 2, []int{3, 1, 0, 4}},
		{Ring(5), 3, []int{0, 2, 1, 4}},
		{Ring(5), 4, []int{0, 1, 3, 2}},
		{Ring(5), 5, []int{0, 1, 2, 3, 4}},
		// All at one place: going round.
		{[]complex128{2, 2, 2, 2}, 0, []int{1, 2, 3}},
		{[]complex128{2, 2, 2, 2}, 2, []int{3, 0, 1}},
		{[]complex128{2, 2, 2, 2}, 3, []int{0, 1, 2}},
		{[]complex128{2, 2, 2, 2}, 4, []int{0, 1, 2, 3}},
		// From 0, if there is no such one.
		{[]complex128{9, -3, 4i, 3, 0}, 5, []int{4, 1, 3, 2, 0}},
		{[]complex128{9, -3, 4i, 3, 0}, math.MinInt, []int{4, 1, 3, 2, 0}},
		{[]complex128{9, -3, 4i, 3, 0}, math.MaxInt, []int{4, 1, 3, 2, 0}},
		// Who is not right is 0 far, and from such a one all are.
		{[]complex128{5, 6, 0.5, 5, 20000}, 0, []int{2, 3, 4, 1}},
		{[]complex128{5, 6, 0.5, 5, 20000}, 2, []int{3, 4, 0, 1}},
		{[]complex128{5, complex(nan, nan), 4, complex(inf, 0), 1}, 4, []int{1, 3, 2, 0}},
		{[]complex128{5, complex(nan, nan), 4, complex(inf, 0), 1}, 9, []int{1, 3, 4, 2, 0}},
	} {
		wantOrder(t, c.l, c.me, c.want)
	}
}

// places is any places on a grid that is small enough that many are as far as others; some are wrong.
func places(draw *rand.Rand, many, side, wrong int) []complex128 {
	l := make([]complex128, many)
	none := wrongPlaces()
	for i := range l {
		l[i] = place(draw.Intn(2*side+1)-side, draw.Intn(2*side+1)-side)
		if draw.Intn(100) < wrong {
			l[i] = none[draw.Intn(len(none))]
		}
	}
	return l
}

// mes is each place of many, and what is none.
func mes(many int) []int {
	l := []int{-1, -2, many, many + 1, -many, 2 * many, math.MinInt, math.MaxInt, math.MaxInt - 1, 1 << 32, -1 << 32}
	for i := range many {
		l = append(l, i)
	}
	return l
}

// TestOrder (P5.2): lists of all sizes, near and far, right and not, seen from each.
func TestOrder(t *testing.T) {
	draw := rand.New(rand.NewSource(5))
	for round := range 600 {
		l := places(draw, round%20, []int{0, 1, 2, 5, 10000}[round%5], []int{0, 0, 20, 90}[round%4])
		for _, me := range mes(len(l)) {
			wantOrder(t, l, me, orderByTheWords(l, me))
		}
	}
}

// TestOrderRing (P5.2): the rings, seen from each of their places.
func TestOrderRing(t *testing.T) {
	for n := range 66 {
		l := Ring(n)
		for _, me := range mes(len(l)) {
			wantOrder(t, l, me, orderByTheWords(l, me))
		}
	}
}

// TestOrderTurned (P5.3): turned all alike, the order of right places is the same.
func TestOrderTurned(t *testing.T) {
	draw := rand.New(rand.NewSource(6))
	for round := range 300 {
		l := places(draw, round%12, []int{1, 3, 10000}[round%3], 0)
		for quarters := -5; quarters <= 5; quarters++ {
			turned := make([]complex128, len(l))
			for i, p := range l {
				turned[i] = Spin(p, quarters)
			}
			for _, me := range mes(len(l)) {
				wantOrder(t, turned, me, Order(l, me))
			}
		}
	}
}

// TestFarTurned (P5.3): turned both alike, they are as far.
func TestFarTurned(t *testing.T) {
	for _, a := range rightPlaces() {
		for _, b := range rightPlaces() {
			for quarters := range 4 {
				if Far(Spin(a, quarters), Spin(b, quarters)) != Far(a, b) {
					t.Errorf("%v and %v, turned %d times, are not as far", a, b, quarters)
				}
			}
		}
	}
}

// TestOrderLong (P1): long lists come to an end soon, whatever their order is.
func TestOrderLong(t *testing.T) {
	const many = 1 << 18
	begun := time.Now()
	for _, step := range []int{0, 1, -1, 7919} {
		l := make([]complex128, many)
		for i := range l {
			l[i] = place(((i*step)%10001+10001)%10001, 0)
		}
		got := Order(l, many-1)
		if len(got) != many-1 {
			t.Fatalf("%d of %d places", len(got), many-1)
		}
		for i := 1; i < len(got); i++ {
			a, b := Far(l[got[i-1]], l[many-1]), Far(l[got[i]], l[many-1])
			if a > b || a == b && got[i-1] >= got[i] {
				t.Fatalf("%d stands ahead of %d", got[i-1], got[i])
			}
		}
	}
	// A search of all that are left for each that is next takes minutes.
	if took := time.Since(begun); took > 30*time.Second {
		t.Errorf("it took %v", took)
	}
}

// TestOrderKeeps (P3): nothing is written into l, nor behind it, and what is told is new memory.
func TestOrderKeeps(t *testing.T) {
	draw := rand.New(rand.NewSource(7))
	for many := range 12 {
		whole := places(draw, many+4, 3, 30)
		was := slices.Clone(whole)
		l := whole[2 : many+2]
		for _, me := range mes(many) {
			first, again := Order(l, me), Order(l, me)
			want := slices.Clone(again)
			fill(first, -7)
			if !slices.Equal(again, want) || !slices.Equal(Order(l, me), want) {
				t.Errorf("Order(%v, %d) shares its memory", l, me)
			}
		}
		if !sameRing(whole, was) {
			t.Errorf("%v was written into: %v", was, whole)
		}
	}
}

// TestSameAgain (P4): the same answers again, whoever else asks.
func TestSameAgain(t *testing.T) {
	l := places(rand.New(rand.NewSource(8)), 60, 4, 10)
	ring := Ring(64)
	var all sync.WaitGroup
	for me := range 8 {
		all.Go(func() {
			want := orderByTheWords(l, me)
			for range 50 {
				if got := Order(l, me); !slices.Equal(got, want) {
					t.Errorf("from %d: %v, not %v", me, got, want)
				}
				if !sameRing(Ring(64), ring) {
					t.Error("another ring")
				}
			}
		})
	}
	all.Wait()
}
