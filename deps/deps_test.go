package deps

import (
	"fmt"
	"math"
	"math/rand"
	"slices"
	"strings"
	"sync"
	"testing"
	"time"
	"unsafe"

	"comitia/pack"
)

// Owners and numbers that are none: near the edges, with lowest bytes that are one, and of all 64 bits.
var (
	wrongOwners = []int{0, -1, -2, -7, 8, 9, 127, 128, 255, 256, 257, 263, -255, -249, 1 << 32, 1<<32 + 1, -1<<32 + 7, math.MinInt32, math.MaxInt32, math.MinInt, math.MinInt + 1, math.MaxInt}
	wrongNs     = []int{0, -1, -2, 1 << 24, 1<<24 + 1, 1 << 25, 1<<31 - 1, 1 << 31, 1<<32 - 1, 1 << 32, 1<<32 + 1, 1 - 1<<24, 1 - 1<<32, math.MinInt32, math.MinInt, math.MinInt + 1, math.MaxInt - 1, math.MaxInt}
	owners      = []int{1, 2, 3, 4, 5, 6, 7}
	ns          = []int{1, 2, 9, 10, 255, 256, 257, 65535, 65536, 1<<24 - 2, 1<<24 - 1}
)

// rights is instances that are right, each over the one ahead.
func rights() []ID {
	var l []ID
	for _, owner := range owners {
		for _, n := range ns {
			l = append(l, ID{owner, n})
		}
	}
	return l
}

// wrongs is instances that are wrong, by their owner, by their number, or by both.
func wrongs() []ID {
	l := []ID{{}}
	for _, owner := range wrongOwners {
		for _, n := range append(slices.Clone(wrongNs), ns...) {
			l = append(l, ID{owner, n})
		}
	}
	for _, n := range wrongNs {
		for _, owner := range owners {
			l = append(l, ID{owner, n})
		}
	}
	return l
}

// long is a set of many, from most owners.
func long(many int) []ID {
	l := make([]ID, 0, many)
	for i := range many {
		l = append(l, ID{1 + i*7/many, 1 + i})
	}
	return l
}

// drawnSet is a set of few of all, so that two have many in both.
func drawnSet(draw *rand.Rand) []ID {
	var l []ID
	every := 1 + draw.Intn(6)
	for owner := range 4 {
		for n := range 5 {
			if draw.Intn(6) < every {
				l = append(l, ID{owner + 1, n + 1})
			}
		}
	}
	if draw.Intn(10) == 0 {
		return nil
	}
	return l
}

// drawnList is a list of any instances, in any order.
func drawnList(draw *rand.Rand) []ID {
	var l []ID
	for range draw.Intn(9) {
		id := ID{draw.Intn(9), draw.Intn(5)}
		if draw.Intn(9) == 0 {
			id = ID{int(draw.Uint64()), int(draw.Uint64())}
		}
		l = append(l, id)
	}
	return l
}

// isRight is whether id is right, by the chapter's words.
func isRight(id ID) bool { return 0 < id.Owner && id.Owner < 8 && 0 < id.N && id.N < 16777216 }

// isOver is whether a is over b, by the chapter's words.
func isOver(a, b ID) bool { return a.Owner > b.Owner || a.Owner == b.Owner && a.N > b.N }

// isSet is whether l is a set, by the chapter's words.
func isSet(l []ID) bool {
	for i := range l {
		if !isRight(l[i]) || i > 0 && !isOver(l[i], l[i-1]) {
			return false
		}
	}
	return true
}

// setOf is all that are in one of the lists and in none of those without, as a set.
func setOf(without []ID, lists ...[]ID) []ID {
	var l []ID
	for _, list := range lists {
		for _, id := range list {
			if !slices.Contains(l, id) && !slices.Contains(without, id) {
				l = append(l, id)
			}
		}
	}
	slices.SortFunc(l, func(a, b ID) int {
		if isOver(a, b) {
			return 1
		}
		return -1
	})
	return l
}

// laid is l as bytes, set or not, the lowest byte first.
func laid(l []ID) string {
	b := []byte{byte(len(l)), byte(len(l) >> 8)}
	for _, id := range l {
		b = append(b, byte(id.Owner), byte(id.N), byte(id.N>>8), byte(id.N>>16))
	}
	return string(b)
}

// TestMostN (P8.1): the greatest number.
func TestMostN(t *testing.T) {
	if MostN != 16777215 {
		t.Errorf("it is %d", MostN)
	}
}

// TestRight (P8.1): within the limits, and beyond each of them.
func TestRight(t *testing.T) {
	for _, id := range rights() {
		if !Right(id) {
			t.Errorf("%v is not right", id)
		}
	}
	for _, id := range wrongs() {
		if Right(id) {
			t.Errorf("%v is right", id)
		}
	}
	for owner := -300; owner <= 300; owner++ {
		if got, want := Right(ID{owner, 1}), owner >= 1 && owner <= 7; got != want {
			t.Errorf("one of owner %d is right: %v", owner, got)
		}
	}
}

// TestOrderKnown (P8.1): by the owner, then by the number, of all 64 bits.
func TestOrderKnown(t *testing.T) {
	for _, c := range []struct {
		a, b ID
		want int
	}{
		{ID{}, ID{}, 0},
		{ID{1, 1}, ID{1, 1}, 0},
		{ID{1, 1}, ID{1, 2}, -1},
		{ID{1, 2}, ID{1, 1}, 1},
		{ID{1, 2}, ID{2, 1}, -1},
		{ID{2, 1}, ID{1, 2}, 1},
		{ID{2, 9}, ID{2, 10}, -1},
		{ID{7, MostN}, ID{7, MostN}, 0},
		{ID{1, MostN}, ID{2, 1}, -1},
		{ID{-1, 1}, ID{0, 0}, -1},
		{ID{1, -1}, ID{1, 0}, -1},
		{ID{1, 257}, ID{1, 256}, 1},
		{ID{1, 1<<32 + 1}, ID{1, 2}, 1},
		{ID{1<<32 + 1, 1}, ID{2, 1}, 1},
		{ID{math.MinInt, 0}, ID{math.MaxInt, 0}, -1},
		{ID{math.MaxInt, 0}, ID{math.MinInt, 0}, 1},
		{ID{1, math.MinInt}, ID{1, math.MaxInt}, -1},
		{ID{1, math.MaxInt}, ID{1, math.MinInt}, 1},
		{ID{math.MinInt, math.MaxInt}, ID{math.MinInt + 1, math.MinInt}, -1},
	} {
		if got := Order(c.a, c.b); got != c.want {
			t.Errorf("Order(%v, %v) is %d", c.a, c.b, got)
		}
	}
}

// TestOrder (P8.1): of any two, right or not, by the words.
func TestOrder(t *testing.T) {
	all := append(rights(), wrongs()...)
	for _, a := range all {
		for _, b := range all {
			want := 0
			switch {
			case isOver(a, b):
				want = 1
			case isOver(b, a):
				want = -1
			}
			if got := Order(a, b); got != want {
				t.Fatalf("Order(%v, %v) is %d", a, b, got)
			}
		}
	}
}

// TestSetKnown (P8.1): the chapter's example, and others.
func TestSetKnown(t *testing.T) {
	for _, c := range []struct {
		what string
		l    []ID
		want bool
	}{
		{"nothing", nil, true},
		{"an empty list", []ID{}, true},
		{"the least", []ID{{1, 1}}, true},
		{"the greatest", []ID{{7, MostN}}, true},
		{"one owner's", []ID{{1, 1}, {1, 2}, {1, 10}}, true},
		{"owners that rise, and numbers that fall", []ID{{1, 9}, {2, 8}, {7, 1}}, true},
		{"one twice", []ID{{1, 1}, {1, 1}}, false},
		{"numbers that fall", []ID{{1, 2}, {1, 1}}, false},
		{"owners that fall", []ID{{2, 1}, {1, 1}}, false},
		{"owners that fall, and numbers that rise", []ID{{2, 1}, {1, 2}}, false},
		{"the last falls", []ID{{1, 1}, {2, 2}, {3, 3}, {3, 2}}, false},
		{"the first is twice", []ID{{1, 1}, {1, 1}, {2, 2}, {3, 3}}, false},
		{"one that is none", []ID{{}}, false},
		{"a first that is none", []ID{{0, 1}, {1, 1}}, false},
		{"a middle that is none", []ID{{1, 1}, {2, 0}, {2, 1}}, false},
		{"a last that is none", []ID{{1, 1}, {8, 1}}, false},
		{"a last with too great a number", []ID{{1, 1}, {7, MostN + 1}}, false},
		{"a first with a number below 0", []ID{{1, -1}, {1, 1}}, false},
		{"of above 400", long(401), true},
		{"of 70000", long(70000), true},
		{"of 70000, and the last again", append(long(70000), long(70000)[69999]), false},
	} {
		if got := Set(c.l); got != c.want {
			t.Errorf("%s: %v", c.what, got)
		}
	}
}

// TestSet (P8.1): of any list, by the words, and of none with one that is wrong, wherever it stands.
func TestSet(t *testing.T) {
	draw := rand.New(rand.NewSource(8))
	for range 50000 {
		l := drawnList(draw)
		if draw.Intn(2) == 0 {
			slices.SortFunc(l, Order)
		}
		if got := Set(l); got != isSet(l) {
			t.Fatalf("%v is a set: %v", l, got)
		}
	}
	for _, id := range wrongs() {
		l := append(rights(), id)
		slices.SortFunc(l, Order)
		if Set(l) {
			t.Errorf("it is a set, with %v", id)
		}
	}
}

// TestHas (P8.1): each that is in a set, and none that is not.
func TestHas(t *testing.T) {
	draw := rand.New(rand.NewSource(81))
	for range 2000 {
		l := drawnSet(draw)
		for owner := range 7 {
			for n := range 8 {
				id := ID{owner, n}
				if got := Has(l, id); got != slices.Contains(l, id) {
					t.Fatalf("Has(%v, %v) is %v", l, id, got)
				}
			}
		}
	}
	for many := range 70 {
		l := rights()[:many]
		for i, id := range rights() {
			if got := Has(l, id); got != (i < many) {
				t.Fatalf("Has(%v, %v) is %v", l, id, got)
			}
		}
	}
	for _, id := range wrongs() {
		if Has(rights(), id) || Has(nil, id) {
			t.Errorf("%v is in a set", id)
		}
	}
}

// wantList fails if l is another.
func wantList(t *testing.T, what string, l, want []ID) {
	t.Helper()
	if !slices.Equal(l, want) {
		t.Fatalf("%s is %v, not %v", what, l, want)
	}
}

// TestAddKnown (P8.1): ahead of all, between, behind all, one that it has, and one that is not right.
func TestAddKnown(t *testing.T) {
	l := []ID{{2, 2}, {2, 4}, {4, 1}}
	for _, c := range []struct {
		l    []ID
		id   ID
		want []ID
	}{
		{nil, ID{1, 1}, []ID{{1, 1}}},
		{nil, ID{7, MostN}, []ID{{7, MostN}}},
		{nil, ID{}, nil},
		{nil, ID{8, 1}, nil},
		{l, ID{1, 9}, []ID{{1, 9}, {2, 2}, {2, 4}, {4, 1}}},
		{l, ID{2, 1}, []ID{{2, 1}, {2, 2}, {2, 4}, {4, 1}}},
		{l, ID{2, 2}, l},
		{l, ID{2, 3}, []ID{{2, 2}, {2, 3}, {2, 4}, {4, 1}}},
		{l, ID{2, 4}, l},
		{l, ID{3, 1}, []ID{{2, 2}, {2, 4}, {3, 1}, {4, 1}}},
		{l, ID{4, 1}, l},
		{l, ID{4, 2}, []ID{{2, 2}, {2, 4}, {4, 1}, {4, 2}}},
		{l, ID{7, 1}, []ID{{2, 2}, {2, 4}, {4, 1}, {7, 1}}},
		{l, ID{0, 1}, l},
		{l, ID{8, 1}, l},
		{l, ID{2, 0}, l},
		{l, ID{2, MostN}, []ID{{2, 2}, {2, 4}, {2, MostN}, {4, 1}}},
		{l, ID{2, MostN + 1}, l},
		{l, ID{2, -3}, l},
	} {
		wantList(t, fmt.Sprintf("Add(%v, %v)", c.l, c.id), Add(c.l, c.id), c.want)
	}
}

// TestAdd (P8.1): to any set, any instance, by the words.
func TestAdd(t *testing.T) {
	draw := rand.New(rand.NewSource(82))
	for range 20000 {
		l, id := drawnSet(draw), ID{draw.Intn(10), draw.Intn(8)}
		want := l
		if isRight(id) {
			want = setOf(nil, l, []ID{id})
		}
		wantList(t, fmt.Sprintf("Add(%v, %v)", l, id), Add(l, id), want)
	}
	for _, id := range wrongs() {
		wantList(t, fmt.Sprintf("rights with %v", id), Add(rights(), id), rights())
	}
}

// TestAddAll (P8.1): of all that are added, in any order, comes the one set of them, above 400 too.
func TestAddAll(t *testing.T) {
	want := long(500)
	l := []ID{}
	for _, i := range rand.New(rand.NewSource(83)).Perm(len(want)) {
		l = Add(Add(l, want[i]), want[i])
	}
	wantList(t, "all that were added", l, want)
}

// TestJoinKnown (P8.1): sets with nothing, with one behind the other, with some in both.
func TestJoinKnown(t *testing.T) {
	a, b := []ID{{1, 1}, {1, 3}, {2, 1}, {7, 9}}, []ID{{1, 2}, {1, 3}, {3, 1}}
	low, high := []ID{{1, 1}, {1, 2}}, []ID{{1, 3}, {2, 1}}
	for _, c := range []struct{ a, b, want []ID }{
		{nil, nil, nil},
		{a, nil, a},
		{nil, a, a},
		{a, a, a},
		{low, high, []ID{{1, 1}, {1, 2}, {1, 3}, {2, 1}}},
		{high, low, []ID{{1, 1}, {1, 2}, {1, 3}, {2, 1}}},
		{a, b, []ID{{1, 1}, {1, 2}, {1, 3}, {2, 1}, {3, 1}, {7, 9}}},
		{b, a, []ID{{1, 1}, {1, 2}, {1, 3}, {2, 1}, {3, 1}, {7, 9}}},
		{a, a[1:2], a},
		{a[3:], a, a},
	} {
		wantList(t, fmt.Sprintf("Join(%v, %v)", c.a, c.b), Join(c.a, c.b), c.want)
	}
}

// TestLessKnown (P8.1): sets with nothing, with one behind the other, with some in both.
func TestLessKnown(t *testing.T) {
	a, b := []ID{{1, 1}, {1, 3}, {2, 1}, {7, 9}}, []ID{{1, 2}, {1, 3}, {3, 1}}
	low, high := []ID{{1, 1}, {1, 2}}, []ID{{1, 3}, {2, 1}}
	for _, c := range []struct{ a, b, want []ID }{
		{nil, nil, nil},
		{a, nil, a},
		{nil, a, nil},
		{a, a, nil},
		{low, high, low},
		{high, low, high},
		{a, b, []ID{{1, 1}, {2, 1}, {7, 9}}},
		{b, a, []ID{{1, 2}, {3, 1}}},
		{a, a[1:2], []ID{{1, 1}, {2, 1}, {7, 9}}},
		{a[3:], a, nil},
		{a, a[1:], a[:1]},
		{a, a[:3], a[3:]},
	} {
		wantList(t, fmt.Sprintf("Less(%v, %v)", c.a, c.b), Less(c.a, c.b), c.want)
	}
}

// TestJoinLess (P8.1): of any two sets, by the words.
func TestJoinLess(t *testing.T) {
	draw := rand.New(rand.NewSource(84))
	for range 20000 {
		a, b := drawnSet(draw), drawnSet(draw)
		wantList(t, fmt.Sprintf("Join(%v, %v)", a, b), Join(a, b), setOf(nil, a, b))
		wantList(t, fmt.Sprintf("Less(%v, %v)", a, b), Less(a, b), setOf(b, a))
	}
}

// TestJoinOrder (P8.3): of many sets, joined in whatever order, and one by one or half by half, comes the same.
func TestJoinOrder(t *testing.T) {
	draw := rand.New(rand.NewSource(85))
	for range 2000 {
		var all [][]ID
		for range draw.Intn(7) {
			all = append(all, drawnSet(draw))
		}
		want := setOf(nil, all...)
		for range 4 {
			draw.Shuffle(len(all), func(i, j int) { all[i], all[j] = all[j], all[i] })
			var first, last []ID
			for i := range all {
				first, last = Join(first, all[i]), Join(all[len(all)-1-i], last)
			}
			wantList(t, "one by one", first, want)
			wantList(t, "one by one, from behind", last, want)
			wantList(t, "half by half", joinHalves(all), want)
		}
	}
}

func joinHalves(all [][]ID) []ID {
	switch len(all) {
	case 0:
		return nil
	case 1:
		return all[0]
	}
	return Join(joinHalves(all[:len(all)/2]), joinHalves(all[len(all)/2:]))
}

// TestPutKnown (P8.2): how many, and each one's owner and number, the lowest byte first.
func TestPutKnown(t *testing.T) {
	for _, c := range []struct {
		l    []ID
		want string
	}{
		{nil, "\x00\x00"},
		{[]ID{}, "\x00\x00"},
		{[]ID{{1, 1}}, "\x01\x00\x01\x01\x00\x00"},
		{[]ID{{7, MostN}}, "\x01\x00\x07\xff\xff\xff"},
		{[]ID{{2, 0x030201}, {3, 0x000100}, {3, 0x010000}}, "\x03\x00\x02\x01\x02\x03\x03\x00\x01\x00\x03\x00\x00\x01"},
	} {
		if got, ok := Put(c.l); got != c.want || !ok {
			t.Errorf("Put of %v is %q, %v, not %q", c.l, got, ok, c.want)
		}
	}
}

// TestPut (P8.2, P2): of any list; false, and nothing, of what is no set.
func TestPut(t *testing.T) {
	draw := rand.New(rand.NewSource(86))
	for range 50000 {
		l := drawnList(draw)
		if draw.Intn(2) == 0 {
			l = drawnSet(draw)
		}
		want := ""
		if isSet(l) {
			want = laid(l)
		}
		if got, ok := Put(l); got != want || ok != isSet(l) {
			t.Fatalf("Put of %v is %q, %v", l, got, ok)
		}
	}
	for _, id := range wrongs() {
		if got, ok := Put([]ID{id}); got != "" || ok {
			t.Errorf("Put of %v is %q, %v", id, got, ok)
		}
	}
}

// TestPutMany (P8.2): a set of at most 400.
func TestPutMany(t *testing.T) {
	for _, many := range []int{255, 256, 399, 400} {
		if got, ok := Put(long(many)); got != laid(long(many)) || !ok {
			t.Errorf("Put of %d is of %d bytes, %v", many, len(got), ok)
		}
	}
	for _, many := range []int{401, 402, 512, 800, 65535, 65536, 65537, 65536 + 400} {
		if got, ok := Put(long(many)); got != "" || ok {
			t.Errorf("Put of %d is of %d bytes, %v", many, len(got), ok)
		}
	}
}

// wantGet fails if what is read off r, and the reader behind it, are others.
func wantGet(t *testing.T, r pack.Reader, want []ID, behind pack.Reader) {
	t.Helper()
	if got, after := Get(r); !slices.Equal(got, want) || after != behind {
		t.Errorf("Get of %+v is %v, behind it %+v; not %v, %+v", r, got, after, want, behind)
	}
}

// TestGet (P8.2): what Put tells, and what is behind it.
func TestGet(t *testing.T) {
	sets := [][]ID{nil, rights(), long(255), long(256), long(257), long(399), long(400)}
	for _, id := range rights() {
		sets = append(sets, []ID{id})
	}
	for _, l := range sets {
		for _, rest := range []string{"", "\x00", "rest", strings.Repeat("\x01", 300)} {
			wantGet(t, pack.Reader{Rest: laid(l) + rest}, l, pack.Reader{Rest: rest})
		}
	}
}

// TestGetShort (P8.2): cut anywhere there is none, and the reader is bad.
func TestGetShort(t *testing.T) {
	for _, l := range [][]ID{nil, {{1, 1}}, rights(), long(400)} {
		for left := range len(laid(l)) {
			wantGet(t, pack.Reader{Rest: laid(l)[:left]}, nil, pack.Reader{Bad: true})
		}
	}
}

// TestGetWrong (P8.2): what is no set is none, and the reader is bad.
func TestGetWrong(t *testing.T) {
	lists := [][]ID{
		{{1, 1}, {1, 1}}, {{1, 2}, {1, 1}}, {{2, 1}, {1, 1}}, {{2, 1}, {1, 2}}, {{1, 1}, {2, 2}, {3, 3}, {3, 3}},
		{{0, 1}, {1, 1}}, {{1, 0}, {1, 1}}, {{1, 1}, {2, 0}, {2, 1}}, {{1, 1}, {8, 1}}, {{7, 1}, {255, 1}}, {{0, 0}},
	}
	for _, l := range lists {
		for _, rest := range []string{"", "rest"} {
			wantGet(t, pack.Reader{Rest: laid(l) + rest}, nil, pack.Reader{Bad: true})
		}
	}
}

// TestGetMany (P8.2): one of above 400 is none, though all of it is there.
func TestGetMany(t *testing.T) {
	for _, many := range []int{401, 402, 512, 656, 65535} {
		wantGet(t, pack.Reader{Rest: laid(long(many)) + "rest"}, nil, pack.Reader{Bad: true})
		wantGet(t, pack.Reader{Rest: laid(long(many))[:2]}, nil, pack.Reader{Bad: true})
	}
}

// TestGetOwners (P8.2): each byte of owner, with a number, and with none.
func TestGetOwners(t *testing.T) {
	for owner := range 256 {
		l, behind := []ID{{owner, 7}}, pack.Reader{Rest: "rest"}
		if owner < 1 || owner > 7 {
			l, behind = nil, pack.Reader{Bad: true}
		}
		wantGet(t, pack.Reader{Rest: laid([]ID{{owner, 7}}) + "rest"}, l, behind)
		wantGet(t, pack.Reader{Rest: laid([]ID{{owner, 0}}) + "rest"}, nil, pack.Reader{Bad: true})
	}
}

// TestGetBad (P8.2): off a bad reader nothing is read, though it has bytes.
func TestGetBad(t *testing.T) {
	for _, l := range [][]ID{nil, {{1, 1}}, rights(), long(400)} {
		wantGet(t, pack.Reader{Rest: laid(l) + "rest", Bad: true}, nil, pack.Reader{Bad: true})
	}
	wantGet(t, pack.Reader{Bad: true}, nil, pack.Reader{Bad: true})
}

// TestGetInOrder (P8.2): sets put one behind the other are read so, and then all is done.
func TestGetInOrder(t *testing.T) {
	draw := rand.New(rand.NewSource(87))
	var all strings.Builder
	var sets [][]ID
	for range 200 {
		l := drawnSet(draw)
		s, _ := Put(l)
		sets = append(sets, l)
		all.WriteString(s)
	}
	r := pack.Reader{Rest: all.String()}
	for _, want := range sets {
		var got []ID
		got, r = Get(r)
		wantList(t, "what is read", got, want)
	}
	if !r.Done() {
		t.Errorf("all was read, and behind it is %+v", r)
	}
}

// TestGetAny (P8.2, P1): of whatever bytes there are, what is read is a set, and is put as them again.
func TestGetAny(t *testing.T) {
	draw := rand.New(rand.NewSource(88))
	many := 0
	for range 50000 {
		b := []byte(laid(drawnSet(draw)) + "rest")
		if draw.Intn(2) == 0 {
			b[draw.Intn(len(b))] += byte(draw.Intn(3))
		}
		all := string(b[:len(b)-draw.Intn(6)])
		got, behind := Get(pack.Reader{Rest: all})
		if behind.Bad {
			if len(got) != 0 || behind.Rest != "" {
				t.Fatalf("Get of %q is %v, behind it %+v", all, got, behind)
			}
			continue
		}
		many++
		if s, ok := Put(got); !ok || !isSet(got) || s+behind.Rest != all {
			t.Fatalf("Get of %q is %v, behind it %+v", all, got, behind)
		}
	}
	if many < 1000 {
		t.Errorf("only %d were read", many)
	}
}

// TestTextKnown (P8.2): in digits, of what is no set too.
func TestTextKnown(t *testing.T) {
	for _, c := range []struct {
		l    []ID
		want string
	}{
		{nil, ""},
		{[]ID{}, ""},
		{[]ID{{1, 1}}, "1.1"},
		{[]ID{{1, 2}, {3, 40}}, "1.2,3.40"},
		{[]ID{{7, MostN}}, "7.16777215"},
		{[]ID{{0, 0}}, "0.0"},
		{[]ID{{3, 1}, {3, 1}, {1, 9}}, "3.1,3.1,1.9"},
		{[]ID{{-1, 2}, {2, -10}}, "-1.2,2.-10"},
		{[]ID{{math.MinInt, math.MaxInt}, {math.MaxInt, math.MinInt}}, "-9223372036854775808.9223372036854775807,9223372036854775807.-9223372036854775808"},
	} {
		if got := Text(c.l); got != c.want {
			t.Errorf("Text of %v is %q, not %q", c.l, got, c.want)
		}
	}
}

// TestText (P8.2): of any list, set or not, above 400 too.
func TestText(t *testing.T) {
	for _, l := range [][]ID{rights(), wrongs(), long(401), long(70000), append(wrongs(), rights()...)} {
		var parts []string
		for _, id := range l {
			parts = append(parts, fmt.Sprintf("%d.%d", id.Owner, id.N))
		}
		if got := Text(l); got != strings.Join(parts, ",") {
			t.Errorf("Text is %q", got)
		}
	}
}

// answers is what each call that tells a list tells of a and b, by its name.
func answers(a, b []ID) map[string][]ID {
	r := pack.Reader{Rest: laid(a)}
	got, _ := Get(r)
	all := map[string][]ID{"Join": Join(a, b), "Less": Less(a, b), "Add of one that is wrong": Add(a, ID{}), "Add": Add(a, ID{4, 3}), "Get": got}
	if len(a) > 0 {
		all["Add of one that it has"] = Add(a, a[0])
	}
	return all
}

// TestKeeps (P3): nothing is written into a list, nor behind it, and what is told is new memory, spare room too.
func TestKeeps(t *testing.T) {
	draw := rand.New(rand.NewSource(89))
	for range 3000 {
		whole := [][]ID{append(drawnSet(draw), ID{7, 1}, ID{7, 2}), append(drawnSet(draw), ID{7, 3}, ID{7, 4})}
		was := [][]ID{slices.Clone(whole[0]), slices.Clone(whole[1])}
		a, b := whole[0][:len(whole[0])-2], whole[1][:len(whole[1])-2]
		if draw.Intn(4) == 0 {
			b = a[:draw.Intn(len(a)+1)]
		}
		first, again := answers(a, b), answers(a, b)
		for name, l := range first {
			want := slices.Clone(again[name])
			fill(l[:cap(l)], ID{-7, -7})
			wantList(t, name+" again", again[name], want)
			wantList(t, name+" anew", answers(a, b)[name], want)
		}
		wantList(t, "the first", whole[0], was[0])
		wantList(t, "the second", whole[1], was[1])
	}
}

func fill(l []ID, with ID) {
	for i := range l {
		l[i] = with
	}
}

// TestOwn (P3): what was told stays, though what it was made of is changed.
func TestOwn(t *testing.T) {
	mine := []byte(laid(rights()) + "rest")
	got, _ := Get(pack.Reader{Rest: unsafe.String(&mine[0], len(mine))})
	clear(mine)
	wantList(t, "what was read", got, rights())
	a, b := []ID{{1, 1}, {2, 2}}, []ID{{2, 2}, {3, 3}}
	all, text := answers(a, b), Text(a)
	s, _ := Put(a)
	clear(a)
	clear(b)
	for name, want := range answers([]ID{{1, 1}, {2, 2}}, []ID{{2, 2}, {3, 3}}) {
		wantList(t, name, all[name], want)
	}
	if s != laid([]ID{{1, 1}, {2, 2}}) || text != "1.1,2.2" {
		t.Errorf("what was told is %q, %q now", s, text)
	}
}

// TestNoSets (P1, P8.1): lists that are none end all calls, and are not written into.
func TestNoSets(t *testing.T) {
	draw := rand.New(rand.NewSource(90))
	for range 50000 {
		a, b, id := drawnList(draw), drawnList(draw), ID{draw.Intn(9), draw.Intn(5)}
		wasA, wasB := slices.Clone(a), slices.Clone(b)
		Has(a, id)
		Add(a, id)
		Join(a, b)
		Less(a, b)
		wantList(t, "the first", a, wasA)
		wantList(t, "the second", b, wasB)
	}
}

// TestLong (P1): long lists, sets or not, end all calls, and soon.
func TestLong(t *testing.T) {
	begun := time.Now()
	set := long(1 << 20)
	backward := slices.Clone(set)
	slices.Reverse(backward)
	for _, a := range [][]ID{set, backward, slices.Repeat([]ID{{1, 1}}, 1<<20), slices.Repeat([]ID{{}}, 1<<20)} {
		for _, b := range [][]ID{set, backward} {
			Join(a, b)
			Less(a, b)
		}
		Has(a, a[7])
		Add(a, a[7])
		Put(a)
		Text(a)
	}
	if l := Join(set, set); !Set(l) || len(l) != len(set) || len(Less(set, set)) != 0 {
		t.Error("a long set is another, joined with itself, or is left, less itself")
	}
	if took := time.Since(begun); took > 30*time.Second {
		t.Errorf("it took %v", took)
	}
}

// TestSameAgain (P4): the same answers again, whoever else asks.
func TestSameAgain(t *testing.T) {
	a, b := rights()[:50], rights()[20:]
	want := answers(a, b)
	var all sync.WaitGroup
	for range 8 {
		all.Go(func() {
			for range 50 {
				for name, l := range answers(a, b) {
					if !slices.Equal(l, want[name]) {
						t.Errorf("%s is %v, not %v", name, l, want[name])
					}
				}
			}
		})
	}
	all.Wait()
}
