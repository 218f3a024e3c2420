package attr

import (
	"encoding/binary"
	"fmt"
	"math"
	"math/rand"
	"slices"
	"strings"
	"sync"
	"testing"
	"time"
	"unsafe"

	"comitia/deps"
	"comitia/pack"
)

const lastSeq = math.MaxUint32

var seqs = []uint32{0, 1, 2, 9, 10, 255, 256, 65535, 65536, 1<<24 - 1, 1 << 24, 1<<31 - 1, 1 << 31, lastSeq - 1, lastSeq}

// of is the instances of owners and numbers, by turns.
func of(l ...int) []deps.ID {
	var all []deps.ID
	for i := 0; i < len(l); i += 2 {
		all = append(all, deps.ID{Owner: l[i], N: l[i+1]})
	}
	return all
}

// long is a set of many, from all owners where there are so many.
func long(many int) []deps.ID {
	l := make([]deps.ID, 0, many)
	for i := range many {
		l = append(l, deps.ID{Owner: 1 + i*7/many, N: 1 + i})
	}
	return l
}

// sets is lists that an Attr may have.
func sets() [][]deps.ID {
	return [][]deps.ID{
		nil, {}, of(1, 1), of(7, deps.MostN), of(1, 1, 1, 2, 1, 10), of(1, 9, 2, 8, 7, 1),
		long(7), long(255), long(256), long(257), long(399), long(400),
	}
}

// noSets is lists none of which an Attr may have.
func noSets() [][]deps.ID {
	return [][]deps.ID{
		of(0, 0), of(0, 1), of(8, 1), of(-1, 1), of(257, 1), of(1<<32+1, 1), of(math.MinInt, 1), of(math.MaxInt, 1),
		of(1, 0), of(1, -1), of(1, deps.MostN+1), of(1, 1<<24+1), of(1, 1<<32+1), of(1, math.MinInt), of(1, math.MaxInt),
		of(1, 1, 1, 1), of(1, 2, 1, 1), of(2, 1, 1, 1), of(2, 1, 1, 2), of(1, 1, 2, 2, 3, 3, 3, 2), of(1, 1, 1, 1, 2, 2, 3, 3),
		of(0, 1, 1, 1), of(1, 1, 2, 0, 2, 1), of(1, 1, 8, 1), of(1, 1, 7, deps.MostN+1),
		append(long(399), long(399)[398]), slices.Repeat(of(1, 1), 400),
		long(401), long(402), long(512), long(656), long(800), long(65535), long(65536), long(65536 + 400),
		append(long(400), long(400)[399]), append(of(0, 1), long(400)...),
	}
}

// drawnSet is a set of few of all, so that two have many in both.
func drawnSet(draw *rand.Rand) []deps.ID {
	var l []deps.ID
	every := draw.Intn(7)
	for owner := range 4 {
		for n := range 4 {
			if draw.Intn(6) < every {
				l = append(l, deps.ID{Owner: owner + 1, N: n + 1})
			}
		}
	}
	return l
}

// drawnSeq is a Seq that is often another's too.
func drawnSeq(draw *rand.Rand) uint32 {
	if draw.Intn(2) == 0 {
		return uint32(draw.Intn(3))
	}
	return seqs[draw.Intn(len(seqs))]
}

// drawn is an Attr that is right.
func drawn(draw *rand.Rand) Attr { return Attr{drawnSeq(draw), drawnSet(draw)} }

// drawnAny is an Attr that is often not right: of few instances, in any order.
func drawnAny(draw *rand.Rand) Attr {
	a := Attr{Seq: drawnSeq(draw)}
	for range draw.Intn(4) {
		a.Deps = append(a.Deps, deps.ID{Owner: draw.Intn(3), N: draw.Intn(3)})
	}
	return a
}

// isRight is whether a is right, by the chapters' words.
func isRight(a Attr) bool {
	for i, id := range a.Deps {
		if id.Owner < 1 || id.Owner > 7 || id.N < 1 || id.N > 16777215 {
			return false
		}
		if i > 0 && a.Deps[i-1].Owner<<24+a.Deps[i-1].N >= id.Owner<<24+id.N {
			return false
		}
	}
	return len(a.Deps) < 401
}

// isSame is whether a and b have the same, piece by piece.
func isSame(a, b Attr) bool { return a.Seq == b.Seq && slices.Equal(a.Deps, b.Deps) }

// joined is the greatest Seq, and all instances, of the Attrs, by the words.
func joined(all ...Attr) Attr {
	var a Attr
	for _, one := range all {
		if one.Seq > a.Seq {
			a.Seq = one.Seq
		}
		for _, id := range one.Deps {
			if !slices.Contains(a.Deps, id) {
				a.Deps = append(a.Deps, id)
			}
		}
	}
	slices.SortFunc(a.Deps, func(a, b deps.ID) int { return a.Owner<<24 + a.N - b.Owner<<24 - b.N })
	return a
}

// laid is a as bytes, right or not, by the library: the lowest byte first.
func laid(a Attr) string {
	b := binary.LittleEndian.AppendUint32(nil, a.Seq)
	b = binary.LittleEndian.AppendUint16(b, uint16(len(a.Deps)))
	for _, id := range a.Deps {
		b = append(b, byte(id.Owner), byte(id.N), byte(id.N>>8), byte(id.N>>16))
	}
	return string(b)
}

// copied is a with Deps of its own.
func copied(a Attr) Attr { return Attr{a.Seq, slices.Clone(a.Deps)} }

// want fails if a is another.
func want(t *testing.T, what string, a, right Attr) {
	t.Helper()
	if !isSame(a, right) {
		t.Fatalf("%s is %v, not %v", what, a, right)
	}
}

// TestRight (P9.1): of sets of at most 400, whatever the Seq.
func TestRight(t *testing.T) {
	for _, seq := range seqs {
		for i, l := range sets() {
			if !Right(Attr{seq, l}) {
				t.Errorf("%d, with set %d, of %d, is not right", seq, i, len(l))
			}
		}
		for i, l := range noSets() {
			if Right(Attr{seq, l}) {
				t.Errorf("%d, with list %d, of %d, is right", seq, i, len(l))
			}
		}
	}
}

// TestRightMany (P9.1): of each size about 400, and of 400 with one that is wrong.
func TestRightMany(t *testing.T) {
	for many := range 820 {
		if got := Right(Attr{1, long(many)}); got != (many <= 400) {
			t.Errorf("of %d it is right: %v", many, got)
		}
	}
	for at := range 400 {
		l := long(400)
		l[at].N = 0
		if Right(Attr{1, l}) {
			t.Errorf("of 400, of which that at %d is none, it is right", at)
		}
	}
}

// TestRightDrawn (P9.1): of drawn ones those that the words say.
func TestRightDrawn(t *testing.T) {
	draw := rand.New(rand.NewSource(9))
	for range 50000 {
		a := drawnAny(draw)
		if got := Right(a); got != isRight(a) {
			t.Fatalf("%v is right: %v", a, got)
		}
	}
}

// TestSameKnown (P9.1): the Seq, and each piece of each instance; nil is as empty.
func TestSameKnown(t *testing.T) {
	for _, c := range []struct {
		what string
		a, b Attr
		same bool
	}{
		{"nothing", Attr{}, Attr{}, true},
		{"nil and empty", Attr{3, nil}, Attr{3, []deps.ID{}}, true},
		{"one Seq, no Deps", Attr{lastSeq, nil}, Attr{lastSeq, nil}, true},
		{"another Seq, no Deps", Attr{1, nil}, Attr{2, nil}, false},
		{"Seqs with one lowest byte", Attr{1, of(1, 1)}, Attr{257, of(1, 1)}, false},
		{"Seqs with other highest bits", Attr{0, of(1, 1)}, Attr{1 << 31, of(1, 1)}, false},
		{"one instance", Attr{3, of(2, 9)}, Attr{3, of(2, 9)}, true},
		{"another owner", Attr{3, of(2, 9)}, Attr{3, of(3, 9)}, false},
		{"another number", Attr{3, of(2, 9)}, Attr{3, of(2, 8)}, false},
		{"owner and number the other way round", Attr{3, of(2, 5)}, Attr{3, of(5, 2)}, false},
		{"nothing and one", Attr{3, nil}, Attr{3, of(2, 9)}, false},
		{"the beginning alone", Attr{3, of(1, 1)}, Attr{3, of(1, 1, 2, 2)}, false},
		{"the end alone", Attr{3, of(2, 2)}, Attr{3, of(1, 1, 2, 2)}, false},
		{"another first", Attr{3, of(1, 1, 2, 2, 3, 3)}, Attr{3, of(1, 2, 2, 2, 3, 3)}, false},
		{"another between", Attr{3, of(1, 1, 2, 2, 3, 3)}, Attr{3, of(1, 1, 2, 1, 3, 3)}, false},
		{"another last", Attr{3, of(1, 1, 2, 2, 3, 3)}, Attr{3, of(1, 1, 2, 2, 4, 3)}, false},
		{"of no right ones", Attr{3, of(-1, 0, 9, 9)}, Attr{3, of(-1, 0, 9, 9)}, true},
		{"of no right ones, another", Attr{3, of(-1, 0, 9, 9)}, Attr{3, of(-1, 0, 9, 8)}, false},
		{"in another order", Attr{3, of(1, 1, 2, 2)}, Attr{3, of(2, 2, 1, 1)}, false},
		{"one twice", Attr{3, of(1, 1, 1, 1)}, Attr{3, of(1, 1)}, false},
		{"numbers of one lowest half", Attr{3, of(1, 1)}, Attr{3, of(1, 1<<32+1)}, false},
		{"owners of one lowest half", Attr{3, of(1, 1)}, Attr{3, of(1<<32+1, 1)}, false},
		{"numbers of 64 bits", Attr{3, of(math.MinInt, math.MaxInt)}, Attr{3, of(math.MinInt, math.MaxInt)}, true},
		{"above 400", Attr{3, long(1000)}, Attr{3, long(1000)}, true},
		{"above 400, and one more", Attr{3, long(1000)}, Attr{3, append(long(1000), long(1000)...)}, false},
	} {
		if got, back := Same(c.a, c.b), Same(c.b, c.a); got != c.same || back != c.same {
			t.Errorf("%s: %v, the other way round %v", c.what, got, back)
		}
	}
}

// TestSameOne (P9.1): of 400, one of which is another, wherever it stands.
func TestSameOne(t *testing.T) {
	a := Attr{5, long(400)}
	want(t, "a copy", copied(a), a)
	for at := range a.Deps {
		owner, n := copied(a), copied(a)
		owner.Deps[at].Owner++
		n.Deps[at].N++
		if Same(a, owner) || Same(n, a) || !Same(owner, copied(owner)) || !Same(n, copied(n)) {
			t.Errorf("at %d", at)
		}
	}
	for left := range a.Deps {
		if Same(a, Attr{a.Seq, a.Deps[:left]}) || Same(Attr{a.Seq, a.Deps[:left]}, a) {
			t.Errorf("it is the same as its first %d", left)
		}
	}
}

// TestSameDrawn (P9.1): of any two, right or not, by the words.
func TestSameDrawn(t *testing.T) {
	draw := rand.New(rand.NewSource(91))
	many := 0
	for range 50000 {
		a, b := drawnAny(draw), drawnAny(draw)
		if draw.Intn(4) == 0 {
			b = copied(a)
		}
		got := Same(a, b)
		if got != isSame(a, b) {
			t.Fatalf("Same(%v, %v) is %v", a, b, got)
		}
		if got {
			many++
		}
	}
	if many < 1000 {
		t.Errorf("only %d were the same", many)
	}
}

// TestJoinKnown (P9.1): the greater Seq, whose ever it is, and all Deps.
func TestJoinKnown(t *testing.T) {
	l, m := of(1, 1, 1, 3, 2, 1, 7, 9), of(1, 2, 1, 3, 3, 1)
	both := of(1, 1, 1, 2, 1, 3, 2, 1, 3, 1, 7, 9)
	for _, c := range []struct{ a, b, want Attr }{
		{Attr{}, Attr{}, Attr{}},
		{Attr{3, nil}, Attr{}, Attr{3, nil}},
		{Attr{}, Attr{3, l}, Attr{3, l}},
		{Attr{3, l}, Attr{3, l}, Attr{3, l}},
		{Attr{3, l}, Attr{2, m}, Attr{3, both}},
		{Attr{2, l}, Attr{3, m}, Attr{3, both}},
		{Attr{3, m}, Attr{3, l}, Attr{3, both}},
		{Attr{9, nil}, Attr{10, l}, Attr{10, l}},
		{Attr{255, l}, Attr{256, nil}, Attr{256, l}},
		{Attr{1<<31 - 1, l}, Attr{1 << 31, m}, Attr{1 << 31, both}},
		{Attr{lastSeq, l}, Attr{1, m}, Attr{lastSeq, both}},
		{Attr{0, l}, Attr{lastSeq, m}, Attr{lastSeq, both}},
		{Attr{4, l[:2]}, Attr{1, l[2:]}, Attr{4, l}},
		{Attr{4, l[1:3]}, Attr{1, l}, Attr{4, l}},
	} {
		want(t, fmt.Sprintf("Join(%v, %v)", c.a, c.b), Join(c.a, c.b), c.want)
		want(t, fmt.Sprintf("Join(%v, %v)", c.b, c.a), Join(c.b, c.a), c.want)
	}
}

// TestJoinDrawn (P9.1): of any two that are right, by the words.
func TestJoinDrawn(t *testing.T) {
	draw := rand.New(rand.NewSource(92))
	for range 20000 {
		a, b := drawn(draw), drawn(draw)
		want(t, fmt.Sprintf("Join(%v, %v)", a, b), Join(a, b), joined(a, b))
	}
}

// TestJoinMany (P9.1): what comes of two may have above 400; then it is not right, and is not put.
func TestJoinMany(t *testing.T) {
	l := long(800)
	for _, c := range []struct {
		a, b  []deps.ID
		right bool
	}{
		{l[:200], l[200:400], true},
		{l[:400], l[200:400], true},
		{l[:400], l[400:401], false},
		{l[400:], l[:400], false},
	} {
		a := Join(Attr{1, c.a}, Attr{2, c.b})
		want(t, "what was joined", a, joined(Attr{1, c.a}, Attr{2, c.b}))
		if _, ok := Put(a); ok != c.right || Right(a) != c.right {
			t.Errorf("of %d it is right: %v, and put: %v", len(a.Deps), Right(a), ok)
		}
	}
}

// TestJoinOrder (P9.3): of many, joined in whatever order, and however often each, comes the same.
func TestJoinOrder(t *testing.T) {
	draw := rand.New(rand.NewSource(93))
	for range 2000 {
		var all []Attr
		for range draw.Intn(6) {
			all = append(all, drawn(draw))
		}
		right := joined(all...)
		for range 3 {
			often := slices.Clone(all)
			for range draw.Intn(6) {
				if len(all) > 0 {
					often = append(often, all[draw.Intn(len(all))])
				}
			}
			draw.Shuffle(len(often), func(i, j int) { often[i], often[j] = often[j], often[i] })
			var first, last Attr
			for i := range often {
				first, last = Join(first, often[i]), Join(often[len(often)-1-i], last)
			}
			for what, a := range map[string]Attr{"one by one": first, "from behind": last, "half by half": joinHalves(often), "with itself": Join(first, first)} {
				if want(t, what, a, right); !Same(a, right) || !Same(a, first) {
					t.Fatalf("%s it is not the Same: %v, %v", what, a, right)
				}
			}
		}
	}
}

func joinHalves(all []Attr) Attr {
	switch len(all) {
	case 0:
		return Attr{}
	case 1:
		return all[0]
	}
	return Join(joinHalves(all[:len(all)/2]), joinHalves(all[len(all)/2:]))
}

// TestPutKnown (P9.2): the Seq, how many, and each one's owner and number, the lowest byte first.
func TestPutKnown(t *testing.T) {
	for _, c := range []struct {
		a    Attr
		want string
	}{
		{Attr{}, "\x00\x00\x00\x00\x00\x00"},
		{Attr{1, []deps.ID{}}, "\x01\x00\x00\x00\x00\x00"},
		{Attr{0x04030201, nil}, "\x01\x02\x03\x04\x00\x00"},
		{Attr{lastSeq, of(7, deps.MostN)}, "\xff\xff\xff\xff\x01\x00\x07\xff\xff\xff"},
		{Attr{258, of(2, 0x030201, 3, 1)}, "\x02\x01\x00\x00\x02\x00\x02\x01\x02\x03\x03\x01\x00\x00"},
	} {
		if got, ok := Put(c.a); got != c.want || !ok {
			t.Errorf("Put of %v is %q, %v, not %q", c.a, got, ok, c.want)
		}
	}
}

// TestPut (P9.2, P2): of all that are right; false, and nothing, of others.
func TestPut(t *testing.T) {
	for _, seq := range seqs {
		for _, l := range sets() {
			if got, ok := Put(Attr{seq, l}); got != laid(Attr{seq, l}) || !ok {
				t.Fatalf("Put of %d, with %d, is of %d bytes, %v", seq, len(l), len(got), ok)
			}
		}
		for i, l := range noSets() {
			if got, ok := Put(Attr{seq, l}); got != "" || ok {
				t.Errorf("Put of %d, with list %d, of %d, is %q, %v", seq, i, len(l), got, ok)
			}
		}
	}
	draw := rand.New(rand.NewSource(94))
	for range 20000 {
		a := drawnAny(draw)
		bytes := ""
		if isRight(a) {
			bytes = laid(a)
		}
		if got, ok := Put(a); got != bytes || ok != isRight(a) {
			t.Fatalf("Put of %v is %q, %v", a, got, ok)
		}
	}
}

// wantGet fails if what is read off r, and the reader behind it, are others.
func wantGet(t *testing.T, r pack.Reader, right Attr, behind pack.Reader) {
	t.Helper()
	if got, after := Get(r); !isSame(got, right) || after != behind {
		t.Fatalf("Get of %+v is %v, behind it %+v; not %v, %+v", r, got, after, right, behind)
	}
}

// TestGet (P9.2): what Put tells, and what is behind it.
func TestGet(t *testing.T) {
	for _, seq := range seqs {
		for _, l := range sets() {
			for _, rest := range []string{"", "\x00", "rest", strings.Repeat("\x01", 300)} {
				wantGet(t, pack.Reader{Rest: laid(Attr{seq, l}) + rest}, Attr{seq, l}, pack.Reader{Rest: rest})
			}
		}
	}
}

// TestGetShort (P9.2): cut anywhere there is none, no Seq either, and the reader is bad.
func TestGetShort(t *testing.T) {
	for _, l := range sets() {
		all := laid(Attr{lastSeq, l})
		for left := range len(all) {
			wantGet(t, pack.Reader{Rest: all[:left]}, Attr{}, pack.Reader{Bad: true})
		}
	}
}

// TestGetWrong (P9.2): what is not right is none, no Seq either, and the reader is bad.
func TestGetWrong(t *testing.T) {
	lists := [][]deps.ID{
		of(0, 0), of(0, 1), of(8, 1), of(255, 1), of(1, 0), of(1, 1, 1, 1), of(1, 2, 1, 1), of(2, 1, 1, 2), of(1, 1, 2, 0, 2, 1),
		of(1, 1, 2, 2, 3, 3, 3, 3), of(0, 1, 1, 1), of(1, 1, 8, 1), append(long(399), long(399)[398]),
		long(401), long(402), long(512), long(656), long(65535),
	}
	for _, seq := range seqs {
		for _, l := range lists {
			for _, rest := range []string{"", "rest"} {
				wantGet(t, pack.Reader{Rest: laid(Attr{seq, l}) + rest}, Attr{}, pack.Reader{Bad: true})
			}
		}
	}
}

// TestGetBad (P9.2): off a bad reader nothing is read, though it has bytes.
func TestGetBad(t *testing.T) {
	for _, l := range sets() {
		wantGet(t, pack.Reader{Rest: laid(Attr{7, l}) + "rest", Bad: true}, Attr{}, pack.Reader{Bad: true})
	}
	wantGet(t, pack.Reader{Bad: true}, Attr{}, pack.Reader{Bad: true})
}

// TestGetInOrder (P9.2): those put one behind the other are read so, and then all is done.
func TestGetInOrder(t *testing.T) {
	draw := rand.New(rand.NewSource(95))
	var bytes strings.Builder
	var all []Attr
	for range 200 {
		a := drawn(draw)
		s, _ := Put(a)
		all = append(all, a)
		bytes.WriteString(s)
	}
	r := pack.Reader{Rest: bytes.String()}
	for _, right := range all {
		var got Attr
		got, r = Get(r)
		want(t, "what is read", got, right)
	}
	if !r.Done() {
		t.Errorf("all was read, and behind it is %+v", r)
	}
}

// TestGetAny (P9.2, P1): of whatever bytes there are, what is read is right, and is put as them again.
func TestGetAny(t *testing.T) {
	draw := rand.New(rand.NewSource(96))
	many := 0
	for range 50000 {
		b := []byte(laid(drawn(draw)) + "rest")
		if draw.Intn(2) == 0 {
			b[draw.Intn(len(b))] += byte(draw.Intn(3))
		}
		all := string(b[:len(b)-draw.Intn(6)])
		got, behind := Get(pack.Reader{Rest: all})
		if behind.Bad {
			wantGet(t, pack.Reader{Rest: all}, Attr{}, pack.Reader{Bad: true})
			continue
		}
		many++
		if s, ok := Put(got); !ok || !isRight(got) || s+behind.Rest != all {
			t.Fatalf("Get of %q is %v, behind it %+v", all, got, behind)
		}
	}
	if many < 1000 {
		t.Errorf("only %d were read", many)
	}
}

// TestTextKnown (P9.2): the chapter's example, and others, of what is not right too.
func TestTextKnown(t *testing.T) {
	for _, c := range []struct {
		a    Attr
		want string
	}{
		{Attr{}, "0[]"},
		{Attr{12, []deps.ID{}}, "12[]"},
		{Attr{lastSeq, of(7, deps.MostN)}, "4294967295[7.16777215]"},
		{Attr{1 << 31, of(1, 2, 3, 40)}, "2147483648[1.2,3.40]"},
		{Attr{1, of(3, 1, 3, 1, 1, 9)}, "1[3.1,3.1,1.9]"},
		{Attr{1, of(0, 0)}, "1[0.0]"},
		{Attr{1, of(-1, 2, 2, -10)}, "1[-1.2,2.-10]"},
		{Attr{1, of(math.MinInt, math.MaxInt)}, "1[-9223372036854775808.9223372036854775807]"},
	} {
		if got := Text(c.a); got != c.want {
			t.Errorf("Text of %v is %q, not %q", c.a, got, c.want)
		}
	}
}

// TestText (P9.2): of any, right or not, above 400 too.
func TestText(t *testing.T) {
	for _, l := range append(sets(), noSets()...) {
		for _, seq := range seqs {
			var parts []string
			for _, id := range l {
				parts = append(parts, fmt.Sprintf("%d.%d", id.Owner, id.N))
			}
			if got := Text(Attr{seq, l}); got != fmt.Sprintf("%d[%s]", seq, strings.Join(parts, ",")) {
				t.Fatalf("Text of %d, with %d, is %q", seq, len(l), got)
			}
		}
	}
}

// answers is the Attrs that are told of a and b, by the call's name.
func answers(a, b Attr) map[string]Attr {
	got, _ := Get(pack.Reader{Rest: laid(a)})
	return map[string]Attr{"Join": Join(a, b), "Join with nothing": Join(a, Attr{}), "Join of nothing": Join(Attr{}, a), "Join with itself": Join(a, a), "Get": got}
}

// TestKeeps (P3): nothing is written into Deps, nor behind them, and what is told is new memory, spare room too.
func TestKeeps(t *testing.T) {
	draw := rand.New(rand.NewSource(97))
	for range 3000 {
		whole := []Attr{drawn(draw), drawn(draw)}
		for i := range whole {
			whole[i].Deps = append(whole[i].Deps, of(7, 1, 7, 2)...)
		}
		was := []Attr{copied(whole[0]), copied(whole[1])}
		a, b := whole[0], whole[1]
		a.Deps, b.Deps = a.Deps[:len(a.Deps)-2], b.Deps[:len(b.Deps)-2]
		if draw.Intn(4) == 0 {
			b.Deps = a.Deps[:draw.Intn(len(a.Deps)+1)]
		}
		first, again := answers(a, b), answers(a, b)
		for name, one := range first {
			right := copied(again[name])
			fill(one.Deps[:cap(one.Deps)])
			want(t, name+" again", again[name], right)
			want(t, name+" anew", answers(a, b)[name], right)
		}
		Right(a)
		Same(a, b)
		Put(a)
		Text(a)
		want(t, "the first", whole[0], was[0])
		want(t, "the second", whole[1], was[1])
	}
}

func fill(l []deps.ID) {
	for i := range l {
		l[i] = deps.ID{Owner: -7, N: -7}
	}
}

// TestOwn (P3): what was told stays, though what it was made of is changed.
func TestOwn(t *testing.T) {
	mine := []byte(laid(Attr{9, long(50)}) + "rest")
	got, _ := Get(pack.Reader{Rest: unsafe.String(&mine[0], len(mine))})
	clear(mine)
	want(t, "what was read", got, Attr{9, long(50)})
	a, b := Attr{3, of(1, 1, 2, 2)}, Attr{4, of(2, 2, 3, 3)}
	all, text := answers(a, b), Text(a)
	s, _ := Put(a)
	clear(a.Deps)
	clear(b.Deps)
	for name, right := range answers(Attr{3, of(1, 1, 2, 2)}, Attr{4, of(2, 2, 3, 3)}) {
		want(t, name, all[name], right)
	}
	if s != laid(Attr{3, of(1, 1, 2, 2)}) || text != "3[1.1,2.2]" {
		t.Errorf("what was told is %q, %q now", s, text)
	}
}

// TestNoSets (P1): ones that are not right end all calls, and are not written into; the Seq is the greater still.
func TestNoSets(t *testing.T) {
	draw := rand.New(rand.NewSource(98))
	for range 50000 {
		a, b := drawnAny(draw), drawnAny(draw)
		wasA, wasB := copied(a), copied(b)
		if got := Join(a, b); got.Seq != max(a.Seq, b.Seq) {
			t.Fatalf("Join(%v, %v) is %v", a, b, got)
		}
		want(t, "the first", a, wasA)
		want(t, "the second", b, wasB)
	}
}

// TestLong (P1): long Deps, a set or not, end all calls, and soon.
func TestLong(t *testing.T) {
	begun := time.Now()
	set := long(1 << 20)
	backward := slices.Clone(set)
	slices.Reverse(backward)
	for _, l := range [][]deps.ID{set, backward, slices.Repeat(of(1, 1), 1<<20), slices.Repeat(of(0, 0), 1<<20)} {
		a := Attr{1, l}
		if _, ok := Put(a); ok || Right(a) || !Same(a, copied(a)) || len(Text(a)) < 1<<20 {
			t.Error("a long one is right, is put, is another than itself, or has a short text")
		}
		Join(a, Attr{2, set})
		Join(Attr{2, backward}, a)
	}
	if took := time.Since(begun); took > 30*time.Second {
		t.Errorf("it took %v", took)
	}
}

// TestSameAgain (P4): the same answers again, whoever else asks.
func TestSameAgain(t *testing.T) {
	a, b := Attr{3, long(50)}, Attr{4, long(100)[20:]}
	right := answers(a, b)
	s, _ := Put(a)
	text := Text(a)
	var all sync.WaitGroup
	for range 8 {
		all.Go(func() {
			for range 50 {
				for name, one := range answers(a, b) {
					if !Same(one, right[name]) {
						t.Errorf("%s is %v, not %v", name, one, right[name])
					}
				}
				if again, ok := Put(a); again != s || !ok || Text(a) != text || !Right(a) || Same(a, b) {
					t.Error("Put, Text, Right or Same tells another thing")
				}
			}
		})
	}
	all.Wait()
}
