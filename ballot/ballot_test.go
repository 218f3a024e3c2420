package ballot

import (
	"cmp"
	"encoding/binary"
	"fmt"
	"math"
	"math/rand"
	"slices"
	"strings"
	"testing"

	"comitia/pack"
)

const lastRound = math.MaxUint32

var rounds = []uint32{0, 1, 2, 3, 7, 8, 255, 256, 258, 65535, 65536, 1<<24 - 1, 1 << 24, 1 << 31, lastRound - 1, lastRound}

var replicas = []int{1, 2, 3, 4, 5, 6, 7}

// Who is no replica, nor 0: near the edges, with a lowest byte that is one, and of all 64 bits.
var wrongWhos = []int{
	-1, -2, -7, -8, 8, 9, 15, 127, 128, 255, 256, 257, 263, -249, -255, -256, 1 << 16, 1<<32 + 1, 1<<32 + 7, -1<<32 + 2,
	math.MinInt32, math.MaxInt32, math.MinInt, math.MinInt + 1, math.MinInt + 3, math.MaxInt, math.MaxInt - 1,
}

// ballots is each of the rounds with each who, right and not.
func ballots() []Ballot {
	var l []Ballot
	for _, round := range rounds {
		for _, who := range append(append([]int{0}, replicas...), wrongWhos...) {
			l = append(l, Ballot{round, who})
		}
	}
	return l
}

// rights is those ballots that are right, by the chapter's words.
func rights() []Ballot {
	l := []Ballot{{0, 0}}
	for _, round := range rounds {
		for _, who := range replicas {
			if round != 0 {
				l = append(l, Ballot{round, who})
			}
		}
	}
	return l
}

// drawn is a ballot of few rounds and whos, so that many are the same in one of them.
func drawn(draw *rand.Rand) Ballot {
	return Ballot{uint32(draw.Intn(4)), draw.Intn(10) - 1}
}

// little is four bytes of round, the lowest first, by the library, and one byte.
func little(round uint32, who byte) string {
	return string(append(binary.LittleEndian.AppendUint32(nil, round), who))
}

// TestRight (P6.1): Who 0 to 7, and both 0, or neither.
func TestRight(t *testing.T) {
	right := rights()
	for _, b := range ballots() {
		if got, want := Right(b), slices.Contains(right, b); got != want {
			t.Errorf("%v is right: %v", b, got)
		}
	}
	for who := -300; who <= 300; who++ {
		if got, want := Right(Ballot{1, who}), who >= 1 && who <= 7; got != want {
			t.Errorf("1.%d is right: %v", who, got)
		}
		if got, want := Right(Ballot{0, who}), who == 0; got != want {
			t.Errorf("0.%d is right: %v", who, got)
		}
	}
}

// TestZero (P6.1): both 0, not one of them.
func TestZero(t *testing.T) {
	for _, b := range ballots() {
		if got, want := b.Zero(), b.Round == 0 && b.Who == 0; got != want {
			t.Errorf("%v is zero: %v", b, got)
		}
	}
	if !(Ballot{}).Zero() || !(&Ballot{}).Zero() {
		t.Error("that of nothing is not zero")
	}
}

// TestOrderKnown (P6.1): by Round first, then by Who.
func TestOrderKnown(t *testing.T) {
	for _, c := range []struct {
		a, b Ballot
		want int
	}{
		{Ballot{}, Ballot{}, 0},
		{Ballot{3, 2}, Ballot{3, 2}, 0},
		{Ballot{}, Ballot{1, 1}, -1},
		{Ballot{1, 7}, Ballot{2, 1}, -1},
		{Ballot{2, 1}, Ballot{1, 7}, 1},
		{Ballot{2, 3}, Ballot{2, 4}, -1},
		{Ballot{2, 4}, Ballot{2, 3}, 1},
		{Ballot{lastRound, 1}, Ballot{1, 2}, 1},
		{Ballot{lastRound, 1}, Ballot{lastRound - 1, 7}, 1},
		{Ballot{1 << 31, 1}, Ballot{1<<31 - 1, 1}, 1},
		{Ballot{256, 1}, Ballot{1, 2}, 1},
		{Ballot{1, math.MinInt}, Ballot{1, math.MaxInt}, -1},
		{Ballot{1, math.MaxInt}, Ballot{1, -1}, 1},
		{Ballot{0, math.MaxInt}, Ballot{1, math.MinInt}, -1},
		{Ballot{1, 256}, Ballot{1, 1}, 1},
	} {
		if got := Order(c.a, c.b); got != c.want {
			t.Errorf("Order(%v, %v) is %d, not %d", c.a, c.b, got, c.want)
		}
	}
}

// TestOrder (P6.1): of any two, those that are not right too.
func TestOrder(t *testing.T) {
	all := ballots()
	for _, a := range all {
		for _, b := range all {
			want := cmp.Compare(a.Round, b.Round)
			if want == 0 {
				want = cmp.Compare(a.Who, b.Who)
			}
			if got := Order(a, b); got != want {
				t.Errorf("Order(%v, %v) is %d, not %d", a, b, got, want)
			}
		}
	}
}

// TestNextKnown (P6.1): the chapter's example, and others.
func TestNextKnown(t *testing.T) {
	for _, c := range []struct {
		b    Ballot
		who  int
		want string
	}{
		{Ballot{}, 2, "1.2"},
		{Ballot{}, 1, "1.1"},
		{Ballot{}, 7, "1.7"},
		{Ballot{1, 2}, 2, "2.2"},
		{Ballot{1, 2}, 1, "2.1"},
		{Ballot{1<<31 - 1, 7}, 3, "2147483648.3"},
		{Ballot{lastRound - 1, 7}, 1, "4294967295.1"},
	} {
		got, ok := Next(c.b, c.who)
		if !ok || Text(got) != c.want {
			t.Errorf("Next(%v, %d) is %v, %v, not %s", c.b, c.who, got, ok, c.want)
		}
	}
}

// TestNext (P6.1, P2): one round more, and who; false, and none, by no replica, or behind the last round.
func TestNext(t *testing.T) {
	for _, b := range ballots() {
		for _, who := range replicas {
			want, may := Ballot{b.Round + 1, who}, true
			if b.Round == lastRound {
				want, may = Ballot{}, false
			}
			if got, ok := Next(b, who); got != want || ok != may {
				t.Errorf("Next(%v, %d) is %v, %v", b, who, got, ok)
			}
		}
		for _, who := range append([]int{0}, wrongWhos...) {
			if got, ok := Next(b, who); got != (Ballot{}) || ok {
				t.Errorf("Next(%v, %d) is %v, %v", b, who, got, ok)
			}
		}
	}
}

// TestPutKnown (P6.2): the lowest byte first.
func TestPutKnown(t *testing.T) {
	for _, c := range []struct {
		b    Ballot
		want string
	}{
		{Ballot{}, "\x00\x00\x00\x00\x00"},
		{Ballot{1, 2}, "\x01\x00\x00\x00\x02"},
		{Ballot{258, 7}, "\x02\x01\x00\x00\x07"},
		{Ballot{0x04030201, 5}, "\x01\x02\x03\x04\x05"},
		{Ballot{lastRound, 1}, "\xff\xff\xff\xff\x01"},
		{Ballot{0, 255}, "\x00\x00\x00\x00\xff"},
		{Ballot{3, 256}, "\x03\x00\x00\x00\x00"},
		{Ballot{3, -1}, "\x03\x00\x00\x00\xff"},
		{Ballot{3, math.MinInt}, "\x03\x00\x00\x00\x00"},
	} {
		if got := c.b.Put(); got != c.want {
			t.Errorf("Put of %v is %q, not %q", c.b, got, c.want)
		}
	}
}

// TestPut (P6.2): four bytes of Round, and the lowest of Who, right or not.
func TestPut(t *testing.T) {
	for _, b := range ballots() {
		if got, want := b.Put(), little(b.Round, byte(b.Who)); got != want {
			t.Errorf("Put of %v is %q, not %q", b, got, want)
		}
	}
}

// wantGet fails if what is read off r, and the reader behind it, are others.
func wantGet(t *testing.T, r pack.Reader, want Ballot, behind pack.Reader) {
	t.Helper()
	if got, after := Get(r); got != want || after != behind {
		t.Errorf("Get of %+v is %v, behind it %+v; not %v, %+v", r, got, after, want, behind)
	}
}

// TestGet (P6.2): what was put, and what is behind it.
func TestGet(t *testing.T) {
	for _, b := range rights() {
		for _, rest := range []string{"", "\x00", "rest", "\xff\xff\xff\xff\xff", strings.Repeat("\x01", 300)} {
			wantGet(t, pack.Reader{Rest: b.Put() + rest}, b, pack.Reader{Rest: rest})
		}
	}
}

// TestGetShort (P6.2): cut anywhere it is none, and the reader is bad.
func TestGetShort(t *testing.T) {
	for _, b := range ballots() {
		for left := range 5 {
			wantGet(t, pack.Reader{Rest: b.Put()[:left]}, Ballot{}, pack.Reader{Bad: true})
		}
	}
}

// TestGetWrong (P6.2): each who beside each round; what is not right is none, and the reader is bad.
func TestGetWrong(t *testing.T) {
	for _, round := range rounds {
		for who := range 256 {
			for _, rest := range []string{"", "rest"} {
				want, behind := Ballot{round, who}, pack.Reader{Rest: rest}
				if who > 7 || (round == 0) != (who == 0) {
					want, behind = Ballot{}, pack.Reader{Bad: true}
				}
				wantGet(t, pack.Reader{Rest: little(round, byte(who)) + rest}, want, behind)
			}
		}
	}
}

// TestGetBad (P6.2): off a bad reader nothing is read, though it has bytes.
func TestGetBad(t *testing.T) {
	wantGet(t, pack.Reader{Bad: true}, Ballot{}, pack.Reader{Bad: true})
	for _, b := range rights() {
		wantGet(t, pack.Reader{Rest: b.Put() + "rest", Bad: true}, Ballot{}, pack.Reader{Bad: true})
	}
}

// TestGetInOrder (P6.2): ballots put one behind the other are read so, and then all is done.
func TestGetInOrder(t *testing.T) {
	var all strings.Builder
	for _, b := range rights() {
		all.WriteString(b.Put())
	}
	r := pack.Reader{Rest: all.String()}
	for _, want := range rights() {
		var got Ballot
		if got, r = Get(r); got != want {
			t.Fatalf("%v is read as %v", want, got)
		}
	}
	if !r.Done() {
		t.Errorf("all was read, and behind it is %+v", r)
	}
}

// TestGetAny (P6.2, P1): of whatever bytes there are, what is read is right, and puts to them again.
func TestGetAny(t *testing.T) {
	draw := rand.New(rand.NewSource(6))
	for range 5000 {
		l := make([]byte, draw.Intn(12))
		for i := range l {
			l[i] = byte(draw.Intn(10))
		}
		all := string(l)
		b, behind := Get(pack.Reader{Rest: all})
		if behind.Bad {
			if b != (Ballot{}) || behind.Rest != "" || len(all) >= 5 && Right(Ballot{binary.LittleEndian.Uint32(l), int(l[4])}) {
				t.Fatalf("Get of %q is %v, behind it %+v", all, b, behind)
			}
			continue
		}
		if !Right(b) || b.Put()+behind.Rest != all {
			t.Fatalf("Get of %q is %v, behind it %+v", all, b, behind)
		}
	}
}

// TestText (P6.2): both in digits, - ahead of a Who below 0.
func TestText(t *testing.T) {
	for _, c := range []struct {
		b    Ballot
		want string
	}{
		{Ballot{}, "0.0"},
		{Ballot{1, 2}, "1.2"},
		{Ballot{10, 7}, "10.7"},
		{Ballot{0, 3}, "0.3"},
		{Ballot{5, -3}, "5.-3"},
		{Ballot{1 << 31, 1}, "2147483648.1"},
		{Ballot{lastRound, math.MaxInt}, "4294967295.9223372036854775807"},
		{Ballot{lastRound, math.MinInt}, "4294967295.-9223372036854775808"},
	} {
		if got := Text(c.b); got != c.want {
			t.Errorf("Text is %q, not %q", got, c.want)
		}
	}
	for _, b := range ballots() {
		if got, want := Text(b), fmt.Sprintf("%d.%d", b.Round, b.Who); got != want {
			t.Errorf("Text is %q, not %q", got, want)
		}
	}
}

// TestNextOver (P6.3): the next one is right, and over the one that it is next of, and over all that one is over.
func TestNextOver(t *testing.T) {
	right := rights()
	for _, b := range right {
		for _, who := range replicas {
			next, ok := Next(b, who)
			if !ok {
				continue
			}
			if !Right(next) || next.Zero() {
				t.Errorf("Next(%v, %d) is %v", b, who, next)
			}
			for _, under := range right {
				if Order(under, b) <= 0 && (Order(next, under) != 1 || Order(under, next) != -1) {
					t.Errorf("Next(%v, %d), %v, is not over %v", b, who, next, under)
				}
			}
		}
	}
}

// TestNextOwn (P6.3): two replicas never have the same next one, whatever each goes on from.
func TestNextOwn(t *testing.T) {
	draw := rand.New(rand.NewSource(7))
	for range 5000 {
		a, b := drawn(draw), drawn(draw)
		for _, one := range replicas {
			for _, other := range replicas {
				x, _ := Next(a, one)
				y, _ := Next(b, other)
				same := one == other && a.Round == b.Round
				if (x == y) != same || (Order(x, y) == 0) != same {
					t.Fatalf("Next(%v, %d) is %v, Next(%v, %d) is %v", a, one, x, b, other, y)
				}
			}
		}
	}
}
