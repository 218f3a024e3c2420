package cmd

import (
	"encoding/binary"
	"fmt"
	"math"
	"math/rand"
	"slices"
	"strings"
	"testing"
	"unsafe"

	"comitia/pack"
)

const lastSeq = math.MaxUint32

// Numbers that are no Op, nor client: near the edges, with a lowest byte that is one, and of all 64 bits.
var wrongNumbers = []int{
	-1, -2, -3, -64, 65, 66, 127, 128, 255, 256, 257, 258, 259, 320, -255, -253, -192, 1 << 16, 1<<32 + 1, 1<<32 + 3, -1<<32 + 2,
	math.MinInt32, math.MaxInt32, math.MinInt, math.MinInt + 1, math.MinInt + 3, math.MaxInt, math.MaxInt - 1,
}

var (
	ops     = []int{0, 1, 2, 3}
	clients = []int{1, 2, 3, 9, 10, 63, 64}
	seqs    = []uint32{1, 2, 9, 10, 255, 256, 65535, 65536, 1<<24 - 1, 1 << 31, lastSeq - 1, lastSeq}
	keys    = []string{"k", "key", "\x00", " ", "=", "a=b", "\xff\xfe", "é", strings.Repeat("k", 15), strings.Repeat("\x00", 16), strings.Repeat("k", 16)}
	values  = []string{"", "v", "value", "\x00", "=", "\xff", "é", strings.Repeat("v", 31), strings.Repeat("v", 32), strings.Repeat("\x00", 32)}
)

// rights is commands that are right, by the chapter's words.
func rights() []Cmd {
	l := []Cmd{{}}
	for _, client := range clients {
		for _, seq := range seqs {
			for _, key := range keys {
				l = append(l, Cmd{2, client, seq, key, ""}, Cmd{3, client, seq, key, ""})
				for _, value := range values {
					l = append(l, Cmd{1, client, seq, key, value})
				}
			}
		}
	}
	return l
}

// wrongs is commands each of which has one thing that it may not have.
func wrongs() []Cmd {
	l := []Cmd{
		{Op: 0, Client: 1}, {Op: 0, Seq: 1}, {Op: 0, Key: "k"}, {Op: 0, Value: "v"}, {Op: 0, Client: -1}, {Op: 0, Client: 256},
		{0, 1, 1, "k", ""}, {0, 1, 1, "k", "v"}, {4, 1, 1, "k", ""}, {5, 1, 1, "k", ""}, {4, 1, 1, "k", "v"},
		{1, 1, 1, "k", strings.Repeat("v", 33)}, {1, 1, 1, "k", strings.Repeat("v", 288)}, {1, 1, 1, "k", strings.Repeat("v", 70000)},
	}
	for _, n := range wrongNumbers {
		l = append(l, Cmd{n, 1, 1, "k", ""}, Cmd{n, 1, 1, "k", "v"}, Cmd{Op: n})
	}
	for _, op := range []int{1, 2, 3} {
		l = append(l, Cmd{op, 0, 1, "k", ""}, Cmd{op, 1, 0, "k", ""}, Cmd{op, 1, 1, "", ""}, Cmd{Op: op})
		for _, n := range wrongNumbers {
			l = append(l, Cmd{op, n, 1, "k", ""})
		}
		for _, size := range []int{17, 18, 32, 256, 272, 65536, 65537, 70000} {
			l = append(l, Cmd{op, 1, 1, strings.Repeat("k", size), ""})
		}
	}
	for _, op := range []int{2, 3} {
		l = append(l, Cmd{op, 1, 1, "k", "v"}, Cmd{op, 1, 1, "k", "\x00"}, Cmd{op, 1, 1, "k", strings.Repeat("v", 32)})
	}
	return l
}

// drawn is a command of few of all, so that many are the same in some of them.
func drawn(draw *rand.Rand) Cmd {
	return Cmd{draw.Intn(6) - 1, draw.Intn(4) - 1, uint32(draw.Intn(3)), strings.Repeat("k", draw.Intn(3)), strings.Repeat("v", draw.Intn(2))}
}

// isRight is whether c is right, by the chapter's words.
func isRight(c Cmd) bool {
	noMore := c.Op == 0 && c.Client == 0 && c.Seq == 0 && len(c.Key) == 0 && len(c.Value) == 0
	asks := (c.Op == 1 || c.Op == 2 || c.Op == 3) && c.Client > 0 && c.Client < 65 && c.Seq != 0
	texts := len(c.Key) > 0 && len(c.Key) < 17 && len(c.Value) < 33 && (c.Op == 1 || len(c.Value) == 0)
	return noMore || asks && texts
}

// laid is c as bytes, right or not, by the library: the lowest byte first.
func laid(c Cmd) string {
	l := []byte{byte(c.Op), byte(c.Client)}
	l = binary.LittleEndian.AppendUint32(l, c.Seq)
	for _, s := range []string{c.Key, c.Value} {
		l = append(binary.LittleEndian.AppendUint16(l, uint16(len(s))), s...)
	}
	return string(l)
}

// TestOps (P7.1): the numbers of the ops.
func TestOps(t *testing.T) {
	if got := []int{Noop, Put, Get, Del}; !slices.Equal(got, ops) {
		t.Errorf("the ops are %v", got)
	}
}

// TestRight (P7.1): within the limits, and one beyond each of them.
func TestRight(t *testing.T) {
	for _, c := range rights() {
		if !Right(c) {
			t.Errorf("%+v is not right", c)
		}
	}
	for _, c := range wrongs() {
		if Right(c) {
			t.Errorf("%+v is right", c)
		}
	}
}

// TestRightDrawn (P7.1): of drawn ones those that the words say.
func TestRightDrawn(t *testing.T) {
	draw := rand.New(rand.NewSource(7))
	for range 20000 {
		c := drawn(draw)
		c.Key, c.Value = strings.Repeat(c.Key, draw.Intn(12)), strings.Repeat(c.Value, draw.Intn(40))
		if got := Right(c); got != isRight(c) {
			t.Fatalf("%+v is right: %v", c, got)
		}
	}
}

// TestRightNumbers (P7.1): each op with each client and seq near the limits.
func TestRightNumbers(t *testing.T) {
	for op := -300; op <= 300; op++ {
		if got, want := Right(Cmd{op, 1, 1, "k", ""}), op >= 1 && op <= 3; got != want {
			t.Errorf("one of op %d is right: %v", op, got)
		}
		if got, want := Right(Cmd{Op: op}), op == 0; got != want {
			t.Errorf("nothing but op %d is right: %v", op, got)
		}
	}
	for client := -300; client <= 300; client++ {
		if got, want := Right(Cmd{1, client, 1, "k", "v"}), client >= 1 && client <= 64; got != want {
			t.Errorf("one of client %d is right: %v", client, got)
		}
	}
}

// TestClashKnown (P7.1): the chapter's example, and others.
func TestClashKnown(t *testing.T) {
	for _, c := range []struct {
		what string
		a, b Cmd
		want bool
	}{
		{"two Noops", Cmd{}, Cmd{}, false},
		{"a Noop, and one", Cmd{}, Cmd{1, 1, 1, "k", "v"}, false},
		{"a Noop of all that one has", Cmd{0, 1, 1, "k", "v"}, Cmd{1, 1, 1, "k", "v"}, false},
		{"two Noops of all that one has", Cmd{0, 1, 1, "k", "v"}, Cmd{0, 1, 1, "k", "v"}, false},
		{"one, and itself", Cmd{1, 1, 1, "k", "v"}, Cmd{1, 1, 1, "k", "v"}, true},
		{"one key", Cmd{1, 1, 1, "k", "v"}, Cmd{1, 2, 2, "k", "w"}, true},
		{"one key, both gets", Cmd{2, 1, 1, "k", ""}, Cmd{2, 2, 2, "k", ""}, true},
		{"one key, a get and a del", Cmd{2, 1, 1, "k", ""}, Cmd{3, 2, 2, "k", ""}, true},
		{"one client and seq", Cmd{1, 1, 1, "k", "v"}, Cmd{1, 1, 1, "l", "v"}, true},
		{"one client and seq, other ops", Cmd{2, 64, 9, "k", ""}, Cmd{3, 64, 9, "l", ""}, true},
		{"one client alone", Cmd{1, 1, 1, "k", "v"}, Cmd{1, 1, 2, "l", "v"}, false},
		{"one seq alone", Cmd{1, 1, 1, "k", "v"}, Cmd{1, 2, 1, "l", "v"}, false},
		{"one value alone", Cmd{1, 1, 1, "k", "v"}, Cmd{1, 2, 2, "l", "v"}, false},
		{"a key, and one that it begins with", Cmd{1, 1, 1, "kk", ""}, Cmd{1, 2, 2, "k", ""}, false},
		{"a key, and one of the other case", Cmd{1, 1, 1, "k", ""}, Cmd{1, 2, 2, "K", ""}, false},
		{"a key that is another's value", Cmd{1, 1, 1, "k", "v"}, Cmd{1, 2, 2, "v", "k"}, false},
		{"a client that is another's seq", Cmd{1, 1, 2, "k", ""}, Cmd{1, 2, 1, "l", ""}, false},
		{"clients with one lowest byte", Cmd{1, 1, 1, "k", ""}, Cmd{1, 257, 1, "l", ""}, false},
		{"seqs with one lowest byte", Cmd{1, 1, 1, "k", ""}, Cmd{1, 1, 257, "l", ""}, false},
		{"no keys", Cmd{1, 1, 1, "", ""}, Cmd{2, 2, 2, "", ""}, true},
		{"other ops, of one key", Cmd{-1, 1, 1, "k", ""}, Cmd{4, 2, 2, "k", ""}, true},
		{"other ops, of one client and seq", Cmd{math.MinInt, -1, 0, "k", ""}, Cmd{math.MaxInt, -1, 0, "l", ""}, true},
		{"other ops, of nothing alike", Cmd{math.MinInt, -1, 0, "k", ""}, Cmd{math.MaxInt, -2, 0, "l", ""}, false},
	} {
		if got := Clash(c.a, c.b); got != c.want {
			t.Errorf("%s: %v", c.what, got)
		}
	}
}

// TestClash (P7.1): of any two, right or not, by the words.
func TestClash(t *testing.T) {
	draw := rand.New(rand.NewSource(71))
	for range 50000 {
		a, b := drawn(draw), drawn(draw)
		oneKey, oneAsking := a.Key == b.Key, a.Client == b.Client && a.Seq == b.Seq
		want := a.Op != 0 && b.Op != 0 && (oneKey || oneAsking)
		if got := Clash(a, b); got != want {
			t.Fatalf("Clash(%+v, %+v) is %v", a, b, got)
		}
	}
}

// TestClashBoth (P7.3): who clashes with one, that one clashes with it.
func TestClashBoth(t *testing.T) {
	draw := rand.New(rand.NewSource(73))
	all := append(wrongs(), Cmd{})
	for range 50000 {
		a, b := drawn(draw), drawn(draw)
		if draw.Intn(4) == 0 {
			a = all[draw.Intn(len(all))]
		}
		if Clash(a, b) != Clash(b, a) {
			t.Fatalf("Clash(%+v, %+v) is %v, and the other way not", a, b, Clash(a, b))
		}
	}
}

// TestBytesKnown (P7.2): Op, Client, Seq, Key and Value, the lowest byte first.
func TestBytesKnown(t *testing.T) {
	for _, c := range []struct {
		c    Cmd
		want string
	}{
		{Cmd{}, "\x00\x00\x00\x00\x00\x00\x00\x00\x00\x00"},
		{Cmd{Put, 2, 258, "key", "v"}, "\x01\x02\x02\x01\x00\x00\x03\x00key\x01\x00v"},
		{Cmd{Put, 64, lastSeq, "k", ""}, "\x01\x40\xff\xff\xff\xff\x01\x00k\x00\x00"},
		{Cmd{Get, 1, 1, "k", ""}, "\x02\x01\x01\x00\x00\x00\x01\x00k\x00\x00"},
		{Cmd{Del, 10, 0x04030201, "0123456789abcdef", ""}, "\x03\x0a\x01\x02\x03\x04\x10\x000123456789abcdef\x00\x00"},
	} {
		if got, ok := Bytes(c.c); got != c.want || !ok {
			t.Errorf("Bytes of %+v is %q, %v, not %q", c.c, got, ok, c.want)
		}
	}
}

// TestBytes (P7.2, P2): of each that is right; false, and nothing, of what is not.
func TestBytes(t *testing.T) {
	for _, c := range rights() {
		if got, ok := Bytes(c); got != laid(c) || !ok {
			t.Errorf("Bytes of %+v is %q, %v", c, got, ok)
		}
	}
	for _, c := range wrongs() {
		if got, ok := Bytes(c); got != "" || ok {
			t.Errorf("Bytes of %+v is %q, %v", c, got, ok)
		}
	}
}

// wantRead fails if what is read off r, and the reader behind it, are others.
func wantRead(t *testing.T, r pack.Reader, want Cmd, behind pack.Reader) {
	t.Helper()
	if got, after := Read(r); got != want || after != behind {
		t.Errorf("Read of %+v is %+v, behind it %+v; not %+v, %+v", r, got, after, want, behind)
	}
}

// TestRead (P7.2): what Bytes tells, and what is behind it.
func TestRead(t *testing.T) {
	for _, c := range rights() {
		for _, rest := range []string{"", "\x00", "rest", strings.Repeat("\x01", 300)} {
			wantRead(t, pack.Reader{Rest: laid(c) + rest}, c, pack.Reader{Rest: rest})
		}
	}
}

// TestReadShort (P7.2): cut anywhere there is none, and the reader is bad.
func TestReadShort(t *testing.T) {
	for _, c := range []Cmd{{}, {1, 1, 1, "k", ""}, {1, 64, lastSeq, "key", "value"}, {2, 2, 2, strings.Repeat("k", 16), ""}, {3, 3, 3, "\x00\x00\x00", ""}} {
		for left := range len(laid(c)) {
			wantRead(t, pack.Reader{Rest: laid(c)[:left]}, Cmd{}, pack.Reader{Bad: true})
		}
	}
}

// TestReadWrong (P7.2): what is not right is none, and the reader is bad.
func TestReadWrong(t *testing.T) {
	read := 0
	for _, c := range wrongs() {
		// Of those alone that are as wrong when they are laid as bytes.
		if c.Op < 0 || c.Op > 255 || c.Client < 0 || c.Client > 255 || len(c.Key) > 65535 || len(c.Value) > 65535 {
			continue
		}
		read++
		for _, rest := range []string{"", "rest"} {
			wantRead(t, pack.Reader{Rest: laid(c) + rest}, Cmd{}, pack.Reader{Bad: true})
		}
	}
	if read < 30 {
		t.Errorf("only %d were read", read)
	}
}

// TestReadNumbers (P7.2): each byte of op, with each of client.
func TestReadNumbers(t *testing.T) {
	for op := range 256 {
		for client := range 256 {
			want, behind := Cmd{op, client, 7, "k", ""}, pack.Reader{Rest: "rest"}
			if op < 1 || op > 3 || client < 1 || client > 64 {
				want, behind = Cmd{}, pack.Reader{Bad: true}
			}
			wantRead(t, pack.Reader{Rest: laid(Cmd{op, client, 7, "k", ""}) + "rest"}, want, behind)
		}
	}
}

// TestReadBad (P7.2): off a bad reader nothing is read, though it has bytes.
func TestReadBad(t *testing.T) {
	wantRead(t, pack.Reader{Bad: true}, Cmd{}, pack.Reader{Bad: true})
	for _, c := range rights()[:200] {
		wantRead(t, pack.Reader{Rest: laid(c) + "rest", Bad: true}, Cmd{}, pack.Reader{Bad: true})
	}
}

// TestReadInOrder (P7.2): commands put one behind the other are read so, and then all is done.
func TestReadInOrder(t *testing.T) {
	var all strings.Builder
	for _, c := range rights() {
		s, _ := Bytes(c)
		all.WriteString(s)
	}
	r := pack.Reader{Rest: all.String()}
	for _, want := range rights() {
		var got Cmd
		if got, r = Read(r); got != want {
			t.Fatalf("%+v is read as %+v", want, got)
		}
	}
	if !r.Done() {
		t.Errorf("all was read, and behind it is %+v", r)
	}
}

// TestReadAny (P7.2, P1): of whatever bytes there are, what is read is right, and is told as them again.
func TestReadAny(t *testing.T) {
	draw := rand.New(rand.NewSource(72))
	many := 0
	for range 50000 {
		c := drawn(draw)
		l := []byte(laid(c) + "rest")
		if draw.Intn(2) == 0 {
			l[draw.Intn(len(l))] += byte(draw.Intn(3))
		}
		all := string(l[:len(l)-draw.Intn(6)])
		got, behind := Read(pack.Reader{Rest: all})
		if behind.Bad {
			if got != (Cmd{}) || behind.Rest != "" {
				t.Fatalf("Read of %q is %+v, behind it %+v", all, got, behind)
			}
			continue
		}
		many++
		if s, ok := Bytes(got); !ok || !isRight(got) || s+behind.Rest != all {
			t.Fatalf("Read of %q is %+v, behind it %+v", all, got, behind)
		}
	}
	if many < 1000 {
		t.Errorf("only %d were read", many)
	}
}

// TestReadOwn (P3): what is read, and told, stays though what it was made of is changed.
func TestReadOwn(t *testing.T) {
	want := Cmd{Put, 1, 1, "key", "value"}
	mine := []byte(laid(want) + "rest")
	c, _ := Read(pack.Reader{Rest: unsafe.String(&mine[0], len(mine))})
	clear(mine)
	if c != want {
		t.Errorf("what was read is %+v now", c)
	}
	key := []byte("key")
	get := Cmd{Get, 1, 1, unsafe.String(&key[0], len(key)), ""}
	s, _ := Bytes(get)
	text := Text(get)
	clear(key)
	if s != laid(Cmd{Get, 1, 1, "key", ""}) || text != "get 1.1 key" {
		t.Errorf("what was told is %q, %q now", s, text)
	}
}

// TestTextKnown (P7.2): of each op, and of what is not right too.
func TestTextKnown(t *testing.T) {
	for _, c := range []struct {
		c    Cmd
		want string
	}{
		{Cmd{}, "-"},
		{Cmd{0, 1, 1, "k", "v"}, "-"},
		{Cmd{Put, 1, 2, "k", "v"}, "put 1.2 k=v"},
		{Cmd{Put, 1, 2, "k", ""}, "put 1.2 k="},
		{Cmd{Put, 64, lastSeq, "a=b", "c d"}, "put 64.4294967295 a=b=c d"},
		{Cmd{Get, 10, 20, "key", ""}, "get 10.20 key"},
		{Cmd{Get, 10, 20, "key", "v"}, "get 10.20 key"},
		{Cmd{Del, 3, 4, "key", ""}, "del 3.4 key"},
		{Cmd{Del, 3, 4, "key", "v"}, "del 3.4 key"},
		{Cmd{4, 3, 4, "key", "v"}, "? 3.4 key"},
		{Cmd{-1, 3, 4, "key", "v"}, "? 3.4 key"},
		{Cmd{257, 3, 4, "key", "v"}, "? 3.4 key"},
		{Cmd{1 << 32, 3, 4, "key", "v"}, "? 3.4 key"},
		{Cmd{Put, -5, 0, "", ""}, "put -5.0 ="},
		{Cmd{Get, 0, 0, "", ""}, "get 0.0 "},
		{Cmd{Get, math.MinInt, 1 << 31, "k", ""}, "get -9223372036854775808.2147483648 k"},
		{Cmd{math.MinInt, math.MaxInt, 1, "\x00\xff", "v"}, "? 9223372036854775807.1 \x00\xff"},
	} {
		if got := Text(c.c); got != c.want {
			t.Errorf("Text of %+v is %q, not %q", c.c, got, c.want)
		}
	}
}

// TestText (P7.2): of any command, right or not.
func TestText(t *testing.T) {
	for _, c := range append(rights(), wrongs()...) {
		want := "-"
		switch c.Op {
		case 0:
		case 1:
			want = fmt.Sprintf("put %d.%d %s=%s", c.Client, c.Seq, c.Key, c.Value)
		case 2:
			want = fmt.Sprintf("get %d.%d %s", c.Client, c.Seq, c.Key)
		case 3:
			want = fmt.Sprintf("del %d.%d %s", c.Client, c.Seq, c.Key)
		default:
			want = fmt.Sprintf("? %d.%d %s", c.Client, c.Seq, c.Key)
		}
		if got := Text(c); got != want {
			t.Errorf("Text is %q, not %q", got, want)
		}
	}
}

// TestLong (P1): texts far beyond the limits end all calls, and soon.
func TestLong(t *testing.T) {
	long := strings.Repeat("k", 1<<24)
	c := Cmd{Put, 1, 1, long, long}
	if Right(c) || !Clash(c, c) || len(Text(c)) != len("put 1.1 =")+2*len(long) {
		t.Error("a long one is right, or is no clash with itself, or has another text")
	}
	if s, ok := Bytes(c); s != "" || ok {
		t.Error("a long one is told as bytes")
	}
	wantRead(t, pack.Reader{Rest: "\x01\x01\x01\x00\x00\x00\xff\xff" + long}, Cmd{}, pack.Reader{Bad: true})
}
