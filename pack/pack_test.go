package pack

import (
	"encoding/binary"
	"math"
	"math/rand"
	"strings"
	"sync"
	"testing"
	"unsafe"
)

var numbers = []uint64{
	0, 1, 2, 127, 128, 255, 256, 258, 65535, 65536, 1<<24 - 1, 1 << 24, 1<<32 - 1, 1 << 32,
	0x0807060504030201, 0xf8f7f6f5f4f3f2f1, 1 << 63, math.MaxUint64 - 1, math.MaxUint64,
}

// Sizes that no number has.
var wrongSizes = []int{math.MinInt, math.MinInt32, -8, -1, 0, 9, 10, 16, 64, 256, math.MaxInt32, math.MaxInt - 7, math.MaxInt}

// How many bytes nobody has.
var wrongMany = []int{math.MinInt, math.MinInt32, -65536, -2, -1, 1 << 20, math.MaxInt32, math.MaxInt}

// rising is a text of size bytes, 0 to 255 over and over: no runes of Unicode.
func rising(size int) string {
	l := make([]byte, size)
	for i := range l {
		l[i] = byte(i)
	}
	return string(l)
}

func texts() []string {
	return []string{"", "\x00", "a", "\xff\xfe", "käse", rising(255), rising(256), rising(257), rising(65534), rising(65535)}
}

// little is what a number's bytes are by the library.
func little(n uint64, size int) string {
	return string(binary.LittleEndian.AppendUint64(nil, n)[:size])
}

// wantBad fails if r is not the reader behind what could not be read.
func wantBad(t *testing.T, what string, r Reader) {
	t.Helper()
	if r != (Reader{Bad: true}) {
		t.Errorf("%s: the reader behind it is %+v", what, r)
	}
}

// wantRest fails if r is not a good one with that Rest.
func wantRest(t *testing.T, what string, r Reader, rest string) {
	t.Helper()
	if r != (Reader{Rest: rest}) {
		t.Errorf("%s: the reader behind it has %q left, bad %v, not %q", what, r.Rest, r.Bad, rest)
	}
}

// TestNumber (P2.1): the lowest bytes, the lowest first; the chapter's example.
func TestNumber(t *testing.T) {
	if got := Number(258, 2); got != "\x02\x01" {
		t.Errorf("Number(258, 2) is %q", got)
	}
	for size := 1; size <= 8; size++ {
		for _, n := range numbers {
			if got, want := Number(n, size), little(n, size); got != want {
				t.Errorf("Number(%d, %d) is %q, not %q", n, size, got, want)
			}
		}
	}
}

// TestNumberSize (P2.1, P6): nothing, if size is not 1 to 8.
func TestNumberSize(t *testing.T) {
	for _, size := range wrongSizes {
		for _, n := range numbers {
			if got := Number(n, size); got != "" {
				t.Errorf("Number(%d, %d) is %q", n, size, got)
			}
		}
	}
}

// TestText (P2.1): two bytes of how many bytes there are, and the text.
func TestText(t *testing.T) {
	for _, s := range texts() {
		got, ok := Text(s)
		if want := little(uint64(len(s)), 2) + s; !ok || got != want {
			t.Errorf("Text of %d bytes: %v, with %d bytes", len(s), ok, len(got))
		}
	}
	if got, _ := Text("käse"); got != "\x05\x00k\xc3\xa4se" {
		t.Errorf("Text(käse) is %q", got)
	}
}

// TestTextLong (P2.1, P2): false, and nothing, above 65535 bytes.
func TestTextLong(t *testing.T) {
	for _, size := range []int{65536, 65537, 131072, 1 << 20} {
		if got, ok := Text(rising(size)); ok || got != "" {
			t.Errorf("Text of %d bytes: %v, with %d bytes", size, ok, len(got))
		}
	}
}

// TestFlag (P2.1): a byte, 1 or 0.
func TestFlag(t *testing.T) {
	if Flag(true) != "\x01" || Flag(false) != "\x00" {
		t.Errorf("flags are %q and %q", Flag(true), Flag(false))
	}
}

// TestReadNumber (P2.2): the number of the next bytes, and what is behind them.
func TestReadNumber(t *testing.T) {
	for size := 1; size <= 8; size++ {
		for _, n := range numbers {
			for _, rest := range []string{"", "\x00", "rest"} {
				put := little(n, size)
				got, r := Reader{Rest: put + rest}.Number(size)
				if want := n & (math.MaxUint64 >> (64 - 8*size)); got != want {
					t.Errorf("%q is read as %d, not %d", put, got, want)
				}
				wantRest(t, "number", r, rest)
			}
		}
	}
}

// TestReadNumberShort (P2.2): of less bytes than are read 0, and a bad reader.
func TestReadNumberShort(t *testing.T) {
	for size := 1; size <= 8; size++ {
		for less := range size {
			got, r := Reader{Rest: strings.Repeat("\xff", less)}.Number(size)
			if got != 0 {
				t.Errorf("of %d bytes a number of %d is %d", less, size, got)
			}
			wantBad(t, "short number", r)
		}
	}
}

// TestReadNumberSize (P2.2, P6): so as of a bad one, if size is not 1 to 8.
func TestReadNumberSize(t *testing.T) {
	for _, size := range wrongSizes {
		for _, s := range []string{"", "\xff", rising(8), strings.Repeat("\xff", 300)} {
			got, r := Reader{Rest: s}.Number(size)
			if got != 0 {
				t.Errorf("of %d bytes a number of size %d is %d", len(s), size, got)
			}
			wantBad(t, "wrong size", r)
		}
	}
}

// TestReadBytes (P2.2): the next bytes, none and all too.
func TestReadBytes(t *testing.T) {
	for _, s := range texts() {
		for _, many := range []int{0, 1, len(s) / 2, len(s) - 1, len(s)} {
			if many < 0 || many > len(s) {
				continue
			}
			got, r := Reader{Rest: s}.Bytes(many)
			if got != s[:many] {
				t.Errorf("%d of %d bytes are %d others", many, len(s), len(got))
			}
			wantRest(t, "bytes", r, s[many:])
		}
	}
}

// TestReadBytesShort (P2.2, P6): below 0, and above how many there are, nothing, and a bad reader.
func TestReadBytesShort(t *testing.T) {
	for _, s := range texts() {
		for _, many := range append([]int{len(s) + 1, len(s) + 2}, wrongMany...) {
			got, r := Reader{Rest: s}.Bytes(many)
			if got != "" {
				t.Errorf("%d of %d bytes are %q", many, len(s), got)
			}
			wantBad(t, "wrong many", r)
		}
	}
}

// TestReadText (P2.2): what Text tells, and what is behind it.
func TestReadText(t *testing.T) {
	for _, s := range texts() {
		for _, rest := range []string{"", "\x00", "\xff\xff", "rest"} {
			got, r := Reader{Rest: little(uint64(len(s)), 2) + s + rest}.Text()
			if got != s {
				t.Errorf("a text of %d bytes is read as one of %d", len(s), len(got))
			}
			wantRest(t, "text", r, rest)
		}
	}
}

// TestReadTextShort (P2.2): cut anywhere it is nothing, and the reader is bad.
func TestReadTextShort(t *testing.T) {
	for _, s := range texts() {
		put := little(uint64(len(s)), 2) + s
		for _, left := range []int{0, 1, 2, 3, len(put) / 2, len(put) - 2, len(put) - 1} {
			if left < 0 || left >= len(put) {
				continue
			}
			got, r := Reader{Rest: put[:left]}.Text()
			if got != "" {
				t.Errorf("%d bytes of a text of %d are %q", left, len(put), got)
			}
			wantBad(t, "short text", r)
		}
	}
}

// TestReadFlag (P2.2): 1 and 0, and no other byte.
func TestReadFlag(t *testing.T) {
	for b := range 256 {
		for _, rest := range []string{"", "\x00", "\x01rest"} {
			got, r := Reader{Rest: string([]byte{byte(b)}) + rest}.Flag()
			if got != (b == 1) {
				t.Errorf("byte %d is %v", b, got)
			}
			if b > 1 {
				wantBad(t, "byte that is neither", r)
			} else {
				wantRest(t, "flag", r, rest)
			}
		}
	}
	got, r := Reader{}.Flag()
	if got {
		t.Error("of nothing a flag is true")
	}
	wantBad(t, "short flag", r)
}

// TestBad (P2.2): of a bad reader nothing is read, though it has bytes, or none are asked for.
func TestBad(t *testing.T) {
	for _, s := range append(texts(), "\x01", "\x01\x00ab", "\x00\x00", strings.Repeat("\x01", 300)) {
		bad := Reader{Rest: s, Bad: true}
		for size := -1; size <= 10; size++ {
			n, r := bad.Number(size)
			if n != 0 {
				t.Errorf("a number of %d of a bad reader is %d", size, n)
			}
			wantBad(t, "number of a bad one", r)
		}
		for _, many := range append([]int{0, 1, len(s), len(s) + 1}, wrongMany...) {
			got, r := bad.Bytes(many)
			if got != "" {
				t.Errorf("%d bytes of a bad reader are %q", many, got)
			}
			wantBad(t, "bytes of a bad one", r)
		}
		got, r := bad.Text()
		if got != "" {
			t.Errorf("a text of a bad reader is %q", got)
		}
		wantBad(t, "text of a bad one", r)
		is, r := bad.Flag()
		if is {
			t.Error("a flag of a bad reader is true")
		}
		wantBad(t, "flag of a bad one", r)
	}
}

// TestDone (P2.2): nothing left, and not bad.
func TestDone(t *testing.T) {
	for _, c := range []struct {
		r    Reader
		want bool
	}{
		{Reader{}, true},
		{Reader{Bad: true}, false},
		{Reader{Rest: "\x00"}, false},
		{Reader{Rest: "a", Bad: true}, false},
		{Reader{Rest: rising(300)}, false},
	} {
		if got := c.r.Done(); got != c.want {
			t.Errorf("Done of %+v is %v", c.r, got)
		}
	}
}

// A thing is what was put, and how it is read again.
type thing struct {
	bytes string
	// read tells whether what is read off r is what was put; zero, whether it is nothing.
	read func(r Reader) (same, zero bool, behind Reader)
}

func drawThing(draw *rand.Rand) thing {
	switch draw.Intn(4) {
	case 0:
		size := 1 + draw.Intn(8)
		n := draw.Uint64() >> (64 - 8*size)
		return thing{Number(n, size), func(r Reader) (bool, bool, Reader) {
			got, r := r.Number(size)
			return got == n, got == 0, r
		}}
	case 1:
		is := draw.Intn(2) == 1
		return thing{Flag(is), func(r Reader) (bool, bool, Reader) {
			got, r := r.Flag()
			return got == is, !got, r
		}}
	case 2:
		s := rising(draw.Intn(300))
		put, _ := Text(s)
		return thing{put, func(r Reader) (bool, bool, Reader) {
			got, r := r.Text()
			return got == s, got == "", r
		}}
	}
	s := rising(draw.Intn(10))
	return thing{s, func(r Reader) (bool, bool, Reader) {
		got, r := r.Bytes(len(s))
		return got == s, got == "", r
	}}
}

func drawThings(draw *rand.Rand) (l []thing, all string) {
	for range 1 + draw.Intn(12) {
		l = append(l, drawThing(draw))
		all += l[len(l)-1].bytes
	}
	return l, all
}

// TestInOrder (P2.3): what was put is read, in order, and then all is done.
func TestInOrder(t *testing.T) {
	draw := rand.New(rand.NewSource(2))
	for range 500 {
		l, all := drawThings(draw)
		r, left := Reader{Rest: all}, all
		for i, x := range l {
			var same bool
			same, _, r = x.read(r)
			left = left[len(x.bytes):]
			if !same {
				t.Fatalf("the thing %d of %q is read as another one", i, all)
			}
			wantRest(t, "thing", r, left)
		}
		if !r.Done() {
			t.Fatalf("all of %q was read, and it is not done", all)
		}
	}
}

// TestStaysBad (P2.3): cut anywhere the things are read up to the cut, and nothing behind it.
func TestStaysBad(t *testing.T) {
	draw := rand.New(rand.NewSource(3))
	for range 200 {
		l, all := drawThings(draw)
		for cut := range len(all) {
			r, end := Reader{Rest: all[:cut]}, 0
			for i, x := range l {
				var same, zero bool
				same, zero, r = x.read(r)
				end += len(x.bytes)
				if bad := end > cut; r.Bad != bad || bad && (!zero || r.Rest != "") || !bad && !same {
					t.Fatalf("the thing %d of %q, cut at %d: same %v, zero %v, behind it %+v", i, all, cut, same, zero, r)
				}
			}
			if r.Done() {
				t.Fatalf("%q, cut at %d, is done", all, cut)
			}
		}
	}
}

// TestReadAgain (P3, P4): a reader stays as it is, and tells the same again, whoever else asks.
func TestReadAgain(t *testing.T) {
	text, _ := Text("käse")
	r := Reader{Rest: text + Flag(true) + Number(258, 2)}
	was := r
	var all sync.WaitGroup
	for range 8 {
		all.Go(func() {
			for range 50 {
				s, behind := r.Text()
				is, behind := behind.Flag()
				n, behind := behind.Number(2)
				if s != "käse" || !is || n != 258 || !behind.Done() {
					t.Errorf("%q, %v, %d, behind it %+v", s, is, n, behind)
				}
			}
		})
	}
	all.Wait()
	if r != was {
		t.Errorf("the reader is %+v now", r)
	}
}

// TestNewMemory (P3): what is read shares no memory with what it was read off.
func TestNewMemory(t *testing.T) {
	put, _ := Text("key")
	within := func(s, all string) bool {
		p, from := uintptr(unsafe.Pointer(unsafe.StringData(s))), uintptr(unsafe.Pointer(unsafe.StringData(all)))
		return p >= from && p < from+uintptr(len(all))
	}
	if s, _ := (Reader{Rest: put}).Text(); s != "key" || within(s, put) {
		t.Errorf("the text %q is a piece of what it was read off", s)
	}
	if s, _ := (Reader{Rest: put}).Bytes(4); s != put[:4] || within(s, put) {
		t.Errorf("the bytes %q are a piece of what they were read off", s)
	}
}

// TestAnyReader (P1, P6): every call ends, whatever bytes there are, and leaves no more than there was.
func TestAnyReader(t *testing.T) {
	draw := rand.New(rand.NewSource(5))
	for range 2000 {
		l := make([]byte, draw.Intn(40))
		draw.Read(l)
		r := Reader{Rest: string(l), Bad: draw.Intn(8) == 0}
		for range 20 {
			was := r
			switch draw.Intn(4) {
			case 0:
				_, r = r.Number(draw.Intn(12) - 1)
			case 1:
				_, r = r.Text()
			case 2:
				_, r = r.Flag()
			case 3:
				_, r = r.Bytes(draw.Intn(12) - 1)
			}
			if !strings.HasSuffix(was.Rest, r.Rest) || was.Bad && !r.Bad || r.Bad && r.Rest != "" {
				t.Fatalf("behind %+v is %+v", was, r)
			}
		}
	}
}
