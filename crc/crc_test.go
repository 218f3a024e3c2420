package crc

import (
	"hash/crc32"
	"strings"
	"sync"
	"testing"
)

var starts = []uint32{0, 1, 7, 0x80000000, 0x82f63b78, 0xe3069283, 0xfffffffe, 0xffffffff}

// rising is a text of size bytes, 0 to 255 over and over: no runes of Unicode.
func rising(size int) string {
	l := make([]byte, size)
	for i := range l {
		l[i] = byte(i)
	}
	return string(l)
}

func texts() []string {
	return []string{"", "\x00", "\xff", "a", "ab", "123456789", "käse", "\xc3\x28\xa0", rising(255), rising(8192)}
}

// turned is s with the bit-th of its bits turned.
func turned(s string, bit int) string {
	l := []byte(s)
	l[bit/8] ^= 1 << (bit % 8)
	return string(l)
}

// TestKnown (P1.1): sums that are known of this checksum, the chapter's example among them.
func TestKnown(t *testing.T) {
	downward := []byte(rising(32))
	for i := range downward {
		downward[i] = byte(31 - i)
	}
	for _, c := range []struct {
		s    string
		want uint32
	}{
		{"123456789", 0xe3069283},
		{"", 0},
		{"a", 0xc1d04330},
		{strings.Repeat("\x00", 32), 0x8a9136aa},
		{strings.Repeat("\xff", 32), 0x62a8ab43},
		{rising(32), 0x46dd794e},
		{string(downward), 0x113fdb5c},
	} {
		if got := Sum(c.s); got != c.want {
			t.Errorf("Sum(%q) is %08x, not %08x", c.s, got, c.want)
		}
		if got := Add(0, c.s); got != c.want {
			t.Errorf("Add(0, %q) is %08x, not %08x", c.s, got, c.want)
		}
	}
}

// byTheWords is Add as the chapter tells it, word by word.
func byTheWords(sum uint32, s string) uint32 {
	sum ^= 0xffffffff
	for _, b := range []byte(s) {
		sum ^= uint32(b)
		for range 8 {
			fell := sum % 2
			sum /= 2
			if fell == 1 {
				sum ^= 0x82f63b78
			}
		}
	}
	return sum ^ 0xffffffff
}

// TestAdd (P1.1): every byte, and texts of many lengths, from whatever sum.
func TestAdd(t *testing.T) {
	table := crc32.MakeTable(crc32.Castagnoli)
	try := func(sum uint32, s string) {
		t.Helper()
		got := Add(sum, s)
		if want := byTheWords(sum, s); got != want {
			t.Errorf("Add(%08x, %q) is %08x, not %08x", sum, s, got, want)
		}
		if want := crc32.Update(sum, table, []byte(s)); got != want {
			t.Errorf("Add(%08x, %q) is %08x, the library says %08x", sum, s, got, want)
		}
	}
	for _, sum := range starts {
		for b := range 256 {
			try(sum, string([]byte{byte(b)}))
		}
		for size := range 300 {
			try(sum, rising(size))
		}
		for _, s := range texts() {
			try(sum, s)
		}
	}
}

// TestAddNothing (P1.1): nothing, added to a sum, is that sum.
func TestAddNothing(t *testing.T) {
	for _, sum := range starts {
		if got := Add(sum, ""); got != sum {
			t.Errorf("Add(%08x, nothing) is %08x", sum, got)
		}
	}
}

// TestCheck (P1.1): the sum itself, and no other.
func TestCheck(t *testing.T) {
	for _, s := range texts() {
		sum := byTheWords(0, s)
		if !Check(s, sum) {
			t.Errorf("Check(%q, %08x) is false", s, sum)
		}
		for bit := range 32 {
			if wrong := sum ^ 1<<bit; Check(s, wrong) {
				t.Errorf("Check(%q, %08x) is true", s, wrong)
			}
		}
		if Check(s, ^sum) {
			t.Errorf("Check(%q, %08x) is true", s, ^sum)
		}
	}
}

// TestBehind (P1.2): a text's sum is that of its second part, added to that of its first.
func TestBehind(t *testing.T) {
	for _, s := range append(texts()[:9], rising(600)) {
		whole := Sum(s)
		for cut := range len(s) + 1 {
			if got := Add(Sum(s[:cut]), s[cut:]); got != whole {
				t.Errorf("%q, cut at %d: %08x, not %08x", s, cut, got, whole)
			}
		}
		var bytewise uint32
		for i := range len(s) {
			bytewise = Add(bytewise, s[i:i+1])
		}
		if bytewise != whole {
			t.Errorf("%q, byte by byte: %08x, not %08x", s, bytewise, whole)
		}
	}
}

// TestBitTurned (P1.2): a text with one bit turned has another sum.
func TestBitTurned(t *testing.T) {
	for _, s := range append(texts()[:9], rising(600)) {
		sum := Sum(s)
		for bit := range 8 * len(s) {
			other := turned(s, bit)
			if Sum(other) == sum || Check(other, sum) {
				t.Errorf("%q has the sum %08x also with bit %d turned", s, sum, bit)
			}
		}
	}
}

// TestAnyText (P1, P6): every call ends, at long texts, at what is no UTF-8, at any sum.
func TestAnyText(t *testing.T) {
	long := rising(1 << 20)
	for _, s := range append(texts(), long, strings.Repeat("\xff", 1<<20)) {
		for _, sum := range starts {
			if Check(s, sum) != (Sum(s) == sum) {
				t.Errorf("Check of %d bytes and %08x is not what Sum tells", len(s), sum)
			}
			Add(sum, s)
		}
	}
}

// TestSameAgain (P3, P4): the same answer again, whoever else asks, and nothing handed in is turned.
func TestSameAgain(t *testing.T) {
	s := rising(8192)
	want := byTheWords(0, s)
	var all sync.WaitGroup
	for range 8 {
		all.Go(func() {
			for range 20 {
				if got := Sum(s); got != want || !Check(s, want) {
					t.Errorf("%08x, not %08x", got, want)
				}
			}
		})
	}
	all.Wait()
	if s != rising(8192) {
		t.Error("the text was written into")
	}
}
