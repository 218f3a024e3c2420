package disk

import (
	"math"
	"math/rand"
	"strings"
	"sync"
	"testing"
	"unsafe"

	"comitia/api"
)

// The greatest room, as the document tells it.
const most = 1 << 24

// Sizes around those at which a new piece begins.
var sizes = []int{
	0, 1, 2, 7, 100, pieceSize - 1, pieceSize, pieceSize + 1,
	2*pieceSize - 1, 2 * pieceSize, 2*pieceSize + 1, 3*pieceSize + 100,
}

var belowZero = []int{math.MinInt, math.MinInt + 1, math.MinInt32, -pieceSize, -2, -1}

// rising is a text of size bytes, 0 to 255 over and over, and no piece like the next.
func rising(size int) string {
	l := make([]byte, size)
	for i := range l {
		l[i] = byte(i + i/pieceSize)
	}
	return string(l)
}

func open(t *testing.T, room int) *Disk {
	t.Helper()
	d, err := New(room)
	if err != api.OK || d == nil {
		t.Fatalf("New(%d): %v, error %d", room, d, err)
	}
	return d
}

// put appends s, which has room.
func put(t *testing.T, d *Disk, s string) {
	t.Helper()
	if err := d.Append(s); err != api.OK {
		t.Fatalf("%d bytes more, of %d with room for %d: error %d", len(s), len(d.Bytes()), d.Room(), err)
	}
}

// filled is a disk with synced on it, and unsynced behind it.
func filled(t *testing.T, synced, unsynced string) *Disk {
	t.Helper()
	d := open(t, 1<<20)
	put(t, d, synced)
	d.Sync()
	put(t, d, unsynced)
	wantDisk(t, "filled", d, synced+unsynced, len(synced), 1<<20)
	return d
}

// wantDisk fails if that is not what d tells.
func wantDisk(t *testing.T, what string, d *Disk, bytes string, synced, room int) {
	t.Helper()
	if got := d.Bytes(); got != bytes {
		t.Errorf("%s: %d bytes are on it, not those %d", what, len(got), len(bytes))
	}
	if d.Synced() != synced || d.Room() != room {
		t.Errorf("%s: %d are synced, with room for %d, not %d and %d", what, d.Synced(), d.Room(), synced, room)
	}
}

// TestNew (P3.1): nothing is on a new one, nothing is synced; the chapter's example.
func TestNew(t *testing.T) {
	for _, room := range []int{1, 2, 4096, most - 1, most} {
		wantDisk(t, "new", open(t, room), "", 0, room)
	}
}

// TestNewRoom (P3.1, P2, P6): ErrArg, and no disk, if room is not 1 to 2^24.
func TestNewRoom(t *testing.T) {
	for _, room := range append([]int{0, most + 1, most + 2, 1 << 32, 1<<32 + 1, math.MaxInt - 1, math.MaxInt}, belowZero...) {
		if d, err := New(room); err != api.ErrArg || d != nil {
			t.Errorf("New(%d): %v, error %d", room, d, err)
		}
	}
}

// TestAppend (P3.1): each stands behind what is on it, and is not synced by that.
func TestAppend(t *testing.T) {
	for _, first := range sizes {
		for _, second := range sizes {
			d := open(t, 1<<20)
			all := rising(first)
			put(t, d, all)
			wantDisk(t, "the first", d, all, 0, 1<<20)
			put(t, d, strings.Repeat("x", second))
			all += strings.Repeat("x", second)
			wantDisk(t, "the second", d, all, 0, 1<<20)
			put(t, d, "\x00\xffend")
			wantDisk(t, "the third", d, all+"\x00\xffend", 0, 1<<20)
		}
	}
}

// TestAppendFull (P3.1, P2): ErrFull above room bytes, and nothing of it is on the disk; up to room there is room.
func TestAppendFull(t *testing.T) {
	for _, room := range []int{1, 2, 100, pieceSize - 1, pieceSize, pieceSize + 1, 3 * pieceSize} {
		for _, there := range []int{0, 1, room / 2, room - 1, room} {
			d := open(t, room)
			all := rising(there)
			put(t, d, all)
			for _, more := range []int{1, 2, pieceSize, room} {
				err := d.Append(strings.Repeat("y", room-there+more))
				if err != api.ErrFull {
					t.Errorf("%d bytes more, of %d with room for %d: error %d", room-there+more, there, room, err)
				}
				wantDisk(t, "refused", d, all, 0, room)
			}
			put(t, d, strings.Repeat("z", room-there))
			put(t, d, "")
			wantDisk(t, "full", d, all+strings.Repeat("z", room-there), 0, room)
			if err := d.Append("a"); err != api.ErrFull {
				t.Errorf("a byte more of %d: error %d", room, err)
			}
		}
	}
}

// TestGreatest (P3.1): the greatest room holds as many bytes, and no more.
func TestGreatest(t *testing.T) {
	d, all := open(t, most), rising(most)
	put(t, d, all[:most-1])
	if err := d.Append("ab"); err != api.ErrFull {
		t.Errorf("two bytes for the last one: error %d", err)
	}
	put(t, d, all[most-1:])
	d.Sync()
	if err := d.Append("a"); err != api.ErrFull {
		t.Errorf("a byte above all: error %d", err)
	}
	wantDisk(t, "greatest", d, all, most, most)
	d.Cut(most - pieceSize)
	wantDisk(t, "cut", d, all[:most-pieceSize], most-pieceSize, most)
}

// TestSync (P3.1): all that is on it is synced, and what comes behind it is not.
func TestSync(t *testing.T) {
	d, all := open(t, 1<<20), ""
	for _, size := range sizes {
		before := len(all)
		all += rising(size)
		put(t, d, rising(size))
		wantDisk(t, "not synced", d, all, before, 1<<20)
		for range 2 {
			if err := d.Sync(); err != api.OK {
				t.Errorf("Sync: error %d", err)
			}
			wantDisk(t, "synced", d, all, len(all), 1<<20)
		}
	}
}

// TestHold (P3.1): a Sync does nothing, and tells OK; what was synced stays so, and Append goes on.
func TestHold(t *testing.T) {
	d := filled(t, "synced", "held")
	d.Hold()
	for range 2 {
		if err := d.Sync(); err != api.OK {
			t.Errorf("Sync of a held one: error %d", err)
		}
		wantDisk(t, "held", d, "syncedheld", 6, 1<<20)
		d.Hold()
	}
	put(t, d, "more")
	d.Sync()
	wantDisk(t, "held", d, "syncedheldmore", 6, 1<<20)
	if d.Append(strings.Repeat("x", 1<<20)) != api.ErrFull || d.Cut(-1) != api.ErrArg || d.Grow(1) != api.OK {
		t.Error("what is no Crash or Cut tells otherwise when it is held")
	}
	d.Sync()
	wantDisk(t, "held still", d, "syncedheldmore", 6, 1<<20+1)
}

// TestHoldEnds (P3.1, P3.2): at the next Crash, or Cut, it is not held, though nothing is lost by it.
func TestHoldEnds(t *testing.T) {
	for _, c := range []struct {
		what string
		end  func(d *Disk)
		left string
	}{
		{"Crash", func(d *Disk) { d.Crash(0) }, "synced"},
		{"Crash that keeps all", func(d *Disk) { d.Crash(4) }, "syncedheld"},
		{"Cut", func(d *Disk) { d.Cut(3) }, "syn"},
		{"Cut of nothing", func(d *Disk) { d.Cut(10) }, "syncedheld"},
		{"Cut of all", func(d *Disk) { d.Cut(0) }, ""},
	} {
		d := filled(t, "synced", "held")
		d.Hold()
		c.end(d)
		wantDisk(t, c.what, d, c.left, len(c.left), 1<<20)
		put(t, d, "more")
		d.Sync()
		wantDisk(t, c.what+" and Sync", d, c.left+"more", len(c.left)+4, 1<<20)
	}
	d := filled(t, "synced", "held")
	d.Hold()
	if err := d.Cut(11); err != api.ErrArg {
		t.Errorf("Cut above all: error %d", err)
	}
	d.Sync()
	wantDisk(t, "held still, behind a Cut that is refused", d, "syncedheld", 6, 1<<20)
}

// TestCrash (P3.2): what is synced stays, and so many bytes behind it; all that is left is synced.
func TestCrash(t *testing.T) {
	for _, synced := range sizes {
		for _, unsynced := range sizes {
			all := rising(synced + unsynced)
			for _, keep := range append([]int{0, 1, unsynced - 1, unsynced, pieceSize}, sizes...) {
				if keep < 0 || keep > unsynced {
					continue
				}
				d := filled(t, all[:synced], all[synced:])
				d.Crash(keep)
				wantDisk(t, "crash", d, all[:synced+keep], synced+keep, 1<<20)
				d.Crash(0)
				wantDisk(t, "crash again", d, all[:synced+keep], synced+keep, 1<<20)
				put(t, d, "behind")
				wantDisk(t, "behind the crash", d, all[:synced+keep]+"behind", synced+keep, 1<<20)
			}
		}
	}
}

// TestCrashKeep (P3.2, P6): none behind it, if keep is below 0; all, if there are less.
func TestCrashKeep(t *testing.T) {
	for _, keep := range belowZero {
		d := filled(t, "synced", rising(2*pieceSize))
		d.Crash(keep)
		wantDisk(t, "keep below 0", d, "synced", 6, 1<<20)
	}
	all := "synced" + rising(2*pieceSize)
	for _, keep := range []int{2*pieceSize + 1, 1 << 24, math.MaxInt32, math.MaxInt - 6, math.MaxInt - 5, math.MaxInt} {
		d := filled(t, all[:6], all[6:])
		d.Crash(keep)
		wantDisk(t, "keep above all", d, all, len(all), 1<<20)
	}
	d := open(t, 10)
	d.Crash(5)
	wantDisk(t, "crash of a new one", d, "", 0, 10)
}

// TestCut (P3.2): the first bytes are left, and synced, of what was synced and of what was not.
func TestCut(t *testing.T) {
	for _, synced := range sizes {
		all := rising(synced + pieceSize + 9)
		for _, size := range append([]int{synced, len(all) - 1, len(all)}, sizes...) {
			if size > len(all) {
				continue
			}
			d := filled(t, all[:synced], all[synced:])
			if err := d.Cut(size); err != api.OK {
				t.Errorf("Cut(%d) of %d: error %d", size, len(all), err)
			}
			wantDisk(t, "cut", d, all[:size], size, 1<<20)
			put(t, d, "behind")
			wantDisk(t, "behind the cut", d, all[:size]+"behind", size, 1<<20)
		}
	}
}

// TestCutSize (P3.2, P2, P6): ErrArg below 0, and above how many there are, though there were more; nothing has changed.
func TestCutSize(t *testing.T) {
	d := filled(t, "synced", "more and more")
	d.Cut(10)
	put(t, d, "end")
	for _, size := range append([]int{14, 15, 19, 1 << 20, math.MaxInt32, math.MaxInt}, belowZero...) {
		if err := d.Cut(size); err != api.ErrArg {
			t.Errorf("Cut(%d) of 13: error %d", size, err)
		}
		wantDisk(t, "refused", d, "syncedmoreend", 10, 1<<20)
	}
	empty := open(t, 10)
	if err := empty.Cut(1); err != api.ErrArg {
		t.Errorf("Cut(1) of a new one: error %d", err)
	}
	if err := empty.Cut(0); err != api.OK {
		t.Errorf("Cut(0) of a new one: error %d", err)
	}
	wantDisk(t, "empty", empty, "", 0, 10)
}

// TestCutRoom (P3.1, P3.2): what is cut off, or lost, has room again.
func TestCutRoom(t *testing.T) {
	d, all := open(t, 2*pieceSize), rising(2*pieceSize)
	put(t, d, all)
	d.Cut(pieceSize)
	put(t, d, all[pieceSize:])
	wantDisk(t, "cut and filled", d, all, pieceSize, 2*pieceSize)
	d.Crash(1)
	put(t, d, all[pieceSize+1:])
	wantDisk(t, "crashed and filled", d, all, pieceSize+1, 2*pieceSize)
	if err := d.Append("a"); err != api.ErrFull {
		t.Errorf("a byte more than room: error %d", err)
	}
}

// TestGrow (P3.2): room is by more, and holds as many bytes; nothing else has changed.
func TestGrow(t *testing.T) {
	d := open(t, 1)
	put(t, d, "a")
	for _, more := range []int{0, 1, 10, pieceSize} {
		was := d.Room()
		if err := d.Grow(more); err != api.OK {
			t.Errorf("Grow(%d): error %d", more, err)
		}
		wantDisk(t, "grown", d, d.Bytes(), 0, was+more)
		put(t, d, strings.Repeat("b", more))
		if err := d.Append("c"); err != api.ErrFull {
			t.Errorf("a byte more than %d: error %d", d.Room(), err)
		}
	}
	d.Sync()
	d.Grow(5)
	d.Crash(0)
	wantDisk(t, "crash of a grown one", d, "a"+strings.Repeat("b", 11+pieceSize), 12+pieceSize, 17+pieceSize)
}

// TestGrowMost (P3.2, P2, P6): ErrArg below 0, and above 2^24 in all; nothing has changed.
func TestGrowMost(t *testing.T) {
	for _, room := range []int{1, 2, 100, most - 1, most} {
		d := open(t, room)
		for _, more := range append([]int{most - room + 1, most + 1, 1 << 32, math.MaxInt - room, math.MaxInt}, belowZero...) {
			if err := d.Grow(more); err != api.ErrArg {
				t.Errorf("Grow(%d) of %d: error %d", more, room, err)
			}
			wantDisk(t, "refused", d, "", 0, room)
		}
		if err := d.Grow(most - room); err != api.OK {
			t.Errorf("Grow(%d) of %d: error %d", most-room, room, err)
		}
		wantDisk(t, "grown", d, "", 0, most)
	}
}

// A plain is a disk as the chapter tells it, word by word.
type plain struct {
	bytes        string
	synced, room int
	held         bool
}

func (p *plain) append(s string) api.Errno {
	if len(p.bytes)+len(s) > p.room {
		return api.ErrFull
	}
	p.bytes += s
	return api.OK
}

func (p *plain) sync() api.Errno {
	if !p.held {
		p.synced = len(p.bytes)
	}
	return api.OK
}

func (p *plain) crash(keep int) api.Errno {
	if behind := len(p.bytes) - p.synced; keep < 0 {
		keep = 0
	} else if keep > behind {
		keep = behind
	}
	return p.cut(p.synced + keep)
}

func (p *plain) cut(size int) api.Errno {
	if size < 0 || size > len(p.bytes) {
		return api.ErrArg
	}
	*p = plain{p.bytes[:size], size, p.room, false}
	return api.OK
}

func (p *plain) grow(more int) api.Errno {
	if more < 0 || p.room+more > most {
		return api.ErrArg
	}
	p.room += more
	return api.OK
}

// step does one thing to both, and tells their errors, and whether it was a Cut.
func step(draw *rand.Rand, d *Disk, p *plain) (got, want api.Errno, cut bool) {
	n := draw.Intn(3*pieceSize) - pieceSize/4
	switch draw.Intn(12) {
	case 0:
		d.Hold()
		p.held = true
	case 1:
		d.Crash(n)
		return api.OK, p.crash(n), false
	case 2:
		return d.Cut(n), p.cut(n), true
	case 3:
		return d.Grow(n / 4), p.grow(n / 4), false
	case 4, 5:
		return d.Sync(), p.sync(), false
	case 6:
		s := rising(max(n, 0))
		return d.Append(s), p.append(s), false
	default:
		s := rising(max(n, 0) % 40)
		return d.Append(s), p.append(s), false
	}
	return api.OK, api.OK, false
}

// TestManySteps (P3.1, P3.2, P3.3): whatever is done, in whatever order, it is as the words say;
// what is synced is never lost, but by a Cut.
func TestManySteps(t *testing.T) {
	draw := rand.New(rand.NewSource(3))
	for range 100 {
		room := 1 + draw.Intn(8*pieceSize)
		d, p := open(t, room), &plain{room: room}
		for i := range 200 {
			kept := d.Bytes()[:d.Synced()]
			got, want, cut := step(draw, d, p)
			if got != want {
				t.Fatalf("step %d: error %d, not %d", i, got, want)
			}
			wantDisk(t, "step", d, p.bytes, p.synced, p.room)
			if !cut && (!strings.HasPrefix(d.Bytes(), kept) || d.Synced() < len(kept)) {
				t.Fatalf("step %d: what was synced is lost", i)
			}
			if t.Failed() {
				t.FailNow()
			}
		}
	}
}

// TestNewMemory (P3): what is handed in is not kept, and what was told stays as it was.
func TestNewMemory(t *testing.T) {
	d := open(t, 1<<20)
	mine := []byte(rising(pieceSize + 5))
	put(t, d, unsafe.String(&mine[0], len(mine)))
	told := d.Bytes()
	clear(mine)
	if d.Bytes() != rising(pieceSize+5) {
		t.Error("what was handed in is kept")
	}
	d.Cut(3)
	put(t, d, strings.Repeat("x", 2*pieceSize))
	if told != rising(pieceSize+5) {
		t.Error("what was told has changed")
	}
	now := d.Bytes()
	if again := d.Bytes(); unsafe.StringData(now) == unsafe.StringData(again) {
		t.Error("what is told twice is the same memory")
	}
}

// TestTwoDisks (P4): what is done to one is nothing to another, whoever else is at work.
func TestTwoDisks(t *testing.T) {
	var all sync.WaitGroup
	for who := range 8 {
		d, mark := open(t, 1<<20), strings.Repeat(string(rune('a'+who)), 1000)
		all.Go(func() {
			for range 20 {
				d.Append(mark)
				d.Sync()
				d.Append("lost")
				d.Crash(0)
			}
			wantDisk(t, "one of eight", d, strings.Repeat(mark, 20), 20000, 1<<20)
		})
	}
	all.Wait()
}

// TestNothingKept: what is cut off takes no memory, nor do many texts of nothing.
func TestNothingKept(t *testing.T) {
	d := open(t, most)
	put(t, d, rising(most))
	d.Cut(1)
	for range 1000 {
		put(t, d, "")
	}
	if len(d.pieces) != 1 {
		t.Errorf("a byte is kept in %d pieces", len(d.pieces))
	}
	for i, piece := range d.pieces[1:cap(d.pieces)] {
		if piece != nil {
			t.Fatalf("the piece %d is kept", i+1)
		}
	}
}
