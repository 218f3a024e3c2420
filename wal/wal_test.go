package wal

import (
	"encoding/binary"
	"hash/crc32"
	"math"
	"math/rand"
	"slices"
	"strings"
	"sync"
	"testing"
	"unsafe"

	"comitia/api"
	"comitia/disk"
)

const (
	// The most bytes of a record, as the document tells them.
	most = 8192
	// How many bytes a frame has beside its record's.
	around = 6
	room   = 1 << 20
)

// rising is a text of size bytes, 0 to 255 over and over: no runes of Unicode.
func rising(size int) string {
	l := make([]byte, size)
	for i := range l {
		l[i] = byte(i)
	}
	return string(l)
}

// Records at all edges.
func mayBe() []string {
	return []string{
		"a", "\x00", "\xff", "käse", "\x00\x00\x00\x00\x00\x00", "123456789",
		rising(255), rising(256), rising(257), rising(most - 1), rising(most),
	}
}

// What may be no record, but has a Text.
func mayNotBe() []string {
	return []string{"", rising(most + 1), rising(most + 2), rising(2 * most), rising(65535)}
}

// framed is the frame of whatever has a Text, by the library's sum.
func framed(record string) string {
	text := binary.LittleEndian.AppendUint16(nil, uint16(len(record)))
	text = append(text, record...)
	sum := crc32.Checksum(text, crc32.MakeTable(crc32.Castagnoli))
	return string(binary.LittleEndian.AppendUint32(text, sum))
}

func framedAll(records []string) string {
	var all strings.Builder
	for _, record := range records {
		all.WriteString(framed(record))
	}
	return all.String()
}

// turned is s with the bit-th of its bits turned.
func turned(s string, bit int) string {
	l := []byte(s)
	l[bit/8] ^= 1 << (bit % 8)
	return string(l)
}

// newDisk is a disk with bytes on it, of which none are synced.
func newDisk(t *testing.T, room int, bytes string) *disk.Disk {
	t.Helper()
	d, err := disk.New(room)
	if err != api.OK {
		t.Fatalf("a disk with room for %d: error %d", room, err)
	}
	if err := d.Append(bytes); err != api.OK {
		t.Fatalf("%d bytes on a disk with room for %d: error %d", len(bytes), room, err)
	}
	return d
}

// put appends records, which have room.
func put(t *testing.T, l *Log, records ...string) {
	t.Helper()
	for _, record := range records {
		if err := l.Append(record); err != api.OK {
			t.Fatalf("a record of %d bytes: error %d", len(record), err)
		}
	}
}

// wantLog fails if these are not the records, so many of them synced.
func wantLog(t *testing.T, what string, l *Log, records []string, synced int) {
	t.Helper()
	if got := l.Records(); !slices.Equal(got, records) {
		t.Errorf("%s: %d records, not those %d", what, len(got), len(records))
	}
	if l.Synced() != synced {
		t.Errorf("%s: %d records are synced, not %d", what, l.Synced(), synced)
	}
}

// wantDisk fails if that is not what is on d, so many bytes of it synced.
func wantDisk(t *testing.T, what string, d *disk.Disk, bytes string, synced int) {
	t.Helper()
	if got := d.Bytes(); got != bytes || d.Synced() != synced {
		t.Errorf("%s: %d bytes on the disk, %d synced, not those %d and %d", what, len(got), d.Synced(), len(bytes), synced)
	}
}

// wantScan fails if that is not what Scan tells of s.
func wantScan(t *testing.T, what, s string, records []string, size int) {
	t.Helper()
	got, bytes := Scan(s)
	if !slices.Equal(got, records) || bytes != size {
		t.Errorf("%s: Scan tells %d records of %d bytes, not those %d of %d", what, len(got), bytes, len(records), size)
	}
}

// TestFrameKnown (P4.1): frames byte by byte.
func TestFrameKnown(t *testing.T) {
	for _, c := range []struct{ record, want string }{
		{"a", "\x01\x00a\x65\x21\x88\x56"},
		{"record", "\x06\x00record\xf7\x1a\xf1\x11"},
		{"123456789", "\x09\x00123456789\xd5\xde\x7d\xc9"},
	} {
		if got, ok := Frame(c.record); !ok || got != c.want {
			t.Errorf("Frame(%q) is %q, %v", c.record, got, ok)
		}
	}
}

// TestFrame (P4.1): the Text, and four bytes of its Sum, up to the most bytes.
func TestFrame(t *testing.T) {
	for _, record := range mayBe() {
		if got, ok := Frame(record); !ok || got != framed(record) {
			t.Errorf("Frame of %d bytes: %v, with %d bytes", len(record), ok, len(got))
		}
	}
	for size := 1; size < 300; size++ {
		if got, ok := Frame(rising(size)); !ok || got != framed(rising(size)) {
			t.Errorf("Frame of %d bytes: %v, with %d bytes", size, ok, len(got))
		}
	}
}

// TestFrameNone (P4.1, P2): false, and nothing, of nothing, and above the most bytes.
func TestFrameNone(t *testing.T) {
	for _, record := range append(mayNotBe(), rising(65536), rising(65537), rising(65536+7), rising(1<<20)) {
		if got, ok := Frame(record); ok || got != "" {
			t.Errorf("Frame of %d bytes: %v, with %d bytes", len(record), ok, len(got))
		}
	}
}

// TestScanNothing (P4.1, P5): the chapter's example.
func TestScanNothing(t *testing.T) {
	wantScan(t, "nothing", "", nil, 0)
}

// TestScan (P4.1): records one behind the other, the same twice too.
func TestScan(t *testing.T) {
	all := append(mayBe(), "again", "again", "a")
	for many := range len(all) + 1 {
		s := framedAll(all[:many])
		wantScan(t, "frames", s, all[:many], len(s))
	}
}

// TestScanCut (P4.1): cut anywhere, the whole ones are told.
func TestScanCut(t *testing.T) {
	all := []string{"first", "s", rising(300), "last"}
	s := framedAll(all)
	for left := range len(s) + 1 {
		many, size := 0, 0
		for many < len(all) && size+len(all[many])+around <= left {
			size += len(all[many]) + around
			many++
		}
		wantScan(t, "cut", s[:left], all[:many], size)
	}
}

// TestScanTurned (P4.1): a bit turned anywhere, and those ahead of it are told, and none from there on.
func TestScanTurned(t *testing.T) {
	all := []string{"first", "the second", "and a third"}
	s := framedAll(all)
	for bit := range 8 * len(s) {
		many, size := 0, 0
		for size+len(all[many])+around <= bit/8 {
			size += len(all[many]) + around
			many++
		}
		wantScan(t, "turned", turned(s, bit), all[:many], size)
	}
	for bit := range 32 {
		long := framed(rising(most))
		wantScan(t, "turned sum of a long one", turned(long, 8*(len(long)-4)+bit), nil, 0)
	}
}

// TestScanNoRecord (P4.1): what may be no record ends it, though its sum is right.
func TestScanNoRecord(t *testing.T) {
	for _, wrong := range mayNotBe() {
		behind := framed(wrong) + framed("behind it")
		wantScan(t, "no record", behind, nil, 0)
		wantScan(t, "no record behind one", framed("one")+behind, []string{"one"}, 3+around)
	}
}

// TestScanNoFrame (P4.1): what is no frame ends it; the sum is that of the Text, the lowest byte first.
func TestScanNoFrame(t *testing.T) {
	right := framed("record")
	text, table := right[:8], crc32.MakeTable(crc32.Castagnoli)
	upward := string(binary.BigEndian.AppendUint32(nil, crc32.Checksum([]byte(text), table)))
	bare := string(binary.LittleEndian.AppendUint32(nil, crc32.Checksum([]byte("record"), table)))
	wantScan(t, "right", right, []string{"record"}, len(right))
	for _, wrong := range []string{
		text + upward, text + bare, text + "\x00\x00\x00\x00", text + "\xff\xff\xff\xff", text,
		"\x00", "\xff\xff", "\x01\x00", strings.Repeat("\x00", 100), strings.Repeat("\xff", 1<<17), rising(1 << 17), "x" + right,
	} {
		wantScan(t, "wrong", wrong, nil, 0)
		wantScan(t, "wrong ahead of a right one", wrong+right, nil, 0)
		wantScan(t, "wrong behind a right one", right+wrong+right, []string{"record"}, len(right))
	}
}

// TestOpenNew (P4.2): on a new disk there are no records.
func TestOpenNew(t *testing.T) {
	d := newDisk(t, room, "")
	wantLog(t, "new", Open(d), nil, 0)
	wantDisk(t, "new", d, "", 0)
}

// TestOpen (P4.2): the records are those that Scan tells, all synced; what stands behind them is gone.
func TestOpen(t *testing.T) {
	all := mayBe()
	for many := range len(all) + 1 {
		s := framedAll(all[:many])
		for _, behind := range []string{"", "\x00", framed("lost")[:9], turned(framed("lost"), 70), framed(""), "\x00" + framed("lost")} {
			d := newDisk(t, room, s+behind)
			l := Open(d)
			wantLog(t, "opened", l, all[:many], many)
			wantDisk(t, "opened", d, s, len(s))
			put(t, l, "next")
			wantLog(t, "and one more", l, append(slices.Clone(all[:many]), "next"), many)
			wantDisk(t, "and one more", d, s+framed("next"), len(s))
			d.Crash(-1)
			wantLog(t, "opened again", Open(d), all[:many], many)
		}
	}
}

// TestOpenSynced (P4.2): also what was synced is cut off, if it is no frame.
func TestOpenSynced(t *testing.T) {
	d := newDisk(t, room, framed("a")+"no frame")
	d.Sync()
	wantLog(t, "synced", Open(d), []string{"a"}, 1)
	wantDisk(t, "synced", d, framed("a"), 1+around)
}

// TestOpenHeld (P4.2): a held disk is held no more, as all records are synced, and a Sync syncs.
func TestOpenHeld(t *testing.T) {
	for _, behind := range []string{"", "no frame"} {
		d := newDisk(t, room, framed("a")+behind)
		d.Hold()
		l := Open(d)
		wantLog(t, "held", l, []string{"a"}, 1)
		wantDisk(t, "held", d, framed("a"), 1+around)
		put(t, l, "b")
		l.Sync()
		d.Crash(0)
		wantLog(t, "held no more", Open(d), []string{"a", "b"}, 2)
	}
}

// TestAppend (P4.2): each is the last record, and stands on the disk by its frame; nothing is synced by it.
func TestAppend(t *testing.T) {
	d := newDisk(t, room, "")
	l, all := Open(d), []string(nil)
	for _, record := range append(mayBe(), "again", "again") {
		put(t, l, record)
		all = append(all, record)
		wantLog(t, "appended", l, all, 0)
		wantDisk(t, "appended", d, framedAll(all), 0)
	}
}

// TestAppendLong (P4.2, P2): ErrLong, where there is no frame, also where there is no room; nothing has changed.
func TestAppendLong(t *testing.T) {
	for _, room := range []int{1 << 24, 20} {
		d := newDisk(t, room, framed("first"))
		l := Open(d)
		put(t, l, "sec")
		for _, record := range append(mayNotBe(), rising(65536), rising(1<<20)) {
			if err := l.Append(record); err != api.ErrLong {
				t.Errorf("a record of %d bytes: error %d", len(record), err)
			}
			wantLog(t, "refused", l, []string{"first", "sec"}, 1)
			wantDisk(t, "refused", d, framed("first")+framed("sec"), 11)
		}
	}
}

// TestAppendFull (P4.2, P2): ErrFull of the disk, and nothing has changed; up to its room there is room.
func TestAppendFull(t *testing.T) {
	for _, size := range []int{1, 2, 100, most} {
		there := framed("first")
		d := newDisk(t, len(there)+size+around-1, there)
		l := Open(d)
		for range 2 {
			if err := l.Append(rising(size)); err != api.ErrFull {
				t.Errorf("a record of %d bytes that has a byte too little: error %d", size, err)
			}
			wantLog(t, "full", l, []string{"first"}, 1)
			wantDisk(t, "full", d, there, len(there))
		}
		// The disk is the thing itself: room that it gets is the log's.
		d.Grow(1)
		put(t, l, rising(size))
		wantLog(t, "grown", l, []string{"first", rising(size)}, 1)
		wantDisk(t, "grown", d, there+framed(rising(size)), len(there))
		if err := l.Append("a"); err != api.ErrFull {
			t.Errorf("a record for which there is nothing: error %d", err)
		}
	}
}

// TestAppendShorter (P4.2): behind one for which there was no room a shorter one is the last.
func TestAppendShorter(t *testing.T) {
	d := newDisk(t, 20, "")
	l := Open(d)
	if err := l.Append(rising(15)); err != api.ErrFull {
		t.Errorf("21 bytes of 20: error %d", err)
	}
	put(t, l, "short")
	l.Sync()
	wantLog(t, "shorter", l, []string{"short"}, 1)
	wantDisk(t, "shorter", d, framed("short"), 11)
}

// TestSync (P4.2): all records are synced, on the disk too, and those behind are not.
func TestSync(t *testing.T) {
	d := newDisk(t, room, "")
	l, all := Open(d), []string(nil)
	for _, record := range mayBe() {
		was := len(all)
		all = append(all, record, "and one")
		put(t, l, record, "and one")
		wantLog(t, "not synced", l, all, was)
		for range 2 {
			if err := l.Sync(); err != api.OK {
				t.Errorf("Sync: error %d", err)
			}
			wantLog(t, "synced", l, all, len(all))
			wantDisk(t, "synced", d, framedAll(all), len(framedAll(all)))
		}
	}
}

// TestSyncHeld (P4.2, P4.3): of a held disk Sync tells OK, and that all are synced; a crash leaves those of before.
func TestSyncHeld(t *testing.T) {
	d := newDisk(t, room, "")
	l := Open(d)
	put(t, l, "before")
	l.Sync()
	d.Hold()
	put(t, l, "held")
	if err := l.Sync(); err != api.OK {
		t.Errorf("Sync: error %d", err)
	}
	wantLog(t, "held", l, []string{"before", "held"}, 2)
	wantDisk(t, "held", d, framedAll([]string{"before", "held"}), 6+around)
	d.Crash(0)
	wantLog(t, "after the crash", Open(d), []string{"before"}, 1)
}

// TestCrash (P4.3): whatever is left of what was not synced, those that were synced are there, and whole ones behind them.
func TestCrash(t *testing.T) {
	all := []string{"synced", "too", "not", "and not", rising(300)}
	behind := len(framedAll(all[2:]))
	for keep := -1; keep <= behind+1; keep++ {
		d := newDisk(t, room, "")
		l := Open(d)
		put(t, l, all[:2]...)
		l.Sync()
		put(t, l, all[2:]...)
		d.Crash(keep)
		many := 2
		for many < len(all) && len(framedAll(all[2:many+1])) <= keep {
			many++
		}
		wantLog(t, "after the crash", Open(d), all[:many], many)
		wantDisk(t, "after the crash", d, framedAll(all[:many]), len(framedAll(all[:many])))
	}
}

// A plain is a log on a disk as the chapter tells it; safe is how many records no crash may lose.
type plain struct {
	records      []string
	synced, safe int
	held         bool
}

// crash crashes d, and tells the log that is opened on it then.
func (p *plain) crash(t *testing.T, d *disk.Disk, keep int) *Log {
	t.Helper()
	d.Crash(keep)
	l := Open(d)
	got := l.Records()
	if len(got) < p.safe || len(got) > len(p.records) || !slices.Equal(got, p.records[:len(got)]) {
		t.Fatalf("a crash leaves %d records of %d, %d of them safe", len(got), len(p.records), p.safe)
	}
	*p = plain{records: got, synced: len(got), safe: len(got)}
	return l
}

func (p *plain) sync() {
	p.synced = len(p.records)
	if !p.held {
		p.safe = p.synced
	}
}

// append tells what Append tells, where so many bytes are left.
func (p *plain) append(record string, left int) api.Errno {
	if record == "" || len(record) > most {
		return api.ErrLong
	}
	if len(record)+around > left {
		return api.ErrFull
	}
	p.records = append(p.records, record)
	return api.OK
}

// drawRecord is most times a short one, at times none.
func drawRecord(draw *rand.Rand) string {
	size := draw.Intn(40)
	if draw.Intn(20) == 0 {
		size = most - 2 + draw.Intn(4)
	}
	l := make([]byte, size)
	draw.Read(l)
	return string(l)
}

// TestManySteps (P4.2, P4.3): whatever is done, in whatever order, it is as the words say.
func TestManySteps(t *testing.T) {
	draw := rand.New(rand.NewSource(4))
	for range 100 {
		d := newDisk(t, 1+draw.Intn(30000), "")
		l, p := Open(d), &plain{}
		for i := range 100 {
			switch draw.Intn(12) {
			case 0:
				d.Hold()
				p.held = true
			case 1:
				l = p.crash(t, d, draw.Intn(200)-20)
			case 2:
				// Nothing is lost where nothing crashed.
				*p = plain{records: p.records, synced: len(p.records), safe: len(p.records)}
				l = Open(d)
			case 3, 4:
				l.Sync()
				p.sync()
			default:
				record := drawRecord(draw)
				want := p.append(record, d.Room()-len(d.Bytes()))
				if got := l.Append(record); got != want {
					t.Fatalf("step %d: a record of %d bytes: error %d, not %d", i, len(record), got, want)
				}
			}
			wantLog(t, "step", l, p.records, p.synced)
			if d.Bytes() != framedAll(p.records) || d.Synced() != len(framedAll(p.records[:p.safe])) {
				t.Fatalf("step %d: the disk is otherwise", i)
			}
			if t.Failed() {
				t.FailNow()
			}
		}
	}
}

// TestAnyBytes (P1, P4.1): whatever stands on a disk it is scanned, and its records' frames are what it begins with.
func TestAnyBytes(t *testing.T) {
	draw := rand.New(rand.NewSource(5))
	for range 3000 {
		l := make([]byte, draw.Intn(200))
		draw.Read(l)
		if draw.Intn(2) == 0 && len(l) > 2 {
			l[0], l[1] = byte(draw.Intn(20)), 0
		}
		s := framedAll([]string{"one", "two"}[:draw.Intn(3)]) + string(l)
		records, size := Scan(s)
		if size < 0 || size > len(s) || framedAll(records) != s[:size] {
			t.Fatalf("%q: %q, %d", s, records, size)
		}
		again, more := Scan(s[size:])
		if len(again) != 0 || more != 0 {
			t.Fatalf("%q: behind %d bytes there are %q", s, size, again)
		}
	}
}

// TestFullDisk (P1, P4.2): the greatest disk, full of the shortest records.
func TestFullDisk(t *testing.T) {
	const many = 1 << 24 / (1 + around)
	d := newDisk(t, 1<<24, strings.Repeat(framed("a"), many)+"\x01")
	l := Open(d)
	if got := l.Records(); len(got) != many || l.Synced() != many || got[many-1] != "a" {
		t.Errorf("%d records, %d synced, not %d", len(got), l.Synced(), many)
	}
	if d.Synced() != many*(1+around) || l.Append("a") != api.ErrFull {
		t.Errorf("%d bytes are synced", d.Synced())
	}
}

// TestNewMemory (P3): what is handed in is not kept, and what was told is the asker's own.
func TestNewMemory(t *testing.T) {
	mine := []byte("record")
	d := newDisk(t, room, "")
	l := Open(d)
	put(t, l, unsafe.String(&mine[0], len(mine)), "second")
	clear(mine)
	wantLog(t, "handed in", l, []string{"record", "second"}, 0)
	told := l.Records()
	for i := range told[:cap(told)] {
		told[:cap(told)][i] = "other"
	}
	put(t, l, "third")
	wantLog(t, "told", l, []string{"record", "second", "third"}, 0)
	if told[0] != "other" {
		t.Error("what was told has changed")
	}

	frames := []byte(framed("one") + framed("two"))
	records, _ := Scan(unsafe.String(&frames[0], len(frames)))
	clear(frames)
	if !slices.Equal(records, []string{"one", "two"}) {
		t.Errorf("what was scanned is kept: %q", records)
	}
	short := []byte("one")
	frame, _ := Frame(unsafe.String(&short[0], len(short)))
	clear(short)
	if frame != framed("one") {
		t.Errorf("what was framed is kept: %q", frame)
	}
}

// How many bytes of a frame of 10 a crash may keep so that it is none.
var tooFew = []int{0, 1, 9, -1, math.MinInt, 2, 5, 8}

// TestTwoLogs (P4): what is done to one is nothing to another, whoever else is at work.
func TestTwoLogs(t *testing.T) {
	var all sync.WaitGroup
	for who := range 8 {
		d, mark := newDisk(t, room, ""), strings.Repeat(string(rune('a'+who)), 50)
		all.Go(func() {
			l := Open(d)
			var want []string
			for range 20 {
				l.Append(mark)
				l.Sync()
				want = append(want, mark)
				l.Append("lost")
				d.Crash(tooFew[who])
				l = Open(d)
			}
			wantLog(t, "one of eight", l, want, 20)
		})
	}
	all.Wait()
}
