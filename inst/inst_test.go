package inst

import (
	"encoding/binary"
	"fmt"
	"math"
	"math/rand"
	"reflect"
	"slices"
	"strings"
	"sync"
	"testing"
	"time"
	"unsafe"

	"comitia/attr"
	"comitia/ballot"
	"comitia/cmd"
	"comitia/deps"
)

const last = math.MaxUint32

var statuses = []int{None, Pre, Acc, Com, Done}

var noStatuses = []int{-1, 5, 6, 255, 256, 257, 1 << 32, 1<<32 + 1, math.MinInt, math.MaxInt}

var ids = []deps.ID{{Owner: 1, N: 1}, {Owner: 7, N: deps.MostN}, {Owner: 2, N: 0x030201}, {Owner: 3, N: 255}, {Owner: 3, N: 256}, {Owner: 4, N: 65536}}

var noIDs = []deps.ID{
	{}, {Owner: 0, N: 1}, {Owner: 8, N: 1}, {Owner: -1, N: 1}, {Owner: 257, N: 1}, {Owner: 1<<32 + 1, N: 1}, {Owner: math.MinInt, N: 1}, {Owner: math.MaxInt, N: 1},
	{Owner: 1, N: 0}, {Owner: 1, N: -1}, {Owner: 1, N: deps.MostN + 1}, {Owner: 1, N: 1<<24 + 1}, {Owner: 1, N: 1<<32 + 1}, {Owner: 1, N: math.MinInt}, {Owner: 1, N: math.MaxInt},
}

var cmds = []cmd.Cmd{
	{}, {Op: cmd.Put, Client: 1, Seq: 1, Key: "k", Value: "v"}, {Op: cmd.Get, Client: 2, Seq: 258, Key: "k"}, {Op: cmd.Del, Client: 64, Seq: last, Key: strings.Repeat("k", 16)},
	{Op: cmd.Put, Client: 64, Seq: last, Key: strings.Repeat("\xff", 16), Value: strings.Repeat("\x00", 32)}, {Op: cmd.Put, Client: 9, Seq: 9, Key: "k"},
}

var noCmds = []cmd.Cmd{
	{Client: 1}, {Seq: 1}, {Key: "k"}, {Value: "v"}, {Op: -1, Client: 1, Seq: 1, Key: "k"}, {Op: 4, Client: 1, Seq: 1, Key: "k"}, {Op: 1}, {Op: 1, Seq: 1, Key: "k"},
	{Op: 1, Client: 65, Seq: 1, Key: "k"}, {Op: 1, Client: 1, Key: "k"}, {Op: 1, Client: 1, Seq: 1}, {Op: 1, Client: 1, Seq: 1, Key: strings.Repeat("k", 17)},
	{Op: 1, Client: 1, Seq: 1, Key: "k", Value: strings.Repeat("v", 33)}, {Op: 2, Client: 1, Seq: 1, Key: "k", Value: "v"}, {Op: 3, Client: 1, Seq: 1, Key: "k", Value: "v"},
}

var ballots = []ballot.Ballot{{}, {Round: 1, Who: 1}, {Round: 1, Who: 7}, {Round: 2, Who: 1}, {Round: 0x04030201, Who: 5}, {Round: last, Who: 1}, {Round: last, Who: 7}}

var noBallots = []ballot.Ballot{
	{Who: 1}, {Who: -1}, {Round: 1}, {Round: last}, {Round: 1, Who: 8}, {Round: 1, Who: -1}, {Round: 1, Who: 257}, {Round: 1, Who: 1<<32 + 1}, {Round: 1, Who: math.MinInt}, {Round: 1, Who: math.MaxInt},
}

// of is the instances of owners and numbers, by turns.
func of(l ...int) []deps.ID {
	var all []deps.ID
	for i := 0; i < len(l); i += 2 {
		all = append(all, deps.ID{Owner: l[i], N: l[i+1]})
	}
	return all
}

// long is a set of many, from all owners where there are so many.
func long(many int) []deps.ID {
	l := make([]deps.ID, 0, many)
	for i := range many {
		l = append(l, deps.ID{Owner: 1 + i*7/many, N: 1 + i})
	}
	return l
}

// attrs is ones that are right.
func attrs() []attr.Attr {
	return []attr.Attr{{}, {Deps: []deps.ID{}}, {Seq: 1}, {Seq: last}, {Deps: of(1, 1)}, {Seq: 0x04030201, Deps: of(1, 1, 2, 0x030201, 7, deps.MostN)}, {Seq: 9, Deps: long(400)}}
}

// noAttrs is ones that are not right.
func noAttrs() []attr.Attr {
	return []attr.Attr{{Seq: 1, Deps: of(0, 0)}, {Seq: 1, Deps: of(1, 1, 1, 1)}, {Seq: 1, Deps: of(2, 1, 1, 1)}, {Deps: of(8, 1)}, {Deps: of(1, -1)}, {Seq: 9, Deps: long(401)}}
}

// voted is one of which all is known.
func voted(status int) Inst {
	return Inst{
		ID: deps.ID{Owner: 2, N: 0x030201}, Status: status,
		Cmd:  cmd.Cmd{Op: cmd.Put, Client: 5, Seq: 258, Key: "key", Value: "worth"},
		Attr: attr.Attr{Seq: 7, Deps: of(1, 2, 3, 4)},
		Bal:  ballot.Ballot{Round: 3, Who: 2}, Vote: ballot.Ballot{Round: 2, Who: 5}, Own: true,
	}
}

// rights is ones that are right, each part of which goes through all that it may be.
func rights() []Inst {
	var l []Inst
	for _, b := range ballots {
		i := New(ids[0])
		i.Bal = b
		l = append(l, i)
	}
	for _, status := range statuses[1:] {
		base := voted(status)
		for _, id := range ids {
			i := base
			i.ID = id
			l = append(l, i)
		}
		for n, c := range cmds {
			i := base
			i.Cmd, i.Own = c, n%2 == 0
			l = append(l, i)
		}
		for _, a := range attrs() {
			i := base
			i.Attr = a
			l = append(l, i)
		}
		for n := range ballots {
			for m := range n + 1 {
				i := base
				i.Bal, i.Vote = ballots[n], ballots[m]
				l = append(l, i)
			}
		}
	}
	return l
}

// wrongs is ones none of which is right, each by one part alone.
func wrongs() []Inst {
	var l []Inst
	change := func(what func(*Inst)) {
		for _, i := range []Inst{New(ids[0]), voted(Pre), voted(Acc), voted(Com), voted(Done)} {
			what(&i)
			l = append(l, i)
		}
	}
	for _, id := range noIDs {
		change(func(i *Inst) { i.ID = id })
	}
	for _, status := range noStatuses {
		change(func(i *Inst) { i.Status = status })
	}
	for _, c := range noCmds {
		change(func(i *Inst) { i.Cmd = c })
	}
	for _, a := range noAttrs() {
		change(func(i *Inst) { i.Attr = a })
	}
	for _, b := range noBallots {
		change(func(i *Inst) { i.Bal = b })
		change(func(i *Inst) { i.Vote, i.Bal = b, ballot.Ballot{Round: last, Who: 7} })
	}
	for n := range ballots {
		for m := range n {
			change(func(i *Inst) { i.Bal, i.Vote = ballots[m], ballots[n] })
		}
	}
	return append(l, halves()...)
}

// halves is ones of which nothing is known, but one thing is.
func halves() []Inst {
	var l []Inst
	change := func(what func(*Inst)) {
		i := New(ids[0])
		what(&i)
		l = append(l, i)
	}
	for _, c := range cmds[1:] {
		change(func(i *Inst) { i.Cmd = c })
	}
	for _, a := range attrs()[2:] {
		change(func(i *Inst) { i.Attr = a })
	}
	for _, b := range ballots[1:] {
		change(func(i *Inst) { i.Bal, i.Vote = b, b })
		change(func(i *Inst) { i.Bal, i.Vote = ballot.Ballot{Round: last, Who: 7}, b })
	}
	change(func(i *Inst) { i.Own = true })
	change(func(i *Inst) { *i = voted(None) })
	return l
}

// pick is one of l.
func pick[T any](draw *rand.Rand, l []T) T { return l[draw.Intn(len(l))] }

// sometimes is one of few, and seldom one of wrong.
func sometimes[T any](draw *rand.Rand, few, wrong []T) T {
	if draw.Intn(12) == 0 {
		return pick(draw, wrong)
	}
	return pick(draw, few)
}

// drawnAny is one that is often not right.
func drawnAny(draw *rand.Rand) Inst {
	i := Inst{
		ID: sometimes(draw, ids, noIDs), Status: sometimes(draw, statuses, noStatuses), Cmd: sometimes(draw, cmds, noCmds),
		Attr: sometimes(draw, attrs()[:6], noAttrs()), Bal: sometimes(draw, ballots, noBallots), Vote: sometimes(draw, ballots, noBallots), Own: draw.Intn(2) == 0,
	}
	switch draw.Intn(5) {
	case 0:
		return Inst{ID: i.ID, Bal: i.Bal}
	case 1:
		i.Bal = i.Vote
	}
	return i
}

// isOver is whether a is over b, by the words.
func isOver(a, b ballot.Ballot) bool { return a.Round > b.Round || a.Round == b.Round && a.Who > b.Who }

// isBallot is whether b is right, by the words.
func isBallot(b ballot.Ballot) bool {
	return b.Who >= 0 && b.Who <= 7 && (b.Round == 0) == (b.Who == 0)
}

// isRight is whether i is right, by the chapters' words.
func isRight(i Inst) bool {
	if i.ID.Owner < 1 || i.ID.Owner > 7 || i.ID.N < 1 || i.ID.N > 16777215 || i.Status < 0 || i.Status > 4 {
		return false
	}
	if !cmd.Right(i.Cmd) || !attr.Right(i.Attr) || !isBallot(i.Bal) || !isBallot(i.Vote) || isOver(i.Vote, i.Bal) {
		return false
	}
	if i.Status == 0 {
		return i.Cmd == cmd.Cmd{} && i.Attr.Seq == 0 && len(i.Attr.Deps) == 0 && i.Vote == ballot.Ballot{} && !i.Own
	}
	return true
}

// isSame is whether all of a and b is the same.
func isSame(a, b Inst) bool {
	deps := slices.Equal(a.Attr.Deps, b.Attr.Deps)
	a.Attr.Deps, b.Attr.Deps = nil, nil
	return deps && reflect.DeepEqual(a, b)
}

// laid is i as bytes, right or not, by the library: the lowest byte first.
func laid(i Inst) string {
	b := []byte{byte(i.ID.Owner), byte(i.ID.N), byte(i.ID.N >> 8), byte(i.ID.N >> 16), byte(i.Status)}
	b = append(b, byte(i.Cmd.Op), byte(i.Cmd.Client))
	b = binary.LittleEndian.AppendUint32(b, i.Cmd.Seq)
	for _, s := range []string{i.Cmd.Key, i.Cmd.Value} {
		b = binary.LittleEndian.AppendUint16(b, uint16(len(s)))
		b = append(b, s...)
	}
	b = binary.LittleEndian.AppendUint32(b, i.Attr.Seq)
	b = binary.LittleEndian.AppendUint16(b, uint16(len(i.Attr.Deps)))
	for _, id := range i.Attr.Deps {
		b = append(b, byte(id.Owner), byte(id.N), byte(id.N>>8), byte(id.N>>16))
	}
	for _, one := range []ballot.Ballot{i.Bal, i.Vote} {
		b = binary.LittleEndian.AppendUint32(b, one.Round)
		b = append(b, byte(one.Who))
	}
	if i.Own {
		return string(append(b, 1))
	}
	return string(append(b, 0))
}

// copied is i with Deps of its own.
func copied(i Inst) Inst {
	i.Attr.Deps = slices.Clone(i.Attr.Deps)
	return i
}

// want fails if i is another.
func want(t *testing.T, what string, i, right Inst) {
	t.Helper()
	if !isSame(i, right) {
		t.Fatalf("%s is %+v, not %+v", what, i, right)
	}
}

// TestStatuses (P10.1): the statuses by their numbers.
func TestStatuses(t *testing.T) {
	if !slices.Equal(statuses, []int{0, 1, 2, 3, 4}) {
		t.Error(statuses)
	}
}

// TestNew (P10.1): of any ID, right or not, nothing is known.
func TestNew(t *testing.T) {
	for _, id := range append(ids, noIDs...) {
		i := New(id)
		want(t, "a new one", i, Inst{ID: id})
		if Right(i) != deps.Right(id) {
			t.Errorf("the new one of %v is right: %v", id, Right(i))
		}
	}
}

// TestRight (P10.1): each part may be all that is right, and no other.
func TestRight(t *testing.T) {
	for _, i := range rights() {
		if !Right(i) {
			t.Errorf("not right: %+v", i)
		}
	}
	for _, i := range wrongs() {
		if Right(i) {
			t.Errorf("right: %+v", i)
		}
	}
}

// TestRightNone (P10.1): of None the ballot that was promised may be any, and Deps may be empty, or nil.
func TestRightNone(t *testing.T) {
	for _, b := range ballots {
		i := New(ids[1])
		i.Bal, i.Attr.Deps = b, []deps.ID{}
		if !Right(i) {
			t.Errorf("not right: %+v", i)
		}
	}
	for _, i := range halves() {
		if Right(i) {
			t.Errorf("right: %+v", i)
		}
		if i.Status = Pre; !Right(i) {
			t.Errorf("not right: %+v", i)
		}
	}
}

// TestRightDrawn (P10.1): of drawn ones those that the words say.
func TestRightDrawn(t *testing.T) {
	draw := rand.New(rand.NewSource(10))
	many := 0
	for range 50000 {
		i := drawnAny(draw)
		got := Right(i)
		if got != isRight(i) {
			t.Fatalf("%+v is right: %v", i, got)
		}
		if got {
			many++
		}
	}
	if many < 5000 || many > 45000 {
		t.Errorf("%d were right", many)
	}
}

// TestSame (P10.1): each piece is held against the other's; Deps of nothing are the same, nil or empty.
func TestSame(t *testing.T) {
	for n, change := range []func(*Inst){
		func(i *Inst) { i.ID.Owner = 3 }, func(i *Inst) { i.ID.N++ }, func(i *Inst) { i.ID.N += 1 << 32 }, func(i *Inst) { i.ID.Owner += 256 },
		func(i *Inst) { i.Status = Done }, func(i *Inst) { i.Status = None }, func(i *Inst) { i.Status += 256 },
		func(i *Inst) { i.Cmd.Op = cmd.Del }, func(i *Inst) { i.Cmd.Client++ }, func(i *Inst) { i.Cmd.Seq += 1 << 24 }, func(i *Inst) { i.Cmd.Key += "s" }, func(i *Inst) { i.Cmd.Value = "" },
		func(i *Inst) { i.Attr.Seq++ }, func(i *Inst) { i.Attr.Seq += 1 << 31 }, func(i *Inst) { i.Attr.Deps = nil }, func(i *Inst) { i.Attr.Deps = of(1, 2, 3, 5) }, func(i *Inst) { i.Attr.Deps = of(1, 2) },
		func(i *Inst) { i.Bal.Round++ }, func(i *Inst) { i.Bal.Who++ }, func(i *Inst) { i.Vote.Round-- }, func(i *Inst) { i.Vote.Who-- }, func(i *Inst) { i.Bal, i.Vote = i.Vote, i.Bal },
		func(i *Inst) { i.Own = false },
	} {
		for _, status := range statuses {
			a, b := voted(status), voted(status)
			if !Same(a, b) {
				t.Fatalf("%+v is another than itself", a)
			}
			change(&b)
			if is := isSame(a, b); Same(a, b) != is || Same(b, a) != is || !Same(b, copied(b)) {
				t.Errorf("%d: %+v, %+v are the same: %v", n, a, b, Same(a, b))
			}
		}
	}
	a, b := New(ids[0]), New(ids[0])
	a.Attr.Deps = []deps.ID{}
	if !Same(a, b) || !Same(b, a) || !Same(Inst{}, Inst{}) {
		t.Error("ones of no Deps are not the same")
	}
}

// TestSameDrawn (P10.1): of any two, right or not, by the words.
func TestSameDrawn(t *testing.T) {
	draw := rand.New(rand.NewSource(101))
	for range 20000 {
		a, b := drawnAny(draw), drawnAny(draw)
		if draw.Intn(2) == 0 {
			b = copied(a)
		}
		if got := Same(a, b); got != isSame(a, b) {
			t.Fatalf("Same(%+v, %+v) is %v", a, b, got)
		}
	}
}

// turn is a call that turns an instance, and what the words say comes of it.
type turn struct {
	name string
	call func(i Inst) (Inst, bool)
	may  func(i Inst) bool
	then func(i Inst) Inst
}

// turns is all calls, at b, of c and a.
func turns(b ballot.Ballot, c cmd.Cmd, a attr.Attr) []turn {
	below := func(i Inst) bool { return i.Status < 3 }
	votes := func(i Inst) bool { return i.Status < 3 && !isOver(i.Bal, b) }
	pre := func(own bool) turn {
		return turn{
			fmt.Sprint("PreAccept ", own),
			func(i Inst) (Inst, bool) { return i.PreAccept(b, c, a, own) },
			func(i Inst) bool { return votes(i) && (i.Status == 0 || isOver(b, i.Vote)) },
			func(i Inst) Inst { return Inst{i.ID, 1, c, a, b, b, own} },
		}
	}
	return []turn{
		{
			"Promise",
			func(i Inst) (Inst, bool) { return i.Promise(b) },
			func(i Inst) bool { return below(i) && isOver(b, i.Bal) },
			func(i Inst) Inst { return Inst{i.ID, i.Status, i.Cmd, i.Attr, b, i.Vote, i.Own} },
		},
		pre(true), pre(false),
		{
			"Accept",
			func(i Inst) (Inst, bool) { return i.Accept(b, c, a) },
			func(i Inst) bool { return votes(i) && (i.Status != 2 || isOver(b, i.Vote)) },
			func(i Inst) Inst { return Inst{i.ID, 2, c, a, b, b, false} },
		},
		{
			"Commit",
			func(i Inst) (Inst, bool) { return i.Commit(c, a) },
			below,
			func(i Inst) Inst { return Inst{i.ID, 3, c, a, i.Bal, i.Vote, i.Own} },
		},
		{
			"Execute",
			func(i Inst) (Inst, bool) { return i.Execute() },
			func(i Inst) bool { return i.Status == 3 },
			func(i Inst) Inst { return Inst{i.ID, 4, i.Cmd, i.Attr, i.Bal, i.Vote, i.Own} },
		},
	}
}

// wantTurn fails if what comes of i by one, or i itself, is not what the words say.
func wantTurn(t *testing.T, one turn, i Inst) {
	t.Helper()
	was, right, may := copied(i), i, one.may(i)
	if may {
		right = one.then(i)
	}
	got, ok := one.call(i)
	if ok != may {
		t.Fatalf("%s of %+v is %v", one.name, i, ok)
	}
	want(t, one.name, got, right)
	want(t, "what it was called of", i, was)
}

// TestTurns (P10.2): at each status, and each order of the three ballots, each call turns what the words say, or leaves it as it is.
func TestTurns(t *testing.T) {
	c, a := cmds[2], attr.Attr{Seq: 70, Deps: of(4, 4, 5, 5)}
	for _, status := range append(statuses, noStatuses...) {
		for _, bal := range ballots {
			for _, vote := range ballots {
				i := voted(status)
				i.Bal, i.Vote = bal, vote
				for _, b := range ballots {
					for _, one := range turns(b, c, a) {
						wantTurn(t, one, i)
						i.Own = !i.Own
						wantTurn(t, one, i)
					}
				}
			}
		}
	}
}

// TestTurnsOfAll (P10.2): of all that are right, and of all that are not; of what is handed in as it is.
func TestTurnsOfAll(t *testing.T) {
	for _, i := range append(rights(), wrongs()...) {
		for _, b := range ballots {
			for n, c := range cmds {
				for _, one := range turns(b, c, attrs()[n]) {
					wantTurn(t, one, i)
				}
			}
		}
	}
}

// TestPromiseKnown (P10.2): over what was promised alone, whatever was voted; no more once it is committed.
func TestPromiseKnown(t *testing.T) {
	low, high := ballot.Ballot{Round: 3, Who: 2}, ballot.Ballot{Round: 3, Who: 3}
	for _, c := range []struct {
		status int
		b      ballot.Ballot
		ok     bool
	}{
		{None, high, true}, {Pre, high, true}, {Acc, high, true}, {Com, high, false}, {Done, high, false},
		{None, low, false}, {Pre, low, false}, {Acc, low, false}, {Com, low, false}, {Done, low, false},
		{Pre, ballot.Ballot{}, false}, {Pre, ballot.Ballot{Round: 2, Who: 7}, false}, {Pre, ballot.Ballot{Round: 4, Who: 1}, true},
	} {
		i := voted(c.status)
		right := i
		if c.ok {
			right.Bal = c.b
		}
		got, ok := i.Promise(c.b)
		if want(t, fmt.Sprintf("at %d Promise of %v", c.status, c.b), got, right); ok != c.ok {
			t.Errorf("at %d Promise of %v is %v", c.status, c.b, ok)
		}
	}
}

// TestVoteKnown (P10.2): step by step, what may be voted, and what may not.
func TestVoteKnown(t *testing.T) {
	var zero ballot.Ballot
	one, two := ballot.Ballot{Round: 1, Who: 2}, ballot.Ballot{Round: 2, Who: 1}
	c, d := cmds[1], cmds[2]
	a, e := attr.Attr{Seq: 1}, attr.Attr{Seq: 2, Deps: of(1, 1)}
	i := New(deps.ID{Owner: 1, N: 9})
	for n, step := range []struct {
		call  func() (Inst, bool)
		ok    bool
		right Inst
	}{
		{func() (Inst, bool) { return i.Execute() }, false, i},
		{func() (Inst, bool) { return i.PreAccept(zero, c, a, true) }, true, Inst{i.ID, Pre, c, a, zero, zero, true}},
		{func() (Inst, bool) { return i.PreAccept(zero, d, e, false) }, false, Inst{i.ID, Pre, c, a, zero, zero, true}},
		{func() (Inst, bool) { return i.Promise(zero) }, false, Inst{i.ID, Pre, c, a, zero, zero, true}},
		{func() (Inst, bool) { return i.Promise(one) }, true, Inst{i.ID, Pre, c, a, one, zero, true}},
		{func() (Inst, bool) { return i.Accept(zero, d, e) }, false, Inst{i.ID, Pre, c, a, one, zero, true}},
		{func() (Inst, bool) { return i.PreAccept(one, d, e, false) }, true, Inst{i.ID, Pre, d, e, one, one, false}},
		{func() (Inst, bool) { return i.PreAccept(one, c, a, true) }, false, Inst{i.ID, Pre, d, e, one, one, false}},
		{func() (Inst, bool) { return i.Accept(one, c, e) }, true, Inst{i.ID, Acc, c, e, one, one, false}},
		{func() (Inst, bool) { return i.Accept(one, d, a) }, false, Inst{i.ID, Acc, c, e, one, one, false}},
		{func() (Inst, bool) { return i.PreAccept(one, d, a, true) }, false, Inst{i.ID, Acc, c, e, one, one, false}},
		{func() (Inst, bool) { return i.PreAccept(two, d, a, true) }, true, Inst{i.ID, Pre, d, a, two, two, true}},
		{func() (Inst, bool) { return i.Accept(one, c, e) }, false, Inst{i.ID, Pre, d, a, two, two, true}},
		{func() (Inst, bool) { return i.Execute() }, false, Inst{i.ID, Pre, d, a, two, two, true}},
		{func() (Inst, bool) { return i.Commit(c, e) }, true, Inst{i.ID, Com, c, e, two, two, true}},
		{func() (Inst, bool) { return i.Commit(d, a) }, false, Inst{i.ID, Com, c, e, two, two, true}},
		{func() (Inst, bool) { return i.Execute() }, true, Inst{i.ID, Done, c, e, two, two, true}},
		{func() (Inst, bool) { return i.Execute() }, false, Inst{i.ID, Done, c, e, two, two, true}},
		{func() (Inst, bool) { return i.Commit(d, a) }, false, Inst{i.ID, Done, c, e, two, two, true}},
		{func() (Inst, bool) { return i.Promise(ballot.Ballot{Round: last, Who: 7}) }, false, Inst{i.ID, Done, c, e, two, two, true}},
	} {
		got, ok := step.call()
		if want(t, fmt.Sprint("step ", n), got, step.right); ok != step.ok {
			t.Fatalf("step %d is %v", n, ok)
		}
		i = got
	}
}

// TestNewTurns (P10.2): what may be of a new one, the chapter's example among them.
func TestNewTurns(t *testing.T) {
	i := New(ids[0])
	if got, ok := i.Execute(); ok || !Same(got, i) {
		t.Error("a new one is executed")
	}
	if got, ok := i.Accept(ballot.Ballot{}, cmds[1], attrs()[2]); !ok || got.Status != Acc {
		t.Error("a new one is not accepted at zero")
	}
	if got, ok := i.Commit(cmds[1], attrs()[2]); !ok || got.Status != Com || !Right(got) {
		t.Error("a new one is not committed")
	}
	if got, ok := i.Commit(cmd.Cmd{}, attr.Attr{}); !ok || got.Status != Com || !Right(got) {
		t.Error("a new one is not committed, of a Noop")
	}
}

// wantKept fails if what was is not kept in what is, behind a call that may have cast a vote.
func wantKept(t *testing.T, was, is Inst, promised ballot.Ballot, cast bool) {
	t.Helper()
	back := is.Status < was.Status
	switch {
	case !Right(is):
		t.Fatalf("%+v is not right", is)
	case isOver(was.Bal, is.Bal), isOver(was.Vote, is.Vote):
		t.Fatalf("the ballots fell: %+v, %+v", was, is)
	case back && (was.Bal == is.Bal && was.Vote == is.Vote || was.Status != Acc || is.Status != Pre || !isOver(is.Vote, was.Vote)):
		t.Fatalf("the status fell: %+v, %+v", was, is)
	case cast && isOver(promised, is.Vote):
		t.Fatalf("a vote is below %v: %+v", promised, is)
	case was.Status >= Com && (is.Status < Com || is.Cmd != was.Cmd || !isSame(is, Inst{was.ID, is.Status, was.Cmd, was.Attr, was.Bal, was.Vote, was.Own})):
		t.Fatalf("what was committed did not stay: %+v, %+v", was, is)
	}
}

// TestKept (P10.4): whatever is done, what was promised, voted and committed is kept, and what is right stays so.
func TestKept(t *testing.T) {
	draw := rand.New(rand.NewSource(102))
	falls, done := 0, 0
	for range 3000 {
		i := New(pick(draw, ids))
		promised := i.Bal
		for range 30 {
			b := pick(draw, ballots)
			all := turns(b, pick(draw, cmds), pick(draw, attrs()))
			one := pick(draw, all)
			if one.name == "Commit" && draw.Intn(4) > 0 {
				one = all[0]
			}
			got, ok := one.call(i)
			wantKept(t, i, got, promised, ok && got.Vote == b && (one.name == "Accept" || strings.HasPrefix(one.name, "PreAccept")))
			if ok && isOver(got.Bal, promised) {
				promised = got.Bal
			}
			if got.Status < i.Status {
				falls++
			}
			i = got
		}
		if i.Status == Done {
			done++
		}
	}
	if falls < 100 || done < 100 {
		t.Errorf("only %d fell at a greater ballot, and %d were done", falls, done)
	}
}

// TestOneVote (P10.4): at one ballot there is one PreAccept at most, then one Accept at most, and no other way round.
func TestOneVote(t *testing.T) {
	draw := rand.New(rand.NewSource(103))
	for range 3000 {
		i := New(pick(draw, ids))
		votes := map[ballot.Ballot]string{}
		for range 20 {
			b := pick(draw, ballots)
			one := pick(draw, turns(b, pick(draw, cmds), pick(draw, attrs()))[1:4])
			got, ok := one.call(i)
			if ok {
				votes[b] += one.name[:1]
			}
			i = got
		}
		for b, l := range votes {
			if l != "P" && l != "A" && l != "PA" {
				t.Fatalf("at %v it was voted %s", b, l)
			}
		}
	}
}

// TestPutKnown (P10.3): each part, by its bytes.
func TestPutKnown(t *testing.T) {
	i := voted(Acc)
	for _, c := range []struct {
		i    Inst
		want string
	}{
		{New(deps.ID{Owner: 1, N: 1}), "\x01\x01\x00\x00\x00" + strings.Repeat("\x00", 10) + strings.Repeat("\x00", 6) + strings.Repeat("\x00", 11)},
		{i, "\x02\x01\x02\x03\x02" + "\x01\x05\x02\x01\x00\x00\x03\x00key\x05\x00worth" + "\x07\x00\x00\x00\x02\x00\x01\x02\x00\x00\x03\x04\x00\x00" +
			"\x03\x00\x00\x00\x02" + "\x02\x00\x00\x00\x05" + "\x01"},
	} {
		if got, ok := Put(c.i); got != c.want || !ok {
			t.Errorf("Put of %+v is %q, %v, not %q", c.i, got, ok, c.want)
		}
	}
}

// TestPut (P10.3, P2): of all that are right; false, and nothing, of others.
func TestPut(t *testing.T) {
	for _, i := range rights() {
		if got, ok := Put(i); got != laid(i) || !ok {
			t.Fatalf("Put of %+v is %q, %v", i, got, ok)
		}
	}
	for _, i := range wrongs() {
		if got, ok := Put(i); got != "" || ok {
			t.Fatalf("Put of %+v is %q, %v", i, got, ok)
		}
	}
	draw := rand.New(rand.NewSource(104))
	for range 20000 {
		i := drawnAny(draw)
		bytes := ""
		if isRight(i) {
			bytes = laid(i)
		}
		if got, ok := Put(i); got != bytes || ok != isRight(i) {
			t.Fatalf("Put of %+v is %q, %v", i, got, ok)
		}
	}
}

// wantNone fails if s is the Put of any.
func wantNone(t *testing.T, s string) {
	t.Helper()
	got, ok := Get(s)
	if ok || got.Attr.Deps != nil || !isSame(got, Inst{}) {
		t.Fatalf("Get of %q is %+v, %v", s, got, ok)
	}
}

// TestGet (P10.3): what Put tells is read again.
func TestGet(t *testing.T) {
	for _, i := range rights() {
		got, ok := Get(laid(i))
		if want(t, "what is read", got, i); !ok || !Same(got, i) {
			t.Fatalf("Get of what Put tells of %+v is %v", i, ok)
		}
	}
}

// TestGetShort (P10.3, P2): cut anywhere, or with more behind it, there is none.
func TestGetShort(t *testing.T) {
	for _, i := range append(rights()[:8], voted(Acc), voted(Done), rights()[40]) {
		all := laid(i)
		for left := range len(all) {
			wantNone(t, all[:left])
		}
		for _, rest := range []string{"\x00", "\x01", "rest", all} {
			wantNone(t, all+rest)
		}
		wantNone(t, "\x00"+all)
	}
}

// TestGetWrong (P10.3, P2): what is not right is none.
func TestGetWrong(t *testing.T) {
	for _, i := range wrongs() {
		// What has more bytes than are put may be right by its lowest ones.
		if hasBytes(i) {
			wantNone(t, laid(i))
		}
	}
	all := laid(voted(Pre))
	for b := 2; b < 256; b++ {
		wantNone(t, all[:len(all)-1]+string([]byte{byte(b)}))
	}
	for b := 5; b < 256; b++ {
		wantNone(t, all[:4]+string([]byte{byte(b)})+all[5:])
	}
}

// hasBytes is whether all of i is in the bytes that are put of it.
func hasBytes(i Inst) bool {
	for _, id := range append([]deps.ID{i.ID}, i.Attr.Deps...) {
		if !isByte(id.Owner) || id.N < 0 || id.N >= 1<<24 {
			return false
		}
	}
	return isByte(i.Status) && isByte(i.Cmd.Op) && isByte(i.Bal.Who) && isByte(i.Vote.Who)
}

func isByte(n int) bool { return n >= 0 && n <= 255 }

// TestGetAny (P10.3, P1): of whatever bytes there are, what is read is right, and is put as them again.
func TestGetAny(t *testing.T) {
	draw := rand.New(rand.NewSource(105))
	all := rights()
	many := 0
	for range 100000 {
		b := []byte(laid(pick(draw, all)))
		for range draw.Intn(3) {
			b[draw.Intn(len(b))] += byte(draw.Intn(4) - 1)
		}
		s := string(b)
		got, ok := Get(s)
		if !ok {
			wantNone(t, s)
			continue
		}
		many++
		if again, ok := Put(got); !ok || !isRight(got) || again != s {
			t.Fatalf("Get of %q is %+v", s, got)
		}
	}
	if many < 10000 || many > 99000 {
		t.Errorf("%d were read", many)
	}
	for range 20000 {
		b := make([]byte, draw.Intn(60))
		draw.Read(b)
		if got, ok := Get(string(b)); ok != isRight(got) {
			t.Fatalf("Get of %q is %+v, %v", b, got, ok)
		}
	}
}

// TestKeeps (P3): nothing is written into Deps, nor behind them.
func TestKeeps(t *testing.T) {
	draw := rand.New(rand.NewSource(106))
	for range 3000 {
		i, j := drawnAny(draw), drawnAny(draw)
		wholeI, wholeJ := append(i.Attr.Deps, of(7, 1, 7, 2)...), append(j.Attr.Deps, of(7, 3)...)
		wasI, wasJ := slices.Clone(wholeI), slices.Clone(wholeJ)
		i.Attr.Deps, j.Attr.Deps = wholeI[:len(wholeI)-2], wholeJ[:len(wholeJ)-1]
		for _, one := range turns(pick(draw, ballots), j.Cmd, j.Attr) {
			wantTurn(t, one, i)
		}
		Right(i)
		Same(i, j)
		Put(i)
		if !slices.Equal(wholeI, wasI) || !slices.Equal(wholeJ, wasJ) {
			t.Fatalf("%v is %v, %v is %v", wasI, wholeI, wasJ, wholeJ)
		}
	}
}

// TestOwn (P3): what was read, or put, stays, though what it was made of is changed.
func TestOwn(t *testing.T) {
	mine := []byte(laid(voted(Acc)))
	got, ok := Get(unsafe.String(&mine[0], len(mine)))
	clear(mine)
	if want(t, "what was read", got, voted(Acc)); !ok {
		t.Error("nothing was read")
	}
	again, _ := Get(laid(voted(Acc)))
	l := got.Attr.Deps[:cap(got.Attr.Deps)]
	clear(l)
	want(t, "what was read again", again, voted(Acc))
	i := voted(Acc)
	s, _ := Put(i)
	clear(i.Attr.Deps)
	if s != laid(voted(Acc)) {
		t.Errorf("what was put is %q now", s)
	}
}

// TestAny (P1): whatever is handed in, right or not, all calls end.
func TestAny(t *testing.T) {
	draw := rand.New(rand.NewSource(107))
	for range 20000 {
		i, j := drawnAny(draw), drawnAny(draw)
		for _, one := range turns(pick(draw, noBallots), j.Cmd, j.Attr) {
			got, _ := one.call(i)
			if got.ID != i.ID {
				t.Fatalf("%s of %+v is %+v", one.name, i, got)
			}
		}
	}
}

// TestLong (P1): long parts end all calls, and soon.
func TestLong(t *testing.T) {
	begun := time.Now()
	text := strings.Repeat("k", 1<<24)
	i := voted(Acc)
	i.Attr.Deps, i.Cmd.Key, i.Cmd.Value = long(1<<20), text, text
	if _, ok := Put(i); ok || Right(i) || !Same(i, copied(i)) {
		t.Error("a long one is right, is put, or is another than itself")
	}
	for _, one := range turns(ballot.Ballot{Round: 9, Who: 1}, i.Cmd, i.Attr) {
		one.call(i)
	}
	for _, s := range []string{text, laid(voted(Acc)) + text, strings.Repeat("\x00", 1<<24), strings.Repeat("\x01", 1<<24), strings.Repeat("\xff", 1<<24)} {
		if got, ok := Get(s); ok || !isSame(got, Inst{}) {
			t.Error("of a long text one is read")
		}
	}
	if took := time.Since(begun); took > 30*time.Second {
		t.Errorf("it took %v", took)
	}
}

// TestSameAgain (P4): the same answers again, whoever else asks.
func TestSameAgain(t *testing.T) {
	i, s := voted(Acc), laid(voted(Acc))
	var all sync.WaitGroup
	for range 8 {
		all.Go(func() {
			for range 50 {
				for _, one := range turns(ballot.Ballot{Round: 9, Who: 1}, cmds[1], attrs()[6]) {
					if got, ok := one.call(i); ok != one.may(i) || ok && !Same(got, one.then(i)) {
						t.Errorf("%s is %+v, %v", one.name, got, ok)
					}
				}
				put, ok := Put(i)
				got, is := Get(s)
				if put != s || !ok || !Same(got, i) || !is || !Right(i) || Same(i, New(i.ID)) {
					t.Error("Put, Get, Right or Same tells another thing")
				}
			}
		})
	}
	all.Wait()
}
