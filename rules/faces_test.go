package rules

import (
	"testing"

	"comitia/api"
	"comitia/attr"
	"comitia/bag"
	"comitia/ballot"
	"comitia/beat"
	"comitia/choose"
	"comitia/cluster"
	"comitia/cmd"
	"comitia/crc"
	"comitia/deps"
	"comitia/disk"
	"comitia/graph"
	"comitia/index"
	"comitia/inst"
	"comitia/judge"
	"comitia/order"
	"comitia/pack"
	"comitia/place"
	"comitia/replica"
	"comitia/store"
	"comitia/tally"
	"comitia/wait"
	"comitia/wal"
	"comitia/wire"
)

// The calls of every layer, by their types: a call that is gone, or is otherwise,
// does not compile here.
var (
	_ func(s string) uint32             = crc.Sum
	_ func(sum uint32, s string) uint32 = crc.Add
	_ func(s string, sum uint32) bool   = crc.Check

	_ func(n uint64, size int) string                     = pack.Number
	_ func(s string) (string, bool)                       = pack.Text
	_ func(is bool) string                                = pack.Flag
	_ func(r pack.Reader, size int) (uint64, pack.Reader) = pack.Reader.Number
	_ func(r pack.Reader) (string, pack.Reader)           = pack.Reader.Text
	_ func(r pack.Reader) (bool, pack.Reader)             = pack.Reader.Flag
	_ func(r pack.Reader, many int) (string, pack.Reader) = pack.Reader.Bytes
	_ func(r pack.Reader) bool                            = pack.Reader.Done

	_ func(room int) (*disk.Disk, api.Errno) = disk.New
	_ func(d *disk.Disk, s string) api.Errno = (*disk.Disk).Append
	_ func(d *disk.Disk) api.Errno           = (*disk.Disk).Sync
	_ func(d *disk.Disk)                     = (*disk.Disk).Hold
	_ func(d *disk.Disk, keep int)           = (*disk.Disk).Crash
	_ func(d *disk.Disk, size int) api.Errno = (*disk.Disk).Cut
	_ func(d *disk.Disk, more int) api.Errno = (*disk.Disk).Grow
	_ func(d *disk.Disk) string              = (*disk.Disk).Bytes
	_ func(d *disk.Disk) int                 = (*disk.Disk).Synced
	_ func(d *disk.Disk) int                 = (*disk.Disk).Room

	_ func(record string) (string, bool)          = wal.Frame
	_ func(s string) (records []string, size int) = wal.Scan
	_ func(d *disk.Disk) *wal.Log                 = wal.Open
	_ func(l *wal.Log, record string) api.Errno   = (*wal.Log).Append
	_ func(l *wal.Log) api.Errno                  = (*wal.Log).Sync
	_ func(l *wal.Log) []string                   = (*wal.Log).Records
	_ func(l *wal.Log) int                        = (*wal.Log).Synced

	_ func(p complex128) bool                     = place.Right
	_ func(a, b complex128) uint64                = place.Far
	_ func(p complex128, quarters int) complex128 = place.Spin
	_ func(n int) []complex128                    = place.Ring
	_ func(l []complex128, me int) []int          = place.Order

	_ func(b ballot.Ballot) bool                           = ballot.Ballot.Zero
	_ func(b ballot.Ballot) bool                           = ballot.Right
	_ func(a, b ballot.Ballot) int                         = ballot.Order
	_ func(b ballot.Ballot, who int) (ballot.Ballot, bool) = ballot.Next
	_ func(b ballot.Ballot) string                         = ballot.Ballot.Put
	_ func(r pack.Reader) (ballot.Ballot, pack.Reader)     = ballot.Get
	_ func(b ballot.Ballot) string                         = ballot.Text

	_ func(c cmd.Cmd) bool                       = cmd.Right
	_ func(a, b cmd.Cmd) bool                    = cmd.Clash
	_ func(c cmd.Cmd) (string, bool)             = cmd.Bytes
	_ func(r pack.Reader) (cmd.Cmd, pack.Reader) = cmd.Read
	_ func(c cmd.Cmd) string                     = cmd.Text

	_ func(id deps.ID) bool                        = deps.Right
	_ func(a, b deps.ID) int                       = deps.Order
	_ func(l []deps.ID) bool                       = deps.Set
	_ func(l []deps.ID, id deps.ID) bool           = deps.Has
	_ func(l []deps.ID, id deps.ID) []deps.ID      = deps.Add
	_ func(a, b []deps.ID) []deps.ID               = deps.Join
	_ func(a, b []deps.ID) []deps.ID               = deps.Less
	_ func(l []deps.ID) (string, bool)             = deps.Put
	_ func(r pack.Reader) ([]deps.ID, pack.Reader) = deps.Get
	_ func(l []deps.ID) string                     = deps.Text

	_ func(a attr.Attr) bool                       = attr.Right
	_ func(a, b attr.Attr) bool                    = attr.Same
	_ func(a, b attr.Attr) attr.Attr               = attr.Join
	_ func(a attr.Attr) (string, bool)             = attr.Put
	_ func(r pack.Reader) (attr.Attr, pack.Reader) = attr.Get
	_ func(a attr.Attr) string                     = attr.Text

	_ func(id deps.ID) inst.Inst                                                             = inst.New
	_ func(i inst.Inst) bool                                                                 = inst.Right
	_ func(a, b inst.Inst) bool                                                              = inst.Same
	_ func(i inst.Inst, b ballot.Ballot) (inst.Inst, bool)                                   = inst.Inst.Promise
	_ func(i inst.Inst, b ballot.Ballot, c cmd.Cmd, a attr.Attr, own bool) (inst.Inst, bool) = inst.Inst.PreAccept
	_ func(i inst.Inst, b ballot.Ballot, c cmd.Cmd, a attr.Attr) (inst.Inst, bool)           = inst.Inst.Accept
	_ func(i inst.Inst, c cmd.Cmd, a attr.Attr) (inst.Inst, bool)                            = inst.Inst.Commit
	_ func(i inst.Inst) (inst.Inst, bool)                                                    = inst.Inst.Execute
	_ func(i inst.Inst) (string, bool)                                                       = inst.Put
	_ func(s string) (inst.Inst, bool)                                                       = inst.Get

	_ func() *index.Index                                          = index.New
	_ func(x *index.Index, id deps.ID, c cmd.Cmd, seq uint32) bool = (*index.Index).Note
	_ func(x *index.Index, id deps.ID, c cmd.Cmd) attr.Attr        = (*index.Index).Attr
	_ func(x *index.Index, id deps.ID) (cmd.Cmd, uint32, bool)     = (*index.Index).Of
	_ func(x *index.Index) int                                     = (*index.Index).Len
	_ func(x *index.Index, key string) []deps.ID                   = (*index.Index).Key

	_ func(n, me int) (*tally.Tally, api.Errno)                              = tally.New
	_ func(n int) int                                                        = tally.Faults
	_ func(t *tally.Tally, who int, a attr.Attr, own bool) bool              = (*tally.Tally).Pre
	_ func(t *tally.Tally, who int) bool                                     = (*tally.Tally).Acc
	_ func(t *tally.Tally, zero, rush bool, mine attr.Attr) (int, attr.Attr) = (*tally.Tally).Decide
	_ func(t *tally.Tally) bool                                              = (*tally.Tally).Chosen
	_ func(t *tally.Tally) (pre, own, acc int)                               = (*tally.Tally).Many

	_ func(n, owner int, l []choose.Reply) choose.Choice = choose.Choose
	_ func(n int, l []choose.Reply) bool                 = choose.Enough

	_ func(n int, edges [][]int) [][]int         = graph.Parts
	_ func(n int, edges [][]int, from int) []int = graph.Reach

	_ func(l []order.Node) []deps.ID             = order.Plan
	_ func(l []order.Node) []deps.ID             = order.Blocked
	_ func(l []order.Node, id deps.ID) []deps.ID = order.Needs

	_ func() *store.Store                                                   = store.New
	_ func(s *store.Store, c cmd.Cmd) (store.Reply, bool)                   = (*store.Store).Apply
	_ func(s *store.Store, key string) (string, bool)                       = (*store.Store).Value
	_ func(s *store.Store, client int, seq uint32) (store.Reply, api.Errno) = (*store.Store).Known
	_ func(s *store.Store, key string) []cmd.Cmd                            = (*store.Store).Log
	_ func(s *store.Store) int                                              = (*store.Store).Many
	_ func(s *store.Store) []string                                         = (*store.Store).Keys
	_ func(s *store.Store) string                                           = (*store.Store).Text

	_ func(m wire.Msg) bool                = wire.Right
	_ func(a, b wire.Msg) bool             = wire.Same
	_ func(m wire.Msg) (string, bool)      = wire.Put
	_ func(s string) (wire.Msg, api.Errno) = wire.Get

	_ func(n, me, owner int) int                                 = wait.Rank
	_ func(n, me, owner, tries int, base, draw uint64) uint64    = wait.Delay
	_ func(state uint64) (number, next uint64)                   = wait.Draw
	_ func() *wait.Waits                                         = wait.New
	_ func(w *wait.Waits, id deps.ID, at uint64, tries int) bool = (*wait.Waits).Set
	_ func(w *wait.Waits, id deps.ID) bool                       = (*wait.Waits).Stop
	_ func(w *wait.Waits, id deps.ID) (wait.Wait, bool)          = (*wait.Waits).Of
	_ func(w *wait.Waits, now uint64) []wait.Wait                = (*wait.Waits).Due
	_ func(w *wait.Waits) []wait.Wait                            = (*wait.Waits).All

	_ func(n, me int, patience uint64) (*beat.Beat, api.Errno) = beat.New
	_ func(b *beat.Beat, who int, now uint64) bool             = (*beat.Beat).Heard
	_ func(b *beat.Beat, who int, now uint64) bool             = (*beat.Beat).Alive
	_ func(b *beat.Beat, owner, n int) bool                    = (*beat.Beat).Mark
	_ func(b *beat.Beat) []int                                 = (*beat.Beat).Marks
	_ func(b *beat.Beat, marks []int) []deps.ID                = (*beat.Beat).Take

	_ func(c replica.Config) bool                                        = replica.Right
	_ func(c replica.Config, d *disk.Disk) (*replica.Replica, api.Errno) = replica.Open
	_ func(r *replica.Replica, c cmd.Cmd) (replica.Out, api.Errno)       = (*replica.Replica).Submit
	_ func(r *replica.Replica) replica.Out                               = (*replica.Replica).Tick
	_ func(r *replica.Replica, bytes string) replica.Out                 = (*replica.Replica).Take
	_ func(r *replica.Replica) bool                                      = (*replica.Replica).Halted
	_ func(r *replica.Replica) uint64                                    = (*replica.Replica).Now
	_ func(r *replica.Replica, id deps.ID) (inst.Inst, bool)             = (*replica.Replica).Inst
	_ func(r *replica.Replica) []deps.ID                                 = (*replica.Replica).IDs
	_ func(r *replica.Replica) *store.Store                              = (*replica.Replica).Store
	_ func(r *replica.Replica) (own, queued int)                         = (*replica.Replica).Many
	_ func(r *replica.Replica) uint64                                    = (*replica.Replica).Bad

	_ func(room int) (*bag.Bag, api.Errno)             = bag.New
	_ func(b *bag.Bag, x bag.Item) api.Errno           = (*bag.Bag).Put
	_ func(b *bag.Bag, pick int) (bag.Item, api.Errno) = (*bag.Bag).Take
	_ func(b *bag.Bag, pick int) api.Errno             = (*bag.Bag).Copy
	_ func(b *bag.Bag, pick int) api.Errno             = (*bag.Bag).Last
	_ func(b *bag.Bag) (bag.Item, bool)                = (*bag.Bag).Oldest
	_ func(b *bag.Bag) []bag.Item                      = (*bag.Bag).Items
	_ func(b *bag.Bag) int                             = (*bag.Bag).Len

	_ func(s cluster.Spec) bool                          = cluster.Right
	_ func(s cluster.Spec) (*cluster.Cluster, api.Errno) = cluster.New
	_ func(c *cluster.Cluster, o cluster.Op) api.Errno   = (*cluster.Cluster).Do
	_ func(c *cluster.Cluster) uint64                    = (*cluster.Cluster).Steps
	_ func(c *cluster.Cluster, who int) *replica.Replica = (*cluster.Cluster).Replica
	_ func(c *cluster.Cluster, who int) *disk.Disk       = (*cluster.Cluster).Disk
	_ func(c *cluster.Cluster, who int) bool             = (*cluster.Cluster).Up
	_ func(c *cluster.Cluster) *bag.Bag                  = (*cluster.Cluster).Bag
	_ func(c *cluster.Cluster) []cluster.Event           = (*cluster.Cluster).Events

	_ func(a, b []cmd.Cmd) bool                        = judge.Prefix
	_ func(l []cmd.Cmd) bool                           = judge.Once
	_ func(l []cmd.Cmd, events []cluster.Event) bool   = judge.Asked
	_ func(l []cmd.Cmd) []store.Reply                  = judge.Replay
	_ func(log []cmd.Cmd, events []cluster.Event) bool = judge.Honest
)

// The plain types of the layers, field by field.
var (
	_ = struct {
		Rest string
		Bad  bool
	}(pack.Reader{})
	_ = struct {
		Round uint32
		Who   int
	}(ballot.Ballot{})
	_ = struct {
		Op, Client int
		Seq        uint32
		Key, Value string
	}(cmd.Cmd{})
	_ = struct{ Owner, N int }(deps.ID{})
	_ = struct {
		Seq  uint32
		Deps []deps.ID
	}(attr.Attr{})
	_ = struct {
		ID        deps.ID
		Status    int
		Cmd       cmd.Cmd
		Attr      attr.Attr
		Bal, Vote ballot.Ballot
		Own       bool
	}(inst.Inst{})
	_ = struct {
		Who  int
		Inst inst.Inst
	}(choose.Reply{})
	_ = struct {
		Kind int
		Cmd  cmd.Cmd
		Attr attr.Attr
	}(choose.Choice{})
	_ = struct {
		ID    deps.ID
		Seq   uint32
		Deps  []deps.ID
		Ready bool
		Done  bool
	}(order.Node{})
	_ = struct {
		Client int
		Seq    uint32
		Found  bool
		Value  string
	}(store.Reply{})
	_ = struct {
		Kind, From int
		Bal        ballot.Ballot
		Inst       inst.Inst
		Own        bool
		Marks      []int
	}(wire.Msg{})
	_ = struct {
		ID    deps.ID
		At    uint64
		Tries int
	}(wait.Wait{})
	_ = struct {
		N, Me         int
		Places        []complex128
		Window, Queue int
		Base          uint64
		Patience      uint64
		Draw          uint64
	}(replica.Config{})
	_ = struct {
		To    int
		Bytes string
	}(replica.Send{})
	_ = struct {
		ID    deps.ID
		Reply store.Reply
	}(replica.Done{})
	_ = struct {
		Sends []replica.Send
		Done  []replica.Done
	}(replica.Out{})
	_ = struct {
		From, To int
		Bytes    string
		At       uint64
	}(bag.Item{})
	_ = struct {
		N             int
		Window, Queue int
		Base          uint64
		Patience      uint64
		Draw          uint64
		Disk, Room    int
	}(cluster.Spec{})
	_ = struct {
		Kind, Who, Pick, Keep int
		Cmd                   cmd.Cmd
	}(cluster.Op{})
	_ = struct {
		Kind, Who int
		Cmd       cmd.Cmd
		ID        deps.ID
		Reply     store.Reply
	}(cluster.Event{})
)

// A constant is one that is given, by name, with what the document says it is.
type constant struct {
	name string
	got  int
	want int
}

// TestConstants: the constants of the layers are as they are given.
func TestConstants(t *testing.T) {
	sameConstants(t, []constant{
		{"place.Most", place.Most, 10000},
		{"cmd.Noop", cmd.Noop, 0},
		{"cmd.Put", cmd.Put, 1},
		{"cmd.Get", cmd.Get, 2},
		{"cmd.Del", cmd.Del, 3},
		{"deps.MostN", deps.MostN, 1<<24 - 1},
		{"inst.None", inst.None, 0},
		{"inst.Pre", inst.Pre, 1},
		{"inst.Acc", inst.Acc, 2},
		{"inst.Com", inst.Com, 3},
		{"inst.Done", inst.Done, 4},
		{"tally.Wait", tally.Wait, 0},
		{"tally.Fast", tally.Fast, 1},
		{"tally.Slow", tally.Slow, 2},
		{"choose.Wait", choose.Wait, 0},
		{"choose.Commit", choose.Commit, 1},
		{"choose.Accept", choose.Accept, 2},
		{"choose.Again", choose.Again, 3},
		{"wire.PreAccept", wire.PreAccept, 1},
		{"wire.PreReply", wire.PreReply, 2},
		{"wire.Accept", wire.Accept, 3},
		{"wire.AccReply", wire.AccReply, 4},
		{"wire.Commit", wire.Commit, 5},
		{"wire.Prepare", wire.Prepare, 6},
		{"wire.PrepReply", wire.PrepReply, 7},
		{"wire.Nack", wire.Nack, 8},
		{"wire.Beat", wire.Beat, 9},
		{"wire.Ask", wire.Ask, 10},
	})
}

// TestLimits: the limits and the errors are those of the document.
func TestLimits(t *testing.T) {
	sameConstants(t, []constant{
		{"api.MaxReplicas", api.MaxReplicas, 7},
		{"api.MaxKey", api.MaxKey, 16},
		{"api.MaxValue", api.MaxValue, 32},
		{"api.MaxRecord", api.MaxRecord, 8192},
		{"api.MaxBag", api.MaxBag, 512},
		{"api.MaxWindow", api.MaxWindow, 8},
		{"api.MaxQueue", api.MaxQueue, 16},
		{"api.MaxClients", api.MaxClients, 64},
		{"api.OK", int(api.OK), 0},
		{"api.ErrArg", int(api.ErrArg), 1},
		{"api.ErrForm", int(api.ErrForm), 2},
		{"api.ErrLong", int(api.ErrLong), 3},
		{"api.ErrFull", int(api.ErrFull), 4},
		{"api.ErrNone", int(api.ErrNone), 5},
		{"api.ErrOld", int(api.ErrOld), 6},
		{"api.ErrBusy", int(api.ErrBusy), 7},
		{"api.ErrDown", int(api.ErrDown), 8},
	})
}

func sameConstants(t *testing.T, l []constant) {
	t.Helper()
	for _, c := range l {
		if c.got != c.want {
			t.Errorf("%s is %d, not %d", c.name, c.got, c.want)
		}
	}
}
