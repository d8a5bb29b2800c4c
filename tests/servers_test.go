package tests

import (
	"fmt"
	"math"
	"slices"
	"strings"
	"testing"

	"loop.example/g00127/impl"
)

func ticking(limit int) impl.Input { return impl.Input{Kind: impl.InTick, Limit: limit} }

func arriving(m impl.Message) impl.Input { return impl.Input{Kind: impl.InMessage, Message: m} }

func proposing(kind int, data string) impl.Input {
	return impl.Input{Kind: impl.InPropose, Entry: kind, Data: data}
}

func snapping() impl.Input { return impl.Input{Kind: impl.InSnap} }

func shownInput(in impl.Input) string {
	return fmt.Sprintf("{Kind %d, Limit %d, Entry %d, Data %.40q, %s}", in.Kind, in.Limit, in.Entry, in.Data, shownMessage(in.Message))
}

func sameServer(a, b impl.Server) bool {
	return sameNode(a.Node, b.Node) && sameDisk(a.Disk, b.Disk) && sameJournal(a.Journal, b.Journal) && equalHalls(a.Hall, b.Hall) &&
		a.Applied == b.Applied && a.Stage == b.Stage && a.StageAt == b.StageAt && a.StageTerm == b.StageTerm
}

func noServer(s impl.Server) bool { return sameServer(s, impl.Server{}) }

func copyServer(s impl.Server) impl.Server {
	s.Node, s.Disk, s.Hall, s.Journal.Log = copyNode(s.Node), copyDisk(s.Disk), copyHall(s.Hall), copyLog(s.Journal.Log)
	return s
}

func shownServer(s impl.Server) string {
	return fmt.Sprintf("{%s, %s, %s, hall %s, Applied %d, Stage %.40q(%d), StageAt %d, StageTerm %d}", shownNode(s.Node), shown(s.Disk), shownJournal(s.Journal), shownHall(s.Hall), s.Applied, s.Stage, len(s.Stage), s.StageAt, s.StageTerm)
}

func shownDone(list []impl.Done) string {
	var out []string
	for _, d := range list {
		out = append(out, fmt.Sprintf("{%d %s %q}", d.Index, shownEntry(d.Entry), d.Reply))
	}
	return "[" + strings.Join(out, " ") + "]"
}

func formatByHand(conf []int) impl.Disk {
	return withSnaps(with(diskOf(), "j0", journalByHand(impl.Journal{})), snapOf(0, 0, hallByHand(impl.HallNew()), conf...))
}

// bootByHand goes along the chapter's sentence. The layers below are held by their own tests.
func bootByHand(id int, d impl.Disk, limit int) (impl.Server, []impl.Act, int) {
	snap, there := impl.NewestSnap(d)
	hall, reads := impl.ReadHall(snap.Body)
	if !impl.AllKept(d) || !there || !reads {
		return impl.Server{}, nil, 1
	}
	j, opens, ok := impl.OpenJournal(d)
	if !ok {
		return impl.Server{}, nil, 2
	}
	acts := slices.Concat(impl.ShedActs(d), opens)
	log := behindByHand(j.Log, snap.Index, snap.Term)
	if !sameLog(log, j.Log) {
		behind, _ := impl.DoActs(d, acts)
		more, then, ok := impl.JournalActs(behind, j, journalOf(j.Number, j.Term, j.Vote, log))
		if !ok {
			return impl.Server{}, nil, 3
		}
		j, acts = then, append(acts, more...)
	}
	n := impl.Node{Id: id, Term: j.Term, Vote: j.Vote, Conf: snap.Conf, Log: log, Commit: snap.Index, Limit: limit}
	disk, count := impl.DoActs(d, acts)
	if count < len(acts) || !rightNodeByHand(n) {
		return impl.Server{}, nil, 3
	}
	return impl.Server{Node: n, Disk: disk, Journal: j, Hall: hall, Applied: snap.Index}, acts, 0
}

// foldUpTo does the entries one at a time, from a hall that is behind the log's Start.
func foldUpTo(h impl.Hall, l impl.Log, index int) impl.Hall {
	for at := l.Start + 1; at <= index; at++ {
		e, _ := entryOfLog(l, at)
		h, _ = impl.Fold(h, []impl.Entry{e}, at)
	}
	return h
}

func rightServerByHand(s impl.Server) bool {
	up, acts, code := bootByHand(s.Node.Id, s.Disk, 1)
	if code != 0 || len(acts) > 0 || !sameJournal(up.Journal, s.Journal) || !rightNodeByHand(s.Node) {
		return false
	}
	// What a disk does not keep is taken as it is.
	n := s.Node
	n.Role, n.Lead, n.Commit, n.Clock, n.Limit, n.Votes, n.Peers = 0, 0, up.Node.Commit, 0, 1, nil, nil
	if !sameNode(n, up.Node) || s.Applied < up.Applied || s.Applied > s.Node.Commit {
		return false
	}
	if len(s.Stage) > 20000 || s.StageAt < 0 || s.StageAt > 1000000 || s.StageTerm < 0 || s.StageTerm > 100000 {
		return false
	}
	return equalHalls(s.Hall, foldUpTo(up.Hall, s.Node.Log, s.Applied))
}

// outcome is what comes of an input.
type outcome struct {
	impl.Server
	acts  []impl.Act
	told  []impl.Message
	done  []impl.Done
	index int
	ok    bool
}

func (o *outcome) acted(acts []impl.Act, ok bool) {
	disk, count := impl.DoActs(o.Disk, acts)
	o.Disk, o.acts = disk, append(o.acts, acts...)
	o.ok = o.ok && ok && count == len(acts)
}

func (o *outcome) journaled() {
	acts, then, ok := impl.JournalActs(o.Disk, o.Journal, journalOf(0, o.Node.Term, o.Node.Vote, o.Node.Log))
	o.Journal = then
	o.acted(acts, ok)
}

// snapped puts a snapshot onto the disk, and begins the log behind it.
func (o *outcome) snapped(s impl.Snap) {
	acts, ok := impl.SnapActs(o.Disk, s)
	o.acted(acts, ok)
	o.Node.Conf, o.Node.Log, o.Applied = s.Conf, behindByHand(o.Node.Log, s.Index, s.Term), s.Index
	o.journaled()
}

func (o *outcome) staged(m impl.Message) {
	n := &o.Node
	reply := impl.Message{Kind: impl.TellInstall, From: n.Id, To: m.From, Term: n.Term, Index: m.Index, Ok: m.Term == n.Term && m.Index <= n.Commit}
	if m.Term == n.Term && m.Index > n.Commit {
		if o.StageAt != m.Index || o.StageTerm != m.LogTerm {
			o.Stage, o.StageAt, o.StageTerm = "", m.Index, m.LogTerm
		}
		if m.Commit == len(o.Stage) {
			whole := o.Stage + m.Data
			snap, reads := impl.ReadSnap(whole)
			hall, has := impl.ReadHall(snap.Body)
			switch {
			case m.Last && reads && has && sameSnap(snap, snapOf(m.Index, m.LogTerm, snap.Body, m.Conf...)) && m.LogTerm <= n.Term:
				o.snapped(snap)
				n.Commit, o.Hall, o.Stage, reply.Ok = m.Index, hall, "", true
			case m.Last || len(whole) > 20000:
				o.Stage = ""
			default:
				o.Stage = whole
			}
		}
		reply.Commit = len(o.Stage)
	}
	o.told = append(o.told, reply)
}

func (o *outcome) applied() {
	for count := 0; count < 6 && o.Applied < o.Node.Commit; count++ {
		o.Applied++
		e, _ := entryOfLog(o.Node.Log, o.Applied)
		hall, replies := impl.Fold(o.Hall, []impl.Entry{e}, o.Applied)
		o.Hall = hall
		o.done = append(o.done, impl.Done{Index: o.Applied, Entry: e, Reply: replies[0]})
	}
}

func (o *outcome) filled() {
	text, _ := impl.FileAt(o.Disk, fmt.Sprint("s", o.Node.Log.Start))
	for at, m := range o.told {
		if m.Kind == impl.AskInstall {
			if m.Commit >= len(text) {
				m.Commit = 0
			}
			m.Data = text[m.Commit:]
			if m.Last = len(m.Data) <= 60; !m.Last {
				m.Data = m.Data[:60]
			}
			o.told[at] = m
		}
	}
}

func serveByHand(s impl.Server, in impl.Input) outcome {
	if !rightServerByHand(s) {
		return outcome{}
	}
	o := outcome{Server: copyServer(s), ok: true}
	switch in.Kind {
	case 1:
		o.Node, o.told, o.ok = impl.Tick(s.Node, in.Limit)
	case 2:
		o.Node, o.told, o.ok = impl.Receive(s.Node, in.Message)
	case 3:
		o.Node, o.told, o.index, o.ok = impl.Propose(s.Node, in.Entry, in.Data)
	case 4:
	default:
		return outcome{}
	}
	if !o.ok {
		return outcome{}
	}
	o.journaled()
	if in.Kind == 2 && in.Message.Kind == impl.AskInstall {
		o.staged(in.Message)
	}
	if in.Kind == 4 && s.Applied > s.Node.Log.Start {
		body, ok := impl.HallText(s.Hall)
		o.ok = o.ok && ok
		o.snapped(snapOf(s.Applied, termByHand(s.Node.Log, s.Applied), body, confAtByHand(s.Node, s.Applied)...))
	} else {
		o.applied()
		o.filled()
	}
	if !o.ok || len(o.acts) > 60 {
		return outcome{}
	}
	return o
}

func sameOutcome(a, b outcome) bool {
	return sameServer(a.Server, b.Server) && slices.Equal(a.acts, b.acts) && sameMessages(a.told, b.told) && slices.Equal(a.done, b.done) && a.index == b.index && a.ok == b.ok
}

func (o outcome) shown() string {
	return fmt.Sprintf("%s, %s, %s, %s, %d, %v", shownServer(o.Server), shownActs(o.acts...), shownMessages(o.told), shownDone(o.done), o.index, o.ok)
}

func serve(s impl.Server, in impl.Input) (o outcome) {
	o.Server, o.acts, o.told, o.done, o.index, o.ok = impl.Serve(s, in)
	return o
}

// comesUp is the server that a disk makes by acts that leave nothing more to do.
func comesUp(t *testing.T, id int, d impl.Disk) impl.Server {
	t.Helper()
	up, acts, code := impl.Boot(id, d, 5)
	if code != 0 || !rightServerByHand(up) || !impl.ServerOk(up) {
		t.Fatalf("Boot(%d, %s) is %s, %s, %d", id, shown(d), shownServer(up), shownActs(acts...), code)
	}
	if disk, count := impl.DoActs(d, acts); count < len(acts) || !sameDisk(disk, up.Disk) || !impl.AllKept(up.Disk) {
		t.Fatalf("Boot(%d, %s) is %s, but behind %s there is %s", id, shown(d), shownServer(up), shownActs(acts...), shown(disk))
	}
	again, acts, code := impl.Boot(id, up.Disk, 5)
	if code != 0 || len(acts) > 0 || !sameServer(again, up) {
		t.Fatalf("Boot(%d, %s) has the code %d and %s, and is %s; want %s", id, shown(up.Disk), code, shownActs(acts...), shownServer(again), shownServer(up))
	}
	return up
}

// holdKept is the second half of promise 17: what came up has not less than the server had agreed to.
func holdKept(t *testing.T, s, up impl.Server, hall impl.Hall) {
	t.Helper()
	fault := ""
	switch {
	case up.Node.Term < s.Node.Term:
		fault = "its Term falls"
	case up.Node.Term == s.Node.Term && s.Node.Vote != 0 && up.Node.Vote != s.Node.Vote:
		fault = "its Vote is gone"
	case up.Applied < s.Node.Log.Start:
		fault = "its snapshot is an older one"
	case !equalHalls(up.Hall, hall):
		fault = "its hall is another one"
	}
	for index := up.Applied + 1; index <= s.Node.Commit; index++ {
		was, _ := entryOfLog(s.Node.Log, index)
		if is, there := entryOfLog(up.Node.Log, index); !there || is != was {
			fault = fmt.Sprint("there is no such entry at ", index)
		}
	}
	if fault != "" {
		t.Fatalf("%s comes up as %s: %s", shownServer(s), shownServer(up), fault)
	}
}

// leftOf leaves of each file as many bytes more than are kept of it, behind the first whole of the acts.
func leftOf(d impl.Disk, acts []impl.Act, whole, more int) (left []int) {
	d, _ = impl.DoActs(d, acts[:whole])
	for _, f := range d.Files {
		left = append(left, f.Kept+more)
	}
	return left
}

// losePower lets the power go at each place of the acts.
func losePower(t *testing.T, s impl.Server, o outcome) {
	t.Helper()
	old := hallOfDisk(t, s.Disk)
	var held []impl.Disk
	for whole := range len(o.acts) + 1 {
		for _, more := range []int{0, 1, 7, 19, impl.MaxText} {
			lost, ok := impl.CutActs(s.Disk, o.acts, whole, leftOf(s.Disk, o.acts, whole, more))
			if !ok {
				t.Fatalf("%d of %s can't be done on %s", whole, shownActs(o.acts...), shown(s.Disk))
			}
			if whole < len(o.acts) && slices.ContainsFunc(held, func(d impl.Disk) bool { return sameDisk(d, lost) }) {
				continue
			}
			held = append(held, lost)
			up := comesUp(t, s.Node.Id, lost)
			hall := old
			if up.Applied == o.Node.Log.Start {
				hall = foldUpTo(old, s.Node.Log, up.Applied)
				if o.Applied == up.Applied {
					hall = o.Hall
				}
			} else if up.Applied != s.Node.Log.Start {
				t.Fatalf("%s comes up behind %d", shownServer(s), up.Applied)
			}
			holdKept(t, s, up, hall)
			isOld, isNew := up.Node.Term == s.Node.Term && up.Node.Vote == s.Node.Vote, up.Node.Term == o.Node.Term && up.Node.Vote == o.Node.Vote
			if !isOld && !isNew {
				t.Fatalf("%s and %s come up as %s", shownServer(s), o.shown(), shownServer(up))
			}
			if whole == len(o.acts) {
				holdAsItWas(t, o.Server, up)
			}
		}
	}
}

func hallOfDisk(t *testing.T, d impl.Disk) impl.Hall {
	t.Helper()
	snap, _ := impl.NewestSnap(d)
	h, ok := impl.ReadHall(snap.Body)
	if !ok {
		t.Fatalf("%s has no hall", shown(d))
	}
	return h
}

// holdAsItWas: all that a disk keeps is there again.
func holdAsItWas(t *testing.T, s, up impl.Server) {
	t.Helper()
	n := s.Node
	if up.Node.Id != n.Id || up.Node.Term != n.Term || up.Node.Vote != n.Vote || !slices.Equal(up.Node.Conf, n.Conf) || !sameLog(up.Node.Log, n.Log) || !sameJournal(up.Journal, s.Journal) || !sameDisk(up.Disk, s.Disk) {
		t.Fatalf("%s comes up as %s", shownServer(s), shownServer(up))
	}
}

// holdRight is the first half of promise 17, and what is told of each step.
func holdRight(t *testing.T, s impl.Server, in impl.Input, o outcome) {
	t.Helper()
	fault := ""
	disk, count := impl.DoActs(s.Disk, o.acts)
	switch {
	case !impl.ServerOk(o.Server) || !rightServerByHand(o.Server):
		fault = "it is not right"
	case count < len(o.acts) || !sameDisk(disk, o.Disk) || !impl.AllKept(o.Disk):
		fault = "its Disk is another one"
	case len(o.acts) > 60 || len(o.done) > 6:
		fault = "there is too much of it"
	case o.Node.Id != s.Node.Id || o.Node.Term < s.Node.Term || o.Node.Commit < s.Node.Commit || o.Applied < s.Applied:
		fault = "its Id, or its Term, Commit or Applied falls"
	case o.Node.Term == s.Node.Term && s.Node.Vote != 0 && o.Node.Vote != s.Node.Vote:
		fault = "its Vote is gone"
	}
	applied := s.Applied
	for _, d := range o.done {
		applied++
		if e, there := entryOfLog(o.Node.Log, applied); d.Index != applied || !there || d.Entry != e {
			fault = fmt.Sprint("what is done at ", d.Index)
		}
	}
	if o.Applied != applied && (in.Kind != impl.InMessage || in.Message.Kind != impl.AskInstall || len(o.done) > 0) {
		fault = "what it has applied"
	}
	for _, m := range o.told {
		if !impl.MessageOk(m) || m.From != o.Node.Id || m.Term != o.Node.Term {
			fault = "what it tells"
		}
	}
	if fault != "" {
		t.Fatalf("%s of %s is %s: %s", shownInput(in), shownServer(s), o.shown(), fault)
	}
	holdAsItWas(t, o.Server, comesUp(t, o.Node.Id, o.Disk))
}

// holdServe holds an answer against that by hand, and against the promise, but for the power.
func holdServe(t *testing.T, s impl.Server, in impl.Input) outcome {
	t.Helper()
	before, message := copyServer(s), copyMessage(in.Message)
	got, want := serve(s, in), serveByHand(s, in)
	if !sameOutcome(got, want) {
		t.Fatalf("%s of %s is\n%s; want\n%s", shownInput(in), shownServer(s), got.shown(), want.shown())
	}
	if !sameServer(s, before) || !sameMessage(in.Message, message) {
		t.Fatalf("Serve wrote into %s or %s", shownServer(s), shownInput(in))
	}
	if got.ok {
		holdRight(t, s, in, got)
	}
	return got
}

// wantServe asks for what is written out; the Disk is that behind the acts. All of it lasts when the power goes.
func wantServe(t *testing.T, s impl.Server, in impl.Input, want outcome, changes ...func(s *impl.Server)) impl.Server {
	t.Helper()
	got := holdServe(t, s, in)
	want.Server, want.ok = changedServer(s, changes...), true
	for _, a := range want.acts {
		d, ok := actByList(want.Disk, a)
		if !ok {
			t.Fatalf("the test is wrong: %s can't be done on %s", shownActs(a), shown(want.Disk))
		}
		want.Disk = d
	}
	if !sameOutcome(got, want) {
		t.Fatalf("%s of %s is\n%s; want\n%s", shownInput(in), shownServer(s), got.shown(), want.shown())
	}
	losePower(t, s, got)
	return got.Server
}

func changedServer(s impl.Server, changes ...func(s *impl.Server)) impl.Server {
	s = copyServer(s)
	for _, change := range changes {
		change(&s)
	}
	return s
}

func refuseServe(t *testing.T, s impl.Server, in impl.Input) {
	t.Helper()
	if got := serve(s, in); !sameOutcome(got, outcome{}) || serveByHand(s, in).ok {
		t.Fatalf("%s of %s is %s; want nothing", shownInput(in), shownServer(s), got.shown())
	}
}

func TestServerConstants(t *testing.T) {
	if impl.MaxApply != 6 || impl.MaxActs != 60 || impl.InTick != 1 || impl.InMessage != 2 || impl.InPropose != 3 || impl.InSnap != 4 {
		t.Error("a constant is another one")
	}
}

// heldHall is behind the index 3: the user 1 has made a room, and come into it.
func heldHall() impl.Hall {
	joined := []impl.Item{{Key: 1, Id: 4}, {Key: 11, Id: 6}}
	return impl.Hall{
		Sessions: []impl.Session{{Token: 1, Last: 2, Reply: "sent 6"}},
		Room: impl.Room{
			Events: []impl.Event{placed(4, 0, create(1)), placed(6, 1, member(1, 1, impl.Joined), 4)},
			States: [][]impl.Item{joined[:1], joined},
			Good:   []bool{true, true},
		},
		Outs: []impl.Out{{Dest: 1, Ids: []int{4, 6}}, {Dest: 2, Ids: []int{4, 6}}},
	}
}

func asked(term int, x impl.Command) impl.Entry { return command(term, commandByHand(x)) }

// heldLog has the indexes 4 .. 12, behind heldHall.
func heldLog() impl.Log {
	return logOf(3, 1,
		asked(1, sending(1, 3, say(1))), none(2), asked(2, askingWho(1, 4)), confEntry(2, 1, 2, 3, 4), asked(2, opening()),
		asked(2, askingWho(8, 1)), command(3, "no command"), asked(3, askingWho(8, 1)), asked(3, acking(1, 5, 1, 2)))
}

// heldDone is what is done behind the index from, up to this one.
func heldDone(from, to int) (list []impl.Done) {
	replies := []string{"sent 8", "", "in 1", "", "open 8", "in 1", "", "in 1", "acked"}
	for index := from + 1; index <= to; index++ {
		e, _ := entryOfLog(heldLog(), index)
		list = append(list, impl.Done{Index: index, Entry: e, Reply: replies[index-4]})
	}
	return list
}

// heldHallAt is heldHall behind the entries of heldLog up to this index.
func heldHallAt(index int) impl.Hall {
	h, _ := foldByHand(heldHall(), heldLog().Entries[:index-3], 4)
	return h
}

// serverOf is right: all of the node is on its disk, in the journal of this Number and in a snapshot with this hall.
func serverOf(n impl.Node, hall impl.Hall, number, applied int) impl.Server {
	j := journalOf(number, n.Term, n.Vote, copyLog(n.Log))
	d := with(diskOf(), fmt.Sprint("j", number), journalByHand(j))
	d = withSnaps(d, snapOf(n.Log.Start, n.Log.StartTerm, hallByHand(hall), n.Conf...))
	return impl.Server{Node: n, Disk: d, Journal: j, Hall: foldUpTo(hall, n.Log, applied), Applied: applied}
}

func heldNode(role int) impl.Node {
	n := impl.Node{Id: 2, Term: 4, Role: role, Conf: []int{1, 2, 3}, Log: heldLog(), Commit: 11, Clock: 3, Limit: 7}
	switch role {
	case impl.RoleFollow:
		n.Lead = 1
	case impl.RoleStand:
		n.Vote, n.Votes = 2, []int{2, 4}
	case impl.RoleLead:
		n.Vote, n.Lead, n.Peers = 2, 2, []impl.Peer{peer(1, 13, 12, 0), peer(3, 11, 7, 40), peer(4, 3, 0, 0)}
	}
	return n
}

// held is one of four, of this Role, in the term 4, on the journal j5. It has applied what is up to the index.
func held(role, applied int) impl.Server { return serverOf(heldNode(role), heldHall(), 5, applied) }

// heldAlone leads without any peers.
func heldAlone(applied int) impl.Server {
	l := logOf(3, 1, asked(1, sending(1, 3, say(1))), none(4), asked(4, askingWho(1, 4)))
	n := impl.Node{Id: 2, Term: 4, Vote: 2, Role: impl.RoleLead, Lead: 2, Conf: []int{2}, Log: l, Commit: 6, Clock: 3, Limit: 7}
	return serverOf(n, heldHall(), 5, applied)
}

// wrote puts the journal behind the node.
func wrote(s *impl.Server) {
	s.Journal.Term, s.Journal.Vote, s.Journal.Log = s.Node.Term, s.Node.Vote, copyLog(s.Node.Log)
}

func onNode(change func(n *impl.Node)) func(s *impl.Server) {
	return func(s *impl.Server) { change(&s.Node) }
}

// appliedTo is of a server with heldLog.
func appliedTo(index int) func(s *impl.Server) {
	return func(s *impl.Server) { s.Applied, s.Hall = index, heldHallAt(index) }
}

// baseServers are right, one of each Role with nothing applied, with some of it, and with all.
func baseServers() (list []impl.Server) {
	for _, role := range []int{impl.RoleFollow, impl.RoleStand, impl.RoleLead} {
		list = append(list, held(role, 3), held(role, 7), held(role, 11))
	}
	for applied := 3; applied <= 6; applied++ {
		list = append(list, heldAlone(applied))
	}
	for id := 1; id <= 4; id++ {
		up, _, _ := bootByHand(id, formatByHand([]int{1, 2, 3}), 20)
		list = append(list, up)
	}
	return list
}

func TestRightServersOfTests(t *testing.T) {
	for _, s := range baseServers() {
		if !impl.ServerOk(s) || !rightServerByHand(s) {
			t.Errorf("ServerOk is false of %s", shownServer(s))
		}
	}
	// What heldDone and heldHallAt tell, of one entry and of all, written out.
	h := heldHall()
	h.Sessions[0] = impl.Session{Token: 1, Last: 3, Reply: "sent 8"}
	h.Room.Events = append(h.Room.Events, placed(8, 2, say(1), 6))
	h.Room.States, h.Room.Good = append(h.Room.States, h.Room.States[1]), append(h.Room.Good, true)
	h.Outs = []impl.Out{{Dest: 1, Ids: []int{4, 6, 8}}, {Dest: 2, Ids: []int{4, 6, 8}}}
	if !equalHalls(heldHallAt(4), h) {
		t.Errorf("behind the index 4 there is %s", shownHall(heldHallAt(4)))
	}
	h.Sessions = []impl.Session{{Token: 1, Last: 5, Reply: "acked"}, {Token: 8, Last: 1, Reply: "in 1"}}
	h.Outs[0].Acked = 2
	if !equalHalls(heldHallAt(12), h) {
		t.Errorf("behind the index 12 there is %s", shownHall(heldHallAt(12)))
	}
}

func refuseFormat(t *testing.T, conf []int) {
	t.Helper()
	if d, ok := impl.FormatDisk(conf); ok || !noDisk(d) {
		t.Errorf("FormatDisk(%v) = %s, %v; want nothing", conf, shown(d), ok)
	}
}

func TestFormatDiskBytes(t *testing.T) {
	journal := framesOf("B\x00\x00", "H\x00\x00")
	snap := sealedByHand("\x00\x00\x03\x01\x02\x04\x04\x00\x00\x00\x00")
	d, ok := impl.FormatDisk([]int{1, 2, 4})
	if want := diskOf(file("j0", journal, 16), file("s0", snap, 15)); !ok || !sameDisk(d, want) {
		t.Errorf("FormatDisk = %s, %v; want %s", shown(d), ok, shown(want))
	}
}

func TestFormatDisk(t *testing.T) {
	for _, conf := range rightConfs() {
		before := slices.Clone(conf)
		d, ok := impl.FormatDisk(conf)
		if want := formatByHand(conf); !ok || !sameDisk(d, want) || !impl.AllKept(d) || !slices.Equal(conf, before) {
			t.Fatalf("FormatDisk(%v) = %s, %v; want %s", conf, shown(d), ok, shown(want))
		}
		for id := 1; id <= impl.MaxNodes; id++ {
			for limit := 1; limit <= impl.MaxLimit; limit++ {
				want := impl.Server{Node: impl.Node{Id: id, Conf: conf, Limit: limit}, Disk: d, Hall: impl.HallNew()}
				if s, acts, code := impl.Boot(id, d, limit); code != 0 || len(acts) > 0 || !sameServer(s, want) || !impl.ServerOk(s) {
					t.Fatalf("Boot(%d, %s, %d) = %s, %s, %d; want %s", id, shown(d), limit, shownServer(s), shownActs(acts...), code, shownServer(want))
				}
			}
		}
	}
	for _, conf := range wrongConfs() {
		refuseFormat(t, conf)
	}
	refuseFormat(t, nil)
}

// holdBoot holds an answer against that by hand, and, where the server comes up, that it is right and comes up again.
func holdBoot(t *testing.T, id int, d impl.Disk, limit int) (impl.Server, []impl.Act, int) {
	t.Helper()
	before := copyDisk(d)
	s, acts, code := impl.Boot(id, d, limit)
	want, wanted, number := bootByHand(id, d, limit)
	if code != number || !sameServer(s, want) || !slices.Equal(acts, wanted) {
		t.Fatalf("Boot(%d, %s, %d) = %s, %s, %d; want %s, %s, %d", id, shown(d), limit, shownServer(s), shownActs(acts...), code, shownServer(want), shownActs(wanted...), number)
	}
	if !sameDisk(d, before) {
		t.Fatalf("Boot wrote into %s", shown(before))
	}
	if code == 0 {
		comesUp(t, id, d)
	}
	return s, acts, code
}

// wantBoot asks for what is written out: the node 2 with the Limit 5 comes up with the snapshot and the journal.
func wantBoot(t *testing.T, d impl.Disk, snap impl.Snap, hall impl.Hall, j impl.Journal, acts ...impl.Act) {
	t.Helper()
	want := impl.Server{Journal: j, Hall: hall, Applied: snap.Index, Disk: d}
	want.Node = impl.Node{Id: 2, Term: j.Term, Vote: j.Vote, Conf: snap.Conf, Log: j.Log, Commit: snap.Index, Limit: 5}
	for _, a := range acts {
		want.Disk, _ = actByList(want.Disk, a)
	}
	s, told, code := holdBoot(t, 2, d, 5)
	if code != 0 || !sameServer(s, want) || !slices.Equal(told, acts) {
		t.Fatalf("Boot of %s = %s, %s, %d; want %s, %s", shown(d), shownServer(s), shownActs(told...), code, shownServer(want), shownActs(acts...))
	}
	// Also when the power goes while it comes up, it comes up the same, but for the file's Number.
	for whole := range len(acts) + 1 {
		for _, left := range []int{0, 5, math.MaxInt} {
			lost, _ := impl.CutActs(d, acts, whole, slices.Repeat([]int{left}, impl.MaxFiles))
			up := comesUp(t, 2, lost)
			if !sameJournal(numbered(up.Journal, j.Number), j) || !sameNode(up.Node, s.Node) || !equalHalls(up.Hall, hall) {
				t.Fatalf("behind %d of %s it comes up as %s; want %s", whole, shownActs(acts...), shownServer(up), shownServer(s))
			}
		}
	}
}

func wantCode(t *testing.T, id int, d impl.Disk, limit int, want int) {
	t.Helper()
	s, acts, code := holdBoot(t, id, d, limit)
	if code != want || !noServer(s) || len(acts) > 0 {
		t.Errorf("Boot(%d, %s, %d) = %s, %s, %d; want the code %d", id, shown(d), limit, shownServer(s), shownActs(acts...), code, want)
	}
}

// heldSnap and heldJournal are what the disks of held have.
func heldSnap() impl.Snap { return snapOf(3, 1, hallByHand(heldHall()), 1, 2, 3) }

func heldJournal() impl.Journal { return journalOf(5, 4, 3, heldLog()) }

func heldDisk() impl.Disk {
	return withSnaps(with(diskOf(), "j5", journalByHand(heldJournal())), heldSnap())
}

func TestBoot(t *testing.T) {
	wantBoot(t, heldDisk(), heldSnap(), heldHall(), heldJournal())
	for _, conf := range rightConfs() {
		snap := heldSnap()
		snap.Conf = conf
		wantBoot(t, withSnaps(heldDisk(), snap), snap, heldHall(), heldJournal())
	}
	// Files of other names stay where they are.
	d := with(with(with(heldDisk(), "a", "x"), "j", ""), "s03", "other")
	wantBoot(t, d, heldSnap(), heldHall(), heldJournal())
	for vote := range impl.MaxNodes + 1 {
		j := journalOf(0, impl.MaxTerm, vote, heldLog())
		wantBoot(t, withSnaps(with(diskOf(), "j0", journalByHand(j)), heldSnap()), heldSnap(), heldHall(), j)
	}
	j := journalOf(0, 100000, 1, longLog(999940, 4, 60))
	snap := snapOf(999940, 4, hallByHand(mixedHall()), 4)
	wantBoot(t, withSnaps(with(diskOf(), "j0", journalByHand(j)), snap), snap, mixedHall(), j)
}

// newJournal are the acts by which a journal comes in the place of the file of this Number.
func newJournal(j impl.Journal, old int) []impl.Act {
	return newFileByHand(j, fmt.Sprint("j", old))
}

func TestBootOfSeveralSnaps(t *testing.T) {
	older, torn := snapOf(2, 1, hallByHand(impl.HallNew()), 4), snapByHand(snapOf(8, 2, hallByHand(heldHall()), 1))
	torn = torn[:len(torn)-1]
	d := withSnaps(heldDisk(), older)
	wantBoot(t, d, heldSnap(), heldHall(), heldJournal(), drop("s2"))
	wantBoot(t, with(d, "s+", "torn"), heldSnap(), heldHall(), heldJournal(), drop("s+"), drop("s2"))
	// One that is torn, or tells another Index than its name, is none.
	wantBoot(t, with(with(d, "s8", torn), "s10", snapByHand(older)), heldSnap(), heldHall(), heldJournal(), drop("s10"), drop("s2"), drop("s8"))
	// The newest is the one of the greatest number, not of the greatest name.
	newest := snapOf(11, 3, hallByHand(mixedHall()), 1, 2)
	behind := journalOf(6, 4, 3, logOf(11, 3, heldLog().Entries[8:]...))
	acts := append([]impl.Act{drop("s2"), drop("s3")}, newJournal(behind, 5)...)
	wantBoot(t, withSnaps(d, newest), newest, mixedHall(), behind, acts...)
}

func TestBootOfSnapsAhead(t *testing.T) {
	entries := heldLog().Entries
	for index := 4; index <= 12; index++ {
		snap := snapOf(index, entries[index-4].Term, hallByHand(handHall()), 2)
		d := withSnaps(without(heldDisk(), "s3"), snap)
		behind := journalOf(6, 4, 3, logOf(index, snap.Term, entries[index-3:]...))
		wantBoot(t, d, snap, handHall(), behind, newJournal(behind, 5)...)
		// Where the journal has another term at that index, all of it is another one's.
		snap.Term = 4
		d, behind.Log = withSnaps(d, snap), logOf(index, 4)
		wantBoot(t, d, snap, handHall(), behind, newJournal(behind, 5)...)
	}
	for _, index := range []int{13, 14, 1000, impl.MaxIndex} {
		snap, behind := snapOf(index, 4, hallByHand(handHall()), 2), journalOf(6, 4, 3, logOf(index, 4))
		wantBoot(t, withSnaps(without(heldDisk(), "s3"), snap), snap, handHall(), behind, newJournal(behind, 5)...)
	}
}

func TestBootOfSnapsBehind(t *testing.T) {
	for _, index := range []int{0, 1, 2} {
		snap, behind := snapOf(index, 1, hallByHand(impl.HallNew()), 2), journalOf(6, 4, 3, logOf(index, 1))
		wantBoot(t, withSnaps(without(heldDisk(), "s3"), snap), snap, impl.HallNew(), behind, newJournal(behind, 5)...)
	}
	// Level, but of another term.
	for _, term := range []int{0, 2, 4} {
		snap, behind := heldSnap(), journalOf(6, 4, 3, logOf(3, term))
		snap.Term = term
		wantBoot(t, withSnaps(heldDisk(), snap), snap, heldHall(), behind, newJournal(behind, 5)...)
		empty := with(heldDisk(), "j5", journalByHand(journalOf(5, 4, 3, logOf(3, 1))))
		wantBoot(t, withSnaps(empty, snap), snap, heldHall(), behind, newJournal(behind, 5)...)
	}
}

func TestBootOfJournals(t *testing.T) {
	j := heldJournal()
	text := journalByHand(j)
	next := numbered(j, 6)
	for _, rest := range []string{"x", "\x00", framesOf("none"), framesOf(voteByHand(9, 1))[:5], text} {
		wantBoot(t, with(heldDisk(), "j5", text+rest), heldSnap(), heldHall(), next, newJournal(next, 5)...)
	}
	// What is torn off is gone; what stands ahead of it is whole.
	for cut := 1; cut < 12; cut++ {
		short := j
		short.Log.Entries = short.Log.Entries[:8]
		short.Number = 6
		wantBoot(t, with(heldDisk(), "j5", text[:len(text)-cut]), heldSnap(), heldHall(), short, newJournal(short, 5)...)
	}
	older := journalByHand(journalOf(4, 3, 1, logOf(3, 1, none(1))))
	wantBoot(t, with(heldDisk(), "j4", older), heldSnap(), heldHall(), j, drop("j4"))
	wantBoot(t, with(with(heldDisk(), "j4", older), "j+", older), heldSnap(), heldHall(), j, drop("j+"), drop("j4"))
	// A later file is the journal, also when its name is the lesser text.
	later := journalOf(10, 5, 2, heldLog())
	wantBoot(t, with(heldDisk(), "j10", journalByHand(later)), heldSnap(), heldHall(), later, drop("j5"))
	wantBoot(t, with(heldDisk(), "j+", "anything"), heldSnap(), heldHall(), j, drop("j+"))
	// First what is left of snapshots, then what is left of journals, then the torn journal, then the log behind the snapshot.
	behind := journalOf(7, 4, 3, logOf(11, 3, j.Log.Entries[8:]...))
	newest := snapOf(11, 3, hallByHand(mixedHall()), 1, 2)
	d := withSnaps(with(with(with(with(heldDisk(), "j5", text+"torn"), "j4", older), "j+", ""), "s+", "x"), newest)
	acts := append([]impl.Act{drop("s+"), drop("s3"), drop("j+"), drop("j4")}, newJournal(next, 5)...)
	wantBoot(t, d, newest, mixedHall(), behind, append(acts, newJournal(behind, 6)...)...)
	// A long file stays as it is, as long as its log does.
	long := paddedFile(t, j, impl.SegBytes+1)
	wantBoot(t, with(heldDisk(), "j5", long), heldSnap(), heldHall(), j)
}

// notKept has one byte of a file that is not kept yet.
func notKept(d impl.Disk, name string) impl.Disk {
	d = copyDisk(d)
	for at := range d.Files {
		if d.Files[at].Name == name {
			d.Files[at].Kept--
		}
	}
	return d
}

// wrongStateDisks are disks of which the code is 1.
func wrongStateDisks(d impl.Disk) (list []impl.Disk) {
	body := hallByHand(heldHall())
	for _, f := range d.Files {
		list = append(list, notKept(d, f.Name))
	}
	for _, body := range []string{"", "x", body[:len(body)-1], body + "\x00", "\x01" + body} {
		list = append(list, withSnaps(d, snapOf(3, 1, body, 1, 2, 3)))
		// An older one does not help.
		list = append(list, withSnaps(d, snapOf(4, 1, body, 1, 2, 3)))
	}
	text := snapByHand(heldSnap())
	for _, wrong := range []string{"", text[:len(text)-1], text + "\x00", strings.Replace(text, "\x03", "\x02", 1)} {
		list = append(list, with(d, "s3", wrong))
	}
	list = append(list, with(without(d, "s3"), "s4", text), with(without(d, "s3"), "s+", text), with(without(d, "s3"), "s03", text), without(d, "s3"), diskOf())
	wrong := copyDisk(d)
	slices.Reverse(wrong.Files)
	return append(list, wrong, manyFiles(impl.MaxFiles+1), with(d, "too long.", ""), with(d, "a", longText(impl.MaxText+1)))
}

// wrongJournalDisks are disks of which the code is 2.
func wrongJournalDisks(d impl.Disk) (list []impl.Disk) {
	text := journalByHand(heldJournal())
	for _, wrong := range []string{"", "x", text[1:], text[:5], framesOf(voteByHand(4, 3)), framesOf("B\x03"), longText(impl.MaxText)} {
		list = append(list, with(d, "j5", wrong))
		// An older one does not help.
		list = append(list, with(d, "j10", wrong))
	}
	for _, name := range []string{"j+", "j", "j05", "j1000", "J5", "a"} {
		list = append(list, with(without(d, "j5"), name, text))
	}
	// A torn one that can have no next file.
	return append(list, without(d, "j5"), with(d, "j999", text+"x"))
}

// wrongNodeDisks are disks of which the code is 3.
func wrongNodeDisks(d impl.Disk) (list []impl.Disk) {
	// The journal would have to go to a next file, and there is none.
	text := journalByHand(heldJournal())
	list = append(list, with(withSnaps(d, snapOf(5, 2, hallByHand(heldHall()), 1)), "j999", text))
	list = append(list, with(withSnaps(without(d, "s3"), snapOf(2, 1, hallByHand(heldHall()), 1)), "j999", text))
	list = append(list, with(withSnaps(without(d, "j5"), snapOf(5, 2, hallByHand(heldHall()), 1)), "j998", text+"torn"))
	// The Term is below that of the snapshot, or that of an entry.
	list = append(list, withSnaps(d, snapOf(5, 5, hallByHand(heldHall()), 1)), withSnaps(d, snapOf(13, impl.MaxTerm, hallByHand(heldHall()), 1)))
	for _, term := range []int{0, 1, 2} {
		list = append(list, with(d, "j5", journalByHand(journalOf(5, term, 0, heldLog()))))
	}
	return append(list, with(d, "j5", framesOf(beginByHand(3, 1))))
}

func TestBootCodes(t *testing.T) {
	for at, d := range wrongStateDisks(heldDisk()) {
		for _, id := range []int{0, 1, 2, 5} {
			wantCode(t, id, d, 5*(at%5), 1)
		}
	}
	for _, d := range []impl.Disk{without(heldDisk(), "s3"), with(heldDisk(), "s3", "x"), withSnaps(heldDisk(), snapOf(3, 1, "x", 1)), notKept(heldDisk(), "s3")} {
		wantCode(t, 2, without(d, "j5"), 5, 1)
		wantCode(t, 2, with(d, "j6", "wrong"), 5, 1)
	}
	for at, d := range wrongJournalDisks(heldDisk()) {
		for _, id := range []int{0, 1, 2, 5} {
			wantCode(t, id, d, 5*(at%5), 2)
		}
		wantCode(t, 2, withSnaps(d, snapOf(5, 5, hallByHand(heldHall()), 1)), 5, 2)
		wantCode(t, 2, notKept(d, "s3"), 5, 1)
	}
	for _, d := range wrongNodeDisks(heldDisk()) {
		for _, id := range []int{0, 2, 5} {
			wantCode(t, id, d, 5, 3)
		}
		wantCode(t, 2, d, 0, 3)
		wantCode(t, 2, with(d, "j999", ""), 5, 2)
		wantCode(t, 2, notKept(d, d.Files[0].Name), 5, 1)
	}
}

func TestBootOfIdsAndLimits(t *testing.T) {
	for _, d := range []impl.Disk{heldDisk(), with(heldDisk(), "j5", journalByHand(heldJournal())+"torn")} {
		for id := range impl.MaxNodes + 2 {
			for limit := range impl.MaxLimit + 2 {
				if id < 1 || id > impl.MaxNodes || limit < 1 || limit > impl.MaxLimit {
					wantCode(t, id, d, limit, 3)
					continue
				}
				if s, _, code := holdBoot(t, id, d, limit); code != 0 || s.Node.Id != id || s.Node.Limit != limit {
					t.Errorf("Boot(%d, %s, %d) = %s, %d", id, shown(d), limit, shownServer(s), code)
				}
			}
		}
		for _, wrong := range []int{math.MinInt, -1, 21, 256, 257, math.MaxInt} {
			wantCode(t, wrong, d, 5, 3)
			wantCode(t, 2, d, wrong, 3)
		}
	}
}

// Where a disk has no room for the next file, a torn journal has nowhere to go.
func TestBootOfFullDisks(t *testing.T) {
	d := heldDisk()
	for at := range impl.MaxFiles - 3 {
		d = with(d, fmt.Sprint("a", at), "x")
	}
	text := journalByHand(heldJournal())
	next := numbered(heldJournal(), 6)
	wantBoot(t, d, heldSnap(), heldHall(), heldJournal())
	wantBoot(t, with(d, "j5", text+"x"), heldSnap(), heldHall(), next, newJournal(next, 5)...)
	full := with(d, "a", "x")
	wantBoot(t, full, heldSnap(), heldHall(), heldJournal())
	wantCode(t, 2, with(full, "j5", text+"x"), 5, 3)
	wantCode(t, 2, withSnaps(without(full, "s3"), snapOf(2, 0, hallByHand(heldHall()), 1)), 5, 3)
	// What is dropped ahead of it makes room.
	older := snapOf(2, 1, hallByHand(heldHall()), 1)
	d = withSnaps(d, older)
	wantBoot(t, with(d, "j5", text+"x"), heldSnap(), heldHall(), next, append([]impl.Act{drop("s2")}, newJournal(next, 5)...)...)
}

func holdServer(t *testing.T, s impl.Server, right bool) {
	t.Helper()
	before := copyServer(s)
	if got, byHand := impl.ServerOk(s), rightServerByHand(s); got != right || byHand != right {
		t.Fatalf("ServerOk(%s) is %v; by hand it is %v, and it must be %v", shownServer(s), got, byHand, right)
	}
	if !sameServer(s, before) {
		t.Fatalf("ServerOk wrote into %s", shownServer(before))
	}
}

// holdEachServer changes each of the base servers.
func holdEachServer(t *testing.T, right bool, change func(s *impl.Server)) {
	t.Helper()
	for _, s := range baseServers() {
		holdServer(t, changedServer(s, change), right)
	}
}

func TestServerOkOfDisks(t *testing.T) {
	changes := []func(d impl.Disk) impl.Disk{
		func(d impl.Disk) impl.Disk { return diskOf() },
		func(d impl.Disk) impl.Disk { return with(d, "j+", "") },
		func(d impl.Disk) impl.Disk { return with(d, "s+", "") },
		func(d impl.Disk) impl.Disk { return with(d, "j1", "") },
		func(d impl.Disk) impl.Disk { return with(d, "j999", d.Files[0].Text) },
		func(d impl.Disk) impl.Disk { return with(d, "s999", d.Files[1].Text) },
		func(d impl.Disk) impl.Disk { return with(d, "s1000000", d.Files[1].Text) },
		func(d impl.Disk) impl.Disk { return without(d, d.Files[0].Name) },
		func(d impl.Disk) impl.Disk { return without(d, d.Files[1].Name) },
		func(d impl.Disk) impl.Disk { return notKept(d, d.Files[0].Name) },
		func(d impl.Disk) impl.Disk { return notKept(d, d.Files[1].Name) },
		func(d impl.Disk) impl.Disk { return notKept(with(d, "a", "x"), "a") },
		func(d impl.Disk) impl.Disk { return with(with(d, "a", ""), "name too long", "") },
		func(d impl.Disk) impl.Disk { return diskOf(d.Files[1], d.Files[0]) },
		func(d impl.Disk) impl.Disk { return diskOf(d.Files[0], d.Files[1], d.Files[1]) },
	}
	for at := range 2 {
		for _, rest := range []string{"x", "\x00", framesOf("none")} {
			changes = append(changes, func(d impl.Disk) impl.Disk { return with(d, d.Files[at].Name, d.Files[at].Text+rest) })
		}
		changes = append(changes, func(d impl.Disk) impl.Disk {
			text := d.Files[at].Text
			return with(d, d.Files[at].Name, text[:len(text)-1])
		})
	}
	for at, change := range changes {
		for _, s := range baseServers() {
			s.Disk = change(s.Disk)
			if impl.ServerOk(s) || rightServerByHand(s) {
				t.Errorf("the change %d leaves right %s", at, shownServer(s))
			}
		}
	}
	// Each byte of either file.
	for _, s := range []impl.Server{held(impl.RoleLead, 7), heldAlone(4)} {
		for _, f := range s.Disk.Files {
			for at := range f.Text {
				turned := []byte(f.Text)
				turned[at] ^= 1 << (at % 8)
				changed := copyServer(s)
				changed.Disk = with(s.Disk, f.Name, string(turned))
				holdServer(t, changed, false)
			}
		}
	}
	// Other files, and a longer file that tells the same, are none of the server's business.
	holdEachServer(t, true, func(s *impl.Server) { s.Disk = with(with(with(s.Disk, "a", "x"), "s03", "y"), "zzzzzzzz", "") })
	s := held(impl.RoleFollow, 7)
	for _, size := range []int{impl.SegBytes - 1, impl.SegBytes, impl.SegBytes + 1, 2000} {
		s.Disk = with(s.Disk, "j5", paddedFile(t, s.Journal, size))
		holdServer(t, s, true)
	}
	// A log that a disk tells may be that of other frames; a Term that was told ahead of the last one does not count.
	s.Disk = with(s.Disk, "j5", framesOf(slices.Insert(recordsByHand(s.Journal), 1, voteByHand(99, 4))...))
	holdServer(t, s, true)
	s.Disk = with(s.Disk, "j5", journalByHand(s.Journal)+framesOf(voteByHand(99, 4)))
	holdServer(t, s, false)
}

func TestServerOkOfJournals(t *testing.T) {
	for _, change := range []func(j *impl.Journal){
		func(j *impl.Journal) { j.Number++ }, func(j *impl.Journal) { j.Number-- }, func(j *impl.Journal) { j.Number = 1000 }, func(j *impl.Journal) { j.Term++ }, func(j *impl.Journal) { j.Term-- },
		func(j *impl.Journal) { j.Vote++ }, func(j *impl.Journal) { j.Vote-- }, func(j *impl.Journal) { j.Log.Start++ }, func(j *impl.Journal) { j.Log.Start-- },
		func(j *impl.Journal) { j.Log.StartTerm++ }, func(j *impl.Journal) { j.Log.StartTerm-- }, func(j *impl.Journal) { j.Log.Entries = append(j.Log.Entries, none(4)) },
	} {
		holdEachServer(t, false, func(s *impl.Server) { change(&s.Journal) })
	}
	for _, s := range []impl.Server{held(impl.RoleStand, 7), heldAlone(6)} {
		for at := range s.Journal.Log.Entries {
			for _, change := range []func(e *impl.Entry){func(e *impl.Entry) { e.Term++ }, func(e *impl.Entry) { e.Term-- }, func(e *impl.Entry) { e.Kind ^= 3 }, func(e *impl.Entry) { e.Data += "\x01" }} {
				holdServer(t, changedServer(s, func(s *impl.Server) { change(&s.Journal.Log.Entries[at]) }), false)
				holdServer(t, changedServer(s, func(s *impl.Server) { change(&s.Node.Log.Entries[at]) }), false)
				holdServer(t, changedServer(s, func(s *impl.Server) { change(&s.Node.Log.Entries[at]); change(&s.Journal.Log.Entries[at]) }), false)
			}
		}
		holdServer(t, changedServer(s, func(s *impl.Server) { s.Journal.Log.Entries = s.Journal.Log.Entries[1:] }), false)
		last := len(s.Node.Log.Entries) - 1
		holdServer(t, changedServer(s, func(s *impl.Server) { s.Journal.Log.Entries = s.Journal.Log.Entries[:last] }), false)
		holdServer(t, changedServer(s, func(s *impl.Server) { s.Journal = impl.Journal{} }), false)
	}
}

func TestServerOkOfNodes(t *testing.T) {
	for _, change := range []func(n *impl.Node){
		func(n *impl.Node) { n.Term++ }, func(n *impl.Node) { n.Term-- }, func(n *impl.Node) { n.Term = impl.MaxTerm + 1 }, func(n *impl.Node) { n.Vote++ }, func(n *impl.Node) { n.Vote-- },
		func(n *impl.Node) { n.Log.Start++; n.Commit++ }, func(n *impl.Node) { n.Log.Start-- }, func(n *impl.Node) { n.Log.StartTerm++ }, func(n *impl.Node) { n.Log.Entries = append(n.Log.Entries, none(n.Term)) },
		func(n *impl.Node) { n.Id = 0 }, func(n *impl.Node) { n.Id = 5 }, func(n *impl.Node) { n.Id = -1 }, func(n *impl.Node) { n.Role = 3 }, func(n *impl.Node) { n.Lead = 5 }, func(n *impl.Node) { n.Lead = -1 },
		func(n *impl.Node) { n.Limit = 0 }, func(n *impl.Node) { n.Limit = 21 }, func(n *impl.Node) { n.Clock = -1 }, func(n *impl.Node) { n.Clock = 21 }, func(n *impl.Node) { n.Votes = []int{5} },
		func(n *impl.Node) { n.Commit = n.Log.Start - 1 }, func(n *impl.Node) { n.Commit = lastByHand(n.Log) + 1 }, func(n *impl.Node) { n.Commit = math.MaxInt }, func(n *impl.Node) { n.Commit = math.MinInt },
		func(n *impl.Node) { n.Peers = append(n.Peers, peer(n.Id, 1, 0, 0)) },
	} {
		holdEachServer(t, false, onNode(change))
	}
	for _, s := range baseServers() {
		for _, conf := range append(wrongConfs(), rightConfs()...) {
			changed := changedServer(s, onNode(func(n *impl.Node) { n.Conf = conf }))
			holdServer(t, changed, slices.Equal(conf, s.Node.Conf))
		}
	}
	// What no disk keeps may be any that is right.
	s := held(impl.RoleFollow, 7)
	for clock := range impl.MaxLimit + 1 {
		for lead := range impl.MaxNodes + 1 {
			holdServer(t, changedServer(s, onNode(func(n *impl.Node) { n.Clock, n.Lead, n.Limit = clock, lead, max(1, clock) })), true)
		}
	}
	for role := range 3 {
		holdServer(t, changedServer(held(role, 7), onNode(func(n *impl.Node) { n.Role, n.Votes, n.Peers = 0, nil, nil })), true)
	}
	for id := 1; id <= impl.MaxNodes; id++ {
		holdServer(t, changedServer(s, onNode(func(n *impl.Node) { n.Id = id })), true)
	}
}

func TestServerOkOfApplied(t *testing.T) {
	for _, role := range []int{impl.RoleFollow, impl.RoleStand, impl.RoleLead} {
		for commit := 3; commit <= 12; commit++ {
			for applied := 3; applied <= 12; applied++ {
				s := changedServer(held(role, applied), onNode(func(n *impl.Node) { n.Commit = commit }))
				holdServer(t, s, applied <= commit)
				// The hall is that of what is applied, of nothing else.
				for other := 3; other <= 12; other++ {
					if !equalHalls(heldHallAt(other), s.Hall) {
						holdServer(t, changedServer(s, func(s *impl.Server) { s.Applied = other }), false)
						holdServer(t, changedServer(s, func(s *impl.Server) { s.Hall = heldHallAt(other) }), false)
					}
				}
			}
		}
	}
	for _, applied := range []int{math.MinInt, -1, 0, 1, 2, 12, 13, 1000000, math.MaxInt} {
		holdServer(t, changedServer(held(impl.RoleFollow, 11), func(s *impl.Server) { s.Applied = applied }), false)
		holdServer(t, changedServer(held(impl.RoleFollow, 3), func(s *impl.Server) { s.Applied = applied }), false)
	}
}

func TestServerOkOfHalls(t *testing.T) {
	for _, change := range []func(h *impl.Hall){
		func(h *impl.Hall) { *h = impl.Hall{} },
		func(h *impl.Hall) { h.Sessions = append(h.Sessions, impl.Session{Token: 99}) },
		func(h *impl.Hall) { h.Outs[1].Acked++ },
		func(h *impl.Hall) { h.Outs[0].Ids = append(h.Outs[0].Ids, 20) },
		func(h *impl.Hall) { h.Outs = append(h.Outs, impl.Out{Dest: 3}) },
		func(h *impl.Hall) { h.Room.Good = append(h.Room.Good, true) },
		func(h *impl.Hall) { h.Room.States = append(h.Room.States, nil) },
		func(h *impl.Hall) { h.Room.Events = append(h.Room.Events, create(1)) },
	} {
		holdEachServer(t, false, func(s *impl.Server) { change(&s.Hall) })
	}
	for _, applied := range []int{3, 4, 8, 11} {
		s := held(impl.RoleStand, applied)
		for _, change := range []func(h *impl.Hall){
			func(h *impl.Hall) { h.Sessions[0].Token++ }, func(h *impl.Hall) { h.Sessions[0].Last++ }, func(h *impl.Hall) { h.Sessions[0].Reply += "x" },
			func(h *impl.Hall) { h.Room.Good[0] = false }, func(h *impl.Hall) { h.Room.States[1][0].Id++ }, func(h *impl.Hall) { h.Room.Events[1].User = 2 }, func(h *impl.Hall) { h.Room.Events[0].Id = 5 },
		} {
			holdServer(t, changedServer(s, func(s *impl.Server) { change(&s.Hall) }), false)
		}
	}
}

func TestServerOkOfStages(t *testing.T) {
	for _, size := range []int{0, 1, 60, impl.MaxText - 1, impl.MaxText} {
		holdEachServer(t, true, func(s *impl.Server) { s.Stage = longText(size) })
	}
	for _, size := range []int{impl.MaxText + 1, impl.MaxText + 2, 2 * impl.MaxText} {
		holdEachServer(t, false, func(s *impl.Server) { s.Stage = longText(size) })
	}
	for _, index := range edgeIndexes {
		holdEachServer(t, true, func(s *impl.Server) { s.StageAt = index })
	}
	for _, index := range []int{math.MinInt, -1, impl.MaxIndex + 1, math.MaxInt} {
		holdEachServer(t, false, func(s *impl.Server) { s.StageAt = index })
	}
	for _, term := range edgeTerms {
		holdEachServer(t, true, func(s *impl.Server) { s.StageTerm = term })
	}
	for _, term := range wrongTerms {
		holdEachServer(t, false, func(s *impl.Server) { s.StageTerm = term })
	}
}

// Entries that are applied are told of one by one, and no more than MaxApply of them at a time.
func TestServeApplies(t *testing.T) {
	for applied := 3; applied <= 11; applied++ {
		for commit := applied; commit <= 12; commit++ {
			s := changedServer(held(impl.RoleFollow, applied), onNode(func(n *impl.Node) { n.Commit = commit }))
			to := min(commit, applied+6)
			tick := onNode(func(n *impl.Node) { n.Clock = 4 })
			wantServe(t, s, ticking(9), outcome{done: heldDone(applied, to)}, tick, appliedTo(to))
		}
	}
	// What waits is applied whatever comes, and by a snapshot that is none, too.
	s := held(impl.RoleFollow, 3)
	nine := heldDone(3, 9)
	wantServe(t, s, snapping(), outcome{done: nine}, appliedTo(9))
	stale := impl.Message{Kind: impl.TellVote, From: 3, To: 2, Term: 1}
	s = wantServe(t, s, arriving(stale), outcome{done: nine}, appliedTo(9))
	s = wantServe(t, s, arriving(stale), outcome{done: heldDone(9, 11)}, appliedTo(11))
	wantServe(t, s, arriving(stale), outcome{})
}

// asks are the messages of this kind from the node 2 to the others of its conf.
func asks(kind, term, index, logTerm int) (list []impl.Message) {
	for _, to := range []int{1, 3, 4} {
		list = append(list, impl.Message{Kind: kind, From: 2, To: to, Term: term, Index: index, LogTerm: logTerm})
	}
	return list
}

// addedTo are the acts that put these frames behind the file j5.
func addedTo(records ...string) []impl.Act {
	return []impl.Act{add("j5", framesOf(records...)), keep("j5")}
}

func TestServeTick(t *testing.T) {
	waiting := func(role int) impl.Server {
		return changedServer(held(role, 9), onNode(func(n *impl.Node) { n.Clock = 6 }))
	}
	stood := onNode(func(n *impl.Node) {
		n.Term, n.Vote, n.Role, n.Lead, n.Clock, n.Limit, n.Votes = 5, 2, impl.RoleStand, 0, 0, 9, []int{2}
	})
	done := heldDone(9, 11)
	for _, role := range []int{impl.RoleFollow, impl.RoleStand} {
		wantServe(t, held(role, 9), ticking(20), outcome{done: done}, onNode(func(n *impl.Node) { n.Clock = 4 }), appliedTo(11))
		want := outcome{acts: addedTo(voteByHand(5, 2)), told: asks(impl.AskVote, 5, 12, 3), done: done}
		wantServe(t, waiting(role), ticking(9), want, stood, wrote, appliedTo(11))
	}
	// One who leads sends to each what it lacks: nothing, two entries, the snapshot.
	told := asks(impl.AskAppend, 4, 12, 3)
	told[0].Commit, told[1].Commit = 11, 11
	told[1].Index, told[1].Entries = 10, heldLog().Entries[7:]
	text := snapByHand(heldSnap())
	told[2] = impl.Message{Kind: impl.AskInstall, From: 2, To: 4, Term: 4, Index: 3, LogTerm: 1, Conf: []int{1, 2, 3}, Data: text[:min(len(text), 60)], Last: len(text) <= 60}
	wantServe(t, held(impl.RoleLead, 9), ticking(1), outcome{told: told, done: done}, appliedTo(11))
	// Who is alone leads as soon as it stands, and has agreed with itself at once.
	s := changedServer(heldAlone(5), onNode(func(n *impl.Node) { n.Role, n.Lead, n.Clock, n.Commit = impl.RoleFollow, 0, 6, 5 }))
	wantServe(t, s, ticking(9), outcome{acts: addedTo(voteByHand(5, 2), entryByHand(7, none(5))), done: []impl.Done{
		{Index: 6, Entry: asked(4, askingWho(1, 4)), Reply: "in 1"}, {Index: 7, Entry: none(5)},
	}}, onNode(func(n *impl.Node) {
		n.Term, n.Role, n.Lead, n.Clock, n.Limit, n.Commit = 5, impl.RoleLead, 2, 0, 9, 7
		n.Log.Entries = append(n.Log.Entries, none(5))
	}), wrote, func(s *impl.Server) {
		s.Applied, s.Hall.Sessions[0] = 7, impl.Session{Token: 1, Last: 4, Reply: "in 1"}
	})
	for _, limit := range []int{math.MinInt, -1, 0, 21, 22, math.MaxInt} {
		for _, s := range baseServers() {
			refuseServe(t, s, ticking(limit))
		}
	}
	for limit := 1; limit <= impl.MaxLimit; limit++ {
		for _, s := range baseServers() {
			if o := holdServe(t, s, ticking(limit)); !o.ok {
				t.Errorf("a tick by %d is refused by %s", limit, shownServer(s))
			}
			s.Node.Clock = s.Node.Limit - 1
			losePower(t, s, holdServe(t, s, ticking(limit)))
		}
	}
}

// from1 comes from the node 1 to the node 2.
func from1(kind, term, index, logTerm int) impl.Message {
	return impl.Message{Kind: kind, From: 1, To: 2, Term: term, Index: index, LogTerm: logTerm}
}

// to1 is what the node 2 replies.
func to1(kind, term, index int, ok bool) impl.Message {
	return impl.Message{Kind: kind, From: 2, To: 1, Term: term, Index: index, Ok: ok}
}

func TestServeVotes(t *testing.T) {
	s := held(impl.RoleFollow, 11)
	voted := func(term, vote, lead, clock int) func(s *impl.Server) {
		return onNode(func(n *impl.Node) {
			n.Term, n.Vote, n.Lead, n.Clock, n.Role, n.Votes = term, vote, lead, clock, impl.RoleFollow, nil
		})
	}
	told := func(term int, ok bool) []impl.Message { return []impl.Message{to1(impl.TellVote, term, 0, ok)} }
	wantServe(t, s, arriving(from1(impl.AskVote, 4, 12, 3)), outcome{acts: addedTo(voteByHand(4, 1)), told: told(4, true)}, voted(4, 1, 1, 0), wrote)
	wantServe(t, s, arriving(from1(impl.AskVote, 4, 11, 3)), outcome{told: told(4, false)})
	wantServe(t, s, arriving(from1(impl.AskVote, 3, 12, 3)), outcome{told: told(4, false)})
	wantServe(t, s, arriving(from1(impl.AskVote, 300, 12, 3)), outcome{acts: addedTo(voteByHand(300, 1)), told: told(300, true)}, voted(300, 1, 0, 0), wrote)
	wantServe(t, s, arriving(from1(impl.AskVote, 5, 11, 3)), outcome{acts: addedTo(voteByHand(5, 0)), told: told(5, false)}, voted(5, 0, 0, 3), wrote)
	stander := held(impl.RoleStand, 11)
	wantServe(t, stander, arriving(from1(impl.AskVote, 4, 12, 3)), outcome{told: told(4, false)})
	wantServe(t, stander, arriving(from1(impl.AskVote, 5, 12, 3)), outcome{acts: addedTo(voteByHand(5, 1)), told: told(5, true)}, voted(5, 1, 0, 0), wrote)
	// With the third vote of four it leads; what it puts behind its log is written ahead of what it tells.
	vote := from1(impl.TellVote, 4, 0, 0)
	wantServe(t, stander, arriving(vote), outcome{})
	vote.Ok = true
	sends := asks(impl.AskAppend, 4, 12, 3)
	for at := range sends {
		sends[at].Commit, sends[at].Entries = 11, []impl.Entry{none(4)}
	}
	wantServe(t, stander, arriving(vote), outcome{acts: addedTo(entryByHand(13, none(4))), told: sends}, onNode(func(n *impl.Node) {
		n.Role, n.Lead, n.Votes, n.Peers = impl.RoleLead, 2, nil, []impl.Peer{peer(1, 13, 0, 0), peer(3, 13, 0, 0), peer(4, 13, 0, 0)}
		n.Log.Entries = append(n.Log.Entries, none(4))
	}), wrote)
	// One of a later term writes that term, and nothing else.
	vote.Term = 5
	wantServe(t, stander, arriving(vote), outcome{acts: addedTo(voteByHand(5, 0))}, voted(5, 0, 0, 3), wrote)
}

func TestServeAppends(t *testing.T) {
	s := held(impl.RoleFollow, 11)
	appends := func(term, index, logTerm, commit int, entries ...impl.Entry) impl.Input {
		m := from1(impl.AskAppend, term, index, logTerm)
		m.Commit, m.Entries = commit, entries
		return arriving(m)
	}
	told := func(term, index int, ok bool) []impl.Message {
		return []impl.Message{to1(impl.TellAppend, term, index, ok)}
	}
	heard := func(term, commit int, log func(l *impl.Log)) func(s *impl.Server) {
		return onNode(func(n *impl.Node) {
			if n.Term < term {
				n.Term, n.Vote = term, 0
			}
			n.Role, n.Lead, n.Clock, n.Votes, n.Peers, n.Commit = impl.RoleFollow, 1, 0, nil, nil, commit
			log(&n.Log)
		})
	}
	same := func(*impl.Log) {}
	wantServe(t, s, appends(4, 12, 3, 0), outcome{told: told(4, 12, true)}, heard(4, 11, same))
	wantServe(t, s, appends(4, 12, 3, 12), outcome{told: told(4, 12, true), done: heldDone(11, 12)}, heard(4, 12, same), appliedTo(12))
	wantServe(t, s, appends(3, 12, 3, 12), outcome{told: told(4, 0, false)})
	wantServe(t, s, appends(4, 13, 3, 12), outcome{told: told(4, 12, false)}, heard(4, 11, same))
	members := asked(4, askingWho(1, 6))
	more := func(l *impl.Log) { l.Entries = append(l.Entries, members, none(4)) }
	puts := []string{entryByHand(13, members), entryByHand(14, none(4))}
	wantServe(t, s, appends(4, 12, 3, 0, members, none(4)), outcome{acts: addedTo(puts...), told: told(4, 14, true)}, heard(4, 11, more), wrote)
	// A term that is new is written with the entries; what is agreed on is applied, when it is written.
	acts := addedTo(voteByHand(7, 0), puts[0], puts[1])
	done := append(heldDone(11, 12), impl.Done{Index: 13, Entry: members, Reply: "in 1"})
	for role := range 3 {
		wantServe(t, held(role, 11), appends(7, 12, 3, 13, members, none(4)), outcome{acts: acts, told: told(7, 14, true), done: done}, heard(7, 13, more), wrote, appliedTo(12), func(s *impl.Server) {
			s.Applied, s.Hall.Sessions[0] = 13, impl.Session{Token: 1, Last: 6, Reply: "in 1"}
		})
	}
	// What nobody agreed on goes when another entry comes there; what was agreed on does not.
	other := command(4, "other")
	replaced := func(l *impl.Log) { l.Entries[8] = other }
	wantServe(t, s, appends(4, 10, 3, 0, heldLog().Entries[7], other), outcome{acts: addedTo(entryByHand(12, other)), told: told(4, 12, true)}, heard(4, 11, replaced), wrote)
	wantServe(t, s, appends(4, 10, 3, 0, other), outcome{told: told(4, 12, false)}, heard(4, 11, same))
	// Four entries at most come at once, and six at most are applied.
	five := changedServer(held(impl.RoleFollow, 8), func(s *impl.Server) { s.Node.Commit = 8 })
	list := []impl.Entry{none(4), none(4), none(4), none(4)}
	grown := func(l *impl.Log) { l.Entries = append(l.Entries, list...) }
	frames := []string{entryByHand(13, none(4)), entryByHand(14, none(4)), entryByHand(15, none(4)), entryByHand(16, none(4))}
	rest := []impl.Done{{Index: 13, Entry: none(4)}, {Index: 14, Entry: none(4)}}
	wantServe(t, five, appends(4, 12, 3, 16, list...), outcome{acts: addedTo(frames...), told: told(4, 16, true), done: append(heldDone(8, 12), rest...)}, heard(4, 16, grown), wrote, appliedTo(12), func(s *impl.Server) { s.Applied = 14 })
}

func TestServeReplies(t *testing.T) {
	s := held(impl.RoleLead, 11)
	reply := func(kind, from, term, index int, ok bool) impl.Input {
		return arriving(impl.Message{Kind: kind, From: from, To: 2, Term: term, Index: index, Ok: ok})
	}
	peerIs := func(at int, p impl.Peer) func(s *impl.Server) {
		return onNode(func(n *impl.Node) { n.Peers[at] = p })
	}
	append3 := asks(impl.AskAppend, 4, 11, 3)[1]
	append3.Commit, append3.Entries = 11, heldLog().Entries[8:]
	wantServe(t, s, reply(impl.TellAppend, 3, 4, 11, true), outcome{told: []impl.Message{append3}}, peerIs(1, peer(3, 12, 11, 40)))
	wantServe(t, s, reply(impl.TellAppend, 3, 3, 11, true), outcome{})
	// What is sent anew has its piece of the snapshot, too.
	install3 := impl.Message{Kind: impl.AskInstall, From: 2, To: 4, Term: 4, Index: 3, LogTerm: 1, Conf: []int{1, 2, 3}, Commit: 30, Data: snapByHand(heldSnap())[30:], Last: true}
	if len(install3.Data) > 60 {
		t.Fatalf("the test is wrong: %d bytes", len(install3.Data))
	}
	in := reply(impl.TellInstall, 4, 4, 3, false)
	in.Message.Commit = 30
	wantServe(t, s, in, outcome{told: []impl.Message{install3}}, peerIs(2, peer(4, 3, 0, 30)))
	for at := range 4 {
		append4 := impl.Message{Kind: impl.AskAppend, From: 2, To: 4, Term: 4, Index: 3, LogTerm: 1, Commit: 11, Entries: heldLog().Entries[:4]}
		wantServe(t, changedServer(s, func(s *impl.Server) { s.Node.Peers[2].Sent = 20 * at }), reply(impl.TellInstall, 4, 4, 3, true), outcome{told: []impl.Message{append4}}, peerIs(2, peer(4, 4, 3, 0)))
	}
	// With one more who has all, what is of its own term is agreed on, and done at once.
	own := changedServer(s, onNode(func(n *impl.Node) { n.Log.Entries = append(n.Log.Entries, none(4)) }))
	own = serverOf(own.Node, heldHall(), 5, 11)
	own = wantServe(t, own, reply(impl.TellAppend, 1, 4, 13, true), outcome{}, peerIs(0, peer(1, 14, 13, 0)))
	wantServe(t, own, reply(impl.TellAppend, 3, 4, 13, true), outcome{done: append(heldDone(11, 12), impl.Done{Index: 13, Entry: none(4)})}, peerIs(1, peer(3, 14, 13, 40)), onNode(func(n *impl.Node) { n.Commit = 13 }), appliedTo(12), func(s *impl.Server) { s.Applied = 13 })
	for kind := impl.TellAppend; kind <= impl.TellInstall; kind += 2 {
		wantServe(t, s, reply(kind, 3, 9, 11, true), outcome{acts: addedTo(voteByHand(9, 0))}, onNode(func(n *impl.Node) { n.Term, n.Vote, n.Role, n.Lead, n.Peers = 9, 0, impl.RoleFollow, 0, nil }), wrote)
	}
}

func TestServeRefusesMessages(t *testing.T) {
	for _, s := range baseServers() {
		for _, base := range baseMessages() {
			base.To, base.From = s.Node.Id, 1+s.Node.Id%4
			if o := holdServe(t, s, arriving(base)); !o.ok {
				t.Errorf("%s is refused by %s", shownMessage(base), shownServer(s))
			}
			for _, to := range []int{-1, 0, 1, 2, 3, 4, 5} {
				if m := copyMessage(base); to != s.Node.Id {
					m.To = to
					refuseServe(t, s, arriving(m))
				}
			}
			for _, change := range []func(m *impl.Message){
				func(m *impl.Message) { m.Kind = 0 }, func(m *impl.Message) { m.Kind = 7 }, func(m *impl.Message) { m.From = m.To }, func(m *impl.Message) { m.From = 5 }, func(m *impl.Message) { m.Term = impl.MaxTerm + 1 }, func(m *impl.Message) { m.Term = -1 },
				func(m *impl.Message) { m.Index = impl.MaxIndex + 1 }, func(m *impl.Message) { m.LogTerm = -1 }, func(m *impl.Message) { m.Commit = -1 }, func(m *impl.Message) { m.Conf = []int{2, 1} }, func(m *impl.Message) { m.Data = longText(61) }, func(m *impl.Message) { m.Entries = []impl.Entry{{Kind: 4}} },
			} {
				m := copyMessage(base)
				change(&m)
				refuseServe(t, s, arriving(m))
			}
		}
	}
}

func TestServeKinds(t *testing.T) {
	m := impl.Message{Kind: impl.TellVote, From: 3, To: 2, Term: 1}
	for _, kind := range []int{math.MinInt, -1, 0, 5, 6, 257, math.MaxInt} {
		for _, s := range []impl.Server{held(impl.RoleFollow, 7), held(impl.RoleLead, 11), heldAlone(4)} {
			refuseServe(t, s, impl.Input{Kind: kind, Limit: 5, Message: m, Entry: impl.EntryNone})
		}
	}
	// What the Kind does not ask for may be anything.
	s := held(impl.RoleLead, 7)
	for kind, in := range map[int]impl.Input{
		impl.InTick:    {Limit: 5, Entry: 9, Data: longText(300), Message: impl.Message{Kind: 9, To: 1, Term: -1}},
		impl.InMessage: {Limit: -1, Entry: 9, Data: "x", Message: m},
		impl.InPropose: {Limit: 99, Entry: impl.EntryNone, Message: impl.Message{Kind: impl.AskInstall, From: 1, To: 2, Term: 9, Index: 99}},
		impl.InSnap:    {Limit: 99, Entry: -5, Data: longText(30000), Message: impl.Message{Kind: impl.AskInstall, From: 1, To: 2, Term: 9, Index: 99}},
	} {
		in.Kind = kind
		if o := holdServe(t, s, in); !o.ok {
			t.Errorf("%s is refused", shownInput(in))
		}
	}
}

// wrongServers are each wrong in one thing.
func wrongServers() (list []impl.Server) {
	for _, change := range []func(s *impl.Server){
		func(s *impl.Server) { s.Disk = with(s.Disk, "s+", "") }, func(s *impl.Server) { s.Disk = notKept(s.Disk, "j5") }, func(s *impl.Server) { s.Disk = diskOf() },
		func(s *impl.Server) { s.Journal.Number++ }, func(s *impl.Server) { s.Journal.Term++ }, func(s *impl.Server) { s.Node.Id = 0 }, func(s *impl.Server) { s.Node.Term++ }, func(s *impl.Server) { s.Node.Vote = 1 },
		func(s *impl.Server) { s.Node.Clock = 21 }, func(s *impl.Server) { s.Node.Conf = []int{2} }, func(s *impl.Server) { s.Applied = 2 }, func(s *impl.Server) { s.Applied = 12 }, func(s *impl.Server) { s.Hall.Outs[0].Acked++ },
		func(s *impl.Server) { s.Stage = longText(impl.MaxText + 1) }, func(s *impl.Server) { s.StageAt = -1 }, func(s *impl.Server) { s.StageTerm = impl.MaxTerm + 1 },
	} {
		list = append(list, changedServer(held(impl.RoleLead, 7), change))
	}
	return append(list, impl.Server{})
}

func TestServeRefusesWrongServers(t *testing.T) {
	for _, s := range wrongServers() {
		m := impl.Message{Kind: impl.TellVote, From: 3, To: s.Node.Id, Term: 1}
		for _, in := range []impl.Input{ticking(5), arriving(m), proposing(impl.EntryNone, ""), snapping()} {
			refuseServe(t, s, in)
		}
	}
}

// toldAll is what the node of held sends when it leads, with these entries behind those it had.
func toldAll(s impl.Server, behind ...impl.Entry) []impl.Message {
	list := asks(impl.AskAppend, 4, 12, 3)
	list[0].Commit, list[0].Entries = 11, behind
	list[1].Index, list[1].Commit, list[1].Entries = 10, 11, append(heldLog().Entries[7:], behind...)
	text := snapByHand(heldSnap())
	sent := s.Node.Peers[2].Sent
	list[2] = impl.Message{Kind: impl.AskInstall, From: 2, To: 4, Term: 4, Index: 3, LogTerm: 1, Conf: []int{1, 2, 3}, Commit: sent, Data: text[sent:min(len(text), sent+60)], Last: len(text)-sent <= 60}
	return list
}

func TestServeProposes(t *testing.T) {
	s := held(impl.RoleLead, 9)
	say4 := sending(1, 6, say(1))
	for _, e := range []impl.Entry{asked(4, say4), command(4, ""), command(4, "no command"), command(4, longText(impl.MaxData)), none(4)} {
		puts := onNode(func(n *impl.Node) { n.Log.Entries = append(n.Log.Entries, e) })
		want := outcome{acts: addedTo(entryByHand(13, e)), told: toldAll(s, e), done: heldDone(9, 11), index: 13}
		wantServe(t, s, proposing(e.Kind, e.Data), want, puts, wrote, appliedTo(11))
	}
	// Who is alone has agreed at once, and has done it in the same step, with what waited ahead of it.
	for applied := 3; applied <= 6; applied++ {
		e := asked(4, sending(1, 5, say(1)))
		done := []impl.Done{{Index: 7, Entry: e, Reply: "sent 14"}}
		for at, reply := range []string{"in 1", "", "sent 8"}[:6-applied] {
			was, _ := entryOfLog(heldAlone(3).Node.Log, 6-at)
			done = append([]impl.Done{{Index: 6 - at, Entry: was, Reply: reply}}, done...)
		}
		wantServe(t, heldAlone(applied), proposing(e.Kind, e.Data), outcome{acts: addedTo(entryByHand(7, e)), done: done, index: 7}, onNode(func(n *impl.Node) {
			n.Commit, n.Log.Entries = 7, append(n.Log.Entries, e)
		}), wrote, func(s *impl.Server) {
			h, _ := foldByHand(heldHall(), s.Node.Log.Entries, 4)
			s.Applied, s.Hall = 7, h
		})
	}
}

// An EntryConf holds from the time on that it is in the log, so that one who is alone is not, behind it.
func TestServeProposesConfs(t *testing.T) {
	s := heldAlone(6)
	for _, id := range []int{1, 3, 4} {
		conf := []int{min(id, 2), max(id, 2)}
		e := confEntry(4, conf...)
		ask := impl.Message{Kind: impl.AskAppend, From: 2, To: id, Term: 4, Index: 6, LogTerm: 4, Commit: 6, Entries: []impl.Entry{e}}
		after := wantServe(t, s, proposing(impl.EntryConf, confByHand(conf)), outcome{acts: addedTo(entryByHand(7, e)), told: []impl.Message{ask}, index: 7}, onNode(func(n *impl.Node) {
			n.Log.Entries, n.Peers = append(n.Log.Entries, e), []impl.Peer{peer(id, 7, 0, 0)}
		}), wrote)
		// It is done as soon as it is agreed on, with no reply.
		reply := impl.Message{Kind: impl.TellAppend, From: id, To: 2, Term: 4, Index: 7, Ok: true}
		after = wantServe(t, after, arriving(reply), outcome{done: []impl.Done{{Index: 7, Entry: e}}}, onNode(func(n *impl.Node) {
			n.Commit, n.Peers = 7, []impl.Peer{peer(id, 8, 7, 0)}
		}), func(s *impl.Server) { s.Applied = 7 })
		refuseServe(t, after, proposing(impl.EntryConf, confByHand([]int{1, 2, 3, 4})))
	}
	// That of a node that is to be alone without the one that leads: it goes once it is agreed on, and the Disk has it.
	e := confEntry(4, 1)
	pair := confEntry(4, 1, 2)
	n := heldAlone(6).Node
	n.Log.Entries = append(n.Log.Entries, pair)
	n.Commit, n.Peers = 7, []impl.Peer{peer(1, 8, 7, 0)}
	two := serverOf(n, heldHall(), 5, 6)
	ask := impl.Message{Kind: impl.AskAppend, From: 2, To: 1, Term: 4, Index: 7, LogTerm: 4, Commit: 7, Entries: []impl.Entry{e}}
	two = wantServe(t, two, proposing(impl.EntryConf, confByHand([]int{1})), outcome{acts: addedTo(entryByHand(8, e)), told: []impl.Message{ask}, done: []impl.Done{{Index: 7, Entry: pair}}, index: 8}, onNode(func(n *impl.Node) {
		n.Log.Entries = append(n.Log.Entries, e)
	}), wrote, func(s *impl.Server) { s.Applied = 7 })
	reply := impl.Message{Kind: impl.TellAppend, From: 1, To: 2, Term: 4, Index: 8, Ok: true}
	wantServe(t, two, arriving(reply), outcome{done: []impl.Done{{Index: 8, Entry: e}}}, onNode(func(n *impl.Node) {
		n.Commit, n.Role, n.Lead, n.Peers = 8, impl.RoleFollow, 0, nil
	}), func(s *impl.Server) { s.Applied = 8 })
}

func TestServeRefusesProposals(t *testing.T) {
	for _, s := range []impl.Server{held(impl.RoleFollow, 11), held(impl.RoleStand, 11)} {
		for kind := range 5 {
			for _, data := range []string{"", "x", "\x01", "\x01\x02", "\x01\x02\x03"} {
				refuseServe(t, s, proposing(kind, data))
			}
		}
	}
	for _, s := range []impl.Server{held(impl.RoleLead, 11), heldAlone(6)} {
		for _, kind := range []int{math.MinInt, -1, 0, 4, 257, math.MaxInt} {
			refuseServe(t, s, proposing(kind, ""))
		}
		refuseServe(t, s, proposing(impl.EntryNone, "x"))
		refuseServe(t, s, proposing(impl.EntryCommand, longText(impl.MaxData+1)))
		for _, data := range []string{"", "x", "\x05", "\x02\x01", "\x01\x01", "\x02", "\x01\x02\x03", "\x01\x02\x03\x04", "\x00"} {
			refuseServe(t, s, proposing(impl.EntryConf, data))
		}
	}
	// None of its own term is agreed on yet.
	for _, conf := range rightConfs() {
		refuseServe(t, held(impl.RoleLead, 11), proposing(impl.EntryConf, confByHand(conf)))
	}
	n := heldAlone(3).Node
	for count := 57; count <= impl.MaxLog; count++ {
		n.Log, n.Commit = logOf(3, 1, slices.Repeat([]impl.Entry{none(4)}, count)...), 3+count
		s := serverOf(n, heldHall(), 5, 3)
		if count == impl.MaxLog {
			refuseServe(t, s, proposing(impl.EntryNone, ""))
			refuseServe(t, s, proposing(impl.EntryCommand, "more"))
			continue
		}
		if o := holdServe(t, s, proposing(impl.EntryNone, "")); o.index != 4+count {
			t.Errorf("behind %d entries there is %s", count, o.shown())
		}
	}
	// A full log has room again behind a snapshot.
	s := serverOf(n, heldHall(), 5, 63)
	o := holdServe(t, s, snapping())
	if o = holdServe(t, o.Server, proposing(impl.EntryNone, "")); o.index != 64 {
		t.Errorf("behind a snapshot there is %s", o.shown())
	}
	for start := impl.MaxIndex - 2; start <= impl.MaxIndex; start++ {
		n.Log, n.Commit, n.Term = logOf(start, 4), start, 4
		s := serverOf(n, heldHall(), 5, start)
		if start == impl.MaxIndex {
			refuseServe(t, s, proposing(impl.EntryNone, ""))
			continue
		}
		if o := holdServe(t, s, proposing(impl.EntryNone, "")); o.index != start+1 || o.Applied != start+1 {
			t.Errorf("behind the index %d there is %s", start, o.shown())
		}
	}
}

// snapActsFor are the acts by which a snapshot comes, piece by piece, in the place of that of the index 3.
func snapActsFor(s impl.Snap) (acts []impl.Act) {
	text := snapByHand(s)
	for from := 0; from < len(text); from += 60 {
		acts = append(acts, add("s+", text[from:min(len(text), from+60)]))
	}
	return append(acts, keep("s+"), move("s+", fmt.Sprint("s", s.Index)), drop("s3"))
}

func TestServeSnaps(t *testing.T) {
	entries := heldLog().Entries
	for applied := 4; applied <= 11; applied++ {
		conf := []int{1, 2, 3}
		if applied >= 7 {
			conf = []int{1, 2, 3, 4}
		}
		snap := snapOf(applied, entries[applied-4].Term, hallByHand(heldHallAt(applied)), conf...)
		for role := range 3 {
			s := held(role, applied)
			behind := journalOf(6, 4, s.Node.Vote, logOf(applied, snap.Term, entries[applied-3:]...))
			acts := append(snapActsFor(snap), newJournal(behind, 5)...)
			after := wantServe(t, s, snapping(), outcome{acts: acts}, onNode(func(n *impl.Node) { n.Conf, n.Log = conf, copyLog(behind.Log) }), func(s *impl.Server) { s.Journal = behind })
			if got, ok := impl.SnapOf(after); !ok || !sameSnap(got, snap) {
				t.Errorf("SnapOf is %s, %v; want %s", shownSnap(got), ok, shownSnap(snap))
			}
			// Once more it is none, and what waits is applied.
			to := min(11, applied+6)
			wantServe(t, after, snapping(), outcome{done: heldDone(applied, to)}, appliedTo(to))
		}
	}
	// At Log's Start it is none, whatever waits.
	wantServe(t, held(impl.RoleLead, 3), snapping(), outcome{done: heldDone(3, 9)}, appliedTo(9))
	s := changedServer(held(impl.RoleLead, 3), onNode(func(n *impl.Node) { n.Commit = 3 }))
	wantServe(t, s, snapping(), outcome{})
}

// A snapshot of what is staged has no part in that of its own.
func TestServeSnapsKeepStages(t *testing.T) {
	s := changedServer(held(impl.RoleFollow, 5), func(s *impl.Server) { s.Stage, s.StageAt, s.StageTerm = longText(300), 20, 4 })
	o := holdServe(t, s, snapping())
	if !o.ok || o.Stage != s.Stage || o.StageAt != 20 || o.StageTerm != 4 {
		t.Errorf("what was staged is %s", o.shown())
	}
	losePower(t, s, o)
}

// A file that is longer than SegBytes is written anew ahead of the snapshot, and the rest of its log once more behind it.
func TestServeOfLongFiles(t *testing.T) {
	s := held(impl.RoleFollow, 8)
	short := numbered(s.Journal, 6)
	snap := snapOf(8, 2, hallByHand(heldHallAt(8)), 1, 2, 3, 4)
	behind := journalOf(7, 4, 0, logOf(8, 2, heldLog().Entries[5:]...))
	s.Disk = with(s.Disk, "j5", paddedFile(t, s.Journal, impl.SegBytes+1))
	acts := slices.Concat(newJournal(short, 5), snapActsFor(snap), newJournal(behind, 6))
	wantServe(t, s, snapping(), outcome{acts: acts}, onNode(func(n *impl.Node) { n.Conf, n.Log = snap.Conf, copyLog(behind.Log) }), func(s *impl.Server) { s.Journal = behind })
	done := heldDone(8, 11)
	for _, in := range []impl.Input{ticking(20), arriving(impl.Message{Kind: impl.TellVote, From: 3, To: 2, Term: 1})} {
		clock := 3
		if in.Kind == impl.InTick {
			clock = 4
		}
		wantServe(t, s, in, outcome{acts: newJournal(short, 5), done: done}, onNode(func(n *impl.Node) { n.Clock = clock }), func(s *impl.Server) { s.Journal = short }, appliedTo(11))
	}
	// One of SegBytes is added to, and rewritten at the next input.
	s.Disk = with(s.Disk, "j5", paddedFile(t, s.Journal, impl.SegBytes))
	wantServe(t, s, ticking(20), outcome{done: done}, onNode(func(n *impl.Node) { n.Clock = 4 }), appliedTo(11))
	vote := from1(impl.AskVote, 5, 12, 3)
	voted := onNode(func(n *impl.Node) { n.Term, n.Vote, n.Lead, n.Clock = 5, 1, 0, 0 })
	long := wantServe(t, s, arriving(vote), outcome{acts: addedTo(voteByHand(5, 1)), told: []impl.Message{to1(impl.TellVote, 5, 0, true)}, done: done}, voted, wrote, appliedTo(11))
	next := numbered(long.Journal, 6)
	wantServe(t, long, ticking(20), outcome{acts: newJournal(next, 5)}, onNode(func(n *impl.Node) { n.Clock = 1 }), func(s *impl.Server) { s.Journal = next })
}

// Where there is no next journal, all that asks for one is refused, and nothing else.
func TestServeAtTheLastJournal(t *testing.T) {
	vote := arriving(from1(impl.AskVote, 5, 12, 3))
	for number := impl.MaxSegment - 2; number <= impl.MaxSegment; number++ {
		s := serverOf(heldNode(impl.RoleFollow), heldHall(), number, 8)
		if o := holdServe(t, s, vote); !o.ok || o.Journal.Number != number {
			t.Errorf("on j%d there is %s", number, o.shown())
		}
		o := holdServe(t, s, snapping())
		if o.ok != (number < impl.MaxSegment) || o.ok && o.Journal.Number != number+1 {
			t.Errorf("on j%d there is %s", number, o.shown())
		}
		s.Disk = with(s.Disk, fmt.Sprint("j", number), paddedFile(t, s.Journal, impl.SegBytes+1))
		for _, in := range []impl.Input{ticking(5), vote} {
			o := holdServe(t, s, in)
			if o.ok != (number < impl.MaxSegment) || o.ok && o.Journal.Number != number+1 {
				t.Errorf("on a long j%d there is %s", number, o.shown())
			}
		}
		// Here it takes two.
		o = holdServe(t, s, snapping())
		if o.ok != (number+2 <= impl.MaxSegment) || o.ok && o.Journal.Number != number+2 {
			t.Errorf("on a long j%d there is %s", number, o.shown())
		}
		m := lastPiece(t, snapOf(20, 4, hallByHand(smallHall()), 1))
		o = holdServe(t, s, arriving(m))
		if o.ok != (number+2 <= impl.MaxSegment) || o.ok && o.Journal.Number != number+2 {
			t.Errorf("on a long j%d there is %s", number, o.shown())
		}
	}
	// As a torn file has no next one there, what comes up comes up from the old file or from all of the new one.
	s := serverOf(heldNode(impl.RoleFollow), heldHall(), impl.MaxSegment, 8)
	o := holdServe(t, s, vote)
	for more := range len(o.acts[0].Text) + 1 {
		lost, _ := impl.CutActs(s.Disk, o.acts, 1, leftOf(s.Disk, o.acts, 1, more))
		if more > 0 && more < len(o.acts[0].Text) {
			wantCode(t, 2, lost, 5, 2)
			continue
		}
		if up := comesUp(t, 2, lost); up.Node.Term != []int{4, 5}[min(more, 1)] {
			t.Errorf("with %d bytes left it comes up as %s", more, shownServer(up))
		}
	}
}

// Where a disk has no room for one more file, nothing is put in the place of another one.
func TestServeOfFullDisks(t *testing.T) {
	s := held(impl.RoleFollow, 8)
	for at := range impl.MaxFiles - 3 {
		s.Disk = with(s.Disk, fmt.Sprint("a", at), "x")
	}
	full := changedServer(s, func(s *impl.Server) { s.Disk = with(s.Disk, "a", "x") })
	m := lastPiece(t, snapOf(20, 4, hallByHand(smallHall()), 1))
	vote := arriving(from1(impl.AskVote, 5, 12, 3))
	for _, in := range []impl.Input{snapping(), arriving(m)} {
		o := holdServe(t, s, in)
		if !o.ok {
			t.Errorf("%s is refused", shownInput(in))
		}
		losePower(t, s, o)
		refuseServe(t, full, in)
	}
	long := changedServer(full, func(s *impl.Server) { s.Disk = with(s.Disk, "j5", paddedFile(t, s.Journal, impl.SegBytes+1)) })
	for _, in := range []impl.Input{ticking(5), vote, snapping(), arriving(m)} {
		refuseServe(t, long, in)
	}
	for _, in := range []impl.Input{ticking(5), vote} {
		o := holdServe(t, full, in)
		if !o.ok {
			t.Errorf("%s is refused", shownInput(in))
		}
		// With a file that is torn this disk would have no room for the next one.
		for whole := range len(o.acts) + 1 {
			for _, more := range []int{0, impl.MaxText} {
				lost, _ := impl.CutActs(full.Disk, o.acts, whole, leftOf(full.Disk, o.acts, whole, more))
				holdKept(t, full, comesUp(t, 2, lost), heldHall())
			}
		}
	}
}

// The greatest hall there is has a snapshot that is written by less than MaxActs acts, also where the journal is written twice.
func TestServeOfTheGreatestHall(t *testing.T) {
	n := heldAlone(3).Node
	n.Log, n.Commit = logOf(3, 1, none(4)), 4
	s := serverOf(n, greatestHall(t), 5, 4)
	s.Disk = with(s.Disk, "j5", paddedFile(t, s.Journal, impl.SegBytes+1))
	o := holdServe(t, s, snapping())
	snap := snapOf(4, 4, hallByHand(greatestHall(t)), 2)
	want := slices.Concat(newJournal(numbered(s.Journal, 6), 5), snapActsFor(snap), newJournal(journalOf(7, 4, 2, logOf(4, 4)), 6))
	if !o.ok || !slices.Equal(o.acts, want) || len(want) != 43 {
		t.Errorf("there are %d acts, not %d", len(o.acts), len(want))
	}
	losePower(t, s, o)
}

// pieceOf is the piece of a text from this byte on, that the node 1 sends to the node 2 in the term 4 as that of a snapshot.
func pieceOf(snap impl.Snap, text string, from, to int) impl.Message {
	m := from1(impl.AskInstall, 4, snap.Index, snap.Term)
	m.Conf, m.Commit, m.Data, m.Last = snap.Conf, from, text[from:to], to == len(text)
	return m
}

// lastPiece is all of a snapshot, or what does not fit into one message is staged already by the test.
func lastPiece(t *testing.T, snap impl.Snap) impl.Message {
	t.Helper()
	text := snapByHand(snap)
	if len(text) > 60 {
		t.Fatalf("the test is wrong: %d bytes", len(text))
	}
	return pieceOf(snap, text, 0, len(text))
}

// followed is what becomes of any node that hears the node 1 lead.
func followed(n *impl.Node) {
	n.Role, n.Lead, n.Clock, n.Votes, n.Peers = impl.RoleFollow, 1, 0, nil, nil
}

func staged(text string, at, term int) func(s *impl.Server) {
	return func(s *impl.Server) { s.Stage, s.StageAt, s.StageTerm = text, at, term }
}

// tellsInstall are the replies of the node 2 in the term 4.
func tellsInstall(index, commit int, ok bool) []impl.Message {
	m := to1(impl.TellInstall, 4, index, ok)
	m.Commit = commit
	return []impl.Message{m}
}

// handSnap has a text of several pieces, and an index that no log of the tests has.
func handSnap() impl.Snap { return snapOf(20, 4, hallByHand(handHall()), 1, 2, 4) }

func TestStagePieces(t *testing.T) {
	snap := handSnap()
	text := snapByHand(snap)
	if len(text) < 190 {
		t.Fatalf("the test is wrong: %d bytes", len(text))
	}
	for role := range 3 {
		s := held(role, 11)
		follows := onNode(followed)
		// The first piece, the next, and each of them once more.
		s = wantServe(t, s, arriving(pieceOf(snap, text, 0, 60)), outcome{told: tellsInstall(20, 60, false)}, follows, staged(text[:60], 20, 4))
		wantServe(t, s, arriving(pieceOf(snap, text, 0, 60)), outcome{told: tellsInstall(20, 60, false)})
		s = wantServe(t, s, arriving(pieceOf(snap, text, 60, 120)), outcome{told: tellsInstall(20, 120, false)}, staged(text[:120], 20, 4))
		for from := range 170 {
			// One that comes too late, and one that leaves a gap, also by one byte.
			if from != 120 {
				wantServe(t, s, arriving(pieceOf(snap, text, from, from+20)), outcome{told: tellsInstall(20, 120, false)})
			}
		}
		for _, from := range []int{20000, 20001, impl.MaxIndex} {
			m := pieceOf(snap, text, 0, 60)
			m.Commit = from
			wantServe(t, s, arriving(m), outcome{told: tellsInstall(20, 120, false)})
			m.Last = true
			wantServe(t, s, arriving(m), outcome{told: tellsInstall(20, 120, false)})
		}
		// Of any length, also none.
		for to := 120; to <= 180; to++ {
			wantServe(t, s, arriving(pieceOf(snap, text, 120, to)), outcome{told: tellsInstall(20, to, false)}, staged(text[:to], 20, 4))
		}
		// One of another snapshot begins anew, or does not begin at all.
		for _, other := range []impl.Snap{snapOf(21, 4, "", 1), snapOf(19, 4, "", 1), snapOf(20, 3, "", 1), snapOf(20, 5, "", 1), snapOf(12, 3, "", 1), snapOf(impl.MaxIndex, impl.MaxTerm, "", 1)} {
			wantServe(t, s, arriving(pieceOf(other, text, 0, 50)), outcome{told: tellsInstall(other.Index, 50, false)}, staged(text[:50], other.Index, other.Term))
			wantServe(t, s, arriving(pieceOf(other, text, 120, 180)), outcome{told: tellsInstall(other.Index, 0, false)}, staged("", other.Index, other.Term))
			wantServe(t, s, arriving(pieceOf(other, text, 0, 0)), outcome{told: tellsInstall(other.Index, 0, false)}, staged("", other.Index, other.Term))
		}
		// Of a piece ahead of the last the Conf does not count.
		m := pieceOf(snap, text, 120, 180)
		m.Conf = []int{3}
		wantServe(t, s, arriving(m), outcome{told: tellsInstall(20, 180, false)}, staged(text[:180], 20, 4))
	}
}

// What the node has agreed on already is not asked for, and what is staged stays for what it is of.
func TestStageAtCommit(t *testing.T) {
	s := changedServer(held(impl.RoleFollow, 11), staged("some", 20, 4))
	for _, index := range []int{0, 1, 2, 3, 4, 10, 11} {
		for _, last := range []bool{false, true} {
			m := pieceOf(snapOf(index, 3, "", 1), "any", 0, 3)
			m.Last = last
			wantServe(t, s, arriving(m), outcome{told: tellsInstall(index, 0, true)}, onNode(followed))
		}
	}
	// The next one up is.
	for _, index := range []int{12, 13, impl.MaxIndex} {
		m := pieceOf(snapOf(index, 3, "", 1), "any", 0, 2)
		wantServe(t, s, arriving(m), outcome{told: tellsInstall(index, 2, false)}, onNode(followed), staged("an", index, 3))
	}
	// What waits is applied behind it.
	s = held(impl.RoleFollow, 7)
	wantServe(t, s, arriving(pieceOf(snapOf(11, 3, "", 1), "any", 0, 3)), outcome{told: tellsInstall(11, 0, true), done: heldDone(7, 11)}, onNode(followed), appliedTo(11))
	wantServe(t, s, arriving(pieceOf(snapOf(12, 3, "", 1), "any", 0, 2)), outcome{told: tellsInstall(12, 2, false), done: heldDone(7, 11)}, onNode(followed), staged("an", 12, 3), appliedTo(11))
}

// installedFrom are the acts and the changes by which a snapshot takes the place of that of heldLog.
func installedFrom(s impl.Server, snap impl.Snap, hall impl.Hall) ([]impl.Act, func(s *impl.Server)) {
	behind := journalOf(6, 4, s.Node.Vote, behindByHand(heldLog(), snap.Index, snap.Term))
	return append(snapActsFor(snap), newJournal(behind, 5)...), func(s *impl.Server) {
		followed(&s.Node)
		s.Node.Log, s.Journal = copyLog(behind.Log), behind
		s.Node.Conf, s.Node.Commit, s.Applied, s.Hall = snap.Conf, snap.Index, snap.Index, hall
		s.Stage, s.StageAt, s.StageTerm = "", snap.Index, snap.Term
	}
}

func TestStageInstalls(t *testing.T) {
	for role := range 3 {
		for _, applied := range []int{3, 7, 11} {
			snap, s := handSnap(), held(role, applied)
			text := snapByHand(snap)
			from := len(text) - 13
			s.Stage, s.StageAt, s.StageTerm = text[:from], 20, 4
			acts, change := installedFrom(s, snap, handHall())
			after := wantServe(t, s, arriving(pieceOf(snap, text, from, len(text))), outcome{acts: acts, told: tellsInstall(20, 0, true)}, change)
			// It comes once more; now it is not above Commit.
			wantServe(t, after, arriving(pieceOf(snap, text, from, len(text))), outcome{told: tellsInstall(20, 0, true)})
			if got, ok := impl.SnapOf(after); !ok || !sameSnap(got, snap) {
				t.Errorf("SnapOf is %s, %v; want %s", shownSnap(got), ok, shownSnap(snap))
			}
		}
	}
	// Each index behind Commit, of the term it has in the log, and of another one: only then what stands behind it stays.
	for index := 6; index <= 14; index++ {
		for term := 1; term <= 4; term++ {
			snap := snapOf(index, term, hallByHand(smallHall()), 3)
			s := changedServer(held(impl.RoleFollow, 4), onNode(func(n *impl.Node) { n.Commit = 5 }))
			acts, change := installedFrom(s, snap, smallHall())
			wantServe(t, s, arriving(lastPiece(t, snap)), outcome{acts: acts, told: tellsInstall(index, 0, true)}, change)
		}
	}
	// With each conf there is, and each hall.
	for _, conf := range rightConfs() {
		snap, s := snapOf(20, 4, hallByHand(smallHall()), conf...), held(impl.RoleLead, 11)
		acts, change := installedFrom(s, snap, smallHall())
		wantServe(t, s, arriving(lastPiece(t, snap)), outcome{acts: acts, told: tellsInstall(20, 0, true)}, change)
	}
}

func TestStageInstallsEachHall(t *testing.T) {
	halls := rightHalls(t)
	for at, hall := range append(halls, greatestHall(t)) {
		if at%5 != 0 && at < len(halls) {
			continue
		}
		snap, s := snapOf(20, 3, hallByHand(hall), 1, 2), held(at%3, 11)
		text := snapByHand(snap)
		for from := 0; from < len(text)-60; from += 60 {
			o := holdServe(t, s, arriving(pieceOf(snap, text, from, from+60)))
			if s = o.Server; s.Stage != text[:from+60] || len(o.acts) > 0 {
				t.Fatalf("behind %d bytes it is %s", from+60, o.shown())
			}
		}
		acts, change := installedFrom(s, snap, hall)
		wantServe(t, s, arriving(pieceOf(snap, text, len(s.Stage), len(text))), outcome{acts: acts, told: tellsInstall(20, 0, true)}, change)
	}
}

// What is staged and is not what the last piece tells of is thrown away.
func TestStageOfWrongTexts(t *testing.T) {
	snap := snapOf(20, 4, hallByHand(smallHall()), 1, 2)
	text := snapByHand(snap)
	s := held(impl.RoleFollow, 11)
	refuse := func(m impl.Message) {
		t.Helper()
		for _, half := range []int{0, len(m.Data) / 2, len(m.Data)} {
			piece := copyMessage(m)
			piece.Commit, piece.Data = half, m.Data[half:]
			begun := changedServer(s, staged(m.Data[:half], m.Index, m.LogTerm))
			wantServe(t, begun, arriving(piece), outcome{told: tellsInstall(m.Index, 0, false)}, onNode(followed), staged("", m.Index, m.LogTerm))
		}
	}
	wrong := []string{"", "x", text[:len(text)-1], text[1:], text + "\x00", strings.Replace(text, "\x01", "\x02", 1)}
	body := hallByHand(smallHall())
	for _, body := range []string{"", "\x00", body[:len(body)-1], body + "\x00", "no hall"} {
		wrong = append(wrong, snapByHand(snapOf(20, 4, body, 1, 2)))
	}
	for _, other := range []impl.Snap{snapOf(21, 4, body, 1, 2), snapOf(19, 4, body, 1, 2), snapOf(20, 3, body, 1, 2), snapOf(20, 5, body, 1, 2), snapOf(20, 4, body, 1), snapOf(20, 4, body, 1, 3), snapOf(20, 4, body, 1, 2, 3)} {
		wrong = append(wrong, snapByHand(other))
	}
	for _, text := range wrong {
		m := lastPiece(t, snap)
		m.Data = text
		refuse(m)
	}
	// The text is right, but the message tells of another one.
	for _, change := range []func(m *impl.Message){func(m *impl.Message) { m.Index++ }, func(m *impl.Message) { m.LogTerm-- }, func(m *impl.Message) { m.LogTerm++ }, func(m *impl.Message) { m.Conf = []int{2} }, func(m *impl.Message) { m.Conf = []int{1, 2, 4} }} {
		m := lastPiece(t, snap)
		change(&m)
		refuse(m)
	}
	// Thrown away, it comes anew.
	o := holdServe(t, changedServer(s, staged("x", 20, 4)), arriving(pieceOf(snap, "x"+text, 1, 1+len(text))))
	acts, change := installedFrom(s, snap, smallHall())
	wantServe(t, o.Server, arriving(lastPiece(t, snap)), outcome{acts: acts, told: tellsInstall(20, 0, true)}, change)
}

// A snapshot of a Term that the node has not heard of would leave it with a log above its Term; it is none for it.
func TestStageOfTermsAhead(t *testing.T) {
	for _, term := range []int{5, 6, impl.MaxTerm} {
		snap := snapOf(20, term, hallByHand(smallHall()), 1)
		m := lastPiece(t, snap)
		wantServe(t, held(impl.RoleFollow, 11), arriving(m), outcome{told: tellsInstall(20, 0, false)}, onNode(followed), staged("", 20, term))
		m.Term = term
		o := holdServe(t, held(impl.RoleFollow, 11), arriving(m))
		if !o.ok || o.Node.Term != term || o.Node.Log.StartTerm != term || o.Applied != 20 {
			t.Errorf("in the term %d there is %s", term, o.shown())
		}
		losePower(t, held(impl.RoleFollow, 11), o)
	}
}

func TestStageOfTerms(t *testing.T) {
	snap := snapOf(20, 3, hallByHand(smallHall()), 1, 2)
	for role := range 3 {
		s := changedServer(held(role, 9), staged("some", 20, 3))
		// One who leads no more is told the term, and nothing comes of it; what waits is applied all the same.
		for _, index := range []int{3, 11, 12, 20} {
			for term := range 4 {
				m := lastPiece(t, snap)
				m.Term, m.Index, m.Commit = term, index, 4
				wantServe(t, s, arriving(m), outcome{told: tellsInstall(index, 0, false), done: heldDone(9, 11)}, appliedTo(11))
			}
		}
		// One of a later term: that is written first, then the snapshot, then the journal that begins behind it.
		m := lastPiece(t, snap)
		m.Term = 9
		s.Stage = ""
		reply := to1(impl.TellInstall, 9, 20, true)
		acts, change := installedFrom(s, snap, smallHall())
		behind := journalOf(6, 9, 0, logOf(20, 3))
		acts = slices.Concat(addedTo(voteByHand(9, 0)), acts[:len(acts)-4], newJournal(behind, 5))
		wantServe(t, s, arriving(m), outcome{acts: acts, told: []impl.Message{reply}}, change, func(s *impl.Server) {
			s.Node.Term, s.Node.Vote, s.Journal = 9, 0, behind
		})
		// With a piece of it, the term alone is written.
		m.Data, m.Last, reply.Ok, reply.Commit = "begin", false, false, 5
		wantServe(t, s, arriving(m), outcome{acts: addedTo(voteByHand(9, 0)), told: []impl.Message{reply}, done: heldDone(9, 11)}, onNode(followed), onNode(func(n *impl.Node) { n.Term, n.Vote = 9, 0 }), wrote, staged("begin", 20, 3), appliedTo(11))
	}
}

// No snapshot is longer than MaxText; what would be longer begins anew.
func TestStageAtMaxText(t *testing.T) {
	snap := snapOf(20, 4, "", 1)
	piece := func(from, size int, last bool) impl.Message {
		m := pieceOf(snap, longText(size), 0, size)
		m.Commit, m.Last = from, last
		return m
	}
	long := longText(impl.MaxText)
	for _, missing := range []int{0, 1, 59, 60} {
		from := impl.MaxText - missing
		s := changedServer(held(impl.RoleFollow, 11), staged(long[:from], 20, 4))
		for size := range 61 {
			m := piece(from, size, false)
			if size <= missing {
				wantServe(t, s, arriving(m), outcome{told: tellsInstall(20, from+size, false)}, onNode(followed), staged(long[:from]+m.Data, 20, 4))
			} else {
				wantServe(t, s, arriving(m), outcome{told: tellsInstall(20, 0, false)}, onNode(followed), staged("", 20, 4))
			}
			wantServe(t, s, arriving(piece(from, size, true)), outcome{told: tellsInstall(20, 0, false)}, onNode(followed), staged("", 20, 4))
		}
	}
}

// handLeader leads in the term 4, with a peer behind the log that has this many bytes of the snapshot.
func handLeader(sent int) impl.Server {
	n := heldNode(impl.RoleLead)
	n.Peers[2].Sent = sent
	return serverOf(n, handHall(), 5, 3)
}

func TestAskInstallIsFilled(t *testing.T) {
	text := snapByHand(snapOf(3, 1, hallByHand(handHall()), 1, 2, 3))
	size := len(text)
	for _, sent := range []int{0, 1, 59, 60, 61, 119, 120, size - 121, size - 120, size - 61, size - 60, size - 59, size - 2, size - 1, size, size + 1, impl.MaxText - 1, impl.MaxText} {
		from := sent
		if sent >= size {
			from = 0
		}
		end := min(size, from+60)
		want := impl.Message{Kind: impl.AskInstall, From: 2, To: 4, Term: 4, Index: 3, LogTerm: 1, Conf: []int{1, 2, 3}, Commit: from, Data: text[from:end], Last: end == size}
		s := handLeader(sent)
		for _, in := range []impl.Input{ticking(1), proposing(impl.EntryNone, "")} {
			o := holdServe(t, s, in)
			if len(o.told) != 3 || !sameMessage(o.told[2], want) || o.told[2].Last != (from >= size-60) || o.Node.Peers[2].Sent != sent {
				t.Errorf("with %d of %d bytes sent there is %s; want %s", sent, size, o.shown(), shownMessage(want))
			}
		}
		// A reply tells anew how much of it is there.
		m := impl.Message{Kind: impl.TellInstall, From: 4, To: 2, Term: 4, Index: 3, Commit: sent}
		o := holdServe(t, handLeader(7), arriving(m))
		if len(o.told) != 1 || !sameMessage(o.told[0], want) || o.Node.Peers[2].Sent != sent {
			t.Errorf("with %d of %d bytes told there is %s; want %s", sent, size, o.shown(), shownMessage(want))
		}
	}
}

// Behind a newer snapshot it is that one's text which is sent.
func TestAskInstallOfANewerSnap(t *testing.T) {
	s := handLeader(0)
	s = holdServe(t, s, snapping()).Server
	s = holdServe(t, s, snapping()).Server
	if s.Node.Log.Start != 9 {
		t.Fatalf("it is %s", shownServer(s))
	}
	snap, _ := impl.SnapOf(s)
	text, _ := impl.FileAt(s.Disk, "s9")
	o := holdServe(t, s, ticking(1))
	want := impl.Message{Kind: impl.AskInstall, From: 2, To: 4, Term: 4, Index: 9, LogTerm: 2, Conf: []int{1, 2, 3, 4}, Data: text[:60]}
	if snap.Index != 9 || !sameMessage(o.told[2], want) {
		t.Errorf("there is %s; want %s", o.shown(), shownMessage(want))
	}
}

// One sends all of its snapshot, and the other comes to have it, and what is behind it.
func TestSnapshotIsSent(t *testing.T) {
	lead := handLeader(0)
	up, _, _ := bootByHand(4, formatByHand([]int{1, 2, 3}), 20)
	var net []impl.Message
	o := holdServe(t, lead, ticking(1))
	lead, net = o.Server, o.told[2:]
	pieces := 0
	for len(net) > 0 {
		m := net[0]
		pieces++
		if m.To == 4 {
			o = holdServe(t, up, arriving(m))
			losePower(t, up, o)
			up = o.Server
		} else {
			o = holdServe(t, lead, arriving(m))
			lead = o.Server
		}
		net = append(net[1:], o.told...)
	}
	if pieces < 10 || up.Node.Log.Start != 3 || up.Applied < 9 || !slices.Equal(up.Node.Log.Entries, lead.Node.Log.Entries) {
		t.Errorf("behind %d messages it is %s", pieces, shownServer(up))
	}
}

func TestSnapOf(t *testing.T) {
	wants := func(d impl.Disk, want impl.Snap) {
		t.Helper()
		for _, s := range []impl.Server{{Disk: d}, changedServer(held(impl.RoleLead, 7), func(s *impl.Server) { s.Disk = d }), {Disk: d, Applied: -1, Stage: "x", Node: impl.Node{Id: 9}}} {
			before := copyServer(s)
			if got, ok := impl.SnapOf(s); !ok || !sameSnap(got, want) || !sameServer(s, before) {
				t.Errorf("SnapOf(%s) = %s, %v; want %s", shownServer(s), shownSnap(got), ok, shownSnap(want))
			}
		}
	}
	for _, s := range baseServers() {
		snap, _ := impl.NewestSnap(s.Disk)
		wants(s.Disk, snap)
	}
	d := heldDisk()
	wants(d, heldSnap())
	wants(withSnaps(diskOf(), heldSnap()), heldSnap())
	// The newest of several, also when its body is no hall, and when not all is kept.
	newest := snapOf(11, 3, "no hall", 1, 2)
	wants(withSnaps(d, snapOf(2, 1, "", 4)), heldSnap())
	wants(withSnaps(d, snapOf(2, 1, "", 4), newest), newest)
	wants(notKept(withSnaps(d, newest), "s11"), newest)
	wants(with(withSnaps(d, newest), "s12", "torn"), newest)
	wants(with(d, "s+", snapByHand(newest)), heldSnap())
	for _, d := range []impl.Disk{diskOf(), without(d, "s3"), with(d, "s3", "torn"), with(without(d, "s3"), "s+", snapByHand(newest)), with(without(d, "s3"), "s4", snapByHand(newest)), manyFiles(impl.MaxFiles + 1), with(d, "too long a name", "")} {
		s := changedServer(held(impl.RoleLead, 7), func(s *impl.Server) { s.Disk = d })
		if got, ok := impl.SnapOf(s); ok || !emptySnap(got) {
			t.Errorf("SnapOf(%s) = %s, %v; want none", shown(d), shownSnap(got), ok)
		}
	}
}

// asLog is the log, of which most commands are what sessions ask for, behind this hall.
func asLog(next func(int) int, l impl.Log, hall impl.Hall) impl.Log {
	l = copyLog(l)
	for at, e := range l.Entries {
		index := l.Start + 1 + at
		if e.Kind == impl.EntryCommand && next(4) > 0 {
			l.Entries[at].Data = commandByHand(drawnAsk(next, hall, index))
		}
		hall, _ = impl.Fold(hall, l.Entries[at:at+1], index)
	}
	return l
}

// drawnServer is right, with a journal of one of these Numbers; it is near to a bound now and then.
func drawnServer(t *testing.T, next func(int) int, numbers ...int) impl.Server {
	t.Helper()
	hall := []impl.Hall{impl.HallNew(), heldHall(), smallHall(), mixedHall(), handHall()}[next(5)]
	n := drawnNode(next)
	n.Log = asLog(next, n.Log, hall)
	number := numbers[next(len(numbers))]
	s := serverOf(n, hall, number, n.Log.Start+next(n.Commit-n.Log.Start+1))
	if next(4) == 0 {
		records := recordsByHand(s.Journal)
		for len(framesOf(records...)) <= impl.SegBytes-next(30) {
			records = slices.Insert(records, 1, voteByHand(7, 3))
		}
		s.Disk = with(s.Disk, fmt.Sprint("j", number), framesOf(records...))
	}
	others := next(3)
	if next(6) == 0 {
		others = impl.MaxFiles - 3 - next(3)
	}
	for at := range others {
		s.Disk = with(s.Disk, fmt.Sprint("a", at), longText(next(9)))
	}
	s.StageAt, s.StageTerm = next(30), next(4)
	s.Stage = longText([]int{0, 60, next(300), 20000 - next(70)}[next(4)])
	return s
}

// comingSnap is one that the server has not, and that may be sent to it.
func comingSnap(next func(int) int, n impl.Node) impl.Snap {
	hall := []impl.Hall{impl.HallNew(), heldHall(), smallHall(), mixedHall()}[next(4)]
	index := min(impl.MaxIndex, n.Commit+next(5))
	term := max(0, termByHand(n.Log, index))
	if term == 0 || next(3) == 0 {
		term = n.Term - next(2)*next(n.Term+1)
	}
	snap := snapOf(index, term, hallByHand(hall), rightConfs()[next(15)]...)
	if next(20) == 0 {
		snap.Body = snap.Body[1:]
	}
	return snap
}

// nextPiece is what comes behind what the server has of a snapshot, if that is what it waits for.
func nextPiece(next func(int) int, s impl.Server, snap impl.Snap) impl.Message {
	text := snapByHand(snap)
	from := 0
	if s.StageAt == snap.Index && s.StageTerm == snap.Term && strings.HasPrefix(text, s.Stage) {
		from = len(s.Stage)
	}
	to := min(len(text), from+60-next(2)*next(60))
	m := pieceOf(snap, text, from, to)
	m.To, m.Term = s.Node.Id, min(impl.MaxTerm, max(0, s.Node.Term+[]int{-1, 0, 0, 0, 0, 0, 0, 1}[next(8)]))
	if m.From == m.To {
		m.From = 3
	}
	if next(25) == 0 {
		m.Conf = rightConfs()[next(15)]
	}
	return m
}

func drawnInput(next func(int) int, s impl.Server, snap impl.Snap) impl.Input {
	choice := next(10)
	if s.Node.Role == impl.RoleLead && choice >= 5 && next(4) > 0 {
		// What others send would most often make an end of its lead.
		choice = next(5)
	}
	switch choice {
	case 0, 1:
		return ticking(1 + next(20))
	case 2:
		return snapping()
	case 3:
		if s.Node.Role != impl.RoleLead || next(6) == 0 {
			return proposing(impl.EntryConf, confByHand(rightConfs()[next(15)]))
		}
		return proposing(impl.EntryCommand, commandByHand(opening()))
	case 4:
		return proposing(impl.EntryCommand, commandByHand(drawnAsk(next, s.Hall, 1+min(lastByHand(s.Node.Log), impl.MaxIndex-1))))
	case 5, 6:
		return arriving(nextPiece(next, s, snap))
	}
	return arriving(drawnFor(next, s.Node))
}

// countOutcome counts what comes of an input.
func countOutcome(count map[string]int, s impl.Server, in impl.Input, o outcome) {
	count[fmt.Sprint("kind ", in.Kind, " ", o.ok)]++
	if !o.ok {
		return
	}
	if in.Kind == impl.InMessage {
		count[fmt.Sprint("message ", in.Message.Kind)]++
		if in.Message.Kind == impl.AskInstall {
			count[fmt.Sprint("piece ", o.told[0].Ok, " ", o.told[0].Commit > 0)]++
		}
	}
	switch {
	case o.Node.Log.Start > s.Node.Log.Start && in.Kind == impl.InSnap:
		count["snapped"]++
	case o.Node.Log.Start > s.Node.Log.Start:
		count["installed"]++
		if len(o.Node.Log.Entries) > 0 {
			count["installed below entries"]++
		}
	}
	if len(o.acts) > 8 {
		count["many acts"]++
	}
	if o.Journal.Number > s.Journal.Number {
		count["next journal"]++
	}
	count[fmt.Sprint("done ", len(o.done))]++
	for _, m := range o.told {
		count[fmt.Sprint("tells ", m.Kind, " ", m.Last)]++
	}
	for _, d := range o.done {
		if d.Reply != "" {
			count["replies"]++
		}
	}
}

func wantCounts(t *testing.T, count map[string]int, least map[string]int) {
	t.Helper()
	for what, number := range least {
		if count[what] < number {
			t.Errorf("%s: %d, of %v", what, count[what], count)
		}
	}
}

// Promise 17 of servers that are drawn.
func TestDrawnServers(t *testing.T) {
	next := draws(17)
	count := map[string]int{}
	for range 250 {
		s := drawnServer(t, next, 0, 1, 9, 99, 997, 998)
		holdServer(t, s, true)
		snap := comingSnap(next, s.Node)
		for range 4 {
			in := drawnInput(next, s, snap)
			o := holdServe(t, s, in)
			countOutcome(count, s, in, o)
			if o.ok {
				losePower(t, s, o)
			}
		}
	}
	wantCounts(t, count, map[string]int{"kind 1 true": 200, "kind 2 true": 300, "kind 3 true": 50, "kind 3 false": 50, "kind 4 true": 80, "snapped": 30, "installed": 30, "installed below entries": 3, "many acts": 20, "next journal": 100, "replies": 200, "done 0": 300, "done 1": 90, "done 3": 20, "done 6": 20, "tells 5 true": 50, "tells 5 false": 50})
}

// Promise 17 of servers to which one thing comes behind the other; now and then the power goes for good, and they go on from what is left.
func TestDrawnServersLives(t *testing.T) {
	next := draws(171)
	count := map[string]int{}
	for life := range 60 {
		s := drawnServer(t, next, 0, 1, 9, 99, 900)
		if life%2 == 0 {
			s = heldAlone(3 + next(4))
		}
		snap := comingSnap(next, s.Node)
		for range 40 {
			in := drawnInput(next, s, snap)
			o := holdServe(t, s, in)
			countOutcome(count, s, in, o)
			if !o.ok {
				continue
			}
			losePower(t, s, o)
			if next(12) == 0 {
				whole := next(len(o.acts) + 1)
				lost, _ := impl.CutActs(s.Disk, o.acts, whole, leftOf(s.Disk, o.acts, whole, next(70)))
				s = comesUp(t, s.Node.Id, lost)
				count["cut"]++
			} else {
				s = o.Server
			}
			if s.Node.Commit >= snap.Index && next(3) == 0 {
				snap = comingSnap(next, s.Node)
			}
		}
	}
	wantCounts(t, count, map[string]int{"cut": 100, "snapped": 30, "installed": 80, "next journal": 100, "piece true false": 100, "piece false true": 80, "piece false false": 80, "replies": 80, "done 0": 1000, "done 1": 50, "done 2": 10})
}

// company is servers that tell each other what they have to tell, whose power goes now and then.
type company struct {
	t       *testing.T
	next    func(int) int
	servers [5]impl.Server
	net     []impl.Message
	away    int
	agreed  map[int]impl.Done
	count   map[string]int
}

func companyOf(t *testing.T, next func(int) int, conf []int, count map[string]int) *company {
	t.Helper()
	c := &company{t: t, next: next, agreed: map[int]impl.Done{}, count: count}
	for id := 1; id <= 4; id++ {
		d, ok := impl.FormatDisk(conf)
		if !ok {
			t.Fatalf("FormatDisk(%v) is false", conf)
		}
		c.servers[id] = comesUp(t, id, d)
	}
	return c
}

// serves is false when the server refuses.
func (c *company) serves(id int, in impl.Input) bool {
	c.t.Helper()
	s := c.servers[id]
	o := holdServe(c.t, s, in)
	countOutcome(c.count, s, in, o)
	if !o.ok {
		return false
	}
	if len(o.acts) > 0 && c.next(20) == 0 {
		c.loses(s, o)
		return true
	}
	c.servers[id], c.net = o.Server, append(c.net, o.told...)
	c.net = slices.DeleteFunc(c.net, func(m impl.Message) bool { return m.From == c.away || m.To == c.away })
	for _, d := range o.done {
		// Each server applies the same at an index, and replies the same, also when it does so once more.
		if was, there := c.agreed[d.Index]; there && was != d {
			c.t.Fatalf("at the index %d there are %s", d.Index, shownDone([]impl.Done{was, d}))
		}
		c.agreed[d.Index] = d
	}
	return true
}

// loses lets the power go in the midst of the acts; nothing is told.
func (c *company) loses(s impl.Server, o outcome) {
	c.t.Helper()
	whole := c.next(len(o.acts) + 1)
	lost, _ := impl.CutActs(s.Disk, o.acts, whole, leftOf(s.Disk, o.acts, whole, c.next(40)))
	c.servers[s.Node.Id] = comesUp(c.t, s.Node.Id, lost)
	c.count["cut"]++
	if whole > 0 && whole < len(o.acts) {
		c.count["cut in the midst"]++
	}
}

func (c *company) deliver() {
	c.t.Helper()
	if len(c.net) == 0 {
		return
	}
	at := c.next(len(c.net))
	m := c.net[at]
	c.net = slices.Delete(c.net, at, at+1)
	if !c.serves(m.To, arriving(m)) {
		c.t.Fatalf("%s refuses %s", shownServer(c.servers[m.To]), shownMessage(m))
	}
}

func (c *company) propose() {
	c.t.Helper()
	for _, s := range c.servers[1:] {
		in := proposing(impl.EntryCommand, commandByHand(drawnAsk(c.next, s.Hall, 1+lastByHand(s.Node.Log))))
		if c.next(8) == 0 {
			id := 1 + c.next(4)
			conf := slices.DeleteFunc(impl.ConfOf(s.Node), func(in int) bool { return in == id })
			if c.next(3) > 0 {
				conf = append(conf, id)
				slices.Sort(conf)
			}
			in = proposing(impl.EntryConf, confByHand(conf))
		}
		if s.Node.Role == impl.RoleLead {
			c.serves(s.Node.Id, in)
		}
	}
}

func (c *company) step() {
	c.t.Helper()
	id := 1 + c.next(4)
	switch c.next(20) {
	case 0, 1, 2:
		c.serves(id, ticking(2+c.next(19)))
	case 3, 4, 5:
		c.propose()
	case 6:
		if c.next(2) == 0 {
			c.serves(id, snapping())
		}
	case 7:
		// All that one of them tells is lost for a while, and all that it is told.
		if c.next(3) == 0 {
			c.away = c.next(5)
		}
	case 8:
		if len(c.net) > 0 {
			c.net = append(c.net, c.net[c.next(len(c.net))])
		}
	default:
		c.deliver()
	}
	for len(c.net) > 30 {
		at := c.next(len(c.net))
		c.net = slices.Delete(c.net, at, at+1)
	}
}

func TestServersTogether(t *testing.T) {
	next := draws(172)
	count := map[string]int{}
	for _, conf := range [][]int{{1, 2, 3}, {1, 2, 3, 4}, {2, 3}, {1, 2, 4}, {4}, {1, 3, 4}, {1, 2, 3, 4}, {2, 3, 4}} {
		c := companyOf(t, next, conf, count)
		for range 1200 {
			c.step()
		}
	}
	wantCounts(t, count, map[string]int{"cut": 50, "cut in the midst": 20, "snapped": 30, "installed": 5, "replies": 500, "tells 5 true": 20, "tells 5 false": 10, "next journal": 500})
}

// When nothing is lost, all of those who are in the conf come to have the same hall.
func TestServersAgree(t *testing.T) {
	for _, conf := range rightConfs() {
		c := companyOf(t, draws(173), conf, map[string]int{})
		lead := conf[0]
		tick := func() {
			c.servers[lead] = holdServe(t, c.servers[lead], ticking(20)).Server
		}
		calm := func(o outcome) {
			if !o.ok {
				t.Fatalf("in the conf %v an input is refused", conf)
			}
			c.servers[o.Node.Id] = o.Server
			for net := o.told; len(net) > 0; {
				o := holdServe(t, c.servers[net[0].To], arriving(net[0]))
				c.servers[o.Node.Id], net = o.Server, append(net[1:], o.told...)
			}
		}
		for c.servers[lead].Node.Clock < 4 {
			tick()
		}
		calm(holdServe(t, c.servers[lead], ticking(20)))
		list := []impl.Command{opening(), sending(2, 1, create(1)), sending(2, 2, member(1, 1, impl.Joined)), sending(2, 3, say(1)), askingWho(2, 4)}
		replies := []string{"open 2", "sent 6", "sent 8", "sent 10", "in 1"}
		for at, x := range list {
			o := holdServe(t, c.servers[lead], proposing(impl.EntryCommand, commandByHand(x)))
			if o.index != at+2 {
				t.Fatalf("in the conf %v the command %d has the index %d", conf, at, o.index)
			}
			calm(o)
			calm(holdServe(t, c.servers[lead], ticking(20)))
		}
		for _, id := range conf {
			s := c.servers[id]
			if s.Applied != 6 || !equalHalls(s.Hall, c.servers[lead].Hall) || s.Hall.Sessions[0].Reply != replies[4] || len(s.Hall.Room.Events) != 3 {
				t.Errorf("in the conf %v it is %s", conf, shownServer(s))
			}
		}
	}
}

// memory is where an answer lies, or what was handed in: its lists, with the room behind them, its texts, and its words: names of files and replies, of which several may lie in one place.
type memory struct{ lists, texts, words []span }

func (m *memory) entries(list []impl.Entry) {
	m.lists = append(m.lists, spanOf(list))
	for _, e := range list {
		m.texts = append(m.texts, spanOfText(e.Data))
	}
}

func (m *memory) disk(d impl.Disk) {
	m.lists = append(m.lists, spanOf(d.Files))
	for _, f := range d.Files {
		m.words, m.texts = append(m.words, spanOfText(f.Name)), append(m.texts, spanOfText(f.Text))
	}
}

func (m *memory) hall(h impl.Hall) {
	m.lists = append(m.lists, spanOf(h.Sessions), spanOf(h.Outs), spanOf(h.Room.Events), spanOf(h.Room.States), spanOf(h.Room.Good))
	for _, s := range h.Sessions {
		m.words = append(m.words, spanOfText(s.Reply))
	}
	for _, out := range h.Outs {
		m.lists = append(m.lists, spanOf(out.Ids))
	}
	for _, s := range h.Room.States {
		m.lists = append(m.lists, spanOf(s))
	}
	for _, e := range h.Room.Events {
		m.lists, m.texts = append(m.lists, spanOf(e.Prev), spanOf(e.Levels)), append(m.texts, spanOfText(e.Text))
	}
}

func (m *memory) server(s impl.Server) {
	m.entries(s.Node.Log.Entries)
	m.entries(s.Journal.Log.Entries)
	m.disk(s.Disk)
	m.hall(s.Hall)
	m.lists = append(m.lists, spanOf(s.Node.Conf), spanOf(s.Node.Votes), spanOf(s.Node.Peers))
	m.texts = append(m.texts, spanOfText(s.Stage))
}

func (m *memory) acts(list []impl.Act) {
	m.lists = append(m.lists, spanOf(list))
	for _, a := range list {
		m.words, m.texts = append(m.words, spanOfText(a.Name), spanOfText(a.To)), append(m.texts, spanOfText(a.Text))
	}
}

func (m *memory) messages(list ...impl.Message) {
	m.lists = append(m.lists, spanOf(list))
	for _, one := range list {
		m.entries(one.Entries)
		m.lists, m.texts = append(m.lists, spanOf(one.Conf)), append(m.texts, spanOfText(one.Data))
	}
}

func (m *memory) outcome(o outcome) {
	m.server(o.Server)
	m.acts(o.acts)
	m.messages(o.told...)
	m.lists = append(m.lists, spanOf(o.done))
	for _, d := range o.done {
		m.words, m.texts = append(m.words, spanOfText(d.Reply)), append(m.texts, spanOfText(d.Entry.Data))
	}
}

// apartFrom holds that no two lists share memory, nor do their texts, and that nothing at all is shared with what was handed in.
func (m *memory) apartFrom(t *testing.T, what string, given memory) {
	t.Helper()
	all := slices.Concat(given.lists, given.texts, given.words)
	holdApart(t, what, slices.Concat(m.lists, m.texts), all)
	for _, word := range m.words {
		holdApart(t, what, []span{word}, all)
	}
}

// roomyServer has spare room behind its lists, with something in it, and texts of its own.
func roomyServer(s impl.Server) impl.Server {
	s.Node, s.Hall = roomyNode(s.Node), roomyHall(s.Hall)
	s.Journal.Log.Entries = append(slices.Clone(s.Journal.Log.Entries), none(1), command(2, "behind"))[:len(s.Journal.Log.Entries)]
	s.Disk = roomyDisk(s.Disk)
	s.Stage = strings.Clone(s.Stage)
	return s
}

func roomyDisk(d impl.Disk) impl.Disk {
	files := slices.Clone(d.Files)
	for at := range files {
		files[at].Name, files[at].Text = strings.Clone(files[at].Name), strings.Clone(files[at].Text)
	}
	return impl.Disk{Files: append(files, file("zz", "behind", 1), file("zzz", "", 0))[:len(files)]}
}

func allOfDisk(d impl.Disk) string { return fmt.Sprintf("%q", fmt.Sprint(d.Files[:cap(d.Files)])) }

// allOfServer tells of a server all that it has, and what is behind its lists.
func allOfServer(s impl.Server) string {
	entries := s.Journal.Log.Entries
	return fmt.Sprintf("%s %s %s %q %d %d %q %d %d %d", allOfNode(s.Node), allOfHall(s.Hall), allOfDisk(s.Disk), fmt.Sprint(entries[:cap(entries)]), s.Applied, s.Journal.Log.Start, s.Stage, s.StageAt, s.StageTerm, s.Journal.Number)
}

func holdNewServe(t *testing.T, s impl.Server, in impl.Input) {
	t.Helper()
	s, in.Message, in.Data = roomyServer(s), roomyMessage(in.Message), strings.Clone(in.Data)
	before, message := allOfServer(s), allOfMessage(in.Message)
	var given, answer memory
	given.server(s)
	given.messages(in.Message)
	given.texts = append(given.texts, spanOfText(in.Data))
	first, second := serve(s, in), serve(s, in)
	snap, _ := impl.SnapOf(s)
	impl.ServerOk(s)
	answer.outcome(first)
	answer.outcome(second)
	answer.lists, answer.texts = append(answer.lists, spanOf(snap.Conf)), append(answer.texts, spanOfText(snap.Body))
	answer.apartFrom(t, shownInput(in)+" of "+shownServer(s), given)
	if allOfServer(s) != before || allOfMessage(in.Message) != message {
		t.Fatalf("%s wrote into %s, or behind it", shownInput(in), shownServer(s))
	}
}

// holdNewBoot asks the functions of a disk.
func holdNewBoot(t *testing.T, d impl.Disk) {
	t.Helper()
	d = roomyDisk(d)
	before := allOfDisk(d)
	var given, answer memory
	given.disk(d)
	for range 2 {
		s, acts, _ := impl.Boot(2, d, 5)
		snap, _ := impl.SnapOf(impl.Server{Disk: d})
		answer.server(s)
		answer.acts(acts)
		answer.lists, answer.texts = append(answer.lists, spanOf(snap.Conf)), append(answer.texts, spanOfText(snap.Body))
	}
	answer.apartFrom(t, "Boot of "+shown(d), given)
	if allOfDisk(d) != before {
		t.Fatalf("Boot wrote into %s, or behind it", shown(d))
	}
}

func holdNewFormat(t *testing.T, conf []int) {
	t.Helper()
	conf = roomyInts(conf)
	before := slices.Clone(conf[:cap(conf)])
	var given, answer memory
	given.lists = []span{spanOf(conf)}
	for range 2 {
		d, _ := impl.FormatDisk(conf)
		answer.disk(d)
	}
	answer.apartFrom(t, fmt.Sprint("FormatDisk of ", conf), given)
	if !slices.Equal(conf[:cap(conf)], before) {
		t.Fatalf("FormatDisk wrote into %v, or behind it", conf)
	}
}

func TestServersAreNew(t *testing.T) {
	text := snapByHand(handSnap())
	inputs := []impl.Input{ticking(5), proposing(impl.EntryNone, ""), proposing(impl.EntryCommand, "a command"), proposing(impl.EntryConf, confByHand([]int{1, 2})), snapping(), {Kind: 9}}
	for _, m := range []impl.Message{
		from1(impl.AskVote, 5, 12, 3), from1(impl.TellVote, 4, 0, 0), from1(impl.AskAppend, 4, 12, 3), from1(impl.TellAppend, 4, 12, 0), from1(impl.TellInstall, 4, 3, 0),
		pieceOf(handSnap(), text, 0, 60), pieceOf(handSnap(), text, len(text)-60, len(text)), lastPiece(t, snapOf(12, 3, hallByHand(smallHall()), 1)), lastPiece(t, snapOf(12, 9, hallByHand(smallHall()), 1)),
	} {
		m.Ok = true
		if m.Kind == impl.AskAppend {
			m.Entries = []impl.Entry{command(3, strings.Clone("some")), none(4), command(4, strings.Clone("more"))}
		}
		inputs = append(inputs, arriving(m))
	}
	for _, s := range append(baseServers(), wrongServers()...) {
		s.Stage, s.StageAt, s.StageTerm = text[:len(text)-60], 20, 4
		for _, in := range inputs {
			if in.Kind == impl.InMessage {
				in.Message.To, in.Message.From = s.Node.Id, 1+s.Node.Id%4
			}
			holdNewServe(t, s, in)
		}
		holdNewBoot(t, s.Disk)
	}
	holdNewServe(t, handLeader(60), ticking(5))
	for _, d := range slices.Concat(wrongStateDisks(heldDisk()), wrongJournalDisks(heldDisk()), wrongNodeDisks(heldDisk())) {
		holdNewBoot(t, d)
	}
	newest := withSnaps(with(with(heldDisk(), "s+", "x"), "j4", ""), snapOf(11, 3, hallByHand(mixedHall()), 1, 2))
	holdNewBoot(t, newest)
	for _, conf := range append(rightConfs(), wrongConfs()...) {
		holdNewFormat(t, conf)
	}
	next := draws(174)
	for range 150 {
		s := drawnServer(t, next, 0, 9, 998, 999)
		holdNewServe(t, s, drawnInput(next, s, comingSnap(next, s.Node)))
	}
}

// An answer stays what it is, whatever becomes of what was handed in.
func TestAnswersOfServersStay(t *testing.T) {
	s, m := handLeader(0), from1(impl.AskAppend, 5, 12, 3)
	m.Entries = []impl.Entry{command(4, "some"), none(5)}
	ticked, appended := serve(s, ticking(5)), serve(s, arriving(m))
	s.Applied, s.Hall = 7, foldUpTo(s.Hall, s.Node.Log, 7)
	snapped := serve(s, snapping())
	up, _, _ := impl.Boot(2, s.Disk, 5)
	before := ticked.shown() + appended.shown() + snapped.shown() + shownServer(up)
	if !ticked.ok || !appended.ok || !snapped.ok {
		t.Fatalf("the test is wrong: %s", before)
	}
	for _, fill := range hallParts(s.Hall) {
		fill()
	}
	clear(s.Node.Conf)
	clear(s.Node.Peers)
	clear(s.Node.Log.Entries)
	clear(s.Journal.Log.Entries)
	clear(s.Disk.Files)
	clear(m.Entries)
	if ticked.shown()+appended.shown()+snapped.shown()+shownServer(up) != before {
		t.Error("an answer changes with what was handed in")
	}
	// Nor does one part of it change with another.
	shown := shownMessages(ticked.told) + shownDone(ticked.done)
	for _, fill := range hallParts(ticked.Hall) {
		fill()
	}
	clear(ticked.Node.Conf)
	clear(ticked.Node.Peers)
	clear(ticked.Node.Log.Entries)
	clear(ticked.Disk.Files)
	if shownMessages(ticked.told)+shownDone(ticked.done) != shown || len(ticked.Journal.Log.Entries) != 9 || ticked.Journal.Log.Entries[0].Term != 1 {
		t.Error("what is told or done changes with the server")
	}
}

// turnedServer has something in it that is another one, most often.
func turnedServer(t *testing.T, next func(int) int) impl.Server {
	t.Helper()
	numbers := []int{math.MinInt, -1, 0, 1, 2, 3, 4, 5, 11, 12, 20, 21, 999, 1000, 20000, 20001, 100000, 100001, 1000000, 1000001, math.MaxInt}
	number := func() int { return numbers[next(len(numbers))] }
	s := drawnServer(t, next, 0, 9, 998, 999)
	if next(3) == 0 {
		s = held(next(3), 3+next(9))
	}
	for range next(3) {
		switch next(14) {
		case 0:
			s.Applied = number()
		case 1:
			s.Stage = longText([]int{20000, 20001, 60}[next(3)])
		case 2:
			s.StageAt, s.StageTerm = number(), number()
		case 3:
			s.Journal.Number = number()
		case 4:
			s.Journal.Term, s.Journal.Vote = number(), number()
		case 5:
			s.Journal.Log = drawnCoreLog(next, 3)
		case 6:
			s.Node = drawnNode(next)
		case 7:
			s.Node.Id, s.Node.Term, s.Node.Commit = number(), number(), number()
		case 8:
			s.Node.Conf = rightConfs()[next(15)]
		case 9:
			s.Disk.Files = s.Disk.Files[:next(len(s.Disk.Files)+1)]
		case 10:
			s.Disk = drawnDisks(3)[next(3)]
		case 11:
			s.Disk = with(s.Disk, []string{"s+", "j+", "s3", "j9", "s1000000", "j999", "a"}[next(7)], longText(next(40)))
		case 12:
			s.Hall = drawnHall(t, next)
		case 13:
			s.Node.Limit, s.Node.Clock, s.Node.Role = number(), number(), number()
		}
	}
	return s
}

// Whatever comes, all functions answer; and the same once more.
func TestServersAnswerAtAll(t *testing.T) {
	next := draws(175)
	numbers := []int{math.MinInt, -1, 0, 1, 2, 3, 4, 5, 20, 21, 256, math.MaxInt}
	number := func() int { return numbers[next(len(numbers))] }
	count := map[string]int{}
	for range 700 {
		s := turnedServer(t, next)
		if impl.ServerOk(s) != rightServerByHand(s) {
			t.Fatalf("ServerOk(%s) is %v", shownServer(s), impl.ServerOk(s))
		}
		count[fmt.Sprint("right ", impl.ServerOk(s))]++
		in := impl.Input{Kind: number(), Limit: number(), Entry: number(), Data: []string{"", "\x01", "\x01\x02", "x"}[next(4)], Message: drawnMessage(next)}
		if next(3) > 0 && impl.NodeOk(s.Node) {
			in = drawnInput(next, s, comingSnap(next, s.Node))
		}
		first, second := holdServe(t, s, in), holdServe(t, s, in)
		if first.shown() != second.shown() {
			t.Fatalf("two answers to the same: %s and %s", first.shown(), second.shown())
		}
		count[fmt.Sprint("served ", first.ok)]++
		id, limit := number(), number()
		if next(2) == 0 {
			id, limit = 1+next(4), 1+next(20)
		}
		for _, d := range []impl.Disk{s.Disk, first.Disk} {
			_, _, code := holdBoot(t, id, d, limit)
			count[fmt.Sprint("code ", code)]++
		}
		snap, has := impl.SnapOf(s)
		newest, there := impl.NewestSnap(s.Disk)
		if has != there || !sameSnap(snap, newest) {
			t.Fatalf("SnapOf(%s) is %s, %v", shownServer(s), shownSnap(snap), has)
		}
		conf := []int{number(), number(), number()}[:next(4)]
		d, ok := impl.FormatDisk(conf)
		e, again := impl.FormatDisk(conf)
		if ok != again || !sameDisk(d, e) {
			t.Fatalf("FormatDisk(%v) is %s and %s", conf, shown(d), shown(e))
		}
	}
	wantCounts(t, count, map[string]int{"right true": 150, "right false": 150, "served true": 100, "served false": 200, "code 0": 200, "code 1": 100, "code 2": 5, "code 3": 50})
}

// Long lists and texts: each is refused in no long time.
func TestLongServers(t *testing.T) {
	const size = 200000
	for _, base := range []impl.Server{held(impl.RoleFollow, 7), held(impl.RoleLead, 11)} {
		for _, change := range []func(s *impl.Server){
			func(s *impl.Server) { s.Node.Conf = make([]int, size) }, func(s *impl.Server) { s.Node.Votes = make([]int, size) }, func(s *impl.Server) { s.Node.Peers = make([]impl.Peer, size) }, func(s *impl.Server) { s.Node.Log.Entries = make([]impl.Entry, size) },
			func(s *impl.Server) { s.Journal.Log.Entries = make([]impl.Entry, size) }, func(s *impl.Server) { s.Journal.Log.Entries[3].Data = longText(5 * size) }, func(s *impl.Server) { s.Stage = longText(5 * size) },
			func(s *impl.Server) { s.Disk.Files = make([]impl.File, size) }, func(s *impl.Server) { s.Disk = with(s.Disk, "a", longText(5*size)) }, func(s *impl.Server) { s.Disk = with(s.Disk, "s3", longText(5*size)) }, func(s *impl.Server) { s.Disk = with(s.Disk, longText(5*size), "") },
			func(s *impl.Server) { s.Hall.Sessions = make([]impl.Session, size) }, func(s *impl.Server) { s.Hall.Outs = make([]impl.Out, size) }, func(s *impl.Server) { s.Hall.Room.Events = make([]impl.Event, size) }, func(s *impl.Server) { s.Hall.Outs[0].Ids = make([]int, size) },
		} {
			s := changedServer(base, change)
			if impl.ServerOk(s) {
				t.Fatalf("ServerOk(%s) is true", shownServer(s))
			}
			for _, in := range []impl.Input{ticking(5), proposing(impl.EntryNone, ""), snapping()} {
				refuseServe(t, s, in)
			}
			holdBoot(t, 2, s.Disk, 5)
			impl.SnapOf(s)
		}
		refuseServe(t, base, proposing(impl.EntryCommand, longText(5*size)))
		m := from1(impl.AskInstall, 4, 20, 4)
		m.Conf, m.Data = []int{1}, longText(5*size)
		refuseServe(t, base, arriving(m))
		m = from1(impl.AskAppend, 4, 12, 3)
		m.Entries = make([]impl.Entry, size)
		refuseServe(t, base, arriving(m))
	}
	refuseFormat(t, make([]int, size))
}
