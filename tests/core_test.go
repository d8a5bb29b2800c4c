package tests

import (
	"fmt"
	"math"
	"slices"
	"strings"
	"testing"
	"unsafe"

	"loop.example/g00127/impl"
)

func peer(id, next, match, sent int) impl.Peer {
	return impl.Peer{Id: id, Next: next, Match: match, Sent: sent}
}

func sameNode(a, b impl.Node) bool {
	if !slices.Equal(a.Conf, b.Conf) || !sameLog(a.Log, b.Log) || !slices.Equal(a.Votes, b.Votes) || !slices.Equal(a.Peers, b.Peers) {
		return false
	}
	return a.Id == b.Id && a.Term == b.Term && a.Vote == b.Vote && a.Role == b.Role && a.Lead == b.Lead && a.Commit == b.Commit && a.Clock == b.Clock && a.Limit == b.Limit
}

func noNode(n impl.Node) bool { return sameNode(n, impl.Node{}) }

func copyNode(n impl.Node) impl.Node {
	n.Conf, n.Log, n.Votes, n.Peers = slices.Clone(n.Conf), copyLog(n.Log), slices.Clone(n.Votes), slices.Clone(n.Peers)
	return n
}

func shownNode(n impl.Node) string {
	return fmt.Sprintf("{Id %d, Term %d, Vote %d, Role %d, Lead %d, Conf %.40v, Log %s, Commit %d, Clock %d, Limit %d, Votes %.40v, Peers %.200v}", n.Id, n.Term, n.Vote, n.Role, n.Lead, fmt.Sprint(n.Conf), shownLog(n.Log), n.Commit, n.Clock, n.Limit, fmt.Sprint(n.Votes), fmt.Sprint(n.Peers))
}

func shownMessages(list []impl.Message) string {
	var out []string
	for _, m := range list {
		out = append(out, shownMessage(m))
	}
	return "[" + strings.Join(out, " ") + "]"
}

func sameMessages(a, b []impl.Message) bool { return slices.EqualFunc(a, b, sameMessage) }

// The core once more, by hand: logs are gone through index by index, and built anew as a whole.

// confByText is the conf whose text an entry has; none, when that is no conf's.
func confByText(text string) (conf []int) {
	for _, b := range []byte(text) {
		conf = append(conf, int(b))
	}
	if !isRightConf(conf) {
		return nil
	}
	return conf
}

// confAtByHand is of a node whose log is right.
func confAtByHand(n impl.Node, index int) []int {
	conf := n.Conf
	for at := n.Log.Start + 1; at <= index; at++ {
		e, there := entryOfLog(n.Log, at)
		if !there {
			break
		}
		if e.Kind == 2 {
			conf = confByText(e.Data)
		}
	}
	return slices.Clone(conf)
}

func confNowByHand(n impl.Node) []int { return confAtByHand(n, lastByHand(n.Log)) }

func othersByHand(n impl.Node) (ids []int) {
	for id := 1; id <= 4; id++ {
		if id != n.Id && slices.Contains(confNowByHand(n), id) {
			ids = append(ids, id)
		}
	}
	return ids
}

func mostByHand(conf, list []int) bool {
	in := 0
	for id := 1; id <= 4; id++ {
		if slices.Contains(conf, id) && slices.Contains(list, id) {
			in++
		}
	}
	return in >= len(conf)/2+1
}

func rightNodeByHand(n impl.Node) bool {
	if !isRightConf(n.Conf) || !rightLogByHand(n.Log) {
		return false
	}
	last := lastByHand(n.Log)
	for _, c := range [][3]int{{n.Id, 1, 4}, {n.Term, 0, 100000}, {n.Term, termByHand(n.Log, last), math.MaxInt}, {n.Vote, 0, 4}, {n.Lead, 0, 4}, {n.Role, 0, 2}, {n.Commit, n.Log.Start, last}, {n.Clock, 0, 20}, {n.Limit, 1, 20}} {
		if c[0] < c[1] || c[0] > c[2] {
			return false
		}
	}
	if len(n.Votes) > 0 && (n.Role != 1 || !isRightConf(n.Votes)) {
		return false
	}
	if n.Role != 2 {
		return len(n.Peers) == 0
	}
	var ids []int
	for _, p := range n.Peers {
		ids = append(ids, p.Id)
		if p.Next < 1 || p.Next > last+1 || p.Match < 0 || p.Match >= p.Next || p.Sent < 0 || p.Sent > 20000 {
			return false
		}
	}
	return slices.Equal(ids, othersByHand(n))
}

// sentToByHand is what a leader sends to a peer.
func sentToByHand(n impl.Node, p impl.Peer) impl.Message {
	if p.Next <= n.Log.Start {
		return impl.Message{Kind: 5, From: n.Id, To: p.Id, Term: n.Term, Index: n.Log.Start, LogTerm: n.Log.StartTerm, Commit: p.Sent, Conf: slices.Clone(n.Conf)}
	}
	m := impl.Message{Kind: 3, From: n.Id, To: p.Id, Term: n.Term, Index: p.Next - 1, LogTerm: termByHand(n.Log, p.Next-1), Commit: n.Commit}
	for index := p.Next; index < p.Next+4; index++ {
		if e, there := entryOfLog(n.Log, index); there {
			m.Entries = append(m.Entries, e)
		}
	}
	return m
}

func sentToAllByHand(n impl.Node) (list []impl.Message) {
	for _, p := range n.Peers {
		list = append(list, sentToByHand(n, p))
	}
	return list
}

func confBehindCommitByHand(n impl.Node) bool {
	for index := n.Commit + 1; index <= lastByHand(n.Log); index++ {
		if e, _ := entryOfLog(n.Log, index); e.Kind == 2 {
			return true
		}
	}
	return false
}

// committedByHand tries each index, from the least one on.
func committedByHand(n impl.Node) impl.Node {
	conf, commit := confNowByHand(n), n.Commit
	for index := n.Commit + 1; index <= lastByHand(n.Log); index++ {
		have := []int{n.Id}
		for _, p := range n.Peers {
			if index <= p.Match {
				have = append(have, p.Id)
			}
		}
		if termByHand(n.Log, index) == n.Term && mostByHand(conf, have) {
			commit = index
		}
	}
	n.Commit = commit
	if !slices.Contains(conf, n.Id) && !confBehindCommitByHand(n) {
		n.Role, n.Lead, n.Peers = 0, 0, nil
	}
	return n
}

func ledByHand(n impl.Node) (impl.Node, []impl.Message) {
	last := lastByHand(n.Log)
	n.Role, n.Lead, n.Votes, n.Peers = 2, n.Id, nil, nil
	for _, id := range othersByHand(n) {
		n.Peers = append(n.Peers, peer(id, last+1, 0, 0))
	}
	if len(n.Log.Entries) < 60 && last+1 <= 1000000 {
		n.Log.Entries = append(slices.Clone(n.Log.Entries), none(n.Term))
	}
	n = committedByHand(n)
	return n, sentToAllByHand(n)
}

func tickByHand(n impl.Node, limit int) (impl.Node, []impl.Message, bool) {
	if !rightNodeByHand(n) || limit < 1 || limit > 20 {
		return impl.Node{}, nil, false
	}
	n = copyNode(n)
	if n.Role == 2 {
		return n, sentToAllByHand(n), true
	}
	if n.Clock+1 < n.Limit {
		n.Clock++
		return n, nil, true
	}
	n.Clock, n.Limit = 0, limit
	conf := confNowByHand(n)
	if !slices.Contains(conf, n.Id) || n.Term == 100000 {
		return n, nil, true
	}
	n.Term, n.Vote, n.Role, n.Lead, n.Votes = n.Term+1, n.Id, 1, 0, []int{n.Id}
	if len(conf) == 1 {
		led, told := ledByHand(n)
		return led, told, true
	}
	var told []impl.Message
	last := lastByHand(n.Log)
	for _, id := range othersByHand(n) {
		told = append(told, impl.Message{Kind: 1, From: n.Id, To: id, Term: n.Term, Index: last, LogTerm: termByHand(n.Log, last)})
	}
	return n, told, true
}

// appendedByHand is of an AskAppend of the node's Term: the node, the index that is told, and whether all is well.
func appendedByHand(n impl.Node, m impl.Message) (impl.Node, int, bool) {
	n.Role, n.Lead, n.Clock, n.Votes, n.Peers = 0, m.From, 0, nil, nil
	index, term, entries, last := m.Index, m.LogTerm, slices.Clone(m.Entries), lastByHand(n.Log)
	for index < n.Log.Start {
		index++
		term = n.Log.StartTerm
		if len(entries) > 0 {
			entries = entries[1:]
		}
	}
	if termByHand(n.Log, index) != term {
		return n, max(0, min(index-1, last)), false
	}
	for at, e := range entries {
		place := index + 1 + at
		if termByHand(n.Log, place) == e.Term {
			continue
		}
		whole := impl.Log{Start: n.Log.Start, StartTerm: n.Log.StartTerm}
		for ahead := n.Log.Start + 1; ahead < place; ahead++ {
			stays, _ := entryOfLog(n.Log, ahead)
			whole.Entries = append(whole.Entries, stays)
		}
		whole.Entries = append(whole.Entries, entries[at:]...)
		if place <= n.Commit || !rightLogByHand(whole) {
			return n, last, false
		}
		n.Log = whole
		break
	}
	n.Commit = max(n.Commit, min(m.Commit, index+len(entries)))
	return n, index + len(entries), true
}

// toldByHand is of a TellAppend or a TellInstall of the node's Term, of a peer.
func toldByHand(n impl.Node, m impl.Message, at int) (impl.Node, []impl.Message) {
	last := lastByHand(n.Log)
	p := n.Peers[at]
	if !m.Ok {
		switch {
		case m.Kind == 4 && max(m.Index+1, p.Match+1) < p.Next:
			p.Next = max(m.Index+1, p.Match+1)
		case m.Kind == 6 && m.Index == n.Log.Start && m.Commit <= 20000:
			p.Sent = m.Commit
		case m.Kind == 6:
			p.Sent = 0
		}
		n.Peers[at] = p
		return n, []impl.Message{sentToByHand(n, p)}
	}
	if m.Kind == 6 {
		p.Sent = 0
	}
	if m.Index > p.Match {
		p.Match = min(m.Index, last)
	}
	p.Next = p.Match + 1
	n.Peers[at] = p
	n = committedByHand(n)
	if n.Role == 2 && p.Next <= last {
		return n, []impl.Message{sentToByHand(n, p)}
	}
	return n, nil
}

func receiveByHand(n impl.Node, m impl.Message) (impl.Node, []impl.Message, bool) {
	if !rightNodeByHand(n) || !rightMessageByHand(m) || m.To != n.Id {
		return impl.Node{}, nil, false
	}
	n = copyNode(n)
	if m.Term > n.Term {
		n.Term, n.Vote, n.Role, n.Lead, n.Votes, n.Peers = m.Term, 0, 0, 0, nil, nil
	}
	own := m.Term == n.Term
	reply := impl.Message{From: n.Id, To: m.From, Term: n.Term}
	at := slices.IndexFunc(n.Peers, func(p impl.Peer) bool { return p.Id == m.From })
	switch {
	case m.Kind == 1:
		last := lastByHand(n.Log)
		term := termByHand(n.Log, last)
		reply.Kind, reply.Ok = 2, own && (n.Vote == 0 || n.Vote == m.From) && (m.LogTerm > term || m.LogTerm == term && m.Index >= last)
		if reply.Ok {
			n.Vote, n.Clock = m.From, 0
		}
		return n, []impl.Message{reply}, true
	case m.Kind == 2 && own && m.Ok && n.Role == 1:
		if !slices.Contains(n.Votes, m.From) {
			n.Votes = append(n.Votes, m.From)
			slices.Sort(n.Votes)
		}
		if mostByHand(confNowByHand(n), n.Votes) {
			led, told := ledByHand(n)
			return led, told, true
		}
	case m.Kind == 3:
		reply.Kind = 4
		if own {
			n, reply.Index, reply.Ok = appendedByHand(n, m)
		}
		return n, []impl.Message{reply}, true
	case m.Kind == 5 && own:
		n.Role, n.Lead, n.Clock, n.Votes, n.Peers = 0, m.From, 0, nil, nil
	case (m.Kind == 4 || m.Kind == 6) && own && n.Role == 2 && at >= 0:
		after, told := toldByHand(n, m, at)
		return after, told, true
	}
	return n, nil, true
}

func proposeByHand(n impl.Node, kind int, data string) (impl.Node, []impl.Message, int, bool) {
	e := impl.Entry{Term: n.Term, Kind: kind, Data: data}
	if !rightNodeByHand(n) || n.Role != 2 || !rightByHand(e) {
		return impl.Node{}, nil, 0, false
	}
	n = copyNode(n)
	last := lastByHand(n.Log)
	if len(n.Log.Entries) == 60 || last == 1000000 {
		return impl.Node{}, nil, 0, false
	}
	if kind == 2 {
		conf, next := confNowByHand(n), confByText(data)
		more, less := 0, 0
		for id := 1; id <= 4; id++ {
			if slices.Contains(next, id) && !slices.Contains(conf, id) {
				more++
			}
			if slices.Contains(conf, id) && !slices.Contains(next, id) {
				less++
			}
		}
		if more+less != 1 || termByHand(n.Log, n.Commit) != n.Term || confBehindCommitByHand(n) {
			return impl.Node{}, nil, 0, false
		}
	}
	n.Log.Entries = append(n.Log.Entries, e)
	var peers []impl.Peer
	for _, id := range othersByHand(n) {
		p := peer(id, last+1, 0, 0)
		for _, known := range n.Peers {
			if known.Id == id {
				p = known
			}
		}
		peers = append(peers, p)
	}
	n.Peers = peers
	n = committedByHand(n)
	return n, sentToAllByHand(n), last + 1, true
}

func settleByHand(n impl.Node, index int) (impl.Node, bool) {
	if !rightNodeByHand(n) || index < n.Log.Start || index > n.Commit {
		return impl.Node{}, false
	}
	n = copyNode(n)
	n.Conf, n.Log = confAtByHand(n, index), behindByHand(n.Log, index, termByHand(n.Log, index))
	return n, true
}

// holdPromise holds what comes behind a step against what was there ahead of it.
func holdPromise(t *testing.T, what string, n, after impl.Node, told []impl.Message) {
	t.Helper()
	fault := ""
	switch {
	case !impl.NodeOk(after) || !rightNodeByHand(after):
		fault = "it is not right"
	case after.Id != n.Id || after.Term < n.Term || after.Commit < n.Commit:
		fault = "its Id, its Term or its Commit"
	case after.Term == n.Term && n.Vote != 0 && after.Vote != n.Vote:
		fault = "its Vote"
	}
	for index := after.Log.Start + 1; index <= n.Commit; index++ {
		was, _ := entryOfLog(n.Log, index)
		if is, there := entryOfLog(after.Log, index); !there || is != was {
			fault = fmt.Sprint("its entry at ", index)
		}
	}
	for _, m := range told {
		if !impl.MessageOk(m) || !rightMessageByHand(m) || m.From != n.Id || m.Term != after.Term {
			fault = "what it tells"
		}
	}
	if fault != "" {
		t.Fatalf("%s of %s: %s is %s, and tells %s", what, shownNode(n), fault, shownNode(after), shownMessages(told))
	}
}

// holdAnswer holds an answer against that by hand, and against the promise.
func holdAnswer(t *testing.T, what string, n, got, want impl.Node, told, wanted []impl.Message, ok, right bool) {
	t.Helper()
	if ok != right || !sameNode(got, want) || !sameMessages(told, wanted) {
		t.Fatalf("%s of %s is\n%s, %s, %v; want\n%s, %s, %v", what, shownNode(n), shownNode(got), shownMessages(told), ok, shownNode(want), shownMessages(wanted), right)
	}
	if ok {
		holdPromise(t, what, n, got, told)
	}
}

func holdTick(t *testing.T, n impl.Node, limit int) (impl.Node, []impl.Message, bool) {
	t.Helper()
	before := copyNode(n)
	got, told, ok := impl.Tick(n, limit)
	want, wanted, right := tickByHand(n, limit)
	holdAnswer(t, fmt.Sprintf("Tick by %d", limit), n, got, want, told, wanted, ok, right)
	holdStays(t, n, before)
	return got, told, ok
}

func holdReceive(t *testing.T, n impl.Node, m impl.Message) (impl.Node, []impl.Message, bool) {
	t.Helper()
	before, message := copyNode(n), copyMessage(m)
	got, told, ok := impl.Receive(n, m)
	want, wanted, right := receiveByHand(n, m)
	holdAnswer(t, "Receive of "+shownMessage(m), n, got, want, told, wanted, ok, right)
	holdStays(t, n, before)
	if !sameMessage(m, message) {
		t.Fatalf("Receive wrote into %s", shownMessage(m))
	}
	return got, told, ok
}

func holdPropose(t *testing.T, n impl.Node, kind int, data string) (impl.Node, []impl.Message, int, bool) {
	t.Helper()
	before := copyNode(n)
	got, told, index, ok := impl.Propose(n, kind, data)
	want, wanted, place, right := proposeByHand(n, kind, data)
	holdAnswer(t, fmt.Sprintf("Propose of %d %.40q", kind, data), n, got, want, told, wanted, ok, right)
	holdStays(t, n, before)
	if index != place {
		t.Fatalf("Propose of %d %.40q by %s has the index %d; want %d", kind, data, shownNode(n), index, place)
	}
	return got, told, index, ok
}

func holdSettle(t *testing.T, n impl.Node, index int) (impl.Node, bool) {
	t.Helper()
	before := copyNode(n)
	got, ok := impl.Settle(n, index)
	want, right := settleByHand(n, index)
	holdAnswer(t, fmt.Sprintf("Settle at %d", index), n, got, want, nil, nil, ok, right)
	holdStays(t, n, before)
	return got, ok
}

func holdStays(t *testing.T, n, before impl.Node) {
	t.Helper()
	if !sameNode(n, before) {
		t.Fatalf("written into a node: %s was %s", shownNode(n), shownNode(before))
	}
}

// changedNode is a node with one change.
func changedNode(n impl.Node, change func(n *impl.Node)) impl.Node {
	n = copyNode(n)
	change(&n)
	return n
}

func stays(*impl.Node) {}

// wantTick asks for what is written out: the change to the node, and what is told.
func wantTick(t *testing.T, n impl.Node, limit int, change func(n *impl.Node), told ...impl.Message) {
	t.Helper()
	got, messages, ok := holdTick(t, n, limit)
	if want := changedNode(n, change); !ok || !sameNode(got, want) || !sameMessages(messages, told) {
		t.Fatalf("Tick of %s is\n%s, %s, %v; want\n%s, %s", shownNode(n), shownNode(got), shownMessages(messages), ok, shownNode(want), shownMessages(told))
	}
}

func wantReceive(t *testing.T, n impl.Node, m impl.Message, change func(n *impl.Node), told ...impl.Message) {
	t.Helper()
	got, messages, ok := holdReceive(t, n, m)
	if want := changedNode(n, change); !ok || !sameNode(got, want) || !sameMessages(messages, told) {
		t.Fatalf("Receive of %s by %s is\n%s, %s, %v; want\n%s, %s", shownMessage(m), shownNode(n), shownNode(got), shownMessages(messages), ok, shownNode(want), shownMessages(told))
	}
}

func wantPropose(t *testing.T, n impl.Node, kind int, data string, index int, change func(n *impl.Node), told ...impl.Message) {
	t.Helper()
	got, messages, place, ok := holdPropose(t, n, kind, data)
	if want := changedNode(n, change); !ok || place != index || !sameNode(got, want) || !sameMessages(messages, told) {
		t.Fatalf("Propose of %d %.40q by %s is\n%s, %s, %d, %v; want\n%s, %s, %d", kind, data, shownNode(n), shownNode(got), shownMessages(messages), place, ok, shownNode(want), shownMessages(told), index)
	}
}

func wantSettle(t *testing.T, n impl.Node, index int, change func(n *impl.Node)) {
	t.Helper()
	got, ok := holdSettle(t, n, index)
	if want := changedNode(n, change); !ok || !sameNode(got, want) {
		t.Fatalf("Settle of %s at %d is\n%s, %v; want\n%s", shownNode(n), index, shownNode(got), ok, shownNode(want))
	}
}

func refuseTick(t *testing.T, n impl.Node, limit int) {
	t.Helper()
	if got, told, ok := impl.Tick(n, limit); ok || !noNode(got) || len(told) != 0 {
		t.Fatalf("Tick of %s by %d is %s, %s, %v; want nothing", shownNode(n), limit, shownNode(got), shownMessages(told), ok)
	}
}

func refuseReceive(t *testing.T, n impl.Node, m impl.Message) {
	t.Helper()
	if got, told, ok := impl.Receive(n, m); ok || !noNode(got) || len(told) != 0 {
		t.Fatalf("Receive of %s by %s is %s, %s, %v; want nothing", shownMessage(m), shownNode(n), shownNode(got), shownMessages(told), ok)
	}
}

func refusePropose(t *testing.T, n impl.Node, kind int, data string) {
	t.Helper()
	if got, told, index, ok := impl.Propose(n, kind, data); ok || index != 0 || !noNode(got) || len(told) != 0 {
		t.Fatalf("Propose of %d %.40q by %s is %s, %s, %d, %v; want nothing", kind, data, shownNode(n), shownNode(got), shownMessages(told), index, ok)
	}
}

func refuseSettle(t *testing.T, n impl.Node, index int) {
	t.Helper()
	if got, ok := impl.Settle(n, index); ok || !noNode(got) {
		t.Fatalf("Settle of %s at %d is %s, %v; want nothing", shownNode(n), index, shownNode(got), ok)
	}
}

// coreLog has the indexes 11 .. 15, behind an index 10 of the term 2.
func coreLog() impl.Log {
	return logOf(10, 2, none(2), command(3, "a"), none(4), command(4, "b"), command(5, "c"))
}

// follower is one of three.
func follower() impl.Node {
	return impl.Node{Id: 2, Term: 6, Lead: 1, Conf: []int{1, 2, 3}, Log: coreLog(), Commit: 12, Clock: 3, Limit: 7}
}

// stander is one of four, of whom two give it their votes: one more, and it leads.
func stander() impl.Node {
	return impl.Node{Id: 2, Term: 6, Vote: 2, Role: impl.RoleStand, Conf: []int{1, 2, 3, 4}, Log: coreLog(), Commit: 12, Clock: 3, Limit: 7, Votes: []int{2, 4}}
}

// leader is one of three, in the term of its last entries but the first two.
func leader() impl.Node {
	l := logOf(10, 2, none(2), command(3, "a"), none(5), command(5, "b"), command(5, "c"))
	return impl.Node{Id: 2, Term: 5, Vote: 2, Role: impl.RoleLead, Lead: 2, Conf: []int{1, 2, 3}, Log: l, Commit: 12, Clock: 3, Limit: 7, Peers: []impl.Peer{peer(1, 14, 11, 40), peer(3, 8, 0, 60)}}
}

// lone is a leader that is alone, and has agreed with itself on all it has.
func lone() impl.Node {
	return impl.Node{Id: 3, Term: 4, Vote: 3, Role: impl.RoleLead, Lead: 3, Conf: []int{3}, Log: logOf(0, 0, none(2), none(4), command(4, "x")), Commit: 3, Limit: 5}
}

// plainAsk is of the node 1, to the node 2.
func plainAsk(kind, term int) impl.Message {
	m := impl.Message{Kind: kind, From: 1, To: 2, Term: term}
	if kind == impl.AskInstall {
		m.Conf = []int{1, 2, 3}
	}
	return m
}

func TestCoreConstants(t *testing.T) {
	if impl.MaxLimit != 20 || impl.RoleFollow != 0 || impl.RoleStand != 1 || impl.RoleLead != 2 {
		t.Error("a constant is another one")
	}
}

// baseNodes are one of each Role and more, of whom each is near to what others are not.
func baseNodes() []impl.Node {
	list := []impl.Node{follower(), stander(), leader(), lone()}
	for _, n := range slices.Clone(list) {
		list = append(list, changedNode(n, func(n *impl.Node) { n.Commit = lastByHand(n.Log) }))
		list = append(list, changedNode(n, func(n *impl.Node) { n.Commit = n.Log.Start }))
		list = append(list, changedNode(n, func(n *impl.Node) { n.Term++ }))
		list = append(list, changedNode(n, func(n *impl.Node) { n.Vote = 0 }))
		list = append(list, changedNode(n, func(n *impl.Node) { n.Vote = 1 }))
		list = append(list, changedNode(n, func(n *impl.Node) { n.Clock = n.Limit - 1 }))
		list = append(list, changedNode(n, func(n *impl.Node) { n.Term = impl.MaxTerm }))
	}
	bare := impl.Node{Id: 2, Conf: []int{1, 2}, Limit: 20}
	changing := changedNode(leader(), func(n *impl.Node) {
		n.Log.Entries[3] = confEntry(5, 1, 3)
		n.Peers = []impl.Peer{peer(1, 15, 14, 0), peer(3, 14, 13, 0)}
	})
	full := changedNode(stander(), func(n *impl.Node) { n.Log = longLog(10, 2, 60); n.Term = 20 })
	end := changedNode(stander(), func(n *impl.Node) {
		n.Log = longLog(999994, 2, 6)
		n.Commit = 999996
	})
	behind := changedNode(leader(), func(n *impl.Node) {
		n.Peers = []impl.Peer{peer(1, 10, 9, 20000), peer(3, 11, 10, 1)}
	})
	outside := changedNode(stander(), func(n *impl.Node) { n.Conf = []int{1, 3}; n.Votes = nil })
	return append(list, bare, changing, full, end, behind, outside)
}

func TestRightNodesOfTests(t *testing.T) {
	for _, n := range baseNodes() {
		if !impl.NodeOk(n) || !rightNodeByHand(n) {
			t.Errorf("NodeOk(%s) is false", shownNode(n))
		}
	}
}

func wantConfAt(t *testing.T, n impl.Node, index int, want ...int) {
	t.Helper()
	if got := impl.ConfAt(n, index); !slices.Equal(got, want) {
		t.Errorf("ConfAt(%s, %d) = %v; want %v", shownNode(n), index, got, want)
	}
}

func wantConfOf(t *testing.T, n impl.Node, want ...int) {
	t.Helper()
	if got := impl.ConfOf(n); !slices.Equal(got, want) {
		t.Errorf("ConfOf(%s) = %v; want %v", shownNode(n), got, want)
	}
}

func TestConfAt(t *testing.T) {
	n := impl.Node{Id: 1, Conf: []int{1, 2, 3}, Limit: 1, Log: logOf(10, 2, none(2), none(3))}
	for _, index := range []int{math.MinInt, -1, 0, 9, 10, 11, 12, 13, 1000001, math.MaxInt} {
		wantConfAt(t, n, index, 1, 2, 3)
	}
	wantConfOf(t, n, 1, 2, 3)
	// One alone, at the last place.
	n.Log.Entries = append(n.Log.Entries, confEntry(3, 2))
	for _, index := range []int{math.MinInt, 0, 10, 11, 12} {
		wantConfAt(t, n, index, 1, 2, 3)
	}
	for _, index := range []int{13, 14, math.MaxInt} {
		wantConfAt(t, n, index, 2)
	}
	wantConfOf(t, n, 2)
	// Several, and a command whose Data is a conf's text.
	n.Log = logOf(10, 2, confEntry(2, 1, 2), none(3), confEntry(3, 1, 2, 4), command(4, "\x03"), confEntry(4, 2, 4), none(4))
	for _, index := range []int{math.MinInt, -11, 0, 9, 10} {
		wantConfAt(t, n, index, 1, 2, 3)
	}
	wantConfAt(t, n, 11, 1, 2)
	wantConfAt(t, n, 12, 1, 2)
	wantConfAt(t, n, 13, 1, 2, 4)
	wantConfAt(t, n, 14, 1, 2, 4)
	for _, index := range []int{15, 16, 17, 100, math.MaxInt} {
		wantConfAt(t, n, index, 2, 4)
	}
	wantConfOf(t, n, 2, 4)
	for _, conf := range rightConfs() {
		n.Log.Entries[4] = confEntry(4, conf...)
		wantConfOf(t, n, conf...)
		wantConfAt(t, n, 15, conf...)
		wantConfOf(t, impl.Node{Conf: conf}, conf...)
		wantConfAt(t, impl.Node{Conf: conf}, 0, conf...)
	}
}

func TestConfAtOfEachIndex(t *testing.T) {
	for _, l := range rightLogs() {
		for _, conf := range [][]int{{1}, {1, 2, 3, 4}} {
			n := impl.Node{Id: 1, Conf: conf, Limit: 1, Log: l, Term: impl.MaxTerm, Commit: l.Start}
			for index := l.Start - 2; index <= lastByHand(l)+2; index++ {
				wantConfAt(t, n, index, confAtByHand(n, index)...)
			}
			wantConfOf(t, n, confNowByHand(n)...)
		}
	}
}

// Of nodes that are not right: the indexes go on where no int goes on.
func TestConfsOfWrongNodes(t *testing.T) {
	said := []impl.Entry{confEntry(1, 1), confEntry(1, 2), confEntry(1, 3)}
	for _, c := range []struct {
		start, index int
		want         []int
	}{
		{math.MaxInt, math.MaxInt, []int{4}}, {math.MaxInt, math.MinInt, []int{4}}, {math.MaxInt, 0, []int{4}}, {math.MaxInt - 1, math.MaxInt, []int{1}}, {math.MaxInt - 2, math.MaxInt, []int{2}}, {math.MaxInt - 3, math.MaxInt, []int{3}}, {math.MaxInt - 3, math.MaxInt - 1, []int{2}},
		{math.MinInt, math.MinInt, []int{4}}, {math.MinInt, math.MinInt + 1, []int{1}}, {math.MinInt, math.MinInt + 3, []int{3}}, {math.MinInt, -1, []int{3}}, {math.MinInt, 0, []int{3}}, {math.MinInt, math.MaxInt, []int{3}},
		{-2, -2, []int{4}}, {-2, -1, []int{1}}, {-2, 0, []int{2}}, {-2, 1, []int{3}}, {-1, math.MaxInt, []int{3}}, {-1, math.MinInt, []int{4}},
	} {
		n := impl.Node{Conf: []int{4}, Log: logOf(c.start, 0, said...)}
		wantConfAt(t, n, c.index, c.want...)
		wantConfOf(t, n, 3)
	}
	for _, conf := range wrongConfs() {
		wantConfOf(t, impl.Node{Conf: conf}, conf...)
		wantConfAt(t, impl.Node{Conf: conf}, 7, conf...)
	}
	// What the last EntryConf says is no conf: then there is none.
	for _, text := range []string{"", "\x00", "\x05", "\x02\x01", "\x01\x01", "\x01\x02\x03\x04\x04", "x", longText(200000)} {
		n := impl.Node{Conf: []int{4}, Log: logOf(0, 0, confEntry(1, 1), impl.Entry{Kind: impl.EntryConf, Data: text}, none(1))}
		wantConfOf(t, n)
		wantConfAt(t, n, 3)
		wantConfAt(t, n, 2)
		wantConfAt(t, n, 1, 1)
	}
	wantConfOf(t, impl.Node{})
	wantConfAt(t, impl.Node{}, 0)
}

func holdNode(t *testing.T, n impl.Node, right bool) {
	t.Helper()
	if rightNodeByHand(n) != right {
		t.Fatalf("the test is wrong: of the node %s it says %v", shownNode(n), right)
	}
	before := copyNode(n)
	if impl.NodeOk(n) != right {
		t.Fatalf("NodeOk(%s) is %v", shownNode(n), !right)
	}
	holdStays(t, n, before)
}

// holdEachRole changes one thing in a node of each Role.
func holdEachRole(t *testing.T, right bool, change func(n *impl.Node)) {
	t.Helper()
	for _, n := range []impl.Node{follower(), stander(), leader()} {
		holdNode(t, changedNode(n, change), right)
	}
}

// Each number on its own: it meets its limits, and passes them by one and by far.
func TestNodeOkOfNumbers(t *testing.T) {
	for _, c := range []struct {
		least, most int
		change      func(n *impl.Node, to int)
	}{
		{6, 100000, func(n *impl.Node, to int) { n.Term = to; n.Log.Entries[4].Term = 6 }},
		{0, 4, func(n *impl.Node, to int) { n.Vote = to }},
		{0, 4, func(n *impl.Node, to int) { n.Lead = to }},
		{10, 15, func(n *impl.Node, to int) { n.Commit = to }},
		{10, 10, func(n *impl.Node, to int) {
			n.Log.Entries, n.Commit = nil, to
			for at := range n.Peers {
				n.Peers[at] = peer(n.Peers[at].Id, 11, 10, 0)
			}
		}},
		{0, 20, func(n *impl.Node, to int) { n.Clock = to }},
		{1, 20, func(n *impl.Node, to int) { n.Limit = to }},
	} {
		for _, to := range []int{c.least, c.least + 1, (c.least + c.most) / 2, c.most - 1, c.most} {
			holdEachRole(t, to >= c.least && to <= c.most, func(n *impl.Node) { c.change(n, to) })
		}
		for _, to := range []int{c.least - 1, c.least - 2, -1, c.most + 1, c.most + 2, 1000001, math.MinInt, math.MaxInt} {
			holdEachRole(t, false, func(n *impl.Node) { c.change(n, to) })
		}
	}
	for _, n := range []impl.Node{follower(), stander()} {
		for _, id := range []int{1, 2, 3, 4} {
			holdNode(t, changedNode(n, func(n *impl.Node) { n.Id = id }), true)
		}
	}
	for id := 1; id <= 4; id++ {
		holdNode(t, impl.Node{Id: id, Role: impl.RoleLead, Conf: []int{id}, Limit: 1}, true)
	}
	for _, id := range []int{0, -1, 5, 6, 255, 256, 257, 258, math.MinInt, math.MaxInt} {
		holdEachRole(t, false, func(n *impl.Node) { n.Id = id })
		holdNode(t, impl.Node{Id: id, Role: impl.RoleLead, Conf: []int{1}, Limit: 1, Peers: []impl.Peer{peer(1, 1, 0, 0)}}, false)
	}
}

// The Term is held against the term of the last entry, or against StartTerm, where there is none.
func TestNodeOkOfTerms(t *testing.T) {
	for _, n := range []impl.Node{follower(), stander(), leader()} {
		for term, right := range map[int]bool{5: true, 6: true, 100000: true, 4: false, 2: false, 0: false, -1: false, 100001: false} {
			holdNode(t, changedNode(n, func(n *impl.Node) { n.Term = term }), right)
		}
	}
	n := impl.Node{Id: 2, Conf: []int{1}, Limit: 1, Commit: 7, Log: logOf(7, 3)}
	for term, right := range map[int]bool{3: true, 4: true, 100000: true, 2: false, 0: false, -1: false, 100001: false} {
		holdNode(t, changedNode(n, func(n *impl.Node) { n.Term = term }), right)
	}
	n = impl.Node{Id: 2, Conf: []int{1}, Limit: 1}
	for term, right := range map[int]bool{0: true, 1: true, 100000: true, -1: false, 100001: false} {
		holdNode(t, changedNode(n, func(n *impl.Node) { n.Term = term }), right)
	}
	n.Log.StartTerm, n.Term = 100000, 100000
	holdNode(t, n, true)
	n.Term = 99999
	holdNode(t, n, false)
}

func TestNodeOkOfRoles(t *testing.T) {
	for _, role := range []int{-1, -2, 3, 4, 255, 256, 257, 258, math.MinInt, math.MaxInt} {
		holdEachRole(t, false, func(n *impl.Node) { n.Role = role })
		holdNode(t, impl.Node{Id: 1, Conf: []int{1}, Limit: 1, Role: role}, false)
	}
	for role := range 3 {
		holdNode(t, impl.Node{Id: 1, Conf: []int{1}, Limit: 1, Role: role}, true)
		holdNode(t, changedNode(follower(), func(n *impl.Node) { n.Role = role }), role != 2)
		holdNode(t, changedNode(stander(), func(n *impl.Node) { n.Role = role }), role == 1)
		holdNode(t, changedNode(leader(), func(n *impl.Node) { n.Role = role }), role == 2)
	}
}

func TestNodeOkOfVotes(t *testing.T) {
	for _, votes := range append(rightConfs(), nil) {
		for role := range 3 {
			right := role == 1 || len(votes) == 0
			holdNode(t, impl.Node{Id: 1, Conf: []int{1}, Limit: 1, Role: role, Votes: votes}, right)
			holdNode(t, impl.Node{Id: 2, Conf: []int{1}, Limit: 1, Role: role % 2, Votes: votes}, right || role == 1)
		}
		holdNode(t, changedNode(follower(), func(n *impl.Node) { n.Votes = votes }), len(votes) == 0)
		holdNode(t, changedNode(leader(), func(n *impl.Node) { n.Votes = votes }), len(votes) == 0)
		holdNode(t, changedNode(stander(), func(n *impl.Node) { n.Votes = votes }), true)
	}
	for _, votes := range wrongConfs() {
		holdEachRole(t, len(votes) == 0, func(n *impl.Node) { n.Votes = votes })
	}
}

func TestNodeOkOfConfs(t *testing.T) {
	for _, conf := range wrongConfs() {
		holdEachRole(t, false, func(n *impl.Node) { n.Conf = conf })
		// Also where another conf holds by now.
		holdEachRole(t, false, func(n *impl.Node) { n.Conf = conf; n.Log.Entries[2] = confEntry(4, 1, 2, 3) })
	}
	for _, conf := range rightConfs() {
		for id := 1; id <= 4; id++ {
			n := impl.Node{Id: id, Conf: conf, Limit: 1}
			holdNode(t, n, true)
			n.Role = impl.RoleLead
			for other := 1; other <= 4; other++ {
				if other != id && slices.Contains(conf, other) {
					holdNode(t, n, false)
					n.Peers = append(n.Peers, peer(other, 1, 0, 0))
				}
			}
			holdNode(t, n, true)
		}
	}
}

func TestNodeOkOfLogs(t *testing.T) {
	for _, l := range rightLogs() {
		for role := range 3 {
			n := impl.Node{Id: 2, Role: role, Term: impl.MaxTerm, Conf: []int{1, 2}, Log: l, Limit: 1, Commit: l.Start}
			if role == 2 {
				for _, id := range othersByHand(n) {
					n.Peers = append(n.Peers, peer(id, 1, 0, 0))
				}
			}
			holdNode(t, n, true)
			n.Commit = lastByHand(l)
			holdNode(t, n, true)
			n.Commit++
			holdNode(t, n, false)
		}
	}
	for _, l := range wrongLogs() {
		for role := range 3 {
			for _, commit := range []int{l.Start, 0, 5} {
				n := impl.Node{Id: 2, Role: role, Term: impl.MaxTerm, Conf: []int{1, 2}, Log: l, Limit: 1, Commit: commit}
				holdNode(t, n, false)
				n.Peers = []impl.Peer{peer(1, 1, 0, 0)}
				holdNode(t, n, false)
			}
		}
	}
}

func TestNodeOkOfPeers(t *testing.T) {
	one, other := peer(1, 14, 11, 40), peer(3, 8, 0, 60)
	for _, c := range []struct {
		peers []impl.Peer
		right bool
	}{
		{[]impl.Peer{one, other}, true},
		{nil, false}, {[]impl.Peer{one}, false}, {[]impl.Peer{other}, false},
		{[]impl.Peer{other, one}, false}, {[]impl.Peer{one, one}, false}, {[]impl.Peer{one, one, other}, false},
		{[]impl.Peer{one, peer(2, 8, 0, 0), other}, false}, {[]impl.Peer{one, peer(2, 8, 0, 0)}, false},
		{[]impl.Peer{one, other, peer(4, 8, 0, 0)}, false}, {[]impl.Peer{one, peer(4, 8, 0, 0)}, false},
		{[]impl.Peer{peer(0, 8, 0, 0), one, other}, false}, {[]impl.Peer{peer(0, 8, 0, 0), other}, false}, {[]impl.Peer{one, peer(5, 8, 0, 0)}, false}, {[]impl.Peer{{}, {}}, false}, {make([]impl.Peer, 1000), false},
	} {
		holdNode(t, changedNode(leader(), func(n *impl.Node) { n.Peers = c.peers }), c.right)
		// Of the other Roles there are none.
		holdNode(t, changedNode(follower(), func(n *impl.Node) { n.Peers = c.peers }), len(c.peers) == 0)
		holdNode(t, changedNode(stander(), func(n *impl.Node) { n.Peers = c.peers }), len(c.peers) == 0)
	}
	holdNode(t, lone(), true)
	for id := range 6 {
		holdNode(t, changedNode(lone(), func(n *impl.Node) { n.Peers = []impl.Peer{peer(id, 1, 0, 0)} }), false)
	}
	// It is the conf that holds now that has the peers, not that of the log's beginning.
	grown := changedNode(leader(), func(n *impl.Node) { n.Log.Entries[4] = confEntry(5, 1, 2, 3, 4) })
	holdNode(t, grown, false)
	grown.Peers = append(grown.Peers, peer(4, 16, 0, 0))
	holdNode(t, grown, true)
	gone := changedNode(leader(), func(n *impl.Node) { n.Log.Entries[4] = confEntry(5, 1, 3) })
	holdNode(t, gone, true)
	gone.Log.Entries[4] = confEntry(5, 1)
	holdNode(t, gone, false)
	gone.Peers = gone.Peers[:1]
	holdNode(t, gone, true)
}

func TestNodeOkOfPeersNumbers(t *testing.T) {
	for at := range 2 {
		held := func(right bool, change func(p *impl.Peer)) {
			t.Helper()
			holdNode(t, changedNode(leader(), func(n *impl.Node) { change(&n.Peers[at]) }), right)
		}
		for _, next := range []int{1, 2, 9, 10, 11, 15, 16} {
			held(true, func(p *impl.Peer) { p.Next, p.Match = next, 0 })
			held(true, func(p *impl.Peer) { p.Next, p.Match = next, next-1 })
			for _, match := range []int{next, next + 1, 17, -1, -2, math.MinInt, math.MaxInt} {
				held(false, func(p *impl.Peer) { p.Next, p.Match = next, match })
			}
		}
		for _, next := range []int{0, -1, 17, 18, math.MinInt, math.MaxInt} {
			held(false, func(p *impl.Peer) { p.Next, p.Match = next, 0 })
			held(false, func(p *impl.Peer) { p.Next, p.Match = next, next-1 })
		}
		for _, sent := range []int{0, 1, 60, 19999, 20000} {
			held(true, func(p *impl.Peer) { p.Sent = sent })
		}
		for _, sent := range []int{-1, -60, 20001, 20002, 1000000, math.MinInt, math.MaxInt} {
			held(false, func(p *impl.Peer) { p.Sent = sent })
		}
	}
	// At the end of all indexes Next is one more.
	n := impl.Node{Id: 1, Role: impl.RoleLead, Conf: []int{1, 2}, Limit: 1, Commit: 1000000, Log: logOf(1000000, 0), Peers: []impl.Peer{peer(2, 1000001, 1000000, 0)}}
	holdNode(t, n, true)
	n.Peers[0].Next = 1000002
	holdNode(t, n, false)
}

// All lists of up to three peers with Ids of 0 .. 5.
func TestNodeOkOfAllPeers(t *testing.T) {
	lists := [][]impl.Peer{nil}
	for size := 0; size < len(lists); size++ {
		if len(lists[size]) == 3 {
			break
		}
		for id := range 6 {
			lists = append(lists, append(slices.Clone(lists[size]), peer(id, 1, 0, 0)))
		}
	}
	count := 0
	for _, conf := range rightConfs() {
		for id := 1; id <= 4; id++ {
			for _, peers := range lists {
				n := impl.Node{Id: id, Role: impl.RoleLead, Conf: conf, Limit: 1, Peers: peers}
				if right := rightNodeByHand(n); impl.NodeOk(n) != right {
					t.Fatalf("NodeOk(%s) is %v", shownNode(n), !right)
				} else if right {
					count++
				}
			}
		}
	}
	if count != 60 {
		t.Errorf("%d of the lists are right", count)
	}
}

func TestNodeNew(t *testing.T) {
	for _, conf := range append(rightConfs(), wrongConfs()...) {
		for _, id := range []int{math.MinInt, -1, 0, 1, 2, 3, 4, 5, 6, 256, 257, math.MaxInt} {
			before := slices.Clone(conf)
			n, ok := impl.NodeNew(id, conf)
			want, right := impl.Node{}, id >= 1 && id <= 4 && isRightConf(conf)
			if right {
				want.Id, want.Conf, want.Limit = id, conf, 20
			}
			if ok != right || !sameNode(n, want) || ok && !impl.NodeOk(n) {
				t.Errorf("NodeNew(%d, %v) = %s, %v; want %s, %v", id, conf, shownNode(n), ok, shownNode(want), right)
			}
			if !slices.Equal(conf, before) {
				t.Fatalf("NodeNew wrote into its conf")
			}
		}
	}
}

// wrongNodes are each wrong by one thing.
func wrongNodes() (list []impl.Node) {
	for _, n := range []impl.Node{follower(), stander(), leader(), lone()} {
		for _, change := range []func(n *impl.Node){
			func(n *impl.Node) { n.Id = 0 }, func(n *impl.Node) { n.Id = 5 }, func(n *impl.Node) { n.Term = -1 }, func(n *impl.Node) { n.Term = impl.MaxTerm + 1 }, func(n *impl.Node) { n.Term = 3 },
			func(n *impl.Node) { n.Vote = -1 }, func(n *impl.Node) { n.Vote = 5 }, func(n *impl.Node) { n.Lead = -1 }, func(n *impl.Node) { n.Lead = 5 }, func(n *impl.Node) { n.Role = 3 }, func(n *impl.Node) { n.Role = -1 },
			func(n *impl.Node) { n.Conf = nil }, func(n *impl.Node) { n.Conf = []int{2, 1} }, func(n *impl.Node) { n.Log.Start = -1 }, func(n *impl.Node) { n.Log.Entries[0].Kind = 4 }, func(n *impl.Node) { n.Log.StartTerm = 4 }, func(n *impl.Node) { n.Log.Start = math.MaxInt },
			func(n *impl.Node) { n.Commit = n.Log.Start - 1 }, func(n *impl.Node) { n.Commit = lastByHand(n.Log) + 1 }, func(n *impl.Node) { n.Clock = -1 }, func(n *impl.Node) { n.Clock = 21 }, func(n *impl.Node) { n.Limit = 0 }, func(n *impl.Node) { n.Limit = 21 },
			func(n *impl.Node) { n.Votes = []int{0} }, func(n *impl.Node) { n.Votes = []int{2, 2} }, func(n *impl.Node) { n.Peers = append(n.Peers, peer(4, 1, 0, 0)) }, func(n *impl.Node) { n.Log.Entries = slices.Repeat(n.Log.Entries[:1], 61) },
		} {
			list = append(list, changedNode(n, change))
		}
	}
	for _, change := range []func(p *impl.Peer){func(p *impl.Peer) { p.Id = 4 }, func(p *impl.Peer) { p.Next = 0 }, func(p *impl.Peer) { p.Next = 17 }, func(p *impl.Peer) { p.Match = p.Next }, func(p *impl.Peer) { p.Match = -1 }, func(p *impl.Peer) { p.Sent = -1 }, func(p *impl.Peer) { p.Sent = 20001 }} {
		list = append(list, changedNode(leader(), func(n *impl.Node) { change(&n.Peers[1]) }))
	}
	return append(list, impl.Node{})
}

func TestWrongNodesAreRefused(t *testing.T) {
	for _, n := range wrongNodes() {
		holdNode(t, n, false)
		refuseTick(t, n, 1)
		for kind := 1; kind <= 6; kind++ {
			m := plainAsk(kind, 6)
			m.To, m.From = n.Id, 1+n.Id%4
			refuseReceive(t, n, m)
			m.Term = 0
			refuseReceive(t, n, m)
		}
		for _, e := range []impl.Entry{none(0), command(0, "x"), confEntry(0, 1, 2, 3, 4), confEntry(0, 1, 2), confEntry(0, 2)} {
			refusePropose(t, n, e.Kind, e.Data)
		}
		for _, index := range []int{n.Log.Start, n.Commit, 10, 0} {
			refuseSettle(t, n, index)
		}
	}
}

func TestTickBelowTheLimit(t *testing.T) {
	for _, base := range []impl.Node{follower(), stander()} {
		for clock := range 6 {
			n := changedNode(base, func(n *impl.Node) { n.Clock = clock })
			for _, limit := range []int{1, 2, 7, 20} {
				wantTick(t, n, limit, func(n *impl.Node) { n.Clock = clock + 1 })
			}
		}
	}
}

// stood is what becomes of a node that stands.
func stood(limit int) func(n *impl.Node) {
	return func(n *impl.Node) {
		n.Term, n.Vote, n.Role, n.Lead, n.Votes = n.Term+1, n.Id, impl.RoleStand, 0, []int{n.Id}
		n.Clock, n.Limit = 0, limit
	}
}

func TestTickAtTheLimit(t *testing.T) {
	asked := func(to int) impl.Message {
		return impl.Message{Kind: impl.AskVote, From: 2, To: to, Term: 7, Index: 15, LogTerm: 5}
	}
	for _, clock := range []int{6, 7, 8, 19, 20} {
		for _, limit := range []int{1, 5, 7, 19, 20} {
			for _, vote := range []int{0, 1, 2, 4} {
				n := changedNode(follower(), func(n *impl.Node) { n.Clock, n.Vote = clock, vote })
				wantTick(t, n, limit, stood(limit), asked(1), asked(3))
			}
			// It stands again, in a term of its own.
			n := changedNode(stander(), func(n *impl.Node) { n.Clock = clock })
			wantTick(t, n, limit, stood(limit), asked(1), asked(3), asked(4))
		}
	}
	n := changedNode(follower(), func(n *impl.Node) { n.Clock, n.Limit = 0, 1 })
	wantTick(t, n, 20, stood(20), asked(1), asked(3))
	n.Clock, n.Limit = 19, 20
	wantTick(t, n, 1, stood(1), asked(1), asked(3))
	// A log without entries.
	n.Log, n.Commit = logOf(10, 4), 10
	wantTick(t, n, 1, stood(1), impl.Message{Kind: impl.AskVote, From: 2, To: 1, Term: 7, Index: 10, LogTerm: 4}, impl.Message{Kind: impl.AskVote, From: 2, To: 3, Term: 7, Index: 10, LogTerm: 4})
	wantTick(t, impl.Node{Id: 1, Conf: []int{1, 2}, Limit: 1}, 3, stood(3), impl.Message{Kind: impl.AskVote, From: 1, To: 2, Term: 1})
	// Whom it asks is told by the conf that holds now.
	n = changedNode(follower(), func(n *impl.Node) { n.Clock = 6; n.Log.Entries[4] = confEntry(5, 2, 4) })
	wantTick(t, n, 3, stood(3), asked(4))
	n.Conf = []int{1}
	wantTick(t, n, 3, stood(3), asked(4))
}

// Who is not in the conf that holds now, or is at the end of all terms, stands never.
func TestTickOfThoseWhoDoNotStand(t *testing.T) {
	passed := func(n *impl.Node) { n.Clock, n.Limit = 0, 9 }
	for _, base := range []impl.Node{follower(), stander()} {
		n := changedNode(base, func(n *impl.Node) { n.Clock, n.Conf = 6, []int{1, 3} })
		wantTick(t, n, 9, passed)
		n = changedNode(base, func(n *impl.Node) { n.Clock = 6; n.Log.Entries[1] = confEntry(3, 1, 3, 4) })
		wantTick(t, n, 9, passed)
		n = changedNode(base, func(n *impl.Node) { n.Clock, n.Term = 6, impl.MaxTerm })
		wantTick(t, n, 9, passed)
		n.Conf = []int{2}
		wantTick(t, n, 9, passed)
		n = changedNode(base, func(n *impl.Node) { n.Clock, n.Term, n.Conf = 6, impl.MaxTerm-1, []int{2, 4} })
		wantTick(t, n, 9, stood(9), impl.Message{Kind: impl.AskVote, From: 2, To: 4, Term: 100000, Index: 15, LogTerm: 5})
	}
}

// ledAlone is what becomes of a node that is alone in its conf, and stands.
func ledAlone(limit int) func(n *impl.Node) {
	return func(n *impl.Node) {
		stood(limit)(n)
		n.Role, n.Lead, n.Votes = impl.RoleLead, n.Id, nil
	}
}

func TestTickOfANodeAlone(t *testing.T) {
	agreed := func(n *impl.Node) {
		ledAlone(4)(n)
		n.Log.Entries = append(n.Log.Entries, none(n.Term))
		n.Commit = lastByHand(n.Log)
	}
	wantTick(t, impl.Node{Id: 4, Conf: []int{4}, Limit: 1}, 4, agreed)
	n := changedNode(follower(), func(n *impl.Node) { n.Conf, n.Clock = []int{2}, 6 })
	wantTick(t, n, 4, agreed)
	n = changedNode(follower(), func(n *impl.Node) { n.Clock = 6; n.Log.Entries[4] = confEntry(5, 2) })
	wantTick(t, n, 4, agreed)
	n = changedNode(follower(), func(n *impl.Node) { n.Clock = 6; n.Log.Entries[0] = confEntry(2, 2) })
	wantTick(t, n, 4, agreed)
	// There is no room behind the log: then nothing of its own term is there that could be agreed on.
	n = changedNode(follower(), func(n *impl.Node) {
		n.Conf, n.Clock, n.Log, n.Term = []int{2}, 6, logOf(10, 2, slices.Repeat([]impl.Entry{none(3)}, 60)...), 3
	})
	wantTick(t, n, 4, ledAlone(4))
	n.Log.Entries = n.Log.Entries[:59]
	wantTick(t, n, 4, agreed)
	n.Log, n.Commit = logOf(999998, 2, none(3), none(3)), 999999
	wantTick(t, n, 4, ledAlone(4))
	n.Log.Start, n.Commit = 999997, 999997
	wantTick(t, n, 4, agreed)
	n.Log, n.Commit = logOf(1000000, 2), 1000000
	wantTick(t, n, 4, ledAlone(4))
}

func TestTickOfALeader(t *testing.T) {
	l := leader().Log.Entries
	at := func(to, index, term int, entries ...impl.Entry) impl.Message {
		return impl.Message{Kind: impl.AskAppend, From: 2, To: to, Term: 5, Index: index, LogTerm: term, Commit: 12, Entries: entries}
	}
	install := func(to, sent int) impl.Message {
		return impl.Message{Kind: impl.AskInstall, From: 2, To: to, Term: 5, Index: 10, LogTerm: 2, Commit: sent, Conf: []int{1, 2, 3}}
	}
	for _, c := range []struct {
		one, other impl.Peer
		told       []impl.Message
	}{
		{peer(1, 14, 11, 40), peer(3, 8, 0, 60), []impl.Message{at(1, 13, 5, l[3:]...), install(3, 60)}},
		{peer(1, 16, 15, 0), peer(3, 16, 0, 9), []impl.Message{at(1, 15, 5), at(3, 15, 5)}},
		{peer(1, 15, 14, 0), peer(3, 13, 0, 9), []impl.Message{at(1, 14, 5, l[4:]...), at(3, 12, 3, l[2:]...)}},
		{peer(1, 12, 0, 0), peer(3, 11, 0, 9), []impl.Message{at(1, 11, 2, l[1:]...), at(3, 10, 2, l[:4]...)}},
		{peer(1, 11, 10, 7), peer(3, 10, 9, 20000), []impl.Message{at(1, 10, 2, l[:4]...), install(3, 20000)}},
		{peer(1, 1, 0, 0), peer(3, 9, 4, 1), []impl.Message{install(1, 0), install(3, 1)}},
	} {
		for _, limit := range []int{1, 7, 20} {
			for _, clock := range []int{0, 6, 7, 20} {
				n := changedNode(leader(), func(n *impl.Node) { n.Peers = []impl.Peer{c.one, c.other}; n.Clock = clock })
				wantTick(t, n, limit, stays, c.told...)
			}
		}
	}
	wantTick(t, lone(), 3, stays)
	// What is installed has the conf of the log's beginning, also where another one holds by now.
	n := changedNode(leader(), func(n *impl.Node) {
		n.Log.Entries[4] = confEntry(5, 2, 3)
		n.Peers = n.Peers[1:]
	})
	wantTick(t, n, 3, stays, install(3, 60))
}

func TestTickLimits(t *testing.T) {
	for _, n := range baseNodes() {
		for limit := 1; limit <= 20; limit++ {
			if _, _, ok := holdTick(t, n, limit); !ok {
				t.Fatalf("Tick of %s by %d is false", shownNode(n), limit)
			}
		}
		for _, limit := range []int{0, -1, 21, 22, 256, 257, math.MinInt, math.MaxInt} {
			refuseTick(t, n, limit)
		}
	}
}

// heardOfTerm is what becomes of a node that hears of a term above its own.
func heardOfTerm(term int) func(n *impl.Node) {
	return func(n *impl.Node) {
		n.Term, n.Vote, n.Role, n.Lead, n.Votes, n.Peers = term, 0, impl.RoleFollow, 0, nil, nil
	}
}

// heeded is what becomes of a node that hears from who leads in its term.
func heeded(n *impl.Node) {
	n.Role, n.Lead, n.Clock, n.Votes, n.Peers = impl.RoleFollow, 1, 0, nil, nil
}

// both is one change behind the other.
func both(changes ...func(n *impl.Node)) func(n *impl.Node) {
	return func(n *impl.Node) {
		for _, change := range changes {
			change(n)
		}
	}
}

func TestReceiveRefuses(t *testing.T) {
	for _, n := range baseNodes() {
		for kind := 1; kind <= 6; kind++ {
			for _, term := range []int{0, n.Term, impl.MaxTerm} {
				for from := 1; from <= 4; from++ {
					for to := 1; to <= 4; to++ {
						m := plainAsk(kind, term)
						m.From, m.To = from, to
						if from == to || to != n.Id {
							refuseReceive(t, n, m)
						} else if _, _, ok := holdReceive(t, n, m); !ok {
							t.Fatalf("Receive of %s by %s is false", shownMessage(m), shownNode(n))
						}
					}
				}
			}
			for _, change := range []func(m *impl.Message){
				func(m *impl.Message) { m.Kind = 0 }, func(m *impl.Message) { m.Kind = 7 }, func(m *impl.Message) { m.From = 0 }, func(m *impl.Message) { m.From = 5 }, func(m *impl.Message) { m.From = m.To }, func(m *impl.Message) { m.To = 0 }, func(m *impl.Message) { m.To = 5 },
				func(m *impl.Message) { m.Term = -1 }, func(m *impl.Message) { m.Term = impl.MaxTerm + 1 }, func(m *impl.Message) { m.Index = -1 }, func(m *impl.Message) { m.Index = impl.MaxIndex + 1 }, func(m *impl.Message) { m.LogTerm = -1 }, func(m *impl.Message) { m.LogTerm = impl.MaxTerm + 1 }, func(m *impl.Message) { m.Commit = -1 }, func(m *impl.Message) { m.Commit = impl.MaxIndex + 1 },
				func(m *impl.Message) { m.Entries = []impl.Entry{none(m.Term + 1)} }, func(m *impl.Message) { m.Entries = slices.Repeat([]impl.Entry{none(m.Term)}, 5) }, func(m *impl.Message) { m.Entries = []impl.Entry{{}} }, func(m *impl.Message) { m.Conf = []int{2, 1} }, func(m *impl.Message) { m.Data = longText(61) },
			} {
				m := plainAsk(kind, n.Term)
				m.To, m.From = n.Id, 1+n.Id%4
				change(&m)
				refuseReceive(t, n, m)
			}
		}
	}
}

func TestAskVoteOfItsOwnTerm(t *testing.T) {
	said := func(ok bool) impl.Message {
		return impl.Message{Kind: impl.TellVote, From: 2, To: 1, Term: 6, Ok: ok}
	}
	given := func(n *impl.Node) { n.Vote, n.Clock = 1, 0 }
	for _, c := range []struct {
		index, term int
		level       bool
	}{
		{15, 5, true}, {16, 5, true}, {1000000, 5, true}, {15, 6, true}, {0, 6, true}, {14, 6, true}, {0, 100000, true}, {1000000, 100000, true},
		{14, 5, false}, {0, 5, false}, {15, 4, false}, {16, 4, false}, {1000000, 4, false}, {0, 0, false}, {1000000, 0, false},
	} {
		m := plainAsk(impl.AskVote, 6)
		m.Index, m.LogTerm = c.index, c.term
		for vote := range 5 {
			n := changedNode(follower(), func(n *impl.Node) { n.Vote = vote })
			if c.level && (vote == 0 || vote == 1) {
				wantReceive(t, n, m, given, said(true))
			} else {
				wantReceive(t, n, m, stays, said(false))
			}
		}
		// Whoever stands or leads has most often its own vote; without it the Role does not count.
		wantReceive(t, stander(), m, stays, said(false))
		n := changedNode(leader(), func(n *impl.Node) { n.Term = 6 })
		wantReceive(t, n, m, stays, said(false))
		if c.level {
			n.Vote = 0
			wantReceive(t, n, m, given, said(true))
			wantReceive(t, changedNode(stander(), func(n *impl.Node) { n.Vote = 0 }), m, given, said(true))
			wantReceive(t, changedNode(stander(), func(n *impl.Node) { n.Vote = 1 }), m, given, said(true))
		}
	}
	// Who has no entries is asked by where its log begins.
	n := impl.Node{Id: 2, Term: 6, Conf: []int{1, 2}, Limit: 3, Clock: 2, Log: logOf(10, 4), Commit: 10}
	for _, c := range []struct {
		index, term int
		level       bool
	}{{10, 4, true}, {11, 4, true}, {9, 4, false}, {0, 5, true}, {99, 3, false}} {
		m := plainAsk(impl.AskVote, 6)
		m.Index, m.LogTerm = c.index, c.term
		if c.level {
			wantReceive(t, n, m, given, said(true))
		} else {
			wantReceive(t, n, m, stays, said(false))
		}
	}
	wantReceive(t, impl.Node{Id: 2, Conf: []int{2}, Limit: 1}, plainAsk(impl.AskVote, 0), given, impl.Message{Kind: impl.TellVote, From: 2, To: 1, Ok: true})
	// One who is in no conf of the node asks as any other does.
	m := impl.Message{Kind: impl.AskVote, From: 4, To: 2, Term: 6, Index: 15, LogTerm: 5}
	wantReceive(t, follower(), m, func(n *impl.Node) { n.Vote, n.Clock = 4, 0 }, impl.Message{Kind: impl.TellVote, From: 2, To: 4, Term: 6, Ok: true})
}

func TestAskVoteOfOtherTerms(t *testing.T) {
	for _, base := range []impl.Node{follower(), stander(), leader(), changedNode(follower(), func(n *impl.Node) { n.Vote = 1 })} {
		for _, term := range []int{0, base.Term - 1} {
			m := plainAsk(impl.AskVote, term)
			m.Index, m.LogTerm, m.Commit = 1000000, impl.MaxTerm, 99
			wantReceive(t, base, m, stays, impl.Message{Kind: impl.TellVote, From: 2, To: 1, Term: base.Term})
			wantReceive(t, changedNode(base, func(n *impl.Node) { n.Vote = 0 }), m, stays, impl.Message{Kind: impl.TellVote, From: 2, To: 1, Term: base.Term})
		}
		for _, term := range []int{base.Term + 1, impl.MaxTerm} {
			m := plainAsk(impl.AskVote, term)
			m.Index, m.LogTerm = 15, 5
			wantReceive(t, base, m, both(heardOfTerm(term), func(n *impl.Node) { n.Vote, n.Clock = 1, 0 }), impl.Message{Kind: impl.TellVote, From: 2, To: 1, Term: term, Ok: true})
			m.Index = 14
			wantReceive(t, base, m, heardOfTerm(term), impl.Message{Kind: impl.TellVote, From: 2, To: 1, Term: term})
		}
	}
}

func TestTellVote(t *testing.T) {
	told := func(from, term int, ok bool) impl.Message {
		return impl.Message{Kind: impl.TellVote, From: from, To: 2, Term: term, Ok: ok}
	}
	// Two of four are not most, three are.
	few := changedNode(stander(), func(n *impl.Node) { n.Votes = []int{2} })
	wantReceive(t, few, told(4, 6, true), func(n *impl.Node) { n.Votes = []int{2, 4} })
	wantReceive(t, few, told(1, 6, true), func(n *impl.Node) { n.Votes = []int{1, 2} })
	wantReceive(t, changedNode(stander(), func(n *impl.Node) { n.Votes = nil }), told(3, 6, true), func(n *impl.Node) { n.Votes = []int{3} })
	wantReceive(t, changedNode(stander(), func(n *impl.Node) { n.Votes = []int{1} }), told(4, 6, true), func(n *impl.Node) { n.Votes = []int{1, 4} })
	// One that comes twice counts once.
	wantReceive(t, stander(), told(4, 6, true), stays)
	wantReceive(t, few, told(1, 6, false), stays)
	for _, term := range []int{0, 5} {
		wantReceive(t, stander(), told(1, term, true), stays)
		wantReceive(t, stander(), told(1, term, false), stays)
	}
	for _, ok := range []bool{true, false} {
		wantReceive(t, stander(), told(1, 7, ok), heardOfTerm(7))
		wantReceive(t, leader(), told(1, 7, ok), heardOfTerm(7))
		wantReceive(t, follower(), told(1, impl.MaxTerm, ok), heardOfTerm(impl.MaxTerm))
		wantReceive(t, follower(), told(1, 6, ok), stays)
		wantReceive(t, leader(), told(1, 5, ok), stays)
		wantReceive(t, leader(), told(1, 4, ok), stays)
	}
	// Votes of those who are not in the conf that holds are none of it.
	n := changedNode(stander(), func(n *impl.Node) { n.Conf = []int{1, 2, 3}; n.Votes = []int{2} })
	wantReceive(t, n, told(4, 6, true), func(n *impl.Node) { n.Votes = []int{2, 4} })
	n = changedNode(stander(), func(n *impl.Node) { n.Log.Entries[4] = confEntry(5, 1, 2, 3) })
	wantReceive(t, n, told(4, 6, true), stays)
}

func TestVotesThatAreMost(t *testing.T) {
	led := func(id int) impl.Message {
		return impl.Message{Kind: impl.AskAppend, From: 2, To: id, Term: 6, Index: 15, LogTerm: 5, Commit: 12, Entries: []impl.Entry{none(6)}}
	}
	leads := func(ids ...int) func(n *impl.Node) {
		return func(n *impl.Node) {
			n.Role, n.Lead, n.Votes = impl.RoleLead, 2, nil
			n.Log.Entries = append(n.Log.Entries, none(6))
			for _, id := range ids {
				n.Peers = append(n.Peers, peer(id, 16, 0, 0))
			}
		}
	}
	for _, from := range []int{1, 3} {
		m := impl.Message{Kind: impl.TellVote, From: from, To: 2, Term: 6, Ok: true}
		wantReceive(t, stander(), m, leads(1, 3, 4), led(1), led(3), led(4))
		n := changedNode(stander(), func(n *impl.Node) { n.Conf, n.Votes = []int{1, 2, 3}, []int{2} })
		wantReceive(t, n, m, leads(1, 3), led(1), led(3))
		n = changedNode(stander(), func(n *impl.Node) { n.Votes = []int{2}; n.Log.Entries[4] = confEntry(5, min(2, from), max(2, from)) })
		wantReceive(t, n, m, leads(from), led(from))
		// They were most ahead of it: what comes makes it lead all the same.
		n = changedNode(stander(), func(n *impl.Node) { n.Votes = []int{1, 2, 3, 4} })
		wantReceive(t, n, m, leads(1, 3, 4), led(1), led(3), led(4))
	}
	wantReceive(t, changedNode(stander(), func(n *impl.Node) { n.Conf = []int{2} }), impl.Message{Kind: impl.TellVote, From: 3, To: 2, Term: 6, Ok: true}, both(leads(), func(n *impl.Node) { n.Commit = 16 }))
}

// Where there is no room behind the log, who leads goes without an entry of its term.
func TestLeadWithAFullLog(t *testing.T) {
	m := impl.Message{Kind: impl.TellVote, From: 3, To: 2, Term: 6, Ok: true}
	leads := func(n *impl.Node) {
		n.Role, n.Lead, n.Votes = impl.RoleLead, 2, nil
		for _, id := range []int{1, 3, 4} {
			n.Peers = append(n.Peers, peer(id, lastByHand(n.Log)+1, 0, 0))
		}
	}
	for _, c := range []struct {
		log  impl.Log
		room bool
	}{
		{logOf(10, 2, slices.Repeat([]impl.Entry{none(5)}, 60)...), false}, {logOf(10, 2, slices.Repeat([]impl.Entry{none(5)}, 59)...), true},
		{logOf(999999, 2, none(5)), false}, {logOf(999998, 2, none(5)), true}, {logOf(1000000, 2), false}, {logOf(999999, 5), true}, {logOf(999940, 5, slices.Repeat([]impl.Entry{none(5)}, 60)...), false},
	} {
		n := changedNode(stander(), func(n *impl.Node) { n.Log, n.Commit = c.log, c.log.Start })
		last, term := lastByHand(c.log), termByHand(c.log, lastByHand(c.log))
		var told []impl.Message
		var entries []impl.Entry
		change := leads
		if c.room {
			entries = []impl.Entry{none(6)}
			change = both(leads, func(n *impl.Node) { n.Log.Entries = append(n.Log.Entries, none(6)) })
		}
		for _, id := range []int{1, 3, 4} {
			told = append(told, impl.Message{Kind: impl.AskAppend, From: 2, To: id, Term: 6, Index: last, LogTerm: term, Commit: c.log.Start, Entries: entries})
		}
		wantReceive(t, n, m, change, told...)
	}
}

// One who is not in its conf may be given most votes: it leads for as long only as that conf is not agreed on.
func TestLeadOfOneOutside(t *testing.T) {
	m := impl.Message{Kind: impl.TellVote, From: 3, To: 2, Term: 6, Ok: true}
	outside := changedNode(stander(), func(n *impl.Node) { n.Conf, n.Votes = []int{1, 3}, nil })
	wantReceive(t, outside, m, func(n *impl.Node) { n.Votes = []int{3} })
	outside.Votes = []int{1}
	wantReceive(t, outside, m, func(n *impl.Node) {
		n.Role, n.Lead, n.Votes = impl.RoleFollow, 0, nil
		n.Log.Entries = append(n.Log.Entries, none(6))
	})
	// The last EntryConf is not behind Commit, or it is.
	for commit := 10; commit <= 15; commit++ {
		n := changedNode(outside, func(n *impl.Node) { n.Log.Entries[2] = confEntry(4, 1, 3); n.Commit = commit })
		if commit >= 13 {
			wantReceive(t, n, m, func(n *impl.Node) {
				n.Role, n.Lead, n.Votes = impl.RoleFollow, 0, nil
				n.Log.Entries = append(n.Log.Entries, none(6))
			})
			continue
		}
		led := impl.Message{Kind: impl.AskAppend, From: 2, To: 1, Term: 6, Index: 15, LogTerm: 5, Commit: commit, Entries: []impl.Entry{none(6)}}
		other := led
		other.To = 3
		wantReceive(t, n, m, func(n *impl.Node) {
			n.Role, n.Lead, n.Votes, n.Peers = impl.RoleLead, 2, nil, []impl.Peer{peer(1, 16, 0, 0), peer(3, 16, 0, 0)}
			n.Log.Entries = append(n.Log.Entries, none(6))
		}, led, other)
	}
}

// appending is an AskAppend of the node 1 to the node 2.
func appending(term, index, logTerm, commit int, entries ...impl.Entry) impl.Message {
	return impl.Message{Kind: impl.AskAppend, From: 1, To: 2, Term: term, Index: index, LogTerm: logTerm, Commit: commit, Entries: entries}
}

func appended(term, index int, ok bool) impl.Message {
	return impl.Message{Kind: impl.TellAppend, From: 2, To: 1, Term: term, Index: index, Ok: ok}
}

func TestAskAppendOfATermBelow(t *testing.T) {
	for _, n := range []impl.Node{follower(), stander(), leader()} {
		for _, term := range []int{n.Term - 1, 2} {
			wantReceive(t, n, appending(term, 15, 2, 15), stays, appended(n.Term, 0, false))
			wantReceive(t, n, appending(term, 10, 2, 15, none(2), none(term)), stays, appended(n.Term, 0, false))
			wantReceive(t, n, appending(term, 15, 5, 15), stays, appended(n.Term, 0, false))
		}
	}
}

// All follow who leads in their term, or in one above it.
func TestAskAppendOfEachRole(t *testing.T) {
	for _, n := range []impl.Node{follower(), stander(), changedNode(leader(), func(n *impl.Node) { n.Term = 6 }), changedNode(follower(), func(n *impl.Node) { n.Lead = 3 })} {
		last := lastByHand(n.Log)
		wantReceive(t, n, appending(6, last, 5, 0), heeded, appended(6, last, true))
		wantReceive(t, n, appending(6, last, 4, 0), heeded, appended(6, last-1, false))
		for _, term := range []int{7, impl.MaxTerm} {
			wantReceive(t, n, appending(term, last, 5, 0), both(heardOfTerm(term), heeded), appended(term, last, true))
			wantReceive(t, n, appending(term, last, 4, 0), both(heardOfTerm(term), heeded), appended(term, last-1, false))
		}
	}
}

// An index or a term that the log has not.
func TestAskAppendOfAnotherLog(t *testing.T) {
	for _, c := range [][3]int{
		{15, 4, 14}, {15, 6, 14}, {14, 3, 13}, {14, 5, 13}, {13, 5, 12}, {12, 2, 11}, {11, 1, 10}, {11, 3, 10}, {10, 1, 9}, {10, 3, 9}, {10, 0, 9},
		{16, 5, 15}, {16, 0, 15}, {17, 5, 15}, {100, 6, 15}, {1000000, 5, 15}, {1000000, 0, 15},
	} {
		for _, entries := range [][]impl.Entry{nil, {none(6)}, {none(6), command(6, "x")}} {
			wantReceive(t, follower(), appending(6, c[0], c[1], 15, entries...), heeded, appended(6, c[2], false))
		}
	}
	bare := impl.Node{Id: 2, Conf: []int{1, 2}, Limit: 1}
	for _, c := range [][3]int{{0, 1, 0}, {1, 0, 0}, {1, 1, 0}, {2, 0, 0}, {1000000, 0, 0}} {
		wantReceive(t, bare, appending(1, c[0], c[1], 7), func(n *impl.Node) { n.Term, n.Lead = 1, 1 }, appended(1, c[2], false))
	}
	wantReceive(t, bare, appending(0, 0, 0, 7), func(n *impl.Node) { n.Lead = 1 }, appended(0, 0, true))
	far := changedNode(bare, func(n *impl.Node) { n.Log, n.Commit = logOf(1000000, 0), 1000000 })
	wantReceive(t, far, appending(1, 1000000, 1, 7), func(n *impl.Node) { n.Term, n.Lead = 1, 1 }, appended(1, 999999, false))
	wantReceive(t, far, appending(1, 1000000, 0, 7), func(n *impl.Node) { n.Term, n.Lead = 1, 1 }, appended(1, 1000000, true))
}

func TestAskAppendOfCommits(t *testing.T) {
	for _, c := range []struct{ index, term, commit, want int }{
		{15, 5, 0, 12}, {15, 5, 11, 12}, {15, 5, 12, 12}, {15, 5, 13, 13}, {15, 5, 14, 14}, {15, 5, 15, 15}, {15, 5, 16, 15}, {15, 5, 1000000, 15},
		// Only as far as is told of: what stands behind may be another leader's.
		{13, 4, 15, 13}, {13, 4, 13, 13}, {13, 4, 12, 12}, {12, 3, 1000000, 12}, {11, 2, 1000000, 12}, {10, 2, 15, 12},
	} {
		wantReceive(t, follower(), appending(6, c.index, c.term, c.commit), both(heeded, func(n *impl.Node) { n.Commit = c.want }), appended(6, c.index, true))
	}
	more := []impl.Entry{command(6, "d"), none(6)}
	for _, c := range [][2]int{{12, 12}, {15, 15}, {16, 16}, {17, 17}, {18, 17}, {1000000, 17}} {
		wantReceive(t, follower(), appending(6, 15, 5, c[0], more...), both(heeded, func(n *impl.Node) {
			n.Commit = c[1]
			n.Log.Entries = append(n.Log.Entries, more...)
		}), appended(6, 17, true))
	}
	// Of one that is refused Commit stays.
	wantReceive(t, follower(), appending(6, 15, 4, 15), heeded, appended(6, 14, false))
}

// Of an Index below Start, what is dropped already is passed over.
func TestAskAppendBelowStart(t *testing.T) {
	l := coreLog().Entries
	for _, c := range []struct {
		index, term int
		entries     []impl.Entry
		told        int
	}{
		{9, 0, nil, 10}, {9, 6, nil, 10}, {0, 0, nil, 10}, {0, 6, nil, 10}, {7, 1, nil, 10},
		// Fewer than it is below, and as many.
		{5, 1, []impl.Entry{none(1), none(2), none(6)}, 10}, {6, 0, []impl.Entry{none(0), none(1), none(2)}, 10},
		{9, 1, []impl.Entry{none(6)}, 10}, {8, 1, []impl.Entry{command(3, "x"), none(6)}, 10}, {6, 0, []impl.Entry{none(0), none(1), none(2), none(6)}, 10},
		// More, which the log has.
		{9, 1, append([]impl.Entry{none(1)}, l[:1]...), 11}, {9, 2, append([]impl.Entry{none(2)}, l[:3]...), 13}, {8, 2, append([]impl.Entry{none(2), none(2)}, l[:2]...), 12}, {7, 0, []impl.Entry{none(1), none(1), none(2), l[0]}, 11},
	} {
		for _, commit := range []int{0, 12} {
			wantReceive(t, follower(), appending(6, c.index, c.term, commit, c.entries...), heeded, appended(6, c.told, true))
		}
	}
	wantReceive(t, follower(), appending(6, 9, 1, 15, append([]impl.Entry{none(1)}, l[:3]...)...), both(heeded, func(n *impl.Node) { n.Commit = 13 }), appended(6, 13, true))
	wantReceive(t, follower(), appending(6, 9, 1, 15, none(1)), heeded, appended(6, 10, true))
	// More, which take the place of what is there.
	start := changedNode(follower(), func(n *impl.Node) { n.Commit = 10 })
	wantReceive(t, start, appending(6, 8, 1, 12, none(1), none(2), none(4), none(6)), both(heeded, func(n *impl.Node) {
		n.Log.Entries, n.Commit = []impl.Entry{none(4), none(6)}, 12
	}), appended(6, 12, true))
	wantReceive(t, follower(), appending(6, 8, 1, 12, none(1), none(2), none(4), none(6)), heeded, appended(6, 15, false))
	// Behind StartTerm no term of theirs may fall.
	wantReceive(t, start, appending(6, 9, 0, 12, none(1), none(1)), heeded, appended(6, 15, false))
	wantReceive(t, start, appending(6, 9, 0, 12, none(0), none(2), none(2)), both(heeded, func(n *impl.Node) {
		n.Log.Entries, n.Commit = []impl.Entry{none(2), none(2)}, 12
	}), appended(6, 12, true))
}

func TestAskAppendOfEntries(t *testing.T) {
	l := coreLog().Entries
	// They are there already: what stands behind them stays.
	for _, c := range []struct {
		index, term int
		entries     []impl.Entry
	}{
		{10, 2, l[:1]}, {10, 2, l[:4]}, {11, 2, l[1:5]}, {12, 3, l[2:3]}, {12, 3, l[2:]}, {14, 4, l[4:]},
		// An entry of the same term is taken as the same.
		{13, 4, []impl.Entry{command(4, "other")}}, {14, 4, []impl.Entry{none(5)}}, {10, 2, []impl.Entry{confEntry(2, 1), none(3), none(4)}},
	} {
		wantReceive(t, follower(), appending(6, c.index, c.term, 0, c.entries...), heeded, appended(6, c.index+len(c.entries), true))
	}
	for _, c := range []struct {
		index, term int
		entries     []impl.Entry
		ahead, from int
	}{
		// They go on.
		{15, 5, []impl.Entry{none(5)}, 5, 0}, {15, 5, []impl.Entry{command(5, "d"), command(6, "e"), confEntry(6, 1, 2), none(6)}, 5, 0}, {14, 4, []impl.Entry{l[4], none(6)}, 5, 1}, {12, 3, []impl.Entry{l[2], l[3], l[4], none(6)}, 5, 3},
		// They take the place of others.
		{14, 4, []impl.Entry{none(6)}, 4, 0}, {14, 4, []impl.Entry{none(4)}, 4, 0}, {14, 4, []impl.Entry{none(6), command(6, "z")}, 4, 0}, {13, 4, []impl.Entry{command(5, "z")}, 3, 0}, {13, 4, []impl.Entry{none(4), none(4)}, 4, 1}, {12, 3, []impl.Entry{none(6)}, 2, 0}, {12, 3, []impl.Entry{none(3), none(4), none(5), none(6)}, 2, 0}, {11, 2, []impl.Entry{none(3), none(5), none(5), none(5)}, 2, 1}, {10, 2, []impl.Entry{none(2), none(3), none(4), none(6)}, 3, 3},
	} {
		wantReceive(t, follower(), appending(6, c.index, c.term, 0, c.entries...), both(heeded, func(n *impl.Node) {
			n.Log.Entries = append(n.Log.Entries[:c.ahead:c.ahead], c.entries[c.from:]...)
		}), appended(6, c.index+len(c.entries), true))
	}
	// A conf is among those whose place is taken, or that go on.
	n := changedNode(follower(), func(n *impl.Node) { n.Log.Entries[3] = confEntry(4, 2, 4) })
	wantReceive(t, n, appending(6, 13, 4, 0, none(6)), both(heeded, func(n *impl.Node) {
		n.Log.Entries = append(n.Log.Entries[:3:3], none(6))
	}), appended(6, 14, true))
	after, _, _ := holdReceive(t, n, appending(6, 13, 4, 0, none(6)))
	wantConfOf(t, after, 1, 2, 3)
	after, _, _ = holdReceive(t, n, appending(6, 15, 5, 0, confEntry(6, 2)))
	wantConfOf(t, after, 2)
}

// What would make entries up to Commit go, or no right log, changes nothing but whom the node follows.
func TestAskAppendRefused(t *testing.T) {
	for _, c := range []struct {
		commit, index, term int
		entries             []impl.Entry
		right               bool
	}{
		{12, 11, 2, []impl.Entry{none(2)}, false}, {12, 11, 2, []impl.Entry{none(4), none(4)}, false}, {12, 10, 2, []impl.Entry{none(3)}, false}, {12, 10, 2, []impl.Entry{none(2), none(2)}, false},
		{13, 12, 3, []impl.Entry{none(6)}, false}, {12, 12, 3, []impl.Entry{none(6)}, true}, {14, 12, 3, []impl.Entry{none(4), none(6)}, false}, {13, 12, 3, []impl.Entry{none(4), none(6)}, true},
		{15, 14, 4, []impl.Entry{none(6)}, false}, {14, 14, 4, []impl.Entry{none(6)}, true}, {15, 15, 5, []impl.Entry{none(6)}, true}, {15, 13, 4, []impl.Entry{none(4), none(5), none(6)}, true}, {11, 10, 2, []impl.Entry{none(6)}, false}, {10, 10, 2, []impl.Entry{none(6)}, true},
	} {
		n := changedNode(follower(), func(n *impl.Node) { n.Commit = c.commit })
		if !c.right {
			wantReceive(t, n, appending(6, c.index, c.term, 15, c.entries...), heeded, appended(6, 15, false))
			wantReceive(t, n, appending(7, c.index, c.term, 15, c.entries...), both(heardOfTerm(7), heeded), appended(7, 15, false))
			continue
		}
		if _, told, _ := holdReceive(t, n, appending(6, c.index, c.term, 0, c.entries...)); !told[0].Ok {
			t.Errorf("%s is refused by %s", shownMessages(told), shownNode(n))
		}
	}
}

func TestAskAppendIntoAFullLog(t *testing.T) {
	full := changedNode(follower(), func(n *impl.Node) {
		n.Log = logOf(10, 2, slices.Repeat([]impl.Entry{none(3)}, 60)...)
	})
	nearly := changedNode(full, func(n *impl.Node) { n.Log.Entries = n.Log.Entries[:58] })
	end := changedNode(follower(), func(n *impl.Node) { n.Log, n.Commit = logOf(999996, 3, none(3), none(3)), 999997 })
	for _, c := range []struct {
		n       impl.Node
		index   int
		entries []impl.Entry
		right   bool
	}{
		{full, 70, []impl.Entry{none(3)}, false}, {full, 69, []impl.Entry{none(3), none(4)}, false}, {full, 69, []impl.Entry{none(4), none(4)}, false}, {full, 69, []impl.Entry{none(4)}, true}, {full, 67, []impl.Entry{none(3), none(4), none(4)}, true}, {full, 67, []impl.Entry{none(3), none(4), none(4), none(4)}, false}, {full, 70, nil, true},
		{nearly, 68, []impl.Entry{none(3)}, true}, {nearly, 68, []impl.Entry{none(3), none(3)}, true}, {nearly, 68, []impl.Entry{none(3), none(3), none(3)}, false}, {nearly, 68, []impl.Entry{none(3), none(3), none(3), none(3)}, false}, {nearly, 66, []impl.Entry{none(3), none(3), none(3), none(3)}, true},
		{end, 999998, []impl.Entry{none(3), none(3)}, true}, {end, 999998, []impl.Entry{none(3), none(3), none(3)}, false}, {end, 999997, []impl.Entry{none(4), none(4), none(4)}, true}, {end, 999997, []impl.Entry{none(3), none(4), none(4), none(4)}, false},
	} {
		_, told, _ := holdReceive(t, c.n, appending(6, c.index, 3, 1000000, c.entries...))
		want := appended(6, c.index+len(c.entries), true)
		if !c.right {
			wantReceive(t, c.n, appending(6, c.index, 3, 1000000, c.entries...), heeded, appended(6, lastByHand(c.n.Log), false))
			want = appended(6, lastByHand(c.n.Log), false)
		}
		if !sameMessages(told, []impl.Message{want}) {
			t.Errorf("of the index %d and %v is told %s", c.index, c.entries, shownMessages(told))
		}
	}
	// At the end of all indexes.
	last := changedNode(end, func(n *impl.Node) { n.Log.Start = 999998; n.Commit = 1000000 })
	wantReceive(t, last, appending(6, 1000000, 3, 0, none(3)), heeded, appended(6, 1000000, false))
	wantReceive(t, last, appending(6, 1000000, 3, 0), heeded, appended(6, 1000000, true))
}

// replied is of the node 1, or another one, to the node 2.
func replied(kind, from, term, index int, ok bool) impl.Message {
	return impl.Message{Kind: kind, From: from, To: 2, Term: term, Index: index, Ok: ok}
}

// sent is what leader() sends of its own log.
func sent(to, index, commit, count int) impl.Message {
	l := leader().Log
	return impl.Message{Kind: impl.AskAppend, From: 2, To: to, Term: 5, Index: index, LogTerm: termByHand(l, index), Commit: commit, Entries: l.Entries[index-10 : index-10+count]}
}

func sentSnap(to, from int) impl.Message {
	return impl.Message{Kind: impl.AskInstall, From: 2, To: to, Term: 5, Index: 10, LogTerm: 2, Commit: from, Conf: []int{1, 2, 3}}
}

// put is one peer of leader() in the place of that of the same Id, and another Commit.
func put(commit int, p impl.Peer) func(n *impl.Node) {
	return func(n *impl.Node) {
		n.Commit = commit
		n.Peers[p.Id/2] = p
	}
}

func TestTellAppendWithOk(t *testing.T) {
	for _, c := range []struct {
		from, index int
		change      func(n *impl.Node)
		told        []impl.Message
	}{
		{1, 13, put(13, peer(1, 14, 13, 40)), []impl.Message{sent(1, 13, 13, 2)}},
		{1, 14, put(14, peer(1, 15, 14, 40)), []impl.Message{sent(1, 14, 14, 1)}},
		{1, 15, put(15, peer(1, 16, 15, 40)), nil},
		{1, 16, put(15, peer(1, 16, 15, 40)), nil},
		{1, 1000000, put(15, peer(1, 16, 15, 40)), nil},
		{1, 12, put(12, peer(1, 13, 12, 40)), []impl.Message{sent(1, 12, 12, 3)}},
		{1, 11, put(12, peer(1, 12, 11, 40)), []impl.Message{sent(1, 11, 12, 4)}},
		{1, 10, put(12, peer(1, 12, 11, 40)), []impl.Message{sent(1, 11, 12, 4)}},
		{1, 0, put(12, peer(1, 12, 11, 40)), []impl.Message{sent(1, 11, 12, 4)}},
		{3, 0, put(12, peer(3, 1, 0, 60)), []impl.Message{sentSnap(3, 60)}},
		{3, 9, put(12, peer(3, 10, 9, 60)), []impl.Message{sentSnap(3, 60)}},
		{3, 10, put(12, peer(3, 11, 10, 60)), []impl.Message{sent(3, 10, 12, 4)}},
		{3, 11, put(12, peer(3, 12, 11, 60)), []impl.Message{sent(3, 11, 12, 4)}},
		{3, 14, put(14, peer(3, 15, 14, 60)), []impl.Message{sent(3, 14, 14, 1)}},
		{3, 15, put(15, peer(3, 16, 15, 60)), nil},
		{3, 1000000, put(15, peer(3, 16, 15, 60)), nil},
	} {
		wantReceive(t, leader(), replied(impl.TellAppend, c.from, 5, c.index, true), c.change, c.told...)
	}
}

func TestTellAppendWithoutOk(t *testing.T) {
	for _, c := range []struct {
		from, index int
		p           impl.Peer
		told        impl.Message
	}{
		{1, 12, peer(1, 13, 11, 40), sent(1, 12, 12, 3)},
		{1, 11, peer(1, 12, 11, 40), sent(1, 11, 12, 4)},
		{1, 10, peer(1, 12, 11, 40), sent(1, 11, 12, 4)},
		{1, 0, peer(1, 12, 11, 40), sent(1, 11, 12, 4)},
		{1, 13, peer(1, 14, 11, 40), sent(1, 13, 12, 2)},
		{1, 14, peer(1, 14, 11, 40), sent(1, 13, 12, 2)},
		{1, 1000000, peer(1, 14, 11, 40), sent(1, 13, 12, 2)},
		{3, 7, peer(3, 8, 0, 60), sentSnap(3, 60)},
		{3, 6, peer(3, 7, 0, 60), sentSnap(3, 60)},
		{3, 0, peer(3, 1, 0, 60), sentSnap(3, 60)},
		{3, 1000000, peer(3, 8, 0, 60), sentSnap(3, 60)},
	} {
		wantReceive(t, leader(), replied(impl.TellAppend, c.from, 5, c.index, false), put(12, c.p), c.told)
	}
	// A peer that was level goes back to where its log ends.
	n := changedNode(leader(), func(n *impl.Node) { n.Peers[1] = peer(3, 16, 0, 60) })
	wantReceive(t, n, replied(impl.TellAppend, 3, 5, 15, false), stays, sent(3, 15, 12, 0))
	wantReceive(t, n, replied(impl.TellAppend, 3, 5, 14, false), put(12, peer(3, 15, 0, 60)), sent(3, 14, 12, 1))
	wantReceive(t, n, replied(impl.TellAppend, 3, 5, 10, false), put(12, peer(3, 11, 0, 60)), sent(3, 10, 12, 4))
	wantReceive(t, n, replied(impl.TellAppend, 3, 5, 9, false), put(12, peer(3, 10, 0, 60)), sentSnap(3, 60))
}

// Only a peer of a leader counts, with a reply of the leader's term.
func TestRepliesThatDoNotCount(t *testing.T) {
	for _, kind := range []int{impl.TellAppend, impl.TellInstall} {
		for _, ok := range []bool{true, false} {
			for _, index := range []int{0, 10, 13, 15, 1000000} {
				wantReceive(t, leader(), replied(kind, 4, 5, index, ok), stays)
				wantReceive(t, lone(), impl.Message{Kind: kind, From: 4, To: 3, Term: 4, Index: index, Ok: ok}, stays)
				for from := 1; from <= 4; from++ {
					if from == 2 {
						continue
					}
					wantReceive(t, leader(), replied(kind, from, 4, index, ok), stays)
					wantReceive(t, leader(), replied(kind, from, 0, index, ok), stays)
					wantReceive(t, leader(), replied(kind, from, 6, index, ok), heardOfTerm(6))
					wantReceive(t, leader(), replied(kind, from, impl.MaxTerm, index, ok), heardOfTerm(impl.MaxTerm))
					for _, n := range []impl.Node{follower(), stander()} {
						wantReceive(t, n, replied(kind, from, 6, index, ok), stays)
						wantReceive(t, n, replied(kind, from, 5, index, ok), stays)
						wantReceive(t, n, replied(kind, from, 7, index, ok), heardOfTerm(7))
					}
				}
			}
		}
	}
}

// Commit goes on by entries of the leader's own term alone, and by most of the conf that holds.
func TestCommitGoesOn(t *testing.T) {
	older := changedNode(leader(), func(n *impl.Node) { n.Term = 6 })
	for index := 10; index <= 15; index++ {
		after, _, _ := holdReceive(t, older, replied(impl.TellAppend, 1, 6, index, true))
		if after.Commit != 12 {
			t.Errorf("the Commit of a leader of the term 6 is %d, by the index %d of a term gone by", after.Commit, index)
		}
	}
	own := changedNode(older, func(n *impl.Node) { n.Log.Entries = append(n.Log.Entries, none(6)) })
	for index := 10; index <= 16; index++ {
		after, _, _ := holdReceive(t, own, replied(impl.TellAppend, 1, 6, index, true))
		if after.Commit != 12 && index < 16 || after.Commit != 16 && index == 16 {
			t.Errorf("Commit is %d by the index %d", after.Commit, index)
		}
	}
	// Two of four are not most of them.
	four := changedNode(leader(), func(n *impl.Node) {
		n.Conf = []int{1, 2, 3, 4}
		n.Peers = append(n.Peers, peer(4, 15, 14, 0))
	})
	for _, c := range [][3]int{{1, 13, 13}, {1, 14, 14}, {1, 15, 14}, {3, 13, 13}, {3, 15, 14}, {4, 15, 12}} {
		after, _, _ := holdReceive(t, four, replied(impl.TellAppend, c[0], 5, c[1], true))
		if after.Commit != c[2] {
			t.Errorf("Commit is %d by the index %d of the node %d of four", after.Commit, c[1], c[0])
		}
	}
	// A leader that is not in the conf is not one of those who count.
	for _, c := range [][3]int{{1, 15, 12}, {3, 14, 14}, {3, 15, 14}, {3, 13, 13}, {3, 12, 12}} {
		n := changedNode(leader(), func(n *impl.Node) {
			n.Log.Entries[4] = confEntry(5, 1, 3)
			n.Peers = []impl.Peer{peer(1, 15, 14, 0), peer(3, 13, 12, 0)}
		})
		after, _, _ := holdReceive(t, n, replied(impl.TellAppend, c[0], 5, c[1], true))
		if after.Commit != c[2] || after.Role != impl.RoleLead {
			t.Errorf("Commit is %d, and the Role %d, by the index %d of the node %d", after.Commit, after.Role, c[1], c[0])
		}
	}
}

// A leader that is not in the conf goes when that is agreed on, and sends no more.
func TestLeaderThatGoes(t *testing.T) {
	n := changedNode(leader(), func(n *impl.Node) {
		n.Log.Entries[3] = confEntry(5, 1, 3)
		n.Peers = []impl.Peer{peer(1, 15, 14, 0), peer(3, 13, 12, 0)}
	})
	gone := func(n *impl.Node) { n.Role, n.Lead, n.Peers, n.Commit = impl.RoleFollow, 0, nil, 14 }
	for _, kind := range []int{impl.TellAppend, impl.TellInstall} {
		// There is an entry behind the conf, which the peer has not.
		wantReceive(t, n, replied(kind, 3, 5, 14, true), gone)
		wantReceive(t, n, replied(kind, 3, 5, 15, true), gone)
		if after, told, _ := holdReceive(t, n, replied(kind, 3, 5, 13, true)); after.Role != impl.RoleLead || after.Commit != 13 || len(told) != 1 {
			t.Errorf("ahead of the conf it is %s, and tells %s", shownNode(after), shownMessages(told))
		}
		if after, told, _ := holdReceive(t, n, replied(kind, 3, 5, 14, false)); after.Role != impl.RoleLead || after.Commit != 12 || len(told) != 1 {
			t.Errorf("without Ok it is %s, and tells %s", shownNode(after), shownMessages(told))
		}
	}
	// The conf is agreed on already, or there is no EntryConf: whatever reply with Ok comes, it goes.
	n.Commit = 14
	wantReceive(t, n, replied(impl.TellAppend, 3, 5, 0, true), gone)
	wantTick(t, n, 3, stays, impl.Message{Kind: impl.AskAppend, From: 2, To: 1, Term: 5, Index: 14, LogTerm: 5, Commit: 14, Entries: n.Log.Entries[4:]}, impl.Message{Kind: impl.AskAppend, From: 2, To: 3, Term: 5, Index: 12, LogTerm: 3, Commit: 14, Entries: n.Log.Entries[2:]})
	outside := changedNode(n, func(n *impl.Node) {
		n.Conf, n.Log, n.Commit = []int{1, 3}, leader().Log, 12
	})
	wantReceive(t, outside, replied(impl.TellAppend, 3, 5, 0, true), func(n *impl.Node) { gone(n); n.Commit = 12 })
	wantReceive(t, outside, replied(impl.TellAppend, 3, 5, 13, true), func(n *impl.Node) { gone(n); n.Commit = 13 })
}

func TestTellInstallWithOk(t *testing.T) {
	for _, c := range []struct {
		from, index int
		change      func(n *impl.Node)
		told        []impl.Message
	}{
		{3, 10, put(12, peer(3, 11, 10, 0)), []impl.Message{sent(3, 10, 12, 4)}},
		{3, 11, put(12, peer(3, 12, 11, 0)), []impl.Message{sent(3, 11, 12, 4)}},
		{3, 13, put(13, peer(3, 14, 13, 0)), []impl.Message{sent(3, 13, 13, 2)}},
		{3, 15, put(15, peer(3, 16, 15, 0)), nil},
		{3, 16, put(15, peer(3, 16, 15, 0)), nil},
		{3, 1000000, put(15, peer(3, 16, 15, 0)), nil},
		// It tells of less than where the log begins: then it is sent from its beginning on.
		{3, 9, put(12, peer(3, 10, 9, 0)), []impl.Message{sentSnap(3, 0)}},
		{3, 0, put(12, peer(3, 1, 0, 0)), []impl.Message{sentSnap(3, 0)}},
		{1, 0, put(12, peer(1, 12, 11, 0)), []impl.Message{sent(1, 11, 12, 4)}},
		{1, 10, put(12, peer(1, 12, 11, 0)), []impl.Message{sent(1, 11, 12, 4)}},
		{1, 15, put(15, peer(1, 16, 15, 0)), nil},
	} {
		for _, commit := range []int{0, 60, 20001, 1000000} {
			m := replied(impl.TellInstall, c.from, 5, c.index, true)
			m.Commit = commit
			wantReceive(t, leader(), m, c.change, c.told...)
		}
	}
}

func TestTellInstallWithoutOk(t *testing.T) {
	for _, index := range []int{0, 9, 10, 11, 15, 16, 1000000} {
		for _, commit := range []int{0, 1, 60, 120, 19999, 20000, 20001, 20002, 1000000} {
			m := replied(impl.TellInstall, 3, 5, index, false)
			m.Commit = commit
			// More than a Sent may be is told of no snapshot there is.
			now := 0
			if index == 10 && commit <= 20000 {
				now = commit
			}
			wantReceive(t, leader(), m, put(12, peer(3, 8, 0, now)), sentSnap(3, now))
			// A peer that needs no snapshot is sent entries.
			m.From = 1
			wantReceive(t, leader(), m, put(12, peer(1, 14, 11, now)), sent(1, 13, 12, 2))
			level := changedNode(leader(), func(n *impl.Node) { n.Peers[0] = peer(1, 16, 15, 40) })
			wantReceive(t, level, m, put(12, peer(1, 16, 15, now)), sent(1, 15, 12, 0))
		}
	}
}

func TestAskInstall(t *testing.T) {
	for _, base := range []impl.Node{follower(), stander(), changedNode(leader(), func(n *impl.Node) { n.Term = 6 })} {
		for _, index := range []int{0, 10, 15, 99, 1000000} {
			for _, last := range []bool{true, false} {
				m := impl.Message{Kind: impl.AskInstall, From: 1, To: 2, Index: index, LogTerm: 6, Commit: 60, Conf: []int{1, 4}, Data: "data", Last: last}
				m.Term = 6
				wantReceive(t, base, m, heeded)
				m.Term = 7
				wantReceive(t, base, m, both(heardOfTerm(7), heeded))
				m.Term = impl.MaxTerm
				wantReceive(t, base, m, both(heardOfTerm(impl.MaxTerm), heeded))
				for _, term := range []int{0, 5} {
					m.Term = term
					wantReceive(t, base, m, stays)
				}
			}
		}
	}
}

func TestPropose(t *testing.T) {
	l := leader().Log.Entries
	for _, e := range []impl.Entry{command(5, "d"), command(5, ""), command(5, longText(120)), none(5), command(5, "\x01\x02")} {
		ahead := impl.Message{Kind: impl.AskAppend, From: 2, To: 1, Term: 5, Index: 13, LogTerm: 5, Commit: 12, Entries: []impl.Entry{l[3], l[4], e}}
		wantPropose(t, leader(), e.Kind, e.Data, 16, func(n *impl.Node) { n.Log.Entries = append(n.Log.Entries, e) }, ahead, sentSnap(3, 60))
		// Of a peer that is level the entry alone is sent.
		n := changedNode(leader(), func(n *impl.Node) { n.Peers[0] = peer(1, 16, 15, 0); n.Commit = 15 })
		wantPropose(t, n, e.Kind, e.Data, 16, func(n *impl.Node) { n.Log.Entries = append(n.Log.Entries, e) }, impl.Message{Kind: impl.AskAppend, From: 2, To: 1, Term: 5, Index: 15, LogTerm: 5, Commit: 15, Entries: []impl.Entry{e}}, sentSnap(3, 60))
		// One who is alone agrees at once.
		wantPropose(t, lone(), e.Kind, e.Data, 4, func(n *impl.Node) {
			e.Term = 4
			n.Log.Entries = append(n.Log.Entries, e)
			n.Commit = 4
		})
	}
	// What most have already is agreed on at once, too.
	n := changedNode(leader(), func(n *impl.Node) { n.Peers[0] = peer(1, 15, 14, 0) })
	wantPropose(t, n, impl.EntryNone, "", 16, func(n *impl.Node) {
		n.Log.Entries, n.Commit = append(n.Log.Entries, none(5)), 14
	}, impl.Message{Kind: impl.AskAppend, From: 2, To: 1, Term: 5, Index: 14, LogTerm: 5, Commit: 14, Entries: []impl.Entry{l[4], none(5)}}, sentSnap(3, 60))
}

func TestProposeOfWhoDoesNotLead(t *testing.T) {
	for _, n := range []impl.Node{follower(), stander(), changedNode(lone(), func(n *impl.Node) { n.Role = impl.RoleFollow }), changedNode(lone(), func(n *impl.Node) { n.Role = impl.RoleStand })} {
		n.Commit = lastByHand(n.Log)
		for _, e := range []impl.Entry{none(0), command(0, "x"), confEntry(0, 1, 2), confEntry(0, 3, 4), confEntry(0, 1, 2, 3, 4)} {
			refusePropose(t, n, e.Kind, e.Data)
		}
	}
}

func TestProposeOfWrongEntries(t *testing.T) {
	for _, n := range []impl.Node{leader(), lone()} {
		for _, e := range wrongEntries() {
			// The Term is the node's: of what is wrong by its Term alone, the entry is right.
			if !rightByHand(impl.Entry{Kind: e.Kind, Data: e.Data}) {
				refusePropose(t, n, e.Kind, e.Data)
			}
			holdPropose(t, n, e.Kind, e.Data)
		}
		for _, e := range rightEntries() {
			if _, _, _, ok := holdPropose(t, n, e.Kind, e.Data); !ok && e.Kind != impl.EntryConf {
				t.Errorf("Propose of %s is false", shownEntry(e))
			}
		}
	}
}

func TestProposeAtTheBounds(t *testing.T) {
	for _, c := range []struct {
		log  impl.Log
		room bool
	}{
		{logOf(10, 2, slices.Repeat([]impl.Entry{none(4)}, 60)...), false}, {logOf(10, 2, slices.Repeat([]impl.Entry{none(4)}, 59)...), true},
		{logOf(1000000, 2), false}, {logOf(999999, 2), true}, {logOf(999999, 2, none(4)), false}, {logOf(999998, 2, none(4)), true}, {logOf(999940, 2, slices.Repeat([]impl.Entry{none(4)}, 60)...), false}, {logOf(999941, 2, slices.Repeat([]impl.Entry{none(4)}, 58)...), true}, {logOf(999941, 2, slices.Repeat([]impl.Entry{none(4)}, 59)...), false},
	} {
		n := changedNode(lone(), func(n *impl.Node) { n.Log, n.Commit = c.log, lastByHand(c.log) })
		for _, e := range []impl.Entry{none(4), command(4, "x"), confEntry(4, 3, 4)} {
			if e.Kind == impl.EntryConf && termByHand(c.log, n.Commit) != 4 {
				refusePropose(t, n, e.Kind, e.Data)
			} else if _, _, index, ok := holdPropose(t, n, e.Kind, e.Data); ok != c.room || ok && index != lastByHand(c.log)+1 {
				t.Errorf("Propose of %s by %s is %d, %v", shownEntry(e), shownNode(n), index, ok)
			}
		}
	}
}

// agreedLeader is leader() with all agreed on but its last entry.
func agreedLeader() impl.Node {
	return changedNode(leader(), func(n *impl.Node) {
		n.Commit = 14
		n.Peers = []impl.Peer{peer(1, 15, 14, 0), peer(3, 14, 13, 5)}
	})
}

func TestProposeOfConfs(t *testing.T) {
	l := leader().Log.Entries
	told := func(to, index, commit int, entries ...impl.Entry) impl.Message {
		return impl.Message{Kind: impl.AskAppend, From: 2, To: to, Term: 5, Index: index, LogTerm: 5, Commit: commit, Entries: entries}
	}
	// One more: it is not behind, as far as is known yet.
	more := confEntry(5, 1, 2, 3, 4)
	wantPropose(t, agreedLeader(), impl.EntryConf, more.Data, 16, func(n *impl.Node) {
		n.Log.Entries = append(n.Log.Entries, more)
		n.Peers = append(n.Peers, peer(4, 16, 0, 0))
	}, told(1, 14, 14, l[4], more), told(3, 13, 14, l[3], l[4], more), told(4, 15, 14, more))
	// One less.
	less := confEntry(5, 1, 2)
	wantPropose(t, agreedLeader(), impl.EntryConf, less.Data, 16, func(n *impl.Node) {
		n.Log.Entries = append(n.Log.Entries, less)
		n.Peers = n.Peers[:1]
	}, told(1, 14, 14, l[4], less))
	less = confEntry(5, 2, 3)
	wantPropose(t, agreedLeader(), impl.EntryConf, less.Data, 16, func(n *impl.Node) {
		n.Log.Entries = append(n.Log.Entries, less)
		n.Peers = n.Peers[1:]
	}, told(3, 13, 14, l[3], l[4], less))
	// The leader itself: it leads on, until that is agreed on.
	less = confEntry(5, 1, 3)
	wantPropose(t, agreedLeader(), impl.EntryConf, less.Data, 16, func(n *impl.Node) {
		n.Log.Entries = append(n.Log.Entries, less)
	}, told(1, 14, 14, l[4], less), told(3, 13, 14, l[3], l[4], less))
	// Changed for another, two more, two less, none other.
	for _, conf := range [][]int{{1, 2, 3}, {1, 2, 4}, {1, 3, 4}, {2, 3, 4}, {1}, {2}, {3}, {4}, {1, 4}, {2, 4}, {3, 4}} {
		refusePropose(t, agreedLeader(), impl.EntryConf, confByHand(conf))
	}
	for _, conf := range wrongConfs() {
		if d := confByHand(conf); !isRightConf(confByText(d)) {
			refusePropose(t, agreedLeader(), impl.EntryConf, d)
		}
	}
	wantPropose(t, lone(), impl.EntryConf, "\x02\x03", 4, func(n *impl.Node) {
		n.Log.Entries = append(n.Log.Entries, confEntry(4, 2, 3))
		n.Peers = []impl.Peer{peer(2, 4, 0, 0)}
	}, impl.Message{Kind: impl.AskAppend, From: 3, To: 2, Term: 4, Index: 3, LogTerm: 4, Commit: 3, Entries: []impl.Entry{confEntry(4, 2, 3)}})
	for _, d := range []string{"\x03", "\x02", "\x01\x02\x03", "\x02\x03\x04", "\x01\x02", "\x01\x02\x03\x04", ""} {
		refusePropose(t, lone(), impl.EntryConf, d)
	}
}

// With one less there may be most now, where there was none.
func TestProposeOfAConfThatAgrees(t *testing.T) {
	n := changedNode(leader(), func(n *impl.Node) {
		n.Conf, n.Commit = []int{1, 2, 3, 4}, 13
		n.Peers = []impl.Peer{peer(1, 15, 14, 0), peer(3, 9, 8, 0), peer(4, 14, 13, 0)}
	})
	less := confEntry(5, 1, 2, 3)
	after, _, _, _ := holdPropose(t, n, impl.EntryConf, less.Data)
	if after.Commit != 14 || len(after.Peers) != 2 {
		t.Errorf("it becomes %s", shownNode(after))
	}
	pair := changedNode(lone(), func(n *impl.Node) { n.Conf = []int{3, 4}; n.Peers = []impl.Peer{peer(4, 1, 0, 0)} })
	wantPropose(t, pair, impl.EntryConf, "\x03", 4, func(n *impl.Node) {
		n.Log.Entries, n.Commit, n.Peers = append(n.Log.Entries, confEntry(4, 3)), 4, nil
	})
	after, told, _, _ := holdPropose(t, pair, impl.EntryConf, "\x04")
	if after.Role != impl.RoleLead || after.Commit != 3 || !slices.Equal(after.Peers, []impl.Peer{peer(4, 1, 0, 0)}) || len(told) != 1 {
		t.Errorf("it becomes %s", shownNode(after))
	}
}

// An EntryConf waits for the one ahead of it, and for an entry of the leader's own term.
func TestProposeOfConfsThatWait(t *testing.T) {
	more := confByHand([]int{1, 2, 3, 4})
	for commit := 10; commit <= 15; commit++ {
		n := changedNode(agreedLeader(), func(n *impl.Node) { n.Commit = commit })
		if _, _, _, ok := holdPropose(t, n, impl.EntryConf, more); ok != (commit >= 13) {
			t.Errorf("a conf is put behind the Commit %d: %v", commit, ok)
		}
		if _, _, _, ok := holdPropose(t, n, impl.EntryCommand, more); !ok {
			t.Errorf("a command is not put behind the Commit %d", commit)
		}
		n.Log.Entries[3] = confEntry(5, 1, 2, 3)
		if _, _, _, ok := holdPropose(t, n, impl.EntryConf, more); ok != (commit >= 14) {
			t.Errorf("a conf is put behind another one and the Commit %d: %v", commit, ok)
		}
		n.Log.Entries[4] = confEntry(5, 1, 2, 3)
		if _, _, _, ok := holdPropose(t, n, impl.EntryConf, more); ok != (commit >= 15) {
			t.Errorf("a conf is put behind two others and the Commit %d: %v", commit, ok)
		}
		n.Term++
		refusePropose(t, n, impl.EntryConf, more)
	}
	// Where there are no entries, the term of where the log begins counts.
	n := impl.Node{Id: 2, Term: 3, Role: impl.RoleLead, Conf: []int{1, 2}, Limit: 1, Commit: 7, Log: logOf(7, 3), Peers: []impl.Peer{peer(1, 8, 7, 0)}}
	if _, _, index, ok := holdPropose(t, n, impl.EntryConf, "\x02"); !ok || index != 8 {
		t.Error("a conf is not put behind the beginning")
	}
	n.Log.StartTerm = 2
	refusePropose(t, n, impl.EntryConf, "\x02")
}

// A leader that is outside already goes by whatever it puts behind its log, and tells nobody.
func TestProposeOfOneOutside(t *testing.T) {
	n := changedNode(agreedLeader(), func(n *impl.Node) { n.Conf = []int{1, 3} })
	wantPropose(t, n, impl.EntryCommand, "d", 16, func(n *impl.Node) {
		n.Log.Entries = append(n.Log.Entries, command(5, "d"))
		n.Role, n.Lead, n.Peers = impl.RoleFollow, 0, nil
	})
	after, told, _, ok := holdPropose(t, n, impl.EntryConf, "\x01")
	if !ok || after.Role != impl.RoleLead || len(told) != 1 {
		t.Errorf("it becomes %s", shownNode(after))
	}
	after, _, _, ok = holdPropose(t, n, impl.EntryConf, "\x01\x02\x03")
	if !ok || after.Role != impl.RoleLead || len(after.Peers) != 2 {
		t.Errorf("it becomes %s", shownNode(after))
	}
}

func TestSettle(t *testing.T) {
	n := changedNode(follower(), func(n *impl.Node) {
		n.Log.Entries[1], n.Log.Entries[3] = confEntry(3, 1, 2), confEntry(4, 2, 4)
		n.Commit = 14
	})
	l := n.Log.Entries
	wantSettle(t, n, 10, stays)
	wantSettle(t, n, 11, func(n *impl.Node) { n.Log = logOf(11, 2, l[1:]...) })
	wantSettle(t, n, 12, func(n *impl.Node) { n.Log, n.Conf = logOf(12, 3, l[2:]...), []int{1, 2} })
	wantSettle(t, n, 13, func(n *impl.Node) { n.Log, n.Conf = logOf(13, 4, l[3:]...), []int{1, 2} })
	wantSettle(t, n, 14, func(n *impl.Node) { n.Log, n.Conf = logOf(14, 4, l[4:]...), []int{2, 4} })
	for _, index := range []int{9, 15, 16, 8, 0, -1, 1000000, math.MinInt, math.MaxInt} {
		refuseSettle(t, n, index)
	}
	n.Commit = 15
	wantSettle(t, n, 15, func(n *impl.Node) { n.Log, n.Conf = logOf(15, 5), []int{2, 4} })
	refuseSettle(t, n, 16)
	n.Commit = 10
	wantSettle(t, n, 10, stays)
	refuseSettle(t, n, 9)
	refuseSettle(t, n, 11)
	// Who leads knows of its peers what it knew, and those who stand keep their votes.
	wantSettle(t, leader(), 12, func(n *impl.Node) { n.Log = logOf(12, 3, n.Log.Entries[2:]...) })
	wantSettle(t, stander(), 12, func(n *impl.Node) { n.Log = logOf(12, 3, n.Log.Entries[2:]...) })
	for _, base := range baseNodes() {
		for index := base.Log.Start - 2; index <= lastByHand(base.Log)+2; index++ {
			after, ok := holdSettle(t, base, index)
			if ok != (index >= base.Log.Start && index <= base.Commit) {
				t.Fatalf("Settle of %s at %d is %v", shownNode(base), index, ok)
			}
			if ok && !slices.Equal(impl.ConfOf(after), impl.ConfOf(base)) {
				t.Fatalf("Settle of %s at %d has the conf %v now", shownNode(base), index, impl.ConfOf(after))
			}
		}
	}
}

// lists are up to four entries each, of these terms in order.
func listsOfTerms(terms ...int) (lists [][]impl.Entry) {
	lists = [][]impl.Entry{nil}
	for size := 0; size < len(lists) && len(lists[size]) < 4; size++ {
		for _, term := range terms {
			e := []impl.Entry{none(term), command(term, "new"), confEntry(term, 2, 3)}[(size+term)%3]
			lists = append(lists, append(slices.Clone(lists[size]), e))
		}
	}
	return lists
}

// All AskAppends of few terms about a log of few entries.
func TestAskAppendOfAll(t *testing.T) {
	l := logOf(2, 1, none(1), command(2, "a"), confEntry(2, 1, 2), none(3))
	lists := listsOfTerms(1, 2, 3)
	count := map[bool]int{}
	for commit := 2; commit <= 6; commit++ {
		n := impl.Node{Id: 2, Term: 3, Role: commit % 2, Conf: []int{1, 2, 3}, Log: l, Commit: commit, Clock: 2, Limit: 5}
		for index := 0; index <= 8; index++ {
			for term := range 4 {
				for at, entries := range lists {
					m := appending(3, index, term, at%9, entries...)
					if !rightMessageByHand(m) {
						continue
					}
					_, told, _ := holdReceive(t, n, m)
					count[told[0].Ok]++
				}
			}
		}
	}
	if count[true] < 500 || count[false] < 3000 {
		t.Errorf("of these %v are taken, or not", count)
	}
}

// Whatever comes without entries.
func TestMessagesOfAllKinds(t *testing.T) {
	indexes := []int{0, 1, 7, 8, 9, 10, 11, 12, 13, 14, 15, 16, 17, 1000000}
	for _, n := range append(baseNodes(), agreedLeader()) {
		for kind := 1; kind <= 6; kind++ {
			for _, from := range []int{1, 3, 4} {
				for _, term := range []int{0, n.Term - 1, n.Term, n.Term + 1} {
					if term < 0 || term > impl.MaxTerm {
						continue
					}
					for _, index := range indexes {
						for at, commit := range []int{0, 12, 20000, 20001} {
							m := plainAsk(kind, term)
							m.From, m.To, m.Index, m.Commit, m.Ok = from, n.Id, index, commit, at%2 == index%2
							if m.From == m.To {
								m.From = 2
							}
							holdReceive(t, n, m)
						}
					}
				}
			}
		}
	}
}

// drawnCoreLog is near to one of its bounds now and then.
func drawnCoreLog(next func(int) int, rise int) impl.Log {
	l := impl.Log{Start: []int{0, 3, 10, 500, 999930, 999996, 1000000}[next(7)], StartTerm: next(3)}
	count := next(8)
	if next(12) == 0 {
		count = 57 + next(4)
	}
	count = min(count, impl.MaxIndex-l.Start)
	term := l.StartTerm
	for range count {
		if next(3) == 0 {
			term += next(rise)
		}
		e := command(term, longText(200)[next(60):][:next(6)])
		switch next(6) {
		case 0:
			e = confEntry(term, rightConfs()[next(15)]...)
		case 1:
			e = none(term)
		}
		l.Entries = append(l.Entries, e)
	}
	return l
}

// drawnNode is right.
func drawnNode(next func(int) int) impl.Node {
	n := impl.Node{Id: 1 + next(4), Role: next(3), Vote: next(5), Lead: next(5), Conf: rightConfs()[next(15)], Limit: 1 + next(20), Clock: next(21)}
	n.Log = drawnCoreLog(next, 3)
	last := lastByHand(n.Log)
	n.Commit = n.Log.Start + next(len(n.Log.Entries)+1)
	n.Term = termByHand(n.Log, last) + []int{0, 0, 0, 1, 2, 7}[next(6)]
	if next(20) == 0 {
		n.Term = impl.MaxTerm - next(2)
	}
	if n.Role == impl.RoleStand && next(5) > 0 {
		n.Votes = rightConfs()[next(15)]
	}
	if n.Role == impl.RoleLead {
		for _, id := range othersByHand(n) {
			p := peer(id, 1+next(last+1), 0, []int{0, 60, 20000}[next(3)])
			if next(3) > 0 {
				p.Next = max(1, min(last+1, n.Log.Start-2+next(len(n.Log.Entries)+5)))
			}
			if next(4) > 0 {
				p.Match = max(0, p.Next-1-next(3))
			}
			n.Peers = append(n.Peers, p)
		}
	}
	return n
}

// drawnFor is a right message to a node, near to what it has.
func drawnFor(next func(int) int, n impl.Node) impl.Message {
	last := lastByHand(n.Log)
	m := impl.Message{Kind: 1 + next(6), From: 1 + next(4), To: n.Id, Ok: next(3) > 0}
	if m.From == m.To {
		m.From = 1 + m.From%4
	}
	m.Term = max(0, min(impl.MaxTerm, n.Term+[]int{-1, 0, 0, 0, 0, 0, 1, 3}[next(8)]))
	m.Index = max(0, min(impl.MaxIndex, n.Log.Start-3+next(len(n.Log.Entries)+7)))
	m.LogTerm = max(0, termByHand(n.Log, m.Index))
	if next(4) == 0 {
		m.LogTerm = next(m.Term + 2)
	}
	m.Commit = max(0, min(impl.MaxIndex, m.Index-2+next(8)))
	if next(3) == 0 {
		m.Commit = []int{0, 60, last, 20000, 20001, 1000000}[next(6)]
	}
	m.LogTerm = min(m.LogTerm, impl.MaxTerm)
	switch m.Kind {
	case impl.AskInstall:
		m.Conf, m.Data, m.Last = rightConfs()[next(15)], longText(next(61)), next(2) == 0
	case impl.AskAppend:
		term := m.LogTerm
		for count := next(5); count > 0 && term <= m.Term; count-- {
			e, there := entryOfLog(n.Log, m.Index+1+len(m.Entries))
			if !there || next(4) == 0 || e.Term < term || e.Term > m.Term {
				e = []impl.Entry{none(term), command(term, "drawn"), confEntry(term, rightConfs()[next(15)]...)}[next(3)]
			}
			m.Entries = append(m.Entries, e)
			term = e.Term + next(2)*next(2)*next(3)
		}
	}
	return m
}

// Promise 16 of nodes that are drawn, and whatever comes to them.
func TestDrawnNodes(t *testing.T) {
	next := draws(16)
	count := map[string]int{}
	for range 25000 {
		n := drawnNode(next)
		if !impl.NodeOk(n) || !rightNodeByHand(n) {
			t.Fatalf("the test is wrong: %s is drawn", shownNode(n))
		}
		for range 3 {
			m := drawnFor(next, n)
			if !rightMessageByHand(m) {
				t.Fatalf("the test is wrong: %s is drawn", shownMessage(m))
			}
			after, told, _ := holdReceive(t, n, m)
			what := fmt.Sprint(m.Kind, " of role ", n.Role, " then ", after.Role)
			if len(told) == 1 {
				what += fmt.Sprint(" tells ", told[0].Ok)
			}
			count[what]++
		}
		holdTick(t, n, 1+next(20))
		conf := confNowByHand(n)
		for range 2 {
			conf = rightConfs()[next(15)]
			holdPropose(t, n, impl.EntryConf, confByHand(conf))
		}
		_, _, _, ok := holdPropose(t, n, []int{impl.EntryNone, impl.EntryCommand}[next(2)], longText(next(2)))
		count[fmt.Sprint("proposed ", ok)]++
		_, ok = holdSettle(t, n, n.Log.Start-1+next(len(n.Log.Entries)+3))
		count[fmt.Sprint("settled ", ok)]++
		for range 3 {
			index := n.Log.Start - 2 + next(len(n.Log.Entries)+5)
			wantConfAt(t, n, index, confAtByHand(n, index)...)
		}
		wantConfOf(t, n, confNowByHand(n)...)
	}
	for _, what := range []string{"1 of role 0 then 0 tells true", "1 of role 0 then 0 tells false", "1 of role 1 then 1 tells true", "1 of role 2 then 2 tells true", "1 of role 2 then 0 tells true", "2 of role 1 then 2", "2 of role 1 then 2 tells false", "2 of role 1 then 1", "2 of role 1 then 0", "3 of role 0 then 0 tells true", "3 of role 0 then 0 tells false", "3 of role 1 then 0 tells true", "3 of role 2 then 0 tells true", "3 of role 2 then 2 tells false", "4 of role 2 then 2", "4 of role 2 then 2 tells false", "4 of role 2 then 0", "4 of role 1 then 1", "5 of role 0 then 0", "5 of role 1 then 0", "5 of role 2 then 2", "5 of role 2 then 0", "6 of role 2 then 2", "6 of role 2 then 2 tells false", "6 of role 2 then 0", "proposed true", "proposed false", "settled true", "settled false"} {
		if count[what] < 100 {
			t.Errorf("%s: %d", what, count[what])
		}
	}
}

// One node, to which whatever there is comes, one behind the other.
func TestDrawnLives(t *testing.T) {
	next := draws(161)
	for range 300 {
		n := drawnNode(next)
		first := n
		for range 60 {
			var after impl.Node
			ok := true
			switch next(6) {
			case 0:
				after, _, ok = holdTick(t, n, 1+next(20))
			case 1:
				after, _, _, ok = holdPropose(t, n, 1+next(3), []string{"", "\x01\x02", "x", "\x01", "\x01\x02\x03"}[next(5)])
			case 2:
				after, ok = holdSettle(t, n, n.Log.Start+next(3))
			default:
				after, _, ok = holdReceive(t, n, drawnFor(next, n))
			}
			if ok {
				n = after
			}
		}
		if n.Id != first.Id || n.Term < first.Term || n.Commit < first.Commit {
			t.Fatalf("%s has become %s", shownNode(first), shownNode(n))
		}
	}
}

// play is nodes that tell each other what they have to tell; what is on its way may be lost, doubled or overtaken.
type play struct {
	t       *testing.T
	next    func(int) int
	nodes   [5]impl.Node
	net     []impl.Message
	agreed  map[int]impl.Entry
	leaders map[int]int
	count   map[string]int
}

func playOf(t *testing.T, next func(int) int, count map[string]int) *play {
	p := &play{t: t, next: next, agreed: map[int]impl.Entry{}, leaders: map[int]int{}, count: count}
	conf := rightConfs()[next(15)]
	for id := 1; id <= 4; id++ {
		n, ok := impl.NodeNew(id, conf)
		if !ok {
			t.Fatalf("NodeNew(%d, %v) is false", id, conf)
		}
		p.nodes[id] = n
	}
	return p
}

// becomes takes what one of the nodes is by now, and what it tells.
func (p *play) becomes(after impl.Node, told []impl.Message) {
	p.t.Helper()
	before := p.nodes[after.Id]
	p.nodes[after.Id] = after
	p.net = append(p.net, told...)
	if after.Role == impl.RoleLead {
		if before.Role != impl.RoleLead || before.Term != after.Term {
			p.count["led"]++
		}
		if other, there := p.leaders[after.Term]; there && other != after.Id {
			p.t.Fatalf("the nodes %d and %d lead in the term %d", other, after.Id, after.Term)
		}
		p.leaders[after.Term] = after.Id
	} else if before.Role == impl.RoleLead && before.Term == after.Term {
		p.count["gone"]++
	}
	for index := after.Log.Start + 1; index <= after.Commit; index++ {
		e, _ := entryOfLog(after.Log, index)
		was, there := p.agreed[index]
		if there && was != e {
			p.t.Fatalf("at the index %d there are %s and %s", index, shownEntry(was), shownEntry(e))
		}
		if !there {
			p.count[fmt.Sprint("agreed on ", e.Kind)]++
		}
		p.agreed[index] = e
	}
}

// installed is what comes of an AskInstall, when all of it comes at once, and all is well.
func (p *play) installed(m impl.Message) {
	n := p.nodes[m.To]
	reply := impl.Message{Kind: impl.TellInstall, From: m.To, To: m.From, Term: n.Term, Index: m.Index, Ok: true}
	if m.Term < n.Term || p.next(3) == 0 {
		reply.Ok, reply.Commit = false, p.next(300)
	} else if m.Index > n.Commit {
		n.Conf, n.Log, n.Commit = m.Conf, impl.LogBehind(n.Log, m.Index, m.LogTerm), m.Index
		p.count["installed"]++
	}
	if !impl.NodeOk(n) {
		p.t.Fatalf("behind %s it is %s", shownMessage(m), shownNode(n))
	}
	p.becomes(n, []impl.Message{reply})
}

func (p *play) deliver() {
	p.t.Helper()
	if len(p.net) == 0 {
		return
	}
	at := p.next(len(p.net))
	m := p.net[at]
	p.net = slices.Delete(p.net, at, at+1)
	after, told, ok := holdReceive(p.t, p.nodes[m.To], m)
	if !ok {
		p.t.Fatalf("%s refuses %s", shownNode(p.nodes[m.To]), shownMessage(m))
	}
	p.becomes(after, told)
	if m.Kind == impl.AskInstall {
		p.installed(m)
	}
}

func (p *play) lose() {
	if len(p.net) > 0 {
		at := p.next(len(p.net))
		p.net = slices.Delete(p.net, at, at+1)
	}
}

// cutOff loses all that is on its way to a node, or from it, which has waited long enough then.
func (p *play) cutOff(id int) {
	p.t.Helper()
	p.net = slices.DeleteFunc(p.net, func(m impl.Message) bool { return m.From == id || m.To == id })
	for range 2 + p.next(20) {
		after, told, _ := holdTick(p.t, p.nodes[id], 2+p.next(19))
		p.becomes(after, told)
	}
}

func (p *play) double() {
	if len(p.net) > 0 {
		p.net = append(p.net, p.net[p.next(len(p.net))])
	}
}

func (p *play) propose(n impl.Node) {
	p.t.Helper()
	kind, data := impl.EntryCommand, fmt.Sprint(p.next(1000))
	if p.next(4) == 0 {
		// One more or one less, most often; it may be the same one, or none.
		id := 1 + p.next(4)
		conf := slices.DeleteFunc(impl.ConfOf(n), func(in int) bool { return in == id })
		if p.next(3) > 0 {
			conf = append(conf, id)
			slices.Sort(conf)
		}
		kind, data = impl.EntryConf, confByHand(conf)
	}
	if after, told, index, ok := holdPropose(p.t, n, kind, data); ok {
		p.count[fmt.Sprint("proposed ", kind)]++
		if e, there := entryOfLog(after.Log, index); !there || e.Data != data {
			p.t.Fatalf("the entry is not at %d of %s", index, shownNode(after))
		}
		p.becomes(after, told)
	}
}

func (p *play) step() {
	p.t.Helper()
	n := p.nodes[1+p.next(4)]
	switch p.next(24) {
	case 0, 1, 2, 3, 4:
		after, told, _ := holdTick(p.t, n, 2+p.next(19))
		p.becomes(after, told)
	case 5, 6:
		for _, n := range p.nodes[1:] {
			p.propose(n)
		}
	case 7:
		if after, ok := holdSettle(p.t, n, n.Commit-p.next(4)); ok && p.next(3) == 0 {
			p.count["settled"]++
			p.becomes(after, nil)
		}
	case 8:
		p.double()
	case 9:
		p.lose()
	case 10:
		if p.next(3) == 0 {
			p.cutOff(n.Id)
		}
	default:
		p.deliver()
	}
	for len(p.net) > 30 {
		p.lose()
	}
}

// Promise 16 of nodes that are played together; and what the core is for: no term has two leaders, no index two entries.
func TestNodesTogether(t *testing.T) {
	next := draws(162)
	count := map[string]int{}
	for range 100 {
		p := playOf(t, next, count)
		for range 2500 {
			p.step()
		}
	}
	for what, least := range map[string]int{"led": 500, "gone": 60, "agreed on 1": 400, "agreed on 2": 500, "agreed on 3": 5000, "proposed 2": 500, "proposed 3": 5000, "settled": 1000, "installed": 250} {
		if count[what] < least {
			t.Errorf("%s: %d, of %v", what, count[what], count)
		}
	}
}

// When nothing is lost, and one node alone stands, all that is proposed is agreed on by all.
func TestNodesAgree(t *testing.T) {
	for _, conf := range rightConfs() {
		p := playOf(t, draws(163), map[string]int{})
		for id := range p.nodes {
			if id > 0 {
				p.nodes[id], _ = impl.NodeNew(id, conf)
			}
		}
		lead := conf[0]
		for range 20 {
			after, told, _ := holdTick(t, p.nodes[lead], 20)
			p.becomes(after, told)
		}
		for len(p.net) > 0 {
			p.deliver()
		}
		for at := range 10 {
			after, told, index, ok := holdPropose(t, p.nodes[lead], impl.EntryCommand, fmt.Sprint("command ", at))
			if !ok || index != at+2 {
				t.Fatalf("the command %d has the index %d in the conf %v, %v", at, index, conf, ok)
			}
			p.becomes(after, told)
			for len(p.net) > 0 {
				p.deliver()
			}
		}
		after, told, _ := holdTick(t, p.nodes[lead], 20)
		p.becomes(after, told)
		for len(p.net) > 0 {
			p.deliver()
		}
		for _, id := range conf {
			if n := p.nodes[id]; n.Commit != 11 || n.Lead != lead || n.Term != 1 || !sameLog(n.Log, p.nodes[lead].Log) {
				t.Errorf("in the conf %v it is %s", conf, shownNode(n))
			}
		}
	}
}

// span is where in memory a list or a text lies, with the room behind it.
type span struct{ from, to uintptr }

func spanOf[T any](list []T) span {
	from := uintptr(unsafe.Pointer(unsafe.SliceData(list)))
	var one T
	return span{from, from + uintptr(cap(list))*unsafe.Sizeof(one)}
}

func spanOfText(text string) span {
	from := uintptr(unsafe.Pointer(unsafe.StringData(text)))
	return span{from, from + uintptr(len(text))}
}

func spansOfEntries(list []impl.Entry) []span {
	spans := []span{spanOf(list)}
	for _, e := range list {
		spans = append(spans, spanOfText(e.Data))
	}
	return spans
}

func spansOfNode(n impl.Node) []span {
	return append(spansOfEntries(n.Log.Entries), spanOf(n.Conf), spanOf(n.Votes), spanOf(n.Peers))
}

func spansOfMessages(list ...impl.Message) []span {
	spans := []span{spanOf(list)}
	for _, m := range list {
		spans = append(spans, spansOfEntries(m.Entries)...)
		spans = append(spans, spanOf(m.Conf), spanOfText(m.Data))
	}
	return spans
}

func meetInMemory(a, b span) bool {
	return a.from < a.to && b.from < b.to && a.from < b.to && b.from < a.to
}

// holdApart holds that no two parts of an answer share memory, and none with what was handed in.
func holdApart(t *testing.T, what string, answer, given []span) {
	t.Helper()
	for at, one := range answer {
		for _, other := range answer[:at] {
			if meetInMemory(one, other) {
				t.Fatalf("%s: two parts of the answer share memory", what)
			}
		}
		for _, other := range given {
			if meetInMemory(one, other) {
				t.Fatalf("%s: the answer shares memory with what was handed in", what)
			}
		}
	}
}

// roomyNode has spare room behind its lists, with something in it.
func roomyNode(n impl.Node) impl.Node {
	n.Conf, n.Votes = roomyInts(n.Conf), roomyInts(n.Votes)
	n.Log.Entries = append(slices.Clone(n.Log.Entries), none(1), command(2, "behind"))[:len(n.Log.Entries)]
	n.Peers = append(slices.Clone(n.Peers), peer(9, 9, 9, 9), peer(8, 8, 8, 8))[:len(n.Peers)]
	return n
}

// allOfNode tells of a node all that it has, and what is behind its lists.
func allOfNode(n impl.Node) string {
	return fmt.Sprintf("%q %v %v %q %v", fmt.Sprint(n), n.Conf[:cap(n.Conf)], n.Votes[:cap(n.Votes)], fmt.Sprint(n.Log.Entries[:cap(n.Log.Entries)]), n.Peers[:cap(n.Peers)])
}

// holdNewNodes asks all functions of a node, and of a message that comes to it.
func holdNewNodes(t *testing.T, n impl.Node, m impl.Message, data string) {
	t.Helper()
	n, m = roomyNode(n), roomyMessage(m)
	before, message := allOfNode(n), allOfMessage(m)
	given := append(spansOfNode(n), spansOfMessages(m)...)
	given = append(given, spanOfText(data))
	held := func(what string, answer ...[]span) {
		t.Helper()
		holdApart(t, what+" of "+shownNode(n), slices.Concat(answer...), given)
		if allOfNode(n) != before || allOfMessage(m) != message {
			t.Fatalf("%s wrote into %s or %s, or behind it", what, shownNode(n), shownMessage(m))
		}
	}
	after, told, _ := impl.Tick(n, 3)
	again, toldAgain, _ := impl.Tick(n, 3)
	held("Tick", spansOfNode(after), spansOfMessages(told...), spansOfNode(again), spansOfMessages(toldAgain...))
	after, told, _ = impl.Receive(n, m)
	again, toldAgain, _ = impl.Receive(n, m)
	held("Receive", spansOfNode(after), spansOfMessages(told...), spansOfNode(again), spansOfMessages(toldAgain...))
	for kind := 1; kind <= 3; kind++ {
		after, told, _, _ = impl.Propose(n, kind, data)
		again, toldAgain, _, _ = impl.Propose(n, kind, data)
		held("Propose", spansOfNode(after), spansOfMessages(told...), spansOfNode(again), spansOfMessages(toldAgain...))
	}
	for index := n.Log.Start; index <= n.Commit; index++ {
		after, _ = impl.Settle(n, index)
		again, _ = impl.Settle(n, index)
		held("Settle", spansOfNode(after), spansOfNode(again), spanList(impl.ConfAt(n, index)), spanList(impl.ConfAt(n, index)))
	}
	after, _ = impl.NodeNew(n.Id, n.Conf)
	again, _ = impl.NodeNew(n.Id, n.Conf)
	impl.NodeOk(n)
	held("NodeNew or ConfOf", spansOfNode(after), spansOfNode(again), spanList(impl.ConfOf(n)), spanList(impl.ConfOf(n)))
}

func spanList(list []int) []span { return []span{spanOf(list)} }

func TestNodesAreNew(t *testing.T) {
	data := strings.Clone("\x01\x02\x03\x04")
	for _, n := range append(baseNodes(), agreedLeader(), wrongNodes()[0], impl.Node{Conf: []int{7, 7}, Votes: []int{3}, Log: logOf(3, 0, none(1)), Peers: make([]impl.Peer, 3)}) {
		for kind := 1; kind <= 6; kind++ {
			for _, ok := range []bool{true, false} {
				m := plainAsk(kind, n.Term)
				m.From, m.To, m.Ok, m.Index = 1+n.Id%4, n.Id, ok, lastByHand(n.Log)
				if kind == impl.AskAppend {
					m.LogTerm = max(0, termByHand(n.Log, m.Index))
					m.Entries = []impl.Entry{command(n.Term, strings.Clone("some")), none(n.Term), command(n.Term, strings.Clone("more"))}
				}
				holdNewNodes(t, n, m, data)
				m.Index = n.Log.Start
				holdNewNodes(t, n, m, "data")
			}
		}
	}
	next := draws(164)
	for range 2000 {
		n := drawnNode(next)
		holdNewNodes(t, n, drawnFor(next, n), data)
	}
}

// An answer stays what it is, whatever becomes of what was handed in, and of another answer.
func TestAnswersOfNodesStay(t *testing.T) {
	for _, base := range baseNodes() {
		n, m := copyNode(base), plainAsk(impl.AskAppend, base.Term)
		m.From, m.To, m.Index, m.LogTerm = 1+n.Id%4, n.Id, lastByHand(n.Log), termByHand(n.Log, lastByHand(n.Log))
		m.Entries = []impl.Entry{command(n.Term, "some"), none(n.Term)}
		ticked, told, _ := impl.Tick(n, 3)
		received, replies, _ := impl.Receive(n, m)
		settled, _ := impl.Settle(n, n.Commit)
		shown := shownNode(ticked) + shownMessages(told) + shownNode(received) + shownMessages(replies) + shownNode(settled)
		clear(n.Conf)
		clear(n.Votes)
		clear(n.Peers)
		clear(n.Log.Entries)
		clear(m.Entries)
		if shown != shownNode(ticked)+shownMessages(told)+shownNode(received)+shownMessages(replies)+shownNode(settled) {
			t.Fatalf("an answer changes with %s", shownNode(base))
		}
		clear(ticked.Conf)
		clear(ticked.Peers)
		clear(ticked.Log.Entries)
		want, wanted, _ := tickByHand(base, 3)
		if !sameMessages(told, wanted) {
			t.Fatalf("what is told changes with what %s has become, which is %s by hand", shownNode(base), shownNode(want))
		}
	}
}

// Whatever comes, all functions answer; and the same once more.
func TestNodesAnswerAtAll(t *testing.T) {
	next := draws(165)
	numbers := []int{math.MinInt, math.MinInt + 1, -1, 0, 1, 2, 3, 4, 5, 6, 20, 21, 100000, 100001, 1000000, 1000001, 20000, 20001, math.MaxInt - 1, math.MaxInt}
	number := func() int {
		if next(3) > 0 {
			return next(5)
		}
		return numbers[next(len(numbers))]
	}
	right := 0
	for range 30000 {
		n := impl.Node{Id: number(), Term: number(), Vote: number(), Role: number(), Lead: number(), Commit: number(), Clock: number(), Limit: number(), Log: impl.Log{Start: number(), StartTerm: number()}}
		m := impl.Message{Kind: number(), From: number(), To: number(), Term: number(), Index: number(), LogTerm: number(), Commit: number(), Ok: next(2) == 0}
		n.Conf = rightConfs()[next(15)]
		for range next(3) {
			n.Log.Entries = append(n.Log.Entries, impl.Entry{Term: number(), Kind: number(), Data: []string{"", "\x01", "\x01\x03", "x"}[next(4)]})
			m.Entries = append(m.Entries, impl.Entry{Term: number(), Kind: number()})
		}
		for range next(3) * next(2) {
			n.Votes = append(n.Votes, number())
			n.Peers = append(n.Peers, peer(number(), number(), number(), number()))
			m.Conf = append(m.Conf, number())
			n.Conf = append(slices.Clone(n.Conf), number())
		}
		if next(4) == 0 {
			n = drawnNode(next)
		}
		if next(4) == 0 {
			m = drawnFor(next, drawnNode(next))
		}
		limit, kind, index := number(), number(), number()
		data := []string{"", "\x01", "\x01\x02", "x"}[next(4)]
		answers := func() string {
			ticked, told, _ := holdTick(t, n, limit)
			received, replies, _ := holdReceive(t, n, m)
			proposed, sends, place, _ := holdPropose(t, n, kind, data)
			settled, _ := holdSettle(t, n, index)
			made, _ := impl.NodeNew(index, n.Conf)
			return fmt.Sprint(ticked, told, received, replies, proposed, sends, place, settled, made, impl.NodeOk(n), impl.ConfOf(n), impl.ConfAt(n, index))
		}
		if first, second := answers(), answers(); first != second {
			t.Fatalf("two answers to the same: %s and %s", first, second)
		}
		if rightNodeByHand(n) {
			right++
		}
	}
	if right < 3000 {
		t.Errorf("%d of the nodes are right", right)
	}
}

// Long lists and texts: each is refused in no long time.
func TestLongNodes(t *testing.T) {
	const size = 200000
	for _, base := range []impl.Node{follower(), stander(), leader()} {
		for _, change := range []func(n *impl.Node){
			func(n *impl.Node) { n.Conf = make([]int, size) }, func(n *impl.Node) { n.Votes = make([]int, size) }, func(n *impl.Node) { n.Peers = make([]impl.Peer, size) }, func(n *impl.Node) { n.Peers = slices.Repeat([]impl.Peer{peer(1, 1, 0, 0)}, size) },
			func(n *impl.Node) { n.Log.Entries = make([]impl.Entry, size) }, func(n *impl.Node) { n.Log.Entries = slices.Repeat([]impl.Entry{confEntry(2, 1)}, size) }, func(n *impl.Node) { n.Log.Entries[0] = command(2, longText(5*size)) }, func(n *impl.Node) {
				n.Log.Entries[4] = impl.Entry{Term: 5, Kind: impl.EntryConf, Data: longText(5 * size)}
			},
		} {
			n := changedNode(base, change)
			if impl.NodeOk(n) {
				t.Fatalf("NodeOk(%s) is true", shownNode(n))
			}
			refuseTick(t, n, 1)
			refuseReceive(t, n, plainAsk(impl.AskVote, 6))
			refusePropose(t, n, impl.EntryNone, "")
			refuseSettle(t, n, n.Commit)
			impl.ConfOf(n)
			impl.ConfAt(n, 12)
		}
		refusePropose(t, base, impl.EntryCommand, longText(5*size))
		refusePropose(t, base, impl.EntryConf, longText(5*size))
		m := plainAsk(impl.AskAppend, 6)
		m.Entries = make([]impl.Entry, size)
		refuseReceive(t, base, m)
	}
}
