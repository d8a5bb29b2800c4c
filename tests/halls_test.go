package tests

import (
	"fmt"
	"maps"
	"math"
	"slices"
	"strings"
	"testing"

	"loop.example/g00127/impl"
)

func opening() impl.Command { return impl.Command{Op: impl.OpOpen} }

// sending takes an event of any place, and leaves that out.
func sending(token, seq int, e impl.Event) impl.Command {
	return impl.Command{Op: impl.OpSend, Token: token, Seq: seq, Event: placed(0, 0, e)}
}

func receiving(token, seq int, e impl.Event) impl.Command {
	return impl.Command{Op: impl.OpReceive, Token: token, Seq: seq, Event: e}
}

func acking(token, seq, dest, upto int) impl.Command {
	return impl.Command{Op: impl.OpAcked, Token: token, Seq: seq, Dest: dest, Upto: upto}
}

func askingWho(token, seq int) impl.Command {
	return impl.Command{Op: impl.OpMembers, Token: token, Seq: seq}
}

func sameOut(a, b impl.Out) bool {
	return a.Dest == b.Dest && a.Acked == b.Acked && slices.Equal(a.Ids, b.Ids)
}

func equalHalls(a, b impl.Hall) bool {
	return slices.Equal(a.Sessions, b.Sessions) && sameRoom(a.Room, b.Room) && slices.EqualFunc(a.Outs, b.Outs, sameOut)
}

func noHall(h impl.Hall) bool { return equalHalls(h, impl.Hall{}) }

func copyHall(h impl.Hall) impl.Hall {
	c := impl.Hall{Sessions: slices.Clone(h.Sessions), Room: copyRoom(h.Room)}
	for _, out := range h.Outs {
		c.Outs = append(c.Outs, impl.Out{Dest: out.Dest, Acked: out.Acked, Ids: slices.Clone(out.Ids)})
	}
	return c
}

func shownHall(h impl.Hall) string {
	return fmt.Sprintf("%.300s, outs %.300s, %s", fmt.Sprintf("%d sessions %q", len(h.Sessions), fmt.Sprint(h.Sessions)), fmt.Sprint(h.Outs), shownRoom(h.Room))
}

func shownCommand(x impl.Command) string {
	return fmt.Sprintf("{Op %d Token %d Seq %d Dest %d Upto %d, %s}", x.Op, x.Token, x.Seq, x.Dest, x.Upto, shownEvent(x.Event))
}

// sentByHand are the Ids that are to be sent on.
func sentByHand(r impl.Room) (ids []int) {
	for at, good := range r.Good {
		if id := r.Events[at].Id; good && id&1 == 0 {
			ids = append(ids, id)
		}
	}
	return ids
}

func rightHallByHand(h impl.Hall) bool {
	token := 0
	for _, s := range h.Sessions {
		if s.Token <= token || s.Token > 1000000 || s.Last < 0 || s.Last > 1000000 || len(s.Reply) > 40 || s.Last == 0 && len(s.Reply) > 0 {
			return false
		}
		token = s.Token
	}
	if len(h.Sessions) > 3 || len(h.Outs) != 2 || !rightRoomByHand(h.Room) {
		return false
	}
	ids := sentByHand(h.Room)
	for at, out := range h.Outs {
		if out.Dest != at+1 || out.Acked < 0 || out.Acked > len(ids) || !slices.Equal(out.Ids, ids) {
			return false
		}
	}
	return true
}

func rightCommandByHand(x impl.Command) bool {
	isIndex := func(n int) bool { return n >= 0 && n <= 1000000 }
	noEvent, noDest := sameEvent(x.Event, impl.Event{}), x.Dest == 0 && x.Upto == 0
	if !isIndex(x.Token) || !isIndex(x.Seq) {
		return false
	}
	switch x.Op {
	case 1:
		return x.Token == 0 && x.Seq == 0 && noEvent && noDest
	case 2:
		e := x.Event
		if e.Id != 0 || e.Depth != 0 || len(e.Prev) != 0 {
			return false
		}
		if e = placed(2, 0, e); e.Kind != 1 {
			e.Prev = []int{1}
		}
		return rightEventByHand(e) && noDest
	case 3:
		return rightEventByHand(x.Event) && x.Event.Id&1 == 1 && noDest
	case 4:
		return (x.Dest == 1 || x.Dest == 2) && isIndex(x.Upto) && noEvent
	case 5:
		return noEvent && noDest
	}
	return false
}

func draftByHand(r impl.Room, index int, e impl.Event) impl.Event {
	e = copyEvent(e)
	e.Id, e.Prev = 0, nil
	if index >= 0 && index <= 1000000 {
		e.Id = index + index
	}
	if e.Kind != 1 {
		for ends := endsByHand(r); len(ends) > 0 && len(e.Prev) < 3; ends = ends[:len(ends)-1] {
			e.Prev = append([]int{ends[len(ends)-1]}, e.Prev...)
		}
	}
	e.Depth = depthByHand(r, e.Prev)
	return e
}

// openedByHand keeps of all sessions, with the new one, those three with the greatest Tokens.
func openedByHand(h *impl.Hall, index int) string {
	all := map[int]impl.Session{}
	for _, s := range h.Sessions {
		all[s.Token] = s
	}
	all[index] = impl.Session{Token: index}
	h.Sessions = nil
	for _, token := range slices.Sorted(maps.Keys(all)) {
		h.Sessions = append(h.Sessions, all[token])
	}
	h.Sessions = h.Sessions[max(0, len(h.Sessions)-3):]
	return fmt.Sprint("open ", index)
}

func doneByHand(h *impl.Hall, index int, x impl.Command) string {
	switch x.Op {
	case 2:
		e := draftByHand(h.Room, index, x.Event)
		r, ok := addByHand(h.Room, e)
		if !ok {
			return "room"
		}
		if !r.Good[len(r.Good)-1] {
			return "denied"
		}
		h.Room = r
		for at := range h.Outs {
			h.Outs[at].Ids = append(h.Outs[at].Ids, e.Id)
		}
		return fmt.Sprint("sent ", e.Id)
	case 3:
		r, ok := addByHand(h.Room, x.Event)
		if !ok {
			return "room"
		}
		h.Room = r
		return map[bool]string{true: "got ", false: "kept "}[r.Good[len(r.Good)-1]] + fmt.Sprint(x.Event.Id)
	case 4:
		out := &h.Outs[x.Dest-1]
		if x.Upto > out.Acked {
			out.Acked = x.Upto
		}
		if out.Acked > len(out.Ids) {
			out.Acked = len(out.Ids)
		}
		return "acked"
	}
	reply := "in"
	s, _ := beforeByHand(h.Room, endsByHand(h.Room))
	for _, user := range membersByHand(h.Room, s) {
		reply += fmt.Sprint(" ", user)
	}
	return reply
}

// performByHand is of a hall, an index and a command that are right.
func performByHand(h impl.Hall, index int, x impl.Command) (impl.Hall, string) {
	h = copyHall(h)
	if x.Op == 1 {
		return h, openedByHand(&h, index)
	}
	at := slices.IndexFunc(h.Sessions, func(s impl.Session) bool { return s.Token == x.Token })
	switch {
	case at < 0:
		return h, "none"
	case x.Seq > h.Sessions[at].Last+1:
		return h, "gap"
	case x.Seq < h.Sessions[at].Last:
		return h, "old"
	case x.Seq == h.Sessions[at].Last && x.Seq > 0:
		return h, h.Sessions[at].Reply
	case x.Seq == 0:
		return h, "old"
	}
	reply := doneByHand(&h, index, x)
	h.Sessions[at].Last, h.Sessions[at].Reply = x.Seq, reply
	return h, reply
}

func wantPerformed(t *testing.T, h impl.Hall, index int, x impl.Command, want impl.Hall, reply string) impl.Hall {
	t.Helper()
	before, event := copyHall(h), copyEvent(x.Event)
	got, told, ok := impl.Perform(h, index, x)
	if !ok || told != reply || !equalHalls(got, want) {
		t.Fatalf("Perform(%s, %d, %s) = %s, %q, %v; want %s, %q, true", shownHall(h), index, shownCommand(x), shownHall(got), told, ok, shownHall(want), reply)
	}
	if !equalHalls(h, before) || !sameEvent(x.Event, event) {
		t.Fatalf("Perform of %s wrote into its arguments", shownCommand(x))
	}
	return got
}

// holdPerform holds Perform against what is found by hand, and asks whether the hall is right then.
func holdPerform(t *testing.T, h impl.Hall, index int, x impl.Command) (impl.Hall, string) {
	t.Helper()
	want, reply := performByHand(h, index, x)
	got := wantPerformed(t, h, index, x, want, reply)
	if !impl.HallOk(got) {
		t.Fatalf("HallOk is false of what Perform of %s makes: %s", shownCommand(x), shownHall(got))
	}
	return got, reply
}

// wantReply is what a command at an index is replied, and what it makes of the hall by hand.
func wantReply(t *testing.T, h impl.Hall, index int, x impl.Command, reply string) impl.Hall {
	t.Helper()
	if _, byHand := performByHand(h, index, x); byHand != reply {
		t.Fatalf("the test is wrong: %s is replied %q, and not %q", shownCommand(x), byHand, reply)
	}
	got, _ := holdPerform(t, h, index, x)
	return got
}

// wantStays is a reply that leaves the hall as it is.
func wantStays(t *testing.T, h impl.Hall, index int, x impl.Command, reply string) {
	t.Helper()
	wantPerformed(t, h, index, x, h, reply)
	wantReply(t, h, index, x, reply)
}

func refusePerform(t *testing.T, h impl.Hall, index int, x impl.Command) {
	t.Helper()
	before := copyHall(h)
	if got, reply, ok := impl.Perform(h, index, x); ok || reply != "" || !noHall(got) {
		t.Errorf("Perform(%s, %d, %s) = %s, %q, %v; want nothing", shownHall(h), index, shownCommand(x), shownHall(got), reply, ok)
	}
	if !equalHalls(h, before) {
		t.Fatalf("Perform of %s wrote into its hall", shownCommand(x))
	}
}

func wantHallOk(t *testing.T, h impl.Hall, want bool) {
	t.Helper()
	if rightHallByHand(h) != want {
		t.Fatalf("the test is wrong: of the hall %s it says %v", shownHall(h), want)
	}
	before := copyHall(h)
	if impl.HallOk(h) != want {
		t.Errorf("HallOk is %v of %s", !want, shownHall(h))
	}
	if !equalHalls(h, before) {
		t.Fatalf("HallOk wrote into its hall: %s", shownHall(h))
	}
}

func wantCommandOk(t *testing.T, x impl.Command, want bool) {
	t.Helper()
	if rightCommandByHand(x) != want {
		t.Fatalf("the test is wrong: of the command %s it says %v", shownCommand(x), want)
	}
	if impl.CommandOk(x) != want {
		t.Errorf("CommandOk is %v of %s", !want, shownCommand(x))
	}
}

// step is a command at its index, and what is replied.
type step struct {
	index int
	ask   impl.Command
	reply string
}

// handSteps are the commands of two sessions, of each Op several, with replies worked out by hand.
func handSteps() []step {
	return []step{
		{1, opening(), "open 1"},
		{2, opening(), "open 2"},
		// Nobody says anything where there is no room.
		{3, sending(1, 1, say(1)), "room"},
		{4, sending(1, 2, create(1)), "sent 8"},
		{5, askingWho(2, 1), "in"},
		{6, sending(1, 3, member(1, 1, impl.Joined)), "sent 12"},
		{7, sending(1, 4, member(1, 2, impl.Invited)), "sent 14"},
		{8, receiving(2, 2, placed(3, 3, member(2, 2, impl.Joined), 14)), "got 3"},
		{9, receiving(2, 3, placed(5, 3, say(3), 14)), "kept 5"},
		{10, receiving(2, 4, placed(7, 9, say(2), 3)), "room"},
		{11, acking(2, 5, 1, 2), "acked"},
		{12, acking(2, 6, 2, 9), "acked"},
		{13, acking(2, 7, 1, 1), "acked"},
		{14, askingWho(1, 5), "in 1 2"},
		{15, sending(2, 8, worded("hello", say(2))), "sent 30"},
		{16, sending(2, 9, say(4)), "denied"},
		{17, sending(1, 6, power(1, 100, 50, 0, 0, 0)), "sent 34"},
		{18, sending(1, 7, name(2)), "sent 36"},
		{19, receiving(1, 8, placed(11, 5, name(1), 30)), "got 11"},
		{20, sending(2, 10, worded("bye", say(1))), "sent 40"},
		{21, askingWho(2, 11), "in 1 2"},
		{23, acking(1, 9, 1, 5), "acked"},
		{24, sending(2, 12, member(2, 3, impl.Invited)), "sent 48"},
		{30, receiving(1, 10, placed(13, 9, member(3, 3, impl.Joined), 48)), "got 13"},
		{400, askingWho(1, 11), "in 1 2 3"},
		{401, sending(1, 12, member(2, 1, impl.Banned)), "denied"},
	}
}

// handHall is what they leave.
func handHall() impl.Hall {
	events := []impl.Event{
		placed(8, 0, create(1)),
		placed(12, 1, member(1, 1, impl.Joined), 8),
		placed(14, 2, member(1, 2, impl.Invited), 12),
		placed(3, 3, member(2, 2, impl.Joined), 14),
		placed(5, 3, say(3), 14),
		placed(30, 4, worded("hello", say(2)), 3, 5),
		placed(34, 5, power(1, 100, 50, 0, 0, 0), 30),
		placed(36, 6, name(2), 34),
		placed(11, 5, name(1), 30),
		placed(40, 7, worded("bye", say(1)), 11, 36),
		placed(48, 8, member(2, 3, impl.Invited), 40),
		placed(13, 9, member(3, 3, impl.Joined), 48),
	}
	two := impl.Item{Key: 12, Id: 3}
	named := []impl.Item{{Key: 1, Id: 8}, {Key: 2, Id: 34}, {Key: 3, Id: 36}, {Key: 11, Id: 12}, two}
	states := [][]impl.Item{
		{{Key: 1, Id: 8}},
		{{Key: 1, Id: 8}, {Key: 11, Id: 12}},
		{{Key: 1, Id: 8}, {Key: 11, Id: 12}, {Key: 12, Id: 14}},
		{{Key: 1, Id: 8}, {Key: 11, Id: 12}, two},
		{{Key: 1, Id: 8}, {Key: 11, Id: 12}, {Key: 12, Id: 14}},
		{{Key: 1, Id: 8}, {Key: 11, Id: 12}, two},
		{{Key: 1, Id: 8}, {Key: 2, Id: 34}, {Key: 11, Id: 12}, two},
		named,
		{{Key: 1, Id: 8}, {Key: 3, Id: 11}, {Key: 11, Id: 12}, two},
		// Of the two names that which comes behind the levels, from the lesser one, is the last.
		slices.Clone(named),
		append(slices.Clone(named), impl.Item{Key: 13, Id: 48}),
		append(slices.Clone(named), impl.Item{Key: 13, Id: 13}),
	}
	good := []bool{true, true, true, true, false, true, true, true, true, true, true, true}
	return impl.Hall{
		Sessions: []impl.Session{{Token: 1, Last: 12, Reply: "denied"}, {Token: 2, Last: 12, Reply: "sent 48"}},
		Room:     impl.Room{Events: events, States: states, Good: good},
		Outs:     []impl.Out{{Dest: 1, Acked: 5, Ids: []int{8, 12, 14, 30, 34, 36, 40, 48}}, {Dest: 2, Acked: 3, Ids: []int{8, 12, 14, 30, 34, 36, 40, 48}}},
	}
}

// hallBehind is the hall behind the first steps.
func hallBehind(t *testing.T, steps ...step) impl.Hall {
	t.Helper()
	h := impl.HallNew()
	for _, s := range steps {
		h = wantReply(t, h, s.index, s.ask, s.reply)
	}
	return h
}

// everyAsk are right commands of each Op for a place in a session, of which several would change the hall.
func everyAsk(token, seq int) []impl.Command {
	return []impl.Command{
		sending(token, seq, create(1)), sending(token, seq, say(1)), sending(token, seq, say(5)), sending(token, seq, member(1, 4, impl.Invited)), sending(token, seq, power(1, 100, 0, 0, 0, 0)), sending(token, seq, name(1)),
		receiving(token, seq, placed(101, 0, create(2))), receiving(token, seq, placed(101, 1, say(1), 8)), receiving(token, seq, placed(101, 7, say(1), 8)),
		acking(token, seq, 1, 1000000), acking(token, seq, 2, 1000000), acking(token, seq, 1, 0), askingWho(token, seq),
	}
}

// Promise 13, worked out by hand: each step's reply, the hall in the end, and at each step all that was done, asked again.
func TestHallByHand(t *testing.T) {
	h := impl.HallNew()
	for at, s := range handSteps() {
		then := wantReply(t, h, s.index, s.ask, s.reply)
		if s.ask.Op != impl.OpOpen {
			for _, index := range []int{s.index, s.index + 1, 1, 400000} {
				wantStays(t, then, index, s.ask, s.reply)
			}
			for _, again := range everyAsk(s.ask.Token, s.ask.Seq) {
				wantStays(t, then, 500, again, s.reply)
			}
		}
		for _, earlier := range handSteps()[:at] {
			if earlier.ask.Op != impl.OpOpen && (earlier.ask.Token != s.ask.Token || earlier.ask.Seq != s.ask.Seq) {
				_, reply := performByHand(then, 500, earlier.ask)
				wantStays(t, then, 500, earlier.ask, reply)
				if reply != "old" && reply != earlier.reply {
					t.Fatalf("the test is wrong: %s was replied %q, and now %q", shownCommand(earlier.ask), earlier.reply, reply)
				}
			}
		}
		h = then
	}
	if want := handHall(); !equalHalls(h, want) {
		t.Errorf("the hall in the end is %s; want %s", shownHall(h), shownHall(want))
	}
	wantHallOk(t, handHall(), true)
}

// All steps, each asked three times, one behind the other, and all that is past asked in between: the hall is the same.
func TestAskedAgainAndAgain(t *testing.T) {
	h := impl.HallNew()
	for at, s := range handSteps() {
		for round := range 3 {
			if round > 0 && s.ask.Op == impl.OpOpen {
				continue
			}
			var reply string
			h, reply, _ = impl.Perform(h, s.index+round, s.ask)
			if reply != s.reply {
				t.Fatalf("%s is replied %q; want %q", shownCommand(s.ask), reply, s.reply)
			}
		}
		for _, past := range handSteps()[:at] {
			if past.ask.Op != impl.OpOpen {
				h, _, _ = impl.Perform(h, 600, past.ask)
			}
		}
	}
	if want := handHall(); !equalHalls(h, want) {
		t.Errorf("the hall in the end is %s; want %s", shownHall(h), shownHall(want))
	}
}

// What is not the next one of its session does nothing, whatever it asks for.
func TestSeqs(t *testing.T) {
	h := handHall()
	for _, c := range []struct {
		token, seq int
		reply      string
	}{
		{1, 0, "old"}, {1, 1, "old"}, {1, 10, "old"}, {1, 11, "old"}, {1, 12, "denied"}, {1, 14, "gap"}, {1, 15, "gap"}, {1, 999999, "gap"}, {1, 1000000, "gap"},
		{2, 0, "old"}, {2, 11, "old"}, {2, 12, "sent 48"}, {2, 14, "gap"}, {2, 1000000, "gap"},
		{0, 0, "none"}, {0, 1, "none"}, {3, 0, "none"}, {3, 1, "none"}, {3, 12, "none"}, {3, 1000000, "none"}, {1000000, 1, "none"}, {1000000, 1000000, "none"},
	} {
		for _, x := range everyAsk(c.token, c.seq) {
			wantStays(t, h, 402, x, c.reply)
		}
	}
	// A session of which nothing was asked yet.
	fresh := wantReply(t, h, 402, opening(), "open 402")
	for _, c := range []struct {
		seq   int
		reply string
	}{{0, "old"}, {2, "gap"}, {3, "gap"}, {1000000, "gap"}} {
		for _, x := range everyAsk(402, c.seq) {
			wantStays(t, fresh, 403, x, c.reply)
		}
	}
	for _, x := range everyAsk(402, 1) {
		then, reply := holdPerform(t, fresh, 403, x)
		if s := then.Sessions[2]; s.Last != 1 || s.Reply != reply || reply == "old" || reply == "gap" || reply == "none" {
			t.Errorf("of a fresh session %s is replied %q", shownCommand(x), reply)
		}
	}
	// As far as a session goes: behind MaxIndex there is no Seq any more.
	h.Sessions[0] = impl.Session{Token: 1, Last: 999999, Reply: "x"}
	wantStays(t, h, 402, askingWho(1, 999998), "old")
	wantStays(t, h, 402, askingWho(1, 999999), "x")
	last := wantReply(t, h, 402, askingWho(1, 1000000), "in 1 2 3")
	wantStays(t, last, 403, sending(1, 1000000, say(1)), "in 1 2 3")
	wantStays(t, last, 403, sending(1, 999999, say(1)), "old")
	refusePerform(t, last, 403, askingWho(1, 1000001))
	// A Reply may be empty, or of any bytes: it is what is replied.
	for _, reply := range []string{"", "\x00", "\xff\n", longText(40)} {
		h.Sessions[1] = impl.Session{Token: 2, Last: 1, Reply: reply}
		for _, x := range everyAsk(2, 1) {
			wantStays(t, h, 402, x, reply)
		}
	}
}

// A session does not touch another one.
func TestSessionsApart(t *testing.T) {
	h := hallBehind(t, step{1, opening(), "open 1"}, step{2, opening(), "open 2"}, step{3, opening(), "open 3"})
	h = wantReply(t, h, 4, sending(2, 1, create(1)), "sent 8")
	h = wantReply(t, h, 5, askingWho(3, 1), "in")
	h = wantReply(t, h, 6, sending(1, 1, member(1, 1, impl.Joined)), "sent 12")
	h = wantReply(t, h, 7, sending(2, 2, say(1)), "sent 14")
	want := []impl.Session{{Token: 1, Last: 1, Reply: "sent 12"}, {Token: 2, Last: 2, Reply: "sent 14"}, {Token: 3, Last: 1, Reply: "in"}}
	if !slices.Equal(h.Sessions, want) {
		t.Errorf("the sessions are %v; want %v", h.Sessions, want)
	}
	wantStays(t, h, 8, sending(1, 1, say(1)), "sent 12")
	wantStays(t, h, 8, sending(2, 1, say(1)), "old")
	wantStays(t, h, 8, sending(3, 1, say(1)), "in")
}

func TestHallConstants(t *testing.T) {
	got := []int{impl.MaxSessions, impl.MaxDests, impl.OpOpen, impl.OpSend, impl.OpReceive, impl.OpAcked, impl.OpMembers}
	if want := []int{3, 2, 1, 2, 3, 4, 5}; !slices.Equal(got, want) {
		t.Errorf("the constants are %v; want %v", got, want)
	}
}

func TestHallNew(t *testing.T) {
	want := impl.Hall{Outs: []impl.Out{{Dest: 1}, {Dest: 2}}}
	first := impl.HallNew()
	wantHallOk(t, first, true)
	if !equalHalls(first, want) {
		t.Errorf("HallNew is %s", shownHall(first))
	}
	first.Outs[0] = impl.Out{Dest: 7, Acked: 7}
	clear(first.Outs[:cap(first.Outs)])
	if second := impl.HallNew(); !equalHalls(second, want) {
		t.Errorf("HallNew is %s the second time", shownHall(second))
	}
}

// changedHall is a copy of the hall by hand with one thing changed.
func changedHall(change func(h *impl.Hall)) impl.Hall {
	h := copyHall(handHall())
	change(&h)
	return h
}

func holdHall(t *testing.T, want bool, change func(h *impl.Hall)) {
	t.Helper()
	wantHallOk(t, changedHall(change), want)
}

func withTokens(h *impl.Hall, tokens ...int) {
	h.Sessions = nil
	for _, token := range tokens {
		h.Sessions = append(h.Sessions, impl.Session{Token: token, Last: 1, Reply: "in"})
	}
}

func TestHallOkOfSessions(t *testing.T) {
	for _, c := range []struct {
		tokens []int
		want   bool
	}{
		{nil, true}, {[]int{1}, true}, {[]int{1, 2}, true}, {[]int{1, 2, 3}, true}, {[]int{1, 2, 3, 4}, false}, {[]int{1, 2, 3, 4, 5}, false},
		{[]int{0}, false}, {[]int{-1}, false}, {[]int{1000000}, true}, {[]int{1000001}, false}, {[]int{math.MinInt}, false}, {[]int{math.MaxInt}, false},
		{[]int{1, 1000000}, true}, {[]int{999999, 1000000}, true}, {[]int{1, 1000001}, false}, {[]int{0, 1}, false}, {[]int{-1, 1}, false}, {[]int{1, 2, 1000000}, true}, {[]int{1, 2, 1000001}, false},
		{[]int{1, 1}, false}, {[]int{2, 1}, false}, {[]int{1, 2, 2}, false}, {[]int{1, 1, 2}, false}, {[]int{1, 3, 2}, false}, {[]int{2, 1, 3}, false}, {[]int{3, 2, 1}, false}, {[]int{1, 2, 1}, false},
		{[]int{1, 0}, false}, {[]int{1, math.MaxInt}, false}, {[]int{math.MinInt, 1}, false}, {[]int{7, 100, 400001}, true},
	} {
		holdHall(t, c.want, func(h *impl.Hall) { withTokens(h, c.tokens...) })
	}
	for at := range 3 {
		for _, token := range wrongIndex {
			holdHall(t, false, func(h *impl.Hall) {
				withTokens(h, 10, 20, 30)
				h.Sessions[at].Token = token
			})
		}
		for _, c := range []struct {
			last  int
			reply string
			want  bool
		}{
			{0, "", true}, {0, "x", false}, {0, "\x00", false}, {0, longText(40), false}, {0, longText(41), false},
			{1, "", true}, {1, "x", true}, {1, "\x00\xff", true}, {1, longText(39), true}, {1, longText(40), true}, {1, longText(41), false}, {1, longText(42), false}, {1, longText(100000), false},
			{1000000, "", true}, {1000000, longText(40), true}, {1000000, longText(41), false}, {1000001, "", false}, {1000001, "in", false}, {-1, "", false}, {-1, "in", false}, {math.MinInt, "", false}, {math.MaxInt, "in", false},
		} {
			holdHall(t, c.want, func(h *impl.Hall) {
				withTokens(h, 10, 20, 30)
				h.Sessions[at].Last, h.Sessions[at].Reply = c.last, c.reply
			})
		}
	}
}

// A room that is not right, though the Outs may be those of it.
func TestHallOkOfRooms(t *testing.T) {
	wrong, right := 0, 0
	for _, r := range roomChanges(handHall().Room) {
		h := handHall()
		h.Room = r
		want := rightHallByHand(h)
		wantHallOk(t, h, want)
		if len(r.Good) == len(r.Events) {
			ids := sentByHand(r)
			h.Outs = []impl.Out{{Dest: 1, Ids: ids}, {Dest: 2, Ids: ids}}
			wantHallOk(t, h, rightRoomByHand(r))
		}
		if want {
			right++
		} else {
			wrong++
		}
	}
	if wrong < 300 || right < 10 {
		t.Errorf("of the changed rooms %d are right, %d are not", right, wrong)
	}
	// Fewer Good than events.
	holdHall(t, false, func(h *impl.Hall) { h.Room.Good = nil })
	holdHall(t, false, func(h *impl.Hall) { h.Room = impl.Room{} })
	holdHall(t, true, func(h *impl.Hall) { *h = impl.HallNew() })
	holdHall(t, false, func(h *impl.Hall) { *h = impl.Hall{} })
	// As many events as there may be, and one more.
	full := fullHall(t)
	wantHallOk(t, full, true)
	full.Room.Events = append(full.Room.Events, placed(201, 40, say(1), 40))
	full.Room.States, full.Room.Good = append(full.Room.States, full.Room.States[39]), append(full.Room.Good, true)
	wantHallOk(t, full, false)
}

// hallOf has a room, and what is to be sent on of it.
func hallOf(r impl.Room, sessions ...impl.Session) impl.Hall {
	return impl.Hall{Sessions: sessions, Room: r, Outs: []impl.Out{{Dest: 1, Ids: sentByHand(r)}, {Dest: 2, Ids: sentByHand(r)}}}
}

// fullHall has as many events as a room may have.
func fullHall(t *testing.T) impl.Hall {
	t.Helper()
	return hallOf(fullRoom(t, impl.MaxRoom), impl.Session{Token: 1})
}

func TestHallOkOfOuts(t *testing.T) {
	holdHall(t, false, func(h *impl.Hall) { h.Outs = nil })
	holdHall(t, false, func(h *impl.Hall) { h.Outs = h.Outs[:1] })
	holdHall(t, false, func(h *impl.Hall) { h.Outs = h.Outs[1:] })
	holdHall(t, false, func(h *impl.Hall) { h.Outs = append(h.Outs, impl.Out{Dest: 3, Ids: h.Outs[0].Ids}) })
	holdHall(t, false, func(h *impl.Hall) { h.Outs = append(h.Outs, impl.Out{}) })
	holdHall(t, false, func(h *impl.Hall) { h.Outs[0], h.Outs[1] = h.Outs[1], h.Outs[0] })
	holdHall(t, false, func(h *impl.Hall) { h.Outs[1] = h.Outs[0] })
	holdHall(t, false, func(h *impl.Hall) { h.Outs[0] = h.Outs[1] })
	for _, h := range []impl.Hall{handHall(), impl.HallNew(), hallOf(roomOf(t, trunk()...)), hallOf(roomOf(t, forkedRoom().events...)), fullHall(t)} {
		wantHallOk(t, h, true)
		for at := range h.Outs {
			set := func(want bool, change func(out *impl.Out)) {
				t.Helper()
				c := copyHall(h)
				change(&c.Outs[at])
				wantHallOk(t, c, want)
			}
			for _, dest := range []int{0, -1, 1, 2, 3, math.MinInt, math.MaxInt} {
				set(dest == at+1, func(out *impl.Out) { out.Dest = dest })
			}
			count := len(h.Outs[at].Ids)
			for acked := range count + 1 {
				set(true, func(out *impl.Out) { out.Acked = acked })
			}
			for _, acked := range []int{-1, -2, math.MinInt, count + 1, count + 2, 1000, math.MaxInt} {
				set(false, func(out *impl.Out) { out.Acked = acked })
			}
			for _, ids := range listChanges(h.Outs[at].Ids) {
				set(slices.Equal(ids, h.Outs[at].Ids), func(out *impl.Out) { out.Ids, out.Acked = ids, 0 })
			}
			// An Id that is not there, that is odd, or that is not Good.
			for place := range count + 1 {
				for _, id := range []int{0, 1, 3, 5, 10, 11, 13, 500, -8} {
					set(false, func(out *impl.Out) { out.Ids = slices.Insert(out.Ids, place, id) })
				}
			}
			for place := range count {
				set(false, func(out *impl.Out) { out.Ids[place] += 2 })
				set(false, func(out *impl.Out) { out.Ids[place] = 5 })
			}
			if count > 0 {
				set(false, func(out *impl.Out) { out.Ids, out.Acked = nil, 0 })
			}
		}
	}
	// An event with an even Id that is not Good is not sent on; one that is odd is not, be it Good or not.
	r := roomOf(t, placed(2, 0, create(1)), placed(4, 1, say(2), 2), placed(6, 1, member(1, 1, impl.Joined), 2), placed(7, 2, say(1), 6), placed(9, 2, say(2), 6))
	if want := []bool{true, false, true, true, false}; !slices.Equal(r.Good, want) {
		t.Fatalf("the test is wrong: Good are %v", r.Good)
	}
	for _, c := range []struct {
		ids  []int
		want bool
	}{{[]int{2, 6}, true}, {[]int{2, 4, 6}, false}, {[]int{2, 6, 7}, false}, {[]int{2, 4, 6, 7, 9}, false}, {[]int{2, 6, 9}, false}, {[]int{6, 2}, false}, {[]int{2}, false}, {[]int{7}, false}, {[]int{4}, false}, {nil, false}} {
		wantHallOk(t, impl.Hall{Room: r, Outs: []impl.Out{{Dest: 1, Ids: c.ids}, {Dest: 2, Ids: c.ids}}}, c.want)
	}
	// In the order of the room, which is not that of the Ids.
	r = roomOf(t, placed(6, 0, create(1)), placed(2, 1, member(1, 1, impl.Joined), 6), placed(4, 2, say(1), 2))
	for _, ids := range inEachOrder([]int{2, 4, 6}) {
		wantHallOk(t, impl.Hall{Room: r, Outs: []impl.Out{{Dest: 1, Ids: ids}, {Dest: 2, Ids: ids}}}, slices.Equal(ids, []int{6, 2, 4}))
	}
}

// baseCommands are a right command of each Op.
func baseCommands() map[int]impl.Command {
	return map[int]impl.Command{
		1: opening(),
		2: sending(3, 4, say(1)),
		3: receiving(3, 4, placed(31, 2, say(1), 8)),
		4: acking(3, 4, 1, 5),
		5: askingWho(3, 4),
	}
}

// holdEachOp holds what a change makes of the right command of each Op, of which it says whether it is right still.
func holdEachOp(t *testing.T, change func(x *impl.Command), right func(op int) bool) {
	t.Helper()
	for op, x := range baseCommands() {
		wantCommandOk(t, x, true)
		change(&x)
		wantCommandOk(t, x, right(op))
	}
}

func TestCommandOkOfFields(t *testing.T) {
	for _, op := range []int{0, -1, 6, 7, 255, 256, 257, 258, 259, 260, 261, -255, math.MinInt, math.MaxInt} {
		holdEachOp(t, func(x *impl.Command) { x.Op = op }, never)
		wantCommandOk(t, impl.Command{Op: op}, false)
	}
	for _, n := range []int{1, 2, 127, 128, 400000, 400001, 999999, 1000000} {
		holdEachOp(t, func(x *impl.Command) { x.Token = n }, only(2, 3, 4, 5))
		holdEachOp(t, func(x *impl.Command) { x.Seq = n }, only(2, 3, 4, 5))
		holdEachOp(t, func(x *impl.Command) { x.Upto = n }, only(4))
	}
	holdEachOp(t, func(x *impl.Command) { x.Token = 0 }, always)
	holdEachOp(t, func(x *impl.Command) { x.Seq = 0 }, always)
	holdEachOp(t, func(x *impl.Command) { x.Token, x.Seq = 0, 0 }, always)
	holdEachOp(t, func(x *impl.Command) { x.Upto = 0 }, always)
	for _, n := range []int{-1, -2, 1000001, 1000002, 1000000000, math.MinInt, math.MaxInt} {
		holdEachOp(t, func(x *impl.Command) { x.Token = n }, never)
		holdEachOp(t, func(x *impl.Command) { x.Seq = n }, never)
		holdEachOp(t, func(x *impl.Command) { x.Upto = n }, never)
		holdEachOp(t, func(x *impl.Command) { x.Dest = n }, never)
	}
	holdEachOp(t, func(x *impl.Command) { x.Dest = 0 }, only(1, 2, 3, 5))
	holdEachOp(t, func(x *impl.Command) { x.Dest = 1 }, only(4))
	holdEachOp(t, func(x *impl.Command) { x.Dest = 2 }, only(4))
	holdEachOp(t, func(x *impl.Command) { x.Dest = 3 }, never)
	holdEachOp(t, func(x *impl.Command) { *x = impl.Command{Op: x.Op} }, only(1, 5))
	// An empty list and nil are the same value.
	holdEachOp(t, func(x *impl.Command) { x.Event.Levels = []int{} }, always)
	holdEachOp(t, func(x *impl.Command) {
		if x.Op != impl.OpReceive {
			x.Event.Prev = make([]int, 0, 4)
		}
	}, always)
}

// Each field of the event, in commands that use one and in those that do not.
func TestCommandOkOfEvents(t *testing.T) {
	holdEachOp(t, func(x *impl.Command) { x.Event = impl.Event{} }, only(1, 4, 5))
	holdEachOp(t, func(x *impl.Command) { x.Event.Id = 0 }, only(1, 2, 4, 5))
	for _, id := range edgeIndexes {
		holdEachOp(t, func(x *impl.Command) { x.Event.Id = id }, func(op int) bool {
			return op == impl.OpReceive && id%2 == 1
		})
	}
	for _, id := range []int{-1, -3, 1000001, 1000003, math.MinInt, math.MaxInt} {
		holdEachOp(t, func(x *impl.Command) { x.Event.Id = id }, never)
	}
	for _, kind := range []int{-1, 6, 7, 256, 261, math.MinInt, math.MaxInt} {
		holdEachOp(t, func(x *impl.Command) { x.Event.Kind = kind }, never)
	}
	holdEachOp(t, func(x *impl.Command) { x.Event.Kind = 0 }, only(1, 4, 5))
	holdEachOp(t, func(x *impl.Command) { x.Event.Sender = 0 }, only(1, 4, 5))
	for _, sender := range edgeUsers {
		holdEachOp(t, func(x *impl.Command) { x.Event.Sender = sender }, only(2, 3))
	}
	holdEachOp(t, func(x *impl.Command) { x.Event.Sender = 6 }, never)
	holdEachOp(t, func(x *impl.Command) { x.Event.Sender = -1 }, never)
	holdEachOp(t, func(x *impl.Command) { x.Event.User = 1 }, never)
	holdEachOp(t, func(x *impl.Command) { x.Event.Member = 1 }, never)
	holdEachOp(t, func(x *impl.Command) { x.Event.Levels = []int{0} }, never)
	holdEachOp(t, func(x *impl.Command) { x.Event.Levels = []int{0, 0, 0, 0, 0} }, never)
	holdEachOp(t, func(x *impl.Command) { x.Event.Text = "" }, always)
	holdEachOp(t, func(x *impl.Command) { x.Event.Text = "\x00" }, only(2, 3))
	holdEachOp(t, func(x *impl.Command) { x.Event.Text = longText(24) }, only(2, 3))
	holdEachOp(t, func(x *impl.Command) { x.Event.Text = longText(25) }, never)
	for _, prev := range [][]int{{1}, {2}, {8}, {1, 2}, {1, 2, 3}, {1000000}} {
		holdEachOp(t, func(x *impl.Command) { x.Event.Prev = prev }, only(3))
	}
	for _, prev := range [][]int{{0}, {1000001}, {2, 1}, {1, 1}, {31}, {1, 2, 3, 4}, {-1}} {
		holdEachOp(t, func(x *impl.Command) { x.Event.Prev = prev }, never)
	}
	holdEachOp(t, func(x *impl.Command) { x.Event.Prev = nil }, only(1, 2, 4, 5))
	holdEachOp(t, func(x *impl.Command) { x.Event.Depth = 0 }, always)
	for _, depth := range []int{1, 2, 1000000} {
		holdEachOp(t, func(x *impl.Command) { x.Event.Depth = depth }, only(3))
	}
	holdEachOp(t, func(x *impl.Command) { x.Event.Depth = -1 }, never)
	holdEachOp(t, func(x *impl.Command) { x.Event.Depth = 1000001 }, never)
}

// Events of each Kind, as they are sent and as they come, and with each thing changed.
func TestCommandOkOfEachKind(t *testing.T) {
	right := map[string]int{}
	for _, e := range rightEvents() {
		wantCommandOk(t, receiving(1, 1, e), e.Id%2 == 1)
		wantCommandOk(t, sending(1, 1, e), true)
		wantCommandOk(t, impl.Command{Op: impl.OpSend, Token: 1, Seq: 1, Event: e}, false)
		wantCommandOk(t, receiving(1, 1, placed(0, 0, e)), false)
	}
	for kind, e := range baseEvents() {
		for _, e := range append(eventChanges(e), e) {
			for what, x := range map[string]impl.Command{"sent": sending(1, 1, e), "placed": {Op: impl.OpSend, Token: 1, Seq: 1, Event: e}, "come": receiving(1, 1, e), "come odd": receiving(1, 1, at(e.Id|1, e.Depth, e))} {
				want := rightCommandByHand(x)
				wantCommandOk(t, x, want)
				right[fmt.Sprint(what, " ", want)]++
			}
		}
		// Of the place of an event nothing may stand in what is sent.
		wantCommandOk(t, sending(1, 1, e), true)
		for _, change := range []func(e *impl.Event){func(e *impl.Event) { e.Id = 2 }, func(e *impl.Event) { e.Id = 1 }, func(e *impl.Event) { e.Id = -1 }, func(e *impl.Event) { e.Depth = 1 }, func(e *impl.Event) { e.Depth = -1 }, func(e *impl.Event) { e.Prev = []int{1} }, func(e *impl.Event) { e.Prev = []int{0} }} {
			x := sending(1, 1, e)
			change(&x.Event)
			wantCommandOk(t, x, false)
		}
		// What comes has all of it; a Kind that makes a room names none.
		wantCommandOk(t, receiving(1, 1, at(e.Id|1, e.Depth, e)), true)
		wantCommandOk(t, receiving(1, 1, at(e.Id|1+1, e.Depth, e)), false)
		wantCommandOk(t, receiving(1, 1, placed(e.Id|1, e.Depth, e)), kind == impl.KindCreate)
		wantCommandOk(t, receiving(1, 1, placed(e.Id|1, e.Depth, e, 2)), kind != impl.KindCreate)
	}
	for _, what := range []string{"sent true", "sent false", "placed false", "come true", "come false", "come odd true", "come odd false"} {
		if right[what] < 5 {
			t.Errorf("of the commands there are %v", right)
		}
	}
}

func wantDraft(t *testing.T, r impl.Room, index int, e, want impl.Event) {
	t.Helper()
	if byHand := draftByHand(r, index, e); !sameEvent(byHand, want) {
		t.Fatalf("the test is wrong: the Draft at %d is %s, and not %s", index, shownEvent(byHand), shownEvent(want))
	}
	before, event := copyRoom(r), copyEvent(e)
	if got := impl.Draft(r, index, e); !sameEvent(got, want) {
		t.Errorf("Draft(a room of %s, %d, %s) = %s; want %s", shownRoom(r), index, shownEvent(e), shownEvent(got), shownEvent(want))
	}
	if !sameRoom(r, before) || !sameEvent(e, event) {
		t.Fatalf("Draft of %s wrote into its arguments", shownEvent(e))
	}
}

// wideRoom has so many ends: behind the event 2 one deeper than the other, the lesser the Id.
func wideRoom(t *testing.T, ends int) impl.Room {
	t.Helper()
	events := []impl.Event{placed(1, 0, create(1)), placed(2, 1, member(1, 1, impl.Joined), 1)}
	inner := 500
	for at := range ends {
		ahead := 2
		for depth := range ends - at - 1 {
			events = append(events, placed(inner, 2+depth, say(1), ahead))
			ahead = inner
			inner++
		}
		events = append(events, placed(10+at, 1+ends-at, say(1), ahead))
	}
	return roomOf(t, events...)
}

func TestDraft(t *testing.T) {
	empty := impl.Room{}
	one := roomOf(t, trunk()...)
	for _, r := range []impl.Room{empty, one, wideRoom(t, 2), wideRoom(t, 3), wideRoom(t, 4), wideRoom(t, 5)} {
		for _, e := range baseEvents() {
			for _, index := range []int{0, 1, 2, 3, 5, 399999, 400000, 400001, 500000, 500001, 999999, 1000000, -1, -2, 1000001, 1000002, 1 << 62, math.MinInt, math.MaxInt} {
				wantDraft(t, r, index, e, draftByHand(r, index, e))
			}
		}
	}
	plain := func(r impl.Room, index, id int) {
		t.Helper()
		wantDraft(t, r, index, say(1), placed(id, 5, say(1), 5))
	}
	plain(one, 9, 18)
	plain(one, 1, 2)
	plain(one, 0, 0)
	plain(one, 400000, 800000)
	plain(one, 1000000, 2000000)
	plain(one, -1, 0)
	plain(one, 1000001, 0)
	plain(one, math.MinInt, 0)
	plain(one, math.MaxInt, 0)
	// A room without anything: none is ahead.
	wantDraft(t, empty, 9, say(1), placed(18, 0, say(1)))
	wantDraft(t, empty, 9, create(1), placed(18, 0, create(1)))
	// A Kind that makes a room names none, whatever there is.
	for _, r := range []impl.Room{one, wideRoom(t, 3), wideRoom(t, 5)} {
		wantDraft(t, r, 9, create(2), placed(18, 0, create(2)))
	}
	// The greatest Ids, and one more than the greatest Depth of these, not of those that are left out.
	for _, c := range []struct {
		ends  int
		depth int
		prev  []int
	}{{1, 3, []int{10}}, {2, 4, []int{10, 11}}, {3, 5, []int{10, 11, 12}}, {4, 5, []int{11, 12, 13}}, {5, 5, []int{12, 13, 14}}, {6, 5, []int{13, 14, 15}}} {
		wantDraft(t, wideRoom(t, c.ends), 50, name(2), placed(100, c.depth, name(2), c.prev...))
	}
}

// What an event already has as its place is gone, and all else stays, also what is not right.
func TestDraftOfPlacedEvents(t *testing.T) {
	r := roomOf(t, trunk()...)
	for kind, e := range baseEvents() {
		for _, id := range []int{-1, 0, 7, 1000001} {
			for _, depth := range []int{-1, 0, 9, math.MaxInt} {
				for _, prev := range [][]int{nil, {1}, {1, 2, 3, 4}, {9, 9}, {0}} {
					want := placed(18, 5, e, 5)
					if kind == impl.KindCreate {
						want = placed(18, 0, e)
					}
					wantDraft(t, r, 9, placed(id, depth, e, prev...), want)
				}
			}
		}
	}
	for _, e := range []impl.Event{{}, {Kind: 9, Sender: -4, User: 77, Member: 78, Levels: []int{5, -5}, Text: longText(300)}, {Kind: impl.KindCreate, Levels: []int{1}, Text: "x"}, {Kind: -1}} {
		want := placed(18, 5, e, 5)
		if e.Kind == impl.KindCreate {
			want = placed(18, 0, e)
		}
		wantDraft(t, r, 9, e, want)
	}
	// Rooms that are not right: what EndsOf and DepthOf say of them.
	wantDraft(t, eventRoom(linked(5, -3, 4), linked(-2, 7), linked(0, 2)), 3, say(1), placed(6, 8, say(1), -2, 0, 5))
	wantDraft(t, eventRoom(linked(5, -3), linked(5, 9), linked(5, 2)), 3, say(1), placed(6, 0, say(1), 5))
	wantDraft(t, eventRoom(linked(5, math.MaxInt)), 3, say(1), placed(6, 1000001, say(1), 5))
	wantDraft(t, eventRoom(linked(5, 1, 6), linked(6, 1, 5)), 3, say(1), placed(6, 0, say(1)))
}

func TestDraftOfDrawnRooms(t *testing.T) {
	next := draws(131)
	ends := map[int]int{}
	for range 300 {
		r := drawnEvents(t, next, 8+next(10))
		ends[min(len(endsByHand(r)), 4)]++
		for _, e := range []impl.Event{drawnMove(next, r, 500), drawnEvent(next)} {
			index := next(1000)
			wantDraft(t, r, index, e, draftByHand(r, index, e))
		}
	}
	if ends[1] < 5 || ends[2] < 5 || ends[3] < 5 || ends[4] < 5 {
		t.Errorf("of the rooms drawn so many have so many ends: %v", ends)
	}
}

// wrongHalls are those of each of which one thing is not right.
func wrongHalls() (list []impl.Hall) {
	for _, change := range []func(h *impl.Hall){
		func(h *impl.Hall) { withTokens(h, 1, 2, 3, 4) }, func(h *impl.Hall) { withTokens(h, 0, 1) }, func(h *impl.Hall) { withTokens(h, 2, 1) }, func(h *impl.Hall) { withTokens(h, 1, 1) }, func(h *impl.Hall) { withTokens(h, 1, 1000001) },
		func(h *impl.Hall) { h.Sessions[0].Last = -1 }, func(h *impl.Hall) { h.Sessions[1].Last = 1000001 }, func(h *impl.Hall) { h.Sessions[1].Last = 0 }, func(h *impl.Hall) { h.Sessions[0].Reply = longText(41) },
		func(h *impl.Hall) { h.Room.Good[4] = true }, func(h *impl.Hall) { h.Room.Good = h.Room.Good[:3] }, func(h *impl.Hall) { h.Room.States[11] = nil }, func(h *impl.Hall) { h.Room.Events[11].Depth++ }, func(h *impl.Hall) { h.Room = impl.Room{} },
		func(h *impl.Hall) { h.Outs = nil }, func(h *impl.Hall) { h.Outs = h.Outs[:1] }, func(h *impl.Hall) { slices.Reverse(h.Outs) }, func(h *impl.Hall) { h.Outs[0].Acked = -1 }, func(h *impl.Hall) { h.Outs[1].Acked = 9 }, func(h *impl.Hall) { h.Outs[1].Ids = h.Outs[1].Ids[1:] }, func(h *impl.Hall) { h.Outs[0].Ids = append(h.Outs[0].Ids, 13) },
		func(h *impl.Hall) { *h = impl.Hall{} },
	} {
		list = append(list, changedHall(change))
	}
	return list
}

// Each reason for false, whatever else is asked.
func TestPerformRefuses(t *testing.T) {
	all := append(everyAsk(1, 13), opening(), sending(1, 12, say(1)), sending(1, 14, say(1)), sending(7, 1, say(1)), sending(1, 0, say(1)))
	for _, h := range wrongHalls() {
		wantHallOk(t, h, false)
		for _, x := range all {
			refusePerform(t, h, 402, x)
		}
	}
	h := handHall()
	for _, index := range []int{0, -1, -2, 400001, 400002, 500000, 1000000, 1000001, math.MinInt, math.MaxInt} {
		for _, x := range all {
			refusePerform(t, h, index, x)
		}
	}
	for _, index := range []int{1, 2, 399999, 400000} {
		for _, x := range all {
			holdPerform(t, h, index, x)
		}
	}
	for op, x := range baseCommands() {
		for _, change := range []func(x *impl.Command){
			func(x *impl.Command) { x.Op = 0 }, func(x *impl.Command) { x.Op = 6 }, func(x *impl.Command) { x.Token = -1 }, func(x *impl.Command) { x.Token = 1000001 }, func(x *impl.Command) { x.Seq = -1 }, func(x *impl.Command) { x.Seq = 1000001 },
			func(x *impl.Command) { x.Dest = 3 }, func(x *impl.Command) { x.Upto = -1 }, func(x *impl.Command) { x.Upto = 1000001 }, func(x *impl.Command) { x.Event.Id = 4 }, func(x *impl.Command) { x.Event.Depth = -1 }, func(x *impl.Command) { x.Event.Prev = []int{2, 2} }, func(x *impl.Command) { x.Event.Levels = []int{1} }, func(x *impl.Command) { x.Event.Text = longText(25) }, func(x *impl.Command) { x.Event.User = 2 },
		} {
			c := x
			change(&c)
			wantCommandOk(t, c, false)
			refusePerform(t, h, 402, c)
			// Also where the session is not there, or it is asked again.
			c.Token, c.Seq = x.Token, x.Seq
			if op != impl.OpOpen && !rightCommandByHand(c) {
				c.Token, c.Seq = 1, 12
				refusePerform(t, h, 402, c)
			}
		}
	}
	refusePerform(t, impl.Hall{}, 0, impl.Command{})
	refusePerform(t, h, 1, impl.Command{})
	refusePerform(t, impl.HallNew(), 1, impl.Command{Op: impl.OpOpen, Token: 1})
	refusePerform(t, impl.HallNew(), 1, impl.Command{Op: impl.OpOpen, Seq: 1})
}

func wantTokens(t *testing.T, h impl.Hall, want ...int) {
	t.Helper()
	var tokens []int
	for _, s := range h.Sessions {
		tokens = append(tokens, s.Token)
	}
	if !slices.Equal(tokens, want) {
		t.Errorf("the Tokens are %v; want %v", tokens, want)
	}
}

func TestOpen(t *testing.T) {
	h := wantReply(t, impl.HallNew(), 5, opening(), "open 5")
	wantTokens(t, h, 5)
	h = wantReply(t, h, 9, opening(), "open 9")
	wantTokens(t, h, 5, 9)
	h = wantReply(t, h, 10, opening(), "open 10")
	wantTokens(t, h, 5, 9, 10)
	h = wantReply(t, h, 11, askingWho(5, 1), "in")
	h = wantReply(t, h, 12, askingWho(9, 1), "in")
	// The one with the least Token is gone, and with it what it asked for.
	h = wantReply(t, h, 400000, opening(), "open 400000")
	wantTokens(t, h, 9, 10, 400000)
	if want := []impl.Session{{Token: 9, Last: 1, Reply: "in"}, {Token: 10}, {Token: 400000}}; !slices.Equal(h.Sessions, want) {
		t.Errorf("the sessions are %v; want %v", h.Sessions, want)
	}
	wantStays(t, h, 400000, askingWho(5, 1), "none")
	wantStays(t, h, 400000, askingWho(5, 2), "none")
	h = wantReply(t, h, 399999, opening(), "open 399999")
	wantTokens(t, h, 10, 399999, 400000)
	// The new one itself, when it has the least Token.
	wantStays(t, h, 9, opening(), "open 9")
	h.Sessions[1] = impl.Session{Token: 399999, Last: 4, Reply: "acked"}
	between := wantReply(t, h, 11, opening(), "open 11")
	wantTokens(t, between, 11, 399999, 400000)
	// One Token stands for one session, which begins anew.
	anew := wantReply(t, h, 399999, opening(), "open 399999")
	wantTokens(t, anew, 10, 399999, 400000)
	if anew.Sessions[1] != (impl.Session{Token: 399999}) {
		t.Errorf("a session that is opened anew is %v", anew.Sessions[1])
	}
	// Nothing else of the hall changes.
	for _, index := range []int{1, 2, 3, 402, 400000} {
		then, _ := holdPerform(t, handHall(), index, opening())
		if want := handHall(); !sameRoom(then.Room, want.Room) || !slices.EqualFunc(then.Outs, want.Outs, sameOut) {
			t.Errorf("with a session that is opened the hall becomes %s", shownHall(then))
		}
	}
	// Sessions whose Tokens are beyond all indexes.
	h = impl.HallNew()
	withTokens(&h, 999999, 1000000)
	wantTokens(t, wantReply(t, h, 7, opening(), "open 7"), 7, 999999, 1000000)
	withTokens(&h, 999998, 999999, 1000000)
	wantStays(t, h, 400000, opening(), "open 400000")
}

// wantMade is a hall of which just this was changed; the session 1 has asked for 13 and was replied.
func wantMade(t *testing.T, index int, x impl.Command, reply string, change func(h *impl.Hall)) {
	t.Helper()
	want := copyHall(handHall())
	want.Sessions[0].Last, want.Sessions[0].Reply = 13, reply
	change(&want)
	wantPerformed(t, handHall(), index, x, want, reply)
	wantReply(t, handHall(), index, x, reply)
}

func nothing(*impl.Hall) {}

// added puts an event behind the room, in whose last state it tells these Items.
func added(e impl.Event, good bool, items ...impl.Item) func(h *impl.Hall) {
	return func(h *impl.Hall) {
		s := slices.Clone(h.Room.States[len(h.Room.States)-1])
		for _, item := range items {
			s = putStateByHand(s, item.Key, item.Id)
		}
		h.Room.Events, h.Room.States, h.Room.Good = append(h.Room.Events, e), append(h.Room.States, s), append(h.Room.Good, good)
		if good && e.Id%2 == 0 {
			h.Outs[0].Ids, h.Outs[1].Ids = append(h.Outs[0].Ids, e.Id), append(h.Outs[1].Ids, e.Id)
		}
	}
}

func TestSend(t *testing.T) {
	// Each Kind, sent: it is in the room behind its one end, and to be sent on to each.
	wantMade(t, 402, sending(1, 13, say(3)), "sent 804", added(placed(804, 10, say(3), 13), true))
	wantMade(t, 402, sending(1, 13, name(1)), "sent 804", added(placed(804, 10, name(1), 13), true, impl.Item{Key: 3, Id: 804}))
	wantMade(t, 402, sending(1, 13, power(1, 60, 50, 0, 0, 9)), "sent 804", added(placed(804, 10, power(1, 60, 50, 0, 0, 9), 13), true, impl.Item{Key: 2, Id: 804}))
	wantMade(t, 402, sending(1, 13, member(3, 3, impl.Left)), "sent 804", added(placed(804, 10, member(3, 3, impl.Left), 13), true, impl.Item{Key: 13, Id: 804}))
	wantMade(t, 400000, sending(1, 13, say(1)), "sent 800000", added(placed(800000, 10, say(1), 13), true))
	wantMade(t, 1, sending(1, 13, say(1)), "sent 2", added(placed(2, 10, say(1), 13), true))
	wantMade(t, 402, sending(1, 13, create(3)), "sent 804", func(h *impl.Hall) {
		added(placed(804, 0, create(3)), true)(h)
		h.Room.States[12] = []impl.Item{{Key: 1, Id: 804}}
	})
	// Denied: just the session tells of it.
	for _, e := range []impl.Event{say(4), say(5), name(3), power(2, 100, 100, 0, 0, 0), power(3, 100, 50, 0, 0, 0), member(1, 1, impl.Banned), member(1, 4, impl.Joined), member(4, 4, impl.Joined), member(3, 2, impl.Left)} {
		wantMade(t, 402, sending(1, 13, e), "denied", nothing)
	}
	// The Id is in the room already; this is asked ahead of whether it is allowed.
	for _, index := range []int{4, 6, 7, 15, 24} {
		wantMade(t, index, sending(1, 13, say(1)), "room", nothing)
		wantMade(t, index, sending(1, 13, say(4)), "room", nothing)
		wantMade(t, index, sending(1, 13, create(1)), "room", nothing)
	}
	// An Id that is odd in the room does not stand in its way, nor does a denied one.
	wantMade(t, 5, sending(1, 13, say(1)), "sent 10", added(placed(10, 10, say(1), 13), true))
	wantMade(t, 401, sending(1, 13, say(1)), "sent 802", added(placed(802, 10, say(1), 13), true))
	// In a room without anything there is nothing but to make it.
	h := hallOf(impl.Room{}, impl.Session{Token: 1})
	for _, e := range []impl.Event{say(1), name(1), power(1, 0, 0, 0, 0, 0), member(1, 1, impl.Joined), member(1, 2, impl.Invited)} {
		then := wantReply(t, h, 9, sending(1, 1, e), "room")
		if len(then.Room.Events) > 0 || then.Sessions[0].Last != 1 {
			t.Errorf("%s makes of a new hall %s", shownEvent(e), shownHall(then))
		}
	}
	made := wantReply(t, h, 9, sending(1, 1, create(4)), "sent 18")
	if want := hallOf(roomOf(t, placed(18, 0, create(4))), impl.Session{Token: 1, Last: 1, Reply: "sent 18"}); !equalHalls(made, want) {
		t.Errorf("a hall whose room is made is %s; want %s", shownHall(made), shownHall(want))
	}
	// As many events as there may be.
	full := fullHall(t)
	for _, e := range []impl.Event{say(1), say(4), create(1), name(1)} {
		then := wantReply(t, full, 402, sending(1, 1, e), "room")
		if !sameRoom(then.Room, full.Room) || then.Sessions[0].Reply != "room" {
			t.Errorf("%s makes of a full hall %s", shownEvent(e), shownHall(then))
		}
	}
	last := hallOf(fullRoom(t, 39), impl.Session{Token: 1})
	wantReply(t, wantReply(t, last, 402, sending(1, 1, say(1)), "sent 804"), 403, sending(1, 2, say(1)), "room")
}

// What is sent stands behind all ends, the greatest three where there are more.
func TestSendBehindEnds(t *testing.T) {
	for _, c := range []struct {
		ends, depth int
		prev        []int
	}{{2, 4, []int{10, 11}}, {3, 5, []int{10, 11, 12}}, {4, 5, []int{11, 12, 13}}, {5, 5, []int{12, 13, 14}}} {
		h := hallOf(wideRoom(t, c.ends), impl.Session{Token: 1})
		then := wantReply(t, h, 402, sending(1, 1, say(1)), "sent 804")
		if got, want := then.Room.Events[len(then.Room.Events)-1], placed(804, c.depth, say(1), c.prev...); !sameEvent(got, want) {
			t.Errorf("of a room with %d ends %s is sent; want %s", c.ends, shownEvent(got), shownEvent(want))
		}
	}
}

func TestReceive(t *testing.T) {
	// What is allowed is got; what is not is kept: both are in the room, and neither is sent on.
	wantMade(t, 402, receiving(1, 13, placed(15, 10, say(3), 13)), "got 15", added(placed(15, 10, say(3), 13), true))
	wantMade(t, 402, receiving(1, 13, placed(999999, 10, name(1), 13)), "got 999999", added(placed(999999, 10, name(1), 13), true, impl.Item{Key: 3, Id: 999999}))
	wantMade(t, 402, receiving(1, 13, placed(1, 10, say(4), 13)), "kept 1", added(placed(1, 10, say(4), 13), false))
	wantMade(t, 402, receiving(1, 13, placed(15, 10, member(2, 1, impl.Banned), 13)), "kept 15", added(placed(15, 10, member(2, 1, impl.Banned), 13), false))
	wantMade(t, 402, receiving(1, 13, placed(15, 0, create(5))), "got 15", func(h *impl.Hall) {
		added(placed(15, 0, create(5)), true)(h)
		h.Room.States[12] = []impl.Item{{Key: 1, Id: 15}}
	})
	// Behind an earlier event it finds the room as it was there.
	wantMade(t, 402, receiving(1, 13, placed(15, 1, say(1), 8)), "kept 15", func(h *impl.Hall) {
		added(placed(15, 1, say(1), 8), false)(h)
		h.Room.States[12] = []impl.Item{{Key: 1, Id: 8}}
	})
	// The index plays no part in it.
	for _, index := range []int{1, 4, 7, 400000} {
		wantMade(t, index, receiving(1, 13, placed(15, 10, say(3), 13)), "got 15", added(placed(15, 10, say(3), 13), true))
	}
	// Refused by AddEvent: the Id is there, one it names is not, or its Depth is another one.
	for _, e := range []impl.Event{placed(3, 10, say(3), 13), placed(13, 9, say(3), 48), placed(5, 3, say(3), 14), placed(15, 10, say(3), 16), placed(15, 10, say(3), 13, 15+2), placed(15, 9, say(3), 13), placed(15, 11, say(3), 13), placed(15, 0, say(3), 13), placed(15, 1, create(5))} {
		wantMade(t, 402, receiving(1, 13, e), "room", nothing)
	}
	full := fullHall(t)
	wantReply(t, full, 402, receiving(1, 1, placed(201, 40, say(1), 40)), "room")
	last := hallOf(fullRoom(t, 39), impl.Session{Token: 1})
	h := wantReply(t, last, 402, receiving(1, 1, placed(201, 39, say(1), 39)), "got 201")
	wantReply(t, h, 403, receiving(1, 2, placed(203, 40, say(1), 201)), "room")
	wantReply(t, wantReply(t, last, 402, receiving(1, 1, placed(201, 39, say(5), 39)), "kept 201"), 403, receiving(1, 2, placed(203, 40, say(1), 201)), "room")
	// The first event of a room comes from elsewhere.
	fresh := hallOf(impl.Room{}, impl.Session{Token: 1})
	wantReply(t, fresh, 1, receiving(1, 1, placed(7, 0, create(2))), "got 7")
	wantReply(t, fresh, 1, receiving(1, 1, placed(7, 1, say(2), 5)), "room")
}

func TestAcked(t *testing.T) {
	for at := range 2 {
		for _, acked := range []int{0, 1, 3, 7, 8} {
			for upto, want := range map[int]int{0: acked, 1: max(acked, 1), 2: max(acked, 2), 3: max(acked, 3), 7: max(acked, 7), 8: 8, 9: 8, 10: 8, 48: 8, 1000000: 8} {
				h := changedHall(func(h *impl.Hall) { h.Outs[at].Acked = acked })
				then := copyHall(h)
				then.Sessions[1] = impl.Session{Token: 2, Last: 13, Reply: "acked"}
				then.Outs[at].Acked = want
				wantPerformed(t, h, 402, acking(2, 13, at+1, upto), then, "acked")
				wantReply(t, h, 402, acking(2, 13, at+1, upto), "acked")
			}
		}
	}
	wantMade(t, 402, acking(1, 13, 1, 0), "acked", nothing)
	wantMade(t, 402, acking(1, 13, 1, 4), "acked", nothing)
	wantMade(t, 402, acking(1, 13, 1, 6), "acked", func(h *impl.Hall) { h.Outs[0].Acked = 6 })
	wantMade(t, 402, acking(1, 13, 2, 6), "acked", func(h *impl.Hall) { h.Outs[1].Acked = 6 })
	wantMade(t, 402, acking(1, 13, 2, 9), "acked", func(h *impl.Hall) { h.Outs[1].Acked = 8 })
	// Nothing is to be sent on yet; once there is, what was acked stays as it was.
	h := wantReply(t, hallOf(impl.Room{}, impl.Session{Token: 1}), 9, acking(1, 1, 1, 5), "acked")
	h = wantReply(t, h, 10, sending(1, 2, create(1)), "sent 20")
	if h.Outs[0].Acked != 0 || h.Outs[1].Acked != 0 {
		t.Errorf("acked are %v", h.Outs)
	}
}

func TestOpMembers(t *testing.T) {
	wantMade(t, 402, askingWho(1, 13), "in 1 2 3", nothing)
	wantReply(t, hallOf(impl.Room{}, impl.Session{Token: 1}), 9, askingWho(1, 1), "in")
	wantReply(t, hallOf(roomOf(t, trunk()[:1]...), impl.Session{Token: 1}), 9, askingWho(1, 1), "in")
	wantReply(t, hallOf(roomOf(t, trunk()[:2]...), impl.Session{Token: 1}), 9, askingWho(1, 1), "in 1")
	wantReply(t, hallOf(roomOf(t, forkedRoom().events...), impl.Session{Token: 1}), 9, askingWho(1, 1), "in 1")
	// All that there may be, and without the first.
	h := hallOf(roomOf(t, trunk()...), impl.Session{Token: 1})
	seq := 1
	tell := func(e impl.Event) {
		t.Helper()
		h = wantReply(t, h, 100+seq, sending(1, seq, e), fmt.Sprint("sent ", 2*(100+seq)))
		seq++
	}
	for user := 3; user <= 5; user++ {
		tell(member(1, user, impl.Invited))
		tell(member(user, user, impl.Joined))
	}
	wantReply(t, h, 300, askingWho(1, seq), "in 1 2 3 4 5")
	tell(member(1, 1, impl.Left))
	wantReply(t, h, 300, askingWho(1, seq), "in 2 3 4 5")
	tell(member(2, 4, impl.Banned))
	wantReply(t, h, 300, askingWho(1, seq), "in 2 3 5")
}

// Promise 13 of drawn lives, some of which fill the room: each reply is seen here.
func TestDrawnHalls(t *testing.T) {
	next := draws(132)
	count := map[string]int{}
	for round := range 40 {
		h, done := impl.HallNew(), map[[2]int]string{}
		for index := 1; index <= 50+3*round; index++ {
			x := drawnAsk(next, h, index)
			before := h
			var reply string
			h, reply = holdPerform(t, h, index, x)
			word, _, _ := strings.Cut(reply, " ")
			count[fmt.Sprint(x.Op, " ", word)]++
			holdOnce(t, before, h, x, reply, done)
			holdSent(t, before, h, index, reply)
		}
		wantHallOk(t, h, true)
		count[fmt.Sprint("events over ", len(h.Room.Events)/10*10)]++
	}
	for _, what := range []string{"1 open", "2 none", "2 gap", "2 old", "2 room", "2 denied", "2 sent", "3 none", "3 gap", "3 old", "3 room", "3 got", "3 kept", "4 acked", "4 old", "4 none", "5 in", "5 gap", "5 old", "2 got", "3 sent", "5 sent", "events over 30", "events over 40"} {
		if count[what] < 3 {
			t.Errorf("of the commands drawn there are %v; too few of %q", count, what)
		}
	}
}

// drawnAsk is something that a session may ask for at an index, most often the next thing.
func drawnAsk(next func(int) int, h impl.Hall, index int) impl.Command {
	if len(h.Sessions) == 0 || next(30) == 0 {
		return opening()
	}
	s := h.Sessions[next(len(h.Sessions))]
	token, seq := s.Token, s.Last+1
	switch next(12) {
	case 0:
		seq = s.Last
	case 1:
		seq = []int{0, s.Last + 2, max(s.Last-1, 0), s.Last + 9}[next(4)]
	case 2:
		token = []int{0, max(token-1, 0), token + 1}[next(3)]
	}
	if len(h.Room.Events) == 0 && next(4) > 0 {
		return sending(token, seq, create(1))
	}
	e := say(1 + next(2))
	if len(h.Room.Events) > 0 {
		e = drawnMove(next, h.Room, 2*index-1)
	}
	if next(3) > 0 {
		lead := []impl.Event{member(1, 1, impl.Joined), member(1, 2, impl.Invited), member(2, 2, impl.Joined), say(1), power(1, 100, 60, 0, 0, 0)}
		e = placed(e.Id, e.Depth, lead[next(len(lead))], e.Prev...)
		if len(e.Prev) == 0 {
			e.Depth, e = 0, placed(e.Id, 0, create(1))
		}
	}
	switch next(8) {
	case 0, 1, 2:
		return sending(token, seq, e)
	case 3, 4, 5:
		if next(12) == 0 {
			e.Depth++
		}
		return receiving(token, seq, e)
	case 6:
		return acking(token, seq, 1+next(2), next(12))
	}
	return askingWho(token, seq)
}

// holdOnce is promise 13: what was done is replied the same, and leaves all as it is; of the rest nothing but the next one does anything.
func holdOnce(t *testing.T, before, h impl.Hall, x impl.Command, reply string, done map[[2]int]string) {
	t.Helper()
	if x.Op == impl.OpOpen {
		return
	}
	asked := [2]int{x.Token, x.Seq}
	was, twice := done[asked]
	if twice && reply != was && reply != "old" && reply != "none" {
		t.Fatalf("%s was replied %q, and now %q", shownCommand(x), was, reply)
	}
	changed := !equalHalls(before, h)
	if changed && (twice || reply == "none" || reply == "gap" || reply == "old") {
		t.Fatalf("%s, replied %q, makes of %s the hall %s", shownCommand(x), reply, shownHall(before), shownHall(h))
	}
	if changed {
		done[asked] = reply
		if again, same, ok := impl.Perform(h, 399999, x); !ok || same != reply || !equalHalls(again, h) {
			t.Fatalf("%s, replied %q, is replied %q when asked again", shownCommand(x), reply, same)
		}
	}
}

// holdSent is promise 13: what is sent is in the room, Good, and the last of what is to be sent on; and nothing else is.
func holdSent(t *testing.T, before, h impl.Hall, index int, reply string) {
	t.Helper()
	id := 2 * index
	at := placeByHand(h.Room, id)
	sent := reply == fmt.Sprint("sent ", id)
	if sent != (at >= 0) || sent && !h.Room.Good[at] {
		t.Fatalf("replied %q, with the room %s", reply, shownRoom(h.Room))
	}
	for place, out := range h.Outs {
		want := slices.Clone(before.Outs[place].Ids)
		if sent {
			want = append(want, id)
		}
		if !slices.Equal(out.Ids, want) || out.Acked < before.Outs[place].Acked {
			t.Fatalf("replied %q, the outs go from %v to %v", reply, before.Outs, h.Outs)
		}
	}
}

// commandByHand is the text of a command, also of one that is not right.
func commandByHand(x impl.Command) string {
	text := confByHand([]int{x.Op}) + numberByHand(x.Token) + numberByHand(x.Seq)
	e := x.Event
	switch x.Op {
	case impl.OpSend:
		text += confByHand([]int{e.Kind, e.Sender, e.User, e.Member}) + numberByHand(len(e.Levels)) + confByHand(e.Levels) + numberByHand(len(e.Text)) + e.Text
	case impl.OpReceive:
		text += numberByHand(len(eventByHand(e))) + eventByHand(e)
	case impl.OpAcked:
		text += numberByHand(x.Dest) + numberByHand(x.Upto)
	}
	return text
}

// foldByHand does each command that is found in an entry by trial, one behind the other.
func foldByHand(h impl.Hall, list []impl.Entry, index int) (impl.Hall, []string) {
	h = copyHall(h)
	replies := make([]string, len(list))
	right := rightHallByHand(h)
	for at, e := range list {
		x, ok := commandByTrial(e.Data)
		if right && ok && e.Kind == 3 && index+at >= 1 && index+at <= 400000 {
			h, replies[at] = performByHand(h, index+at, x)
		}
	}
	return h, replies
}

func holdFold(t *testing.T, h impl.Hall, list []impl.Entry, index int) (impl.Hall, []string) {
	t.Helper()
	want, replies := foldByHand(h, list, index)
	before, entries := copyHall(h), slices.Clone(list)
	got, told := impl.Fold(h, list, index)
	if !equalHalls(got, want) || !slices.Equal(told, replies) {
		t.Fatalf("Fold(%s, %d entries, %d) = %s, %q; want %s, %q", shownHall(h), len(list), index, shownHall(got), told, shownHall(want), replies)
	}
	if !equalHalls(h, before) || !slices.Equal(list, entries) {
		t.Fatal("Fold wrote into its arguments")
	}
	return got, told
}

// wantFoldStays is of entries that do nothing.
func wantFoldStays(t *testing.T, h impl.Hall, list []impl.Entry, index int) {
	t.Helper()
	got, told := holdFold(t, h, list, index)
	if !equalHalls(got, h) || !slices.Equal(told, make([]string, len(list))) {
		t.Errorf("Fold(%s, %d entries, %d) = %s, %q; want the hall as it is, and nothing replied", shownHall(h), len(list), index, shownHall(got), told)
	}
}

// wrongCommandTexts are those of no command.
func wrongCommandTexts() []string {
	list := []string{"", "x", "\x00", "\x06\x01\x01", "\xff", "open 1", longText(120), longText(121), longText(30000), "\x01", "\x01\x00", "\x01\x00\x00\x00", "\x05\x01", "\x05\x81\x00\x01"}
	for _, x := range append(everyAsk(1, 13), opening()) {
		text := commandByHand(x)
		list = append(list, text[:len(text)-1], text+"\x00", "\x00"+text, strings.Replace(text, text[:1], "\x07", 1))
	}
	return list
}

func TestFoldOfNothing(t *testing.T) {
	open := commandByHand(opening())
	for _, h := range []impl.Hall{impl.HallNew(), handHall(), fullHall(t)} {
		for _, index := range []int{1, 0, -1, 402, 400000, 400001, math.MinInt, math.MaxInt} {
			wantFoldStays(t, h, nil, index)
			wantFoldStays(t, h, []impl.Entry{}, index)
			wantFoldStays(t, h, []impl.Entry{none(1), confEntry(1, 1, 2, 3), none(100001), {}, {Kind: 4, Data: open}, {Kind: -1, Data: open}, {Kind: impl.EntryNone, Data: open}, {Kind: impl.EntryConf, Data: open}}, index)
			for _, text := range wrongCommandTexts() {
				wantFoldStays(t, h, []impl.Entry{command(1, text), none(1), command(2, text)}, index)
			}
		}
	}
}

// A hall that is not right stays as it is, whatever is asked; so it does where no index is right.
func TestFoldRefuses(t *testing.T) {
	var list []impl.Entry
	for _, s := range handSteps() {
		list = append(list, command(1, commandByHand(s.ask)))
	}
	for _, h := range wrongHalls() {
		wantFoldStays(t, h, list, 1)
		wantFoldStays(t, h, nil, 1)
	}
	for _, index := range []int{-len(list), -len(list) + 1, 400001, 1000000, math.MinInt, math.MaxInt, math.MaxInt - 3} {
		wantFoldStays(t, impl.HallNew(), list, index)
		wantFoldStays(t, handHall(), list, index)
	}
}

// Each command at its index: the steps by hand, with other entries between them, and in pieces.
func TestFold(t *testing.T) {
	var list []impl.Entry
	steps := handSteps()
	for index := 1; index <= steps[len(steps)-1].index; index++ {
		list = append(list, []impl.Entry{none(index), confEntry(index, 1, 2), command(index, "nothing"), command(index, commandByHand(impl.Command{Op: 4}))}[index%4])
		for _, s := range steps {
			if s.index == index {
				list[index-1] = command(index, commandByHand(s.ask))
			}
		}
	}
	want := make([]string, len(list))
	for _, s := range steps {
		want[s.index-1] = s.reply
	}
	h, replies := holdFold(t, impl.HallNew(), list, 1)
	if !slices.Equal(replies, want) {
		t.Errorf("Fold replies %q; want %q", replies, want)
	}
	if !equalHalls(h, handHall()) {
		t.Errorf("Fold makes %s; want %s", shownHall(h), shownHall(handHall()))
	}
	for cut := range 40 {
		first, told := holdFold(t, impl.HallNew(), list[:cut], 1)
		second, more := holdFold(t, first, list[cut:], 1+cut)
		if !equalHalls(second, h) || !slices.Equal(append(told, more...), replies) {
			t.Errorf("Fold in two pieces, cut at %d, makes %s", cut, shownHall(second))
		}
	}
	// The first one's index is another one: what hangs on it changes.
	for _, index := range []int{2, 17, 399000, 399599, 399990, 400000, 0, -1, -30} {
		holdFold(t, impl.HallNew(), list, index)
		holdFold(t, handHall(), list, index)
	}
	// Fields of an entry that do not count.
	open := commandByHand(opening())
	holdFold(t, handHall(), []impl.Entry{{Term: -5, Kind: impl.EntryCommand, Data: open}, {Term: math.MaxInt, Kind: impl.EntryCommand, Data: open}}, 402)
}

// Commands of each Op in bytes, written out by hand, the first of them at the index 7.
func TestFoldOfBytes(t *testing.T) {
	entries := []struct{ data, reply string }{
		{"\x01\x00\x00", "open 7"},
		{"\x02\x07\x01\x01\x01\x00\x00\x00\x00", "sent 16"},
		{"", ""},
		{"\x02\x07\x02\x02\x01\x01\x02\x00\x00", "sent 20"},
		{"\x01\x00\x00", "open 11"},
		{"\x03\x0b\x01\x0c\x05\x05\x02\x00\x00\x00\x02hi\x01\x14\x02", "kept 5"},
		{"\x04\x0b\x02\x02\x01", "acked"},
		{"\x05\x07\x03", "in 1"},
		{"\x05\x07\x03", "in 1"},
		{"\x05\x07\x09", "gap"},
		{"\x05\x07\x01", "old"},
		{"\x05\x09\x01", "none"},
		{"\x02\x07\x04\x05\x02\x00\x00\x00\x02yo", "denied"},
		{"\x02\x0b\x03\x05\x01\x00\x00\x00\x00", "sent 40"},
		{"\x03\x0b\x04\x0b\x07\x04\x01\x00\x00\x00\x01r\x01\x05\x03", "got 7"},
		{"\x04\x07\x05\x01\xc0\x84\x3d", "acked"},
		{"\x06\x07\x06", ""},
	}
	var list []impl.Entry
	var want []string
	for _, e := range entries {
		list, want = append(list, command(1, e.data)), append(want, e.reply)
	}
	joined := []impl.Item{{Key: 1, Id: 16}, {Key: 11, Id: 20}}
	room := impl.Room{
		Events: []impl.Event{placed(16, 0, create(1)), placed(20, 1, member(1, 1, impl.Joined), 16), placed(5, 2, say(2), 20), placed(40, 3, worded("", say(1)), 5), placed(7, 3, worded("r", name(1)), 5)},
		States: [][]impl.Item{joined[:1], joined, joined, joined, {{Key: 1, Id: 16}, {Key: 3, Id: 7}, {Key: 11, Id: 20}}},
		Good:   []bool{true, true, false, true, true},
	}
	then := impl.Hall{
		Sessions: []impl.Session{{Token: 7, Last: 5, Reply: "acked"}, {Token: 11, Last: 4, Reply: "got 7"}},
		Room:     room,
		Outs:     []impl.Out{{Dest: 1, Acked: 3, Ids: []int{16, 20, 40}}, {Dest: 2, Acked: 1, Ids: []int{16, 20, 40}}},
	}
	if h, replies := holdFold(t, impl.HallNew(), list, 7); !slices.Equal(replies, want) || !equalHalls(h, then) {
		t.Errorf("Fold makes %s, and replies %q; want %s, %q", shownHall(h), replies, shownHall(then), want)
	}
	// Of another Kind the same Data are nothing.
	for _, kind := range []int{impl.EntryNone, impl.EntryConf, 0, 4, -3} {
		others := slices.Clone(list)
		for at := range others {
			others[at].Kind = kind
		}
		wantFoldStays(t, impl.HallNew(), others, 7)
	}
	// A command is done at its place in the list, behind the first one's index, where that is one at which it may be.
	open := slices.Repeat([]impl.Entry{command(1, "\x01\x00\x00")}, 4)
	for index, want := range map[int][]string{
		-1: {"", "", "open 1", "open 2"}, -2: {"", "", "", "open 1"}, 0: {"", "open 1", "open 2", "open 3"}, 100: {"open 100", "open 101", "open 102", "open 103"},
		399997: {"open 399997", "open 399998", "open 399999", "open 400000"}, 399999: {"open 399999", "open 400000", "", ""}, 400000: {"open 400000", "", "", ""},
	} {
		if _, replies := holdFold(t, impl.HallNew(), open, index); !slices.Equal(replies, want) {
			t.Errorf("Fold from the index %d on replies %q; want %q", index, replies, want)
		}
	}
}

func TestDrawnFolds(t *testing.T) {
	next := draws(133)
	for range 60 {
		h, index := impl.HallNew(), 1+next(5)
		var list []impl.Entry
		first, at := h, index
		for range 40 {
			x := drawnAsk(next, h, index)
			list = append(list, command(1, commandByHand(x)))
			h, _ = performByHand(h, index, x)
			index++
			if next(5) == 0 {
				list = append(list, none(1))
				index++
			}
		}
		holdFold(t, first, list, at)
		holdFold(t, h, list, at)
	}
}

// roomyHall is a copy with room behind every list, in which something stands.
func roomyHall(h impl.Hall) impl.Hall {
	c := impl.Hall{Room: roomyRoom(h.Room)}
	c.Sessions = append(slices.Clone(h.Sessions), impl.Session{Token: 71, Last: 72, Reply: "behind"}, impl.Session{Token: 73})[:len(h.Sessions)]
	for _, out := range h.Outs {
		c.Outs = append(c.Outs, impl.Out{Dest: out.Dest, Acked: out.Acked, Ids: roomyInts(out.Ids)})
	}
	c.Outs = append(c.Outs, impl.Out{Dest: 74}, impl.Out{Dest: 75})[:len(h.Outs)]
	return c
}

// allOfHall shows a hall with all that stands behind its lists.
func allOfHall(h impl.Hall) string {
	text := allOfRoom(h.Room, nil) + fmt.Sprint(h.Sessions[:cap(h.Sessions)], h.Outs[:cap(h.Outs)])
	for _, out := range h.Outs {
		text += fmt.Sprint(out.Ids[:cap(out.Ids)])
	}
	return text
}

// hallParts are all lists of numbers in a hall, each with what writes into it and behind it, then those that hold others.
func hallParts(h impl.Hall) []func() {
	fills := parts(h.Room)
	for _, out := range h.Outs {
		fills = append(fills, func() {
			for at := range out.Ids[:cap(out.Ids)] {
				out.Ids[:cap(out.Ids)][at] = -77
			}
		})
	}
	return append(fills, func() { clear(h.Sessions[:cap(h.Sessions)]) }, func() { clear(h.Outs[:cap(h.Outs)]) }, func() { clear(h.Room.Events[:cap(h.Room.Events)]) }, func() { clear(h.Room.States[:cap(h.Room.States)]) })
}

// Nothing is written into an argument or behind it, and no answer shares memory with one.
func TestHallsAreNew(t *testing.T) {
	asks := append(everyAsk(1, 13), opening(), sending(1, 12, say(1)), sending(1, 14, say(1)), sending(7, 1, say(1)), receiving(1, 13, placed(15, 10, power(1, 100, 50, 0, 0, 9), 13)), sending(1, 13, power(1, 100, 50, 0, 0, 9)))
	for _, x := range asks {
		for _, index := range []int{402, 2, 1} {
			h, x := roomyHall(handHall()), x
			x.Event.Levels, x.Event.Prev = roomyInts(x.Event.Levels), roomyInts(x.Event.Prev)
			list := append([]impl.Entry{command(1, commandByHand(x)), none(1)}, command(1, "behind"))[:2]
			draft := say(1)
			draft.Prev = roomyInts(draft.Prev)
			before := func() string {
				return allOfHall(h) + fmt.Sprint(x, x.Event.Levels[:cap(x.Event.Levels)], x.Event.Prev[:cap(x.Event.Prev)], list[:cap(list)], draft.Prev[:cap(draft.Prev)])
			}
			was := before()
			answer := func() []impl.Hall {
				got, _, ok := impl.Perform(h, index, x)
				folded, replies := impl.Fold(h, list, index)
				stays, _ := impl.Fold(h, nil, index)
				if !ok || len(replies) != 2 {
					t.Fatalf("Perform of %s is %v", shownCommand(x), ok)
				}
				clear(replies[:cap(replies)])
				return []impl.Hall{got, folded, stays}
			}
			first, second := answer(), answer()
			drafted := []impl.Event{impl.Draft(h.Room, index, x.Event), impl.Draft(h.Room, index, draft)}
			again := []impl.Event{impl.Draft(h.Room, index, x.Event), impl.Draft(h.Room, index, draft)}
			impl.HallOk(h)
			impl.CommandOk(x)
			if before() != was {
				t.Fatalf("written into an argument, or behind it: %s", shownCommand(x))
			}
			want, wantDrafts := shownHalls(second), fmt.Sprint(again)
			for _, got := range first {
				for _, fill := range hallParts(got) {
					fill()
				}
			}
			for _, e := range drafted {
				clear(e.Prev[:cap(e.Prev)])
				clear(e.Levels[:cap(e.Levels)])
			}
			if before() != was {
				t.Fatalf("an answer shares memory with an argument: %s", shownCommand(x))
			}
			if shownHalls(second) != want || fmt.Sprint(again) != wantDrafts {
				t.Fatalf("two answers share memory: %s", shownCommand(x))
			}
			for _, fill := range hallParts(h) {
				fill()
			}
			clear(x.Event.Levels)
			clear(x.Event.Prev)
			clear(draft.Prev)
			clear(list)
			if shownHalls(second) != want || fmt.Sprint(again) != wantDrafts {
				t.Fatalf("an answer changes with an argument: %s", shownCommand(x))
			}
		}
	}
}

func shownHalls(halls []impl.Hall) (text string) {
	for _, h := range halls {
		text += fmt.Sprintf("%v%v%v%v%v\n", h.Sessions, h.Outs, h.Room.Events, h.Room.States, h.Room.Good)
	}
	return text
}

// No two lists of one hall that is answered share memory, though those that came in do.
func TestListsOfHallsAreApart(t *testing.T) {
	for _, x := range append(everyAsk(1, 13), opening(), askingWho(1, 12)) {
		h := handHall()
		h.Outs[1].Ids = h.Outs[0].Ids
		h.Room.States[9] = h.Room.States[7]
		h.Room.States[4] = h.Room.States[2]
		h.Room.Events[4].Prev = h.Room.Events[3].Prev
		h.Room.Events[8].Prev = h.Room.Events[6].Prev
		count := len(hallParts(wantAnswer(t, h, x)))
		for at := range count {
			answer := wantAnswer(t, h, x)
			want := copyHall(answer)
			fills := hallParts(answer)
			fills[at]()
			if at >= count-4 {
				continue
			}
			unlike := 0
			for place := range want.Outs {
				unlike += differ(slices.Equal(answer.Outs[place].Ids, want.Outs[place].Ids))
			}
			for place := range want.Room.Events {
				unlike += differ(slices.Equal(answer.Room.Events[place].Prev, want.Room.Events[place].Prev)) + differ(slices.Equal(answer.Room.Events[place].Levels, want.Room.Events[place].Levels)) + differ(slices.Equal(answer.Room.States[place], want.Room.States[place]))
			}
			if unlike > 1 {
				t.Fatalf("with one list of the hall that %s makes %d change", shownCommand(x), unlike)
			}
		}
	}
}

func differ(same bool) int {
	if same {
		return 0
	}
	return 1
}

func wantAnswer(t *testing.T, h impl.Hall, x impl.Command) impl.Hall {
	t.Helper()
	got, _, ok := impl.Perform(h, 402, x)
	if !ok {
		t.Fatalf("Perform is false of %s", shownCommand(x))
	}
	return got
}

func TestTextsOfHallsAreNew(t *testing.T) {
	h := handHall()
	h.Sessions[1].Reply = strings.Clone("a reply")
	got, reply, _ := impl.Perform(h, 402, askingWho(2, 12))
	if reply != "a reply" || liesIn(reply, h.Sessions[1].Reply) || liesIn(got.Sessions[1].Reply, h.Sessions[1].Reply) || liesIn(reply, got.Sessions[1].Reply) {
		t.Error("Perform answers with the memory of its hall")
	}
	got, reply, _ = impl.Perform(h, 402, askingWho(2, 13))
	if reply != "in 1 2 3" || liesIn(reply, got.Sessions[1].Reply) || liesIn(got.Room.Events[5].Text, h.Room.Events[5].Text) {
		t.Error("two texts of Perform's answer share memory")
	}
	text := strings.Clone("something")
	for _, x := range []impl.Command{sending(2, 13, worded(text, say(1))), receiving(2, 13, placed(15, 10, worded(text, say(1)), 13))} {
		got, _, _ := impl.Perform(h, 402, x)
		if e := got.Room.Events[12]; e.Text != text || liesIn(e.Text, text) {
			t.Error("Perform answers with the memory of its command")
		}
	}
	if e := impl.Draft(h.Room, 402, worded(text, say(1))); e.Text != text || liesIn(e.Text, text) {
		t.Error("Draft answers with the memory of its event")
	}
	if got, _ := impl.Fold(h, nil, 1); liesIn(got.Sessions[1].Reply, h.Sessions[1].Reply) || liesIn(got.Room.Events[5].Text, h.Room.Events[5].Text) {
		t.Error("Fold answers with the memory of its hall")
	}
}

// drawnHall is anything, more or less like a hall.
func drawnHall(t *testing.T, next func(int) int) impl.Hall {
	t.Helper()
	h := handHall()
	if next(3) == 0 {
		h = hallOf(drawnEvents(t, next, 8), impl.Session{Token: 1, Last: 2, Reply: "x"})
	}
	numbers := slices.Concat([]int{1, 2, 3, 5, 7, 8, 12, 13}, wrongUsers, wrongIndex)
	drawn := func() int { return numbers[next(len(numbers))] }
	for next(3) > 0 {
		switch next(9) {
		case 0:
			h.Sessions = append(h.Sessions, impl.Session{Token: drawn(), Last: drawn(), Reply: longText(next(60))})
		case 1:
			h.Sessions = h.Sessions[:next(len(h.Sessions)+1)]
		case 2:
			h.Outs = append(h.Outs, impl.Out{Dest: drawn(), Acked: drawn()})
		case 3:
			h.Outs = h.Outs[:next(len(h.Outs)+1)]
		case 4:
			for at := range h.Outs {
				h.Outs[at].Acked = drawn()
			}
		case 5:
			h.Room.Good = h.Room.Good[:next(len(h.Room.Good)+1)]
		case 6:
			h.Room.States = h.Room.States[:next(len(h.Room.States)+1)]
		case 7:
			h.Room.Events = h.Room.Events[:next(len(h.Room.Events)+1)]
		case 8:
			h.Room = impl.Room{}
		}
	}
	return h
}

// Whatever comes, all functions answer; and the same once more.
func TestHallsAnswerAtAll(t *testing.T) {
	next := draws(134)
	numbers := slices.Concat([]int{1, 1, 1, 1, 2, 2, 2, 3, 3, 12, 13, 402}, wrongUsers, wrongIndex)
	drawn := func() int { return numbers[next(len(numbers))] }
	right := map[string]int{}
	for range 6000 {
		h := drawnHall(t, next)
		x := impl.Command{Op: 1 + next(5), Token: 1 + next(2), Seq: 12 + next(3)}
		if x.Op == impl.OpSend || x.Op == impl.OpReceive || next(9) == 0 {
			x.Event = drawnEvent(next)
		}
		if x.Op == impl.OpSend && next(9) > 0 {
			x.Event.Id, x.Event.Depth, x.Event.Prev = 0, 0, nil
		}
		if x.Op == impl.OpAcked {
			x.Dest, x.Upto = 1+next(3), next(12)
		}
		for next(4) == 0 {
			switch next(5) {
			case 0:
				x.Op = drawn()
			case 1:
				x.Token = drawn()
			case 2:
				x.Seq = drawn()
			case 3:
				x.Dest = drawn()
			case 4:
				x.Upto = drawn()
			}
		}
		index := drawn()
		var list []impl.Entry
		for range next(4) {
			list = append(list, impl.Entry{Term: drawn(), Kind: next(5), Data: commandByHand(opening()) + longText(next(3))})
		}
		answers := func() string {
			then, reply, ok := impl.Perform(h, index, x)
			folded, replies := impl.Fold(h, list, index)
			return fmt.Sprint(impl.HallOk(h), impl.CommandOk(x), impl.Draft(h.Room, index, x.Event), then, reply, ok, folded, replies)
		}
		if first, second := answers(), answers(); first != second {
			t.Fatalf("two answers to the same: %s and %s", first, second)
		}
		hallOk, commandOk := rightHallByHand(h), rightCommandByHand(x)
		wantHallOk(t, h, hallOk)
		wantCommandOk(t, x, commandOk)
		wantDraft(t, h.Room, index, x.Event, draftByHand(h.Room, index, x.Event))
		holdFold(t, h, list, index)
		right[fmt.Sprint("hall ", hallOk)]++
		right[fmt.Sprint("command ", commandOk)]++
		if hallOk && commandOk && index >= 1 && index <= 400000 {
			right["all"]++
			holdPerform(t, h, index, x)
		} else {
			refusePerform(t, h, index, x)
		}
	}
	if right["all"] < 200 || right["hall true"] < 500 || right["hall false"] < 500 || right["command true"] < 500 || right["command false"] < 500 {
		t.Errorf("of what was drawn is right: %v", right)
	}
}

// Long lists: each is refused, or gone through, in no long time.
func TestLongHalls(t *testing.T) {
	const size = 200000
	h := handHall()
	for _, change := range []func(h *impl.Hall){
		func(h *impl.Hall) {
			for token := range size {
				h.Sessions = append(h.Sessions, impl.Session{Token: token + 3})
			}
		},
		func(h *impl.Hall) { h.Outs = append(h.Outs, make([]impl.Out, size)...) },
		func(h *impl.Hall) { h.Outs[1].Ids = append(h.Outs[1].Ids, make([]int, size)...) },
		func(h *impl.Hall) { h.Sessions[0].Reply = longText(size) },
		func(h *impl.Hall) {
			h.Room.Events, h.Room.States, h.Room.Good = append(h.Room.Events, make([]impl.Event, size)...), append(h.Room.States, make([][]impl.Item, size)...), append(h.Room.Good, make([]bool, size)...)
		},
		func(h *impl.Hall) { h.Room.Events[11].Prev = make([]int, size) },
	} {
		long := copyHall(h)
		change(&long)
		if impl.HallOk(long) {
			t.Error("HallOk is true of a hall with a long list")
		}
		refusePerform(t, long, 402, opening())
		if got, replies := impl.Fold(long, make([]impl.Entry, 3), 402); !equalHalls(got, long) || len(replies) != 3 {
			t.Error("Fold does not leave a hall with a long list as it is")
		}
		impl.Draft(long.Room, 402, say(1))
	}
	wide := say(1)
	wide.Prev, wide.Text, wide.Levels = make([]int, size), longText(size), make([]int, size)
	for op := range 7 {
		wantCommandOk(t, impl.Command{Op: op, Event: wide}, false)
	}
	// Many entries, of which most do something.
	var list []impl.Entry
	for at := range size / 4 {
		x := askingWho(1, 1+at)
		if at%2 == 0 {
			x = sending(1, 1+at, say(1))
		}
		list = append(list, command(1, commandByHand(x)))
	}
	got, replies := impl.Fold(fullHall(t), list, 402)
	if len(replies) != len(list) || !impl.HallOk(got) {
		t.Errorf("Fold of many entries has %d replies", len(replies))
	}
}
