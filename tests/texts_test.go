package tests

import (
	"fmt"
	"math"
	"slices"
	"strings"
	"testing"

	"loop.example/g00127/impl"
)

// field is a piece of a text: a number, which may be told in a longer form, or bytes (number -1).
type field struct {
	text   string
	number int
}

func num(n int) field    { return field{numberByHand(n), n} }
func raw(s string) field { return field{s, -1} }
func textOf(list []field) (text string) {
	for _, f := range list {
		text += f.text
	}
	return text
}

// shortFields are the length of what these come to, and these.
func shortFields(list []field) []field { return append([]field{num(len(textOf(list)))}, list...) }

func bytesFields(list ...int) (fields []field) {
	for _, n := range list {
		fields = append(fields, raw(confByHand([]int{n})))
	}
	return fields
}

func numbersFields(list ...int) (fields []field) {
	for _, n := range list {
		fields = append(fields, num(n))
	}
	return fields
}

// eventPieces are the fields of an event's text, each by itself.
func eventPieces(e impl.Event) []field {
	return slices.Concat(numbersFields(e.Id), placelessPieces(e), numbersFields(len(e.Prev)), numbersFields(e.Prev...), numbersFields(e.Depth))
}

// placelessPieces are what stands of an event in a command that sends it.
func placelessPieces(e impl.Event) []field {
	return slices.Concat(bytesFields(e.Kind, e.Sender, e.User, e.Member), numbersFields(len(e.Levels)), bytesFields(e.Levels...), shortFields([]field{raw(e.Text)}))
}

// hallPieces are the fields of a hall's text, also of one that is not right; those of an event are one, behind its length.
func hallPieces(h impl.Hall) []field {
	fields := numbersFields(len(h.Sessions))
	for _, s := range h.Sessions {
		fields = append(fields, num(s.Token), num(s.Last), num(len(s.Reply)), raw(s.Reply))
	}
	fields = append(fields, num(len(h.Room.Events)))
	for _, e := range h.Room.Events {
		fields = append(fields, shortFields([]field{raw(eventByHand(e))})...)
	}
	for _, out := range h.Outs {
		fields = append(fields, num(out.Acked))
	}
	return fields
}

func hallByHand(h impl.Hall) string { return textOf(hallPieces(h)) }

// commandPieces are the fields of a command's text, each by itself.
func commandPieces(x impl.Command) []field {
	fields := append(bytesFields(x.Op), num(x.Token), num(x.Seq))
	switch x.Op {
	case 2:
		return append(fields, placelessPieces(x.Event)...)
	case 3:
		return append(fields, shortFields(eventPieces(x.Event))...)
	case 4:
		return append(fields, num(x.Dest), num(x.Upto))
	}
	return fields
}

// loose takes fields as they come, with longer forms of numbers, and with fewer bytes than are told of.
type loose struct {
	rest string
	cut  bool
}

func (l *loose) take(size int) string {
	l.cut = l.cut || size > len(l.rest)
	taken := l.rest[:min(size, len(l.rest))]
	l.rest = l.rest[len(taken):]
	return taken
}

func (l *loose) number() (n int) {
	size := 1 + strings.IndexFunc(l.rest, func(r rune) bool { return r < 128 })
	bytes := l.take(max(size, 1))
	for at := min(len(bytes), 8) - 1; at >= 0; at-- {
		n = n*128 + int(bytes[at])%128
	}
	return n
}

func (l *loose) oneByte() int { return int(append([]byte(l.take(1)), 0)[0]) }

// commandByTrial takes the fields as they come, and asks for the text of that.
func commandByTrial(text string) (impl.Command, bool) {
	l := &loose{rest: text}
	var x impl.Command
	x.Op = l.oneByte()
	x.Token = l.number()
	x.Seq = l.number()
	switch e := &x.Event; x.Op {
	case 2:
		e.Kind = l.oneByte()
		e.Sender = l.oneByte()
		e.User = l.oneByte()
		e.Member = l.oneByte()
		for _, b := range []byte(l.take(l.number())) {
			e.Levels = append(e.Levels, int(b))
		}
		e.Text = l.take(l.number())
	case 3:
		*e, _ = eventByTrial(l.take(l.number()))
	case 4:
		x.Dest = l.number()
		x.Upto = l.number()
	}
	if l.cut || !rightCommandByHand(x) || commandByHand(x) != text {
		return impl.Command{}, false
	}
	return x, true
}

// hallByTrial takes the fields as they come, lets the events into a room one by one, and asks for the text of the hall.
func hallByTrial(text string) (impl.Hall, bool) {
	l := &loose{rest: text}
	h := impl.Hall{Outs: []impl.Out{{Dest: 1}, {Dest: 2}}}
	for range min(l.number(), 4) {
		var s impl.Session
		s.Token = l.number()
		s.Last = l.number()
		s.Reply = l.take(l.number())
		h.Sessions = append(h.Sessions, s)
	}
	var events []impl.Event
	for range min(l.number(), 41) {
		e, ok := eventByTrial(l.take(l.number()))
		if !ok {
			return impl.Hall{}, false
		}
		events = append(events, e)
	}
	h.Outs[0].Acked = l.number()
	h.Outs[1].Acked = l.number()
	h.Room.Events = events
	if l.cut || hallByHand(h) != text {
		return impl.Hall{}, false
	}
	h.Room = impl.Room{}
	for _, e := range events {
		var ok bool
		if h.Room, ok = addByHand(h.Room, e); !ok {
			return impl.Hall{}, false
		}
	}
	// The room is right by now; the sessions are held as those of a hall without one.
	ids := sentByHand(h.Room)
	if h.Outs[0].Acked > len(ids) || h.Outs[1].Acked > len(ids) || !rightHallByHand(hallOf(impl.Room{}, h.Sessions...)) {
		return impl.Hall{}, false
	}
	h.Outs[0].Ids, h.Outs[1].Ids = ids, slices.Clone(ids)
	return h, true
}

func sameCommand(a, b impl.Command) bool {
	return a.Op == b.Op && a.Token == b.Token && a.Seq == b.Seq && a.Dest == b.Dest && a.Upto == b.Upto && sameEvent(a.Event, b.Event)
}

func copyCommand(x impl.Command) impl.Command {
	x.Event = copyEvent(x.Event)
	return x
}

func wantHall(t *testing.T, text string, want impl.Hall) {
	t.Helper()
	if h, ok := impl.ReadHall(text); !ok || !equalHalls(h, want) {
		t.Fatalf("ReadHall(%.300q) = %s, %v; want %s, true", text, shownHall(h), ok, shownHall(want))
	}
}

func refuseHall(t *testing.T, text string) {
	t.Helper()
	if h, ok := impl.ReadHall(text); ok || !noHall(h) {
		t.Fatalf("ReadHall(%.300q) of %d bytes = %s, %v; want nothing", text, len(text), shownHall(h), ok)
	}
}

// holdHallText holds ReadHall against what trial finds in the text, and says whether that is a hall.
func holdHallText(t *testing.T, text string) bool {
	t.Helper()
	h, ok := hallByTrial(text)
	if !ok {
		refuseHall(t, text)
		return false
	}
	wantHall(t, text, h)
	if again, ok := impl.HallText(h); !ok || again != text {
		t.Fatalf("HallText(%s), read from %q, is %q, %v", shownHall(h), text, again, ok)
	}
	return true
}

// holdHallBytes holds a hall to be right or wrong in what HallText tells of it; a right one comes back.
func holdHallBytes(t *testing.T, h impl.Hall, right bool) {
	t.Helper()
	before := copyHall(h)
	text, ok := impl.HallText(h)
	if ok != right || right && text != hallByHand(h) || !right && text != "" {
		t.Fatalf("HallText(%s) = %.300q, %v; want %v", shownHall(h), text, ok, right)
	}
	if !equalHalls(h, before) {
		t.Fatalf("HallText wrote into its hall: %s", shownHall(h))
	}
	if right {
		wantHall(t, text, h)
	}
}

func wantCommand(t *testing.T, text string, want impl.Command) {
	t.Helper()
	if x, ok := impl.ReadCommand(text); !ok || !sameCommand(x, want) {
		t.Fatalf("ReadCommand(%.80q) = %s, %v; want %s, true", text, shownCommand(x), ok, shownCommand(want))
	}
}

func refuseCommand(t *testing.T, text string) {
	t.Helper()
	if x, ok := impl.ReadCommand(text); ok || !sameCommand(x, impl.Command{}) {
		t.Fatalf("ReadCommand(%.80q) of %d bytes = %s, %v; want nothing", text, len(text), shownCommand(x), ok)
	}
}

// holdCommandText holds ReadCommand against what trial finds in the text, and says whether that is a command.
func holdCommandText(t *testing.T, text string) bool {
	t.Helper()
	x, ok := commandByTrial(text)
	if !ok {
		refuseCommand(t, text)
		return false
	}
	wantCommand(t, text, x)
	if again, ok := impl.CommandText(x); !ok || again != text {
		t.Fatalf("CommandText(%s), read from %q, is %q, %v", shownCommand(x), text, again, ok)
	}
	if !impl.CommandOk(x) {
		t.Fatalf("what is read from %q is not right: %s", text, shownCommand(x))
	}
	return true
}

// holdCommand holds a command to be right or wrong in its text, and in what is read from the text by hand.
func holdCommand(t *testing.T, x impl.Command, right bool) {
	t.Helper()
	if rightCommandByHand(x) != right {
		t.Fatalf("the test is wrong: of the command %s it says %v", shownCommand(x), right)
	}
	before := copyCommand(x)
	text, ok := impl.CommandText(x)
	if ok != right || right && text != commandByHand(x) || !right && text != "" {
		t.Fatalf("CommandText(%s) = %.80q, %v; want %v", shownCommand(x), text, ok, right)
	}
	if !sameCommand(x, before) {
		t.Fatalf("CommandText wrote into its command: %s", shownCommand(x))
	}
	if right {
		wantCommand(t, text, x)
	} else {
		// What does not stand in the text may be what was wrong, or a byte may hold less than was told: then it is another command's.
		holdCommandText(t, commandByHand(x))
	}
}

// smallHall has a session, three events of which the last is from elsewhere and not allowed, and Acked.
func smallHall() impl.Hall {
	joined := []impl.Item{{Key: 1, Id: 4}, {Key: 11, Id: 6}}
	return impl.Hall{
		Sessions: []impl.Session{{Token: 300, Last: 2, Reply: "sent 6"}},
		Room: impl.Room{
			Events: []impl.Event{placed(4, 0, create(1)), placed(6, 1, member(1, 1, impl.Joined), 4), placed(7, 2, say(2), 6)},
			States: [][]impl.Item{joined[:1], joined, joined},
			Good:   []bool{true, true, false},
		},
		Outs: []impl.Out{{Dest: 1, Acked: 1, Ids: []int{4, 6}}, {Dest: 2, Acked: 2, Ids: []int{4, 6}}},
	}
}

// mixedHall has Good events and others, with even and odd Ids of each; the Outs have the even Ids that are Good alone.
func mixedHall() impl.Hall {
	joined := []impl.Item{{Key: 1, Id: 2}, {Key: 11, Id: 6}}
	return impl.Hall{
		Room: impl.Room{
			Events: []impl.Event{placed(2, 0, create(1)), placed(4, 1, say(2), 2), placed(6, 1, member(1, 1, impl.Joined), 2), placed(7, 2, say(1), 6), placed(9, 2, say(2), 6), placed(8, 3, name(1), 7, 9)},
			States: [][]impl.Item{joined[:1], joined[:1], joined, joined, joined, {{Key: 1, Id: 2}, {Key: 3, Id: 8}, {Key: 11, Id: 6}}},
			Good:   []bool{true, false, true, true, false, true},
		},
		Outs: []impl.Out{{Dest: 1, Acked: 3, Ids: []int{2, 6, 8}}, {Dest: 2, Ids: []int{2, 6, 8}}},
	}
}

// sessionsHall has as many sessions as there may be, at their limits.
func sessionsHall() impl.Hall {
	h := impl.HallNew()
	h.Sessions = []impl.Session{{Token: 1, Last: 1000000}, {Token: 127, Last: 128, Reply: longText(40)}, {Token: 1000000}}
	return h
}

// greatestHall has about the longest text: as many sessions and events as there may be, of long Ids, most of them with MaxWord bytes behind MaxPrev others.
func greatestHall(t *testing.T) impl.Hall {
	t.Helper()
	first := impl.MaxIndex - impl.MaxRoom + 1
	events := []impl.Event{placed(first, 0, create(1)), placed(first+1, 1, member(1, 1, impl.Joined), first)}
	for id := first + 2; id <= impl.MaxIndex; id++ {
		var prev []int
		for ahead := max(id-3, first+1); ahead < id; ahead++ {
			prev = append(prev, ahead)
		}
		events = append(events, placed(id, id-first, worded(longText(24), say(1)), prev...))
	}
	h := hallOf(roomOf(t, events...))
	for token := impl.MaxIndex - 2; token <= impl.MaxIndex; token++ {
		h.Sessions = append(h.Sessions, impl.Session{Token: token, Last: impl.MaxIndex, Reply: longText(40)})
	}
	h.Outs[0].Acked, h.Outs[1].Acked = 20, 19
	return h
}

// rightHalls are worked out by hand, or made of rooms that are.
func rightHalls(t *testing.T) []impl.Hall {
	t.Helper()
	list := []impl.Hall{impl.HallNew(), smallHall(), mixedHall(), sessionsHall(), handHall(), fullHall(t), greatestHall(t)}
	for _, h := range []happening{forkedRoom(), makers()} {
		for count := range len(h.events) + 1 {
			list = append(list, hallOf(roomOf(t, h.events[:count]...)))
		}
	}
	for ends := 1; ends <= 6; ends++ {
		list = append(list, hallOf(wideRoom(t, ends), impl.Session{Token: ends}))
	}
	for _, tokens := range [][]int{{1}, {1000000}, {127, 128}, {16383, 16384}, {1, 2, 3}, {999998, 999999, 1000000}} {
		list = append(list, changedHall(func(h *impl.Hall) { withTokens(h, tokens...) }))
	}
	for _, last := range edgeIndexes {
		for _, reply := range []string{"", "x", "\x00", "\x80", "\xff\x01", "in 1 2", longText(39), longText(40), strings.Repeat("\xff", 40)} {
			list = append(list, impl.Hall{Sessions: []impl.Session{{Token: last}, {Token: 1000000, Last: last, Reply: reply}}[last/1000000:], Outs: impl.HallNew().Outs})
		}
	}
	return list
}

func TestHallTextBytes(t *testing.T) {
	for _, c := range []struct {
		h    impl.Hall
		want string
	}{
		{impl.HallNew(), "\x00\x00\x00\x00"},
		{impl.Hall{Sessions: []impl.Session{{Token: 1}}, Outs: []impl.Out{{Dest: 1}, {Dest: 2}}}, "\x01\x01\x00\x00\x00\x00\x00"},
		{smallHall(), "\x01" + "\xac\x02\x02\x06sent 6" +
			"\x03" + "\x09\x04\x01\x01\x00\x00\x00\x00\x00\x00" + "\x0a\x06\x02\x01\x01\x02\x00\x00\x01\x04\x01" + "\x0c\x07\x05\x02\x00\x00\x00\x02hi\x01\x06\x02" +
			"\x01\x02"},
		{mixedHall(), "\x00" +
			"\x06" + "\x09\x02\x01\x01\x00\x00\x00\x00\x00\x00" + "\x0c\x04\x05\x02\x00\x00\x00\x02hi\x01\x02\x01" + "\x0a\x06\x02\x01\x01\x02\x00\x00\x01\x02\x01" +
			"\x0c\x07\x05\x01\x00\x00\x00\x02hi\x01\x06\x02" + "\x0c\x09\x05\x02\x00\x00\x00\x02hi\x01\x06\x02" + "\x0f\x08\x04\x01\x00\x00\x00\x04room\x02\x07\x09\x03" +
			"\x03\x00"},
		{sessionsHall(), "\x03" + "\x01\xc0\x84\x3d\x00" + "\x7f\x80\x01\x28" + longText(40) + "\xc0\x84\x3d\x00\x00" + "\x00\x00\x00"},
	} {
		if s, ok := impl.HallText(c.h); !ok || s != c.want {
			t.Errorf("HallText(%s) = %q, %v; want %q, true", shownHall(c.h), s, ok, c.want)
		}
		wantHall(t, c.want, c.h)
		wantHallOk(t, c.h, true)
	}
}

// Promise 14 of halls: each comes back from its bytes, with all that is not told there.
func TestHallsComeBack(t *testing.T) {
	for _, h := range rightHalls(t) {
		wantHallOk(t, h, true)
		text, ok := impl.HallText(h)
		if back, read := impl.ReadHall(text); !ok || !read || !equalHalls(back, h) || !impl.SameHall(back, h) || !impl.HallOk(back) {
			t.Errorf("%s comes back from %q as %s, %v, %v", shownHall(h), text, shownHall(back), ok, read)
		}
		holdHallBytes(t, h, true)
		if !holdHallText(t, hallByHand(h)) {
			t.Errorf("trial does not find the hall %s", shownHall(h))
		}
	}
	// Each Acked of each.
	for _, h := range []impl.Hall{smallHall(), mixedHall(), handHall()} {
		for first := range len(h.Outs[0].Ids) + 1 {
			for second := range len(h.Outs[1].Ids) + 1 {
				h.Outs[0].Acked, h.Outs[1].Acked = first, second
				holdHallBytes(t, h, true)
			}
		}
	}
}

// Promise 14 of halls that are drawn, at each step of a life, and of drawn rooms.
func TestDrawnHallsComeBack(t *testing.T) {
	next := draws(141)
	count := map[string]int{}
	for round := range 30 {
		h := impl.HallNew()
		for index := 1; index <= 40+4*round; index++ {
			h, _, _ = impl.Perform(h, index, drawnAsk(next, h, index))
			if index%7 == 0 || index > 36+4*round {
				holdHallBytes(t, h, true)
			}
		}
		count[fmt.Sprint("sessions ", len(h.Sessions))]++
		count[fmt.Sprint("events over ", len(h.Room.Events)/20*20)]++
	}
	for range 120 {
		h := hallOf(drawnEvents(t, next, 8+next(33)), impl.Session{Token: 1 + next(1000), Last: 1 + next(1000), Reply: longText(next(41))})
		h.Outs[0].Acked, h.Outs[1].Acked = next(len(h.Outs[0].Ids)+1), next(len(h.Outs[1].Ids)+1)
		holdHallBytes(t, h, true)
		for at, good := range h.Room.Good {
			count[fmt.Sprintf("%v %d", good, h.Room.Events[at].Id%2)]++
		}
		count[fmt.Sprint("acked ", min(h.Outs[0].Acked, 2))]++
	}
	for _, what := range []string{"sessions 2", "sessions 3", "events over 20", "events over 40", "true 0", "true 1", "false 0", "false 1", "acked 0", "acked 1", "acked 2"} {
		if count[what] < 2 {
			t.Errorf("of the halls drawn there are %v; too few of %q", count, what)
		}
	}
}

// No right hall has a text near MaxText: 3 sessions of at most 47 bytes, 40 events of at most 45, and 4 more come to 1945.
func TestHallTextOfTheGreatest(t *testing.T) {
	h := greatestHall(t)
	wantHallOk(t, h, true)
	holdHallBytes(t, h, true)
	if text, _ := impl.HallText(h); len(text) != 1+3*47+1+12+15+39+42+36*45+2 {
		t.Errorf("the text of the greatest hall has %d bytes", len(text))
	}
	text := hallByHand(h)
	for _, size := range []int{impl.MaxText - 1, impl.MaxText, impl.MaxText + 1, 2 * impl.MaxText} {
		refuseHall(t, text+strings.Repeat("\x00", size-len(text)))
		refuseHall(t, longText(size))
		refuseHall(t, strings.Repeat("\x00", size))
		// One long Reply, or one long event, brings a text to that length.
		long := impl.HallNew()
		long.Sessions = []impl.Session{{Token: 1, Last: 1, Reply: longText(size - 9)}}
		refuseHall(t, hallByHand(long))
		if len(hallByHand(long)) != size {
			t.Fatalf("the test is wrong: of %d bytes", len(hallByHand(long)))
		}
		holdHallBytes(t, long, false)
	}
}

// Each reason for which a hall is not right, by itself.
func TestHallTextRefuses(t *testing.T) {
	for _, h := range wrongHalls() {
		wantHallOk(t, h, false)
		holdHallBytes(t, h, false)
	}
	for _, r := range roomChanges(handHall().Room) {
		h := handHall()
		h.Room = r
		holdHallBytes(t, h, rightHallByHand(h))
		if len(r.Good) == len(r.Events) {
			h = hallOf(r)
			holdHallBytes(t, h, rightHallByHand(h))
		}
	}
	for _, acked := range []int{-1, 9, 10, 127, 128, 1000000000, 1000000001, math.MinInt, math.MaxInt} {
		for at := range 2 {
			holdHallBytes(t, changedHall(func(h *impl.Hall) { h.Outs[at].Acked = acked }), false)
		}
	}
	for _, n := range wrongIndex {
		holdHallBytes(t, changedHall(func(h *impl.Hall) { withTokens(h, n) }), false)
		if n != 0 {
			holdHallBytes(t, changedHall(func(h *impl.Hall) { h.Sessions[1].Last = n }), false)
		}
	}
	holdHallBytes(t, changedHall(func(h *impl.Hall) { h.Outs[0].Ids[3], h.Outs[0].Ids[4] = h.Outs[0].Ids[4], h.Outs[0].Ids[3] }), false)
	holdHallBytes(t, changedHall(func(h *impl.Hall) { h.Outs[1].Dest = 3 }), false)
	holdHallBytes(t, impl.Hall{}, false)
	full := fullHall(t)
	full.Room.Events = append(full.Room.Events, placed(201, 40, say(1), 40))
	full.Room.States, full.Room.Good = append(full.Room.States, full.Room.States[39]), append(full.Room.Good, true)
	holdHallBytes(t, full, false)
	refuseHall(t, hallByHand(full))
}

// Of halls that are not right in what stands in the text, the text is none; of others it is that of the right hall with these events.
func TestReadHallOfWrongHalls(t *testing.T) {
	for _, tokens := range [][]int{{0}, {0, 1}, {2, 1}, {1, 1}, {1, 2, 2}, {3, 2, 1}, {1, 2, 3, 4}, {1, 2, 3, 4, 5}, {1000001}, {1, 1000001}, {1, 2, 1000001}, {1000000000}} {
		refuseHall(t, hallByHand(changedHall(func(h *impl.Hall) { withTokens(h, tokens...) })))
	}
	for _, s := range []impl.Session{{Token: 1, Last: 1000001}, {Token: 1, Reply: "x"}, {Token: 1, Reply: "\x00"}, {Token: 1, Last: 1, Reply: longText(41)}, {Token: 1, Last: 1, Reply: longText(128)}, {Token: 1, Last: 1, Reply: longText(20001)}, {Token: 1, Last: 1000000000, Reply: "x"}} {
		for _, sessions := range [][]impl.Session{{s}, {s, {Token: 2}}, {s, {Token: 2}, {Token: 3}}} {
			refuseHall(t, hallByHand(changedHall(func(h *impl.Hall) { h.Sessions = sessions })))
		}
	}
	for _, acked := range []int{9, 10, 127, 128, 1000, 1000000, 1000000000, 1000000001} {
		for at := range 2 {
			refuseHall(t, hallByHand(changedHall(func(h *impl.Hall) { h.Outs[at].Acked = acked })))
		}
	}
	// One Out fewer, and one more.
	refuseHall(t, hallByHand(changedHall(func(h *impl.Hall) { h.Outs = h.Outs[:1] })))
	refuseHall(t, hallByHand(changedHall(func(h *impl.Hall) { h.Outs = append(h.Outs, impl.Out{Dest: 3}) })))
	refuseHall(t, hallByHand(changedHall(func(h *impl.Hall) { h.Outs = nil })))
	found := map[bool]int{}
	for _, r := range roomChanges(handHall().Room) {
		h := handHall()
		h.Room = r
		found[holdHallText(t, hallByHand(h))]++
		h.Outs[0].Acked, h.Outs[1].Acked = 0, 0
		found[holdHallText(t, hallByHand(h))]++
	}
	if found[true] < 100 || found[false] < 100 {
		t.Errorf("of the changed rooms are found %v", found)
	}
	// What does not stand in the text is as the events make it, whatever it was.
	for _, change := range []func(h *impl.Hall){
		func(h *impl.Hall) { h.Room.States, h.Room.Good = nil, nil }, func(h *impl.Hall) { clear(h.Room.Good) }, func(h *impl.Hall) { clear(h.Room.States) }, func(h *impl.Hall) { h.Outs[0].Ids, h.Outs[1].Ids = nil, []int{1} }, func(h *impl.Hall) { h.Outs[0].Dest = 7 },
		func(h *impl.Hall) { h.Room.Good[4] = true }, func(h *impl.Hall) { h.Room.States[11][0].Id = 9 },
	} {
		h := changedHall(change)
		holdHallBytes(t, h, false)
		wantHall(t, hallByHand(h), handHall())
	}
}

func TestReadHallRefuses(t *testing.T) {
	refuseHall(t, "")
	for _, text := range []string{"\x01", "\x00", "\x00\x00", "\x00\x00\x00", "\x00\x00\x00\x00\x00", "\x00\x00\x01\x00", "\x00\x00\x00\x01", "\x04\x00\x00\x00", "\x00\x01\x00\x00", "\x00\x01\x00\x00\x00", "hall", everyByte(), longText(5000)} {
		refuseHall(t, text)
	}
	for size := range 60 {
		for _, b := range []string{"\x00", "\x01", "\x02", "\x03", "\x80", "\xff", "x"} {
			if text := strings.Repeat(b, size); text != hallByHand(impl.HallNew()) {
				refuseHall(t, text)
			}
		}
	}
	wantHall(t, "\x00\x00\x00\x00", impl.HallNew())
}

// Each field ends where it tells, so that no beginning of a text is one, and nothing stands behind it.
func TestReadHallOfCutTexts(t *testing.T) {
	for _, h := range []impl.Hall{impl.HallNew(), smallHall(), mixedHall(), sessionsHall(), handHall(), greatestHall(t)} {
		text := hallByHand(h)
		wantHall(t, text, h)
		for cut := range len(text) {
			refuseHall(t, text[:cut])
			holdHallText(t, text[cut+1:])
			holdHallText(t, text[:cut]+text[cut+1:])
		}
		for b := range 256 {
			one := string([]byte{byte(b)})
			refuseHall(t, text+one)
			holdHallText(t, one+text)
		}
		for _, behind := range []string{"\x00\x00", "\x80\x00", text, longText(100)} {
			refuseHall(t, text+behind)
		}
	}
}

// Each byte turned into each other one: what is read is none, or the hall whose text that is.
func TestReadHallOfTurnedBytes(t *testing.T) {
	others, nothing := 0, 0
	for _, h := range []impl.Hall{impl.HallNew(), smallHall(), mixedHall(), sessionsHall(), handHall(), hallOf(roomOf(t, makers().events...), impl.Session{Token: 128, Last: 300})} {
		text := hallByHand(h)
		for at := range len(text) {
			for b := range 256 {
				// Of a long text the small bytes, and some of the others.
				if len(text) > 100 && b > 16 && (b+at)%5 > 0 {
					continue
				}
				turned := []byte(text)
				turned[at] = byte(b)
				if string(turned) == text {
					continue
				}
				if holdHallText(t, string(turned)) {
					others++
				} else {
					nothing++
				}
			}
		}
	}
	if others < 3000 || nothing < 10000 {
		t.Errorf("of the turned texts %d are those of other halls, and %d of none", others, nothing)
	}
}

// holdLongerForms has each number of a text in a longer form, and one that never ends.
func holdLongerForms(fields []field, refuse func(text string)) {
	for place, f := range fields {
		if f.number < 0 {
			continue
		}
		other := slices.Clone(fields)
		for _, longer := range append(longerForms(f.number), strings.Repeat("\x80", 40), strings.Repeat("\xff", 300), "\xff\xff\xff\xff\x7f", numberByHand(1000000001)) {
			other[place] = raw(longer)
			refuse(textOf(other))
			refuse(textOf(other[:place+1]))
		}
	}
}

// Each number of a text in a longer form, also those inside an event, whose length is told as it is then.
func TestReadHallRefusesLongerForms(t *testing.T) {
	refuse := func(text string) {
		t.Helper()
		refuseHall(t, text)
	}
	for _, h := range []impl.Hall{impl.HallNew(), smallHall(), sessionsHall(), handHall()} {
		holdLongerForms(hallPieces(h), refuse)
		ahead := len(hallPieces(impl.Hall{Sessions: h.Sessions}))
		for at, e := range h.Room.Events {
			fields := hallPieces(h)
			holdLongerForms(eventPieces(e), func(text string) {
				t.Helper()
				fields[ahead+2*at], fields[ahead+2*at+1] = num(len(text)), raw(text)
				refuseHall(t, textOf(fields))
			})
		}
	}
}

// A text may tell of more than there is, of less, or of as many as there are, but too many.
func TestReadHallOfWrongCounts(t *testing.T) {
	counts := []int{0, 1, 2, 3, 4, 5, 6, 7, 11, 12, 13, 39, 40, 41, 42, 127, 128, 255, 256, 19999, 20000, 20001, 1000000, 999999999, 1000000000, 1000000001, math.MaxInt}
	for _, h := range []impl.Hall{impl.HallNew(), smallHall(), mixedHall(), sessionsHall(), handHall(), fullHall(t)} {
		fields := hallPieces(h)
		for place, f := range fields {
			if f.number < 0 {
				continue
			}
			for _, count := range counts {
				if count != f.number {
					other := slices.Clone(fields)
					other[place] = num(count)
					holdHallText(t, textOf(other))
					holdHallText(t, textOf(other[:place+1]))
					holdHallText(t, textOf(other)+strings.Repeat("\x01", 100))
					holdHallText(t, textOf(other)+strings.Repeat("\x00", 100))
				}
			}
		}
	}
	// As many sessions and events as are told of, each right by itself.
	for count := range 8 {
		h := impl.HallNew()
		for token := 1; token <= count; token++ {
			h.Sessions = append(h.Sessions, impl.Session{Token: token})
		}
		if holdHallText(t, hallByHand(h)) != (count <= 3) {
			t.Errorf("a hall with %d sessions is read, or not", count)
		}
	}
	chain := fullRoom(t, 40).Events
	for id := 41; id <= 130; id++ {
		chain = append(chain, placed(id, id-1, say(1), id-1))
	}
	for _, count := range []int{0, 1, 2, 38, 39, 40, 41, 42, 127, 128, 130} {
		h := impl.HallNew()
		h.Room.Events = chain[:count]
		if holdHallText(t, hallByHand(h)) != (count <= 40) {
			t.Errorf("a hall with %d events is read, or not", count)
		}
	}
}

// An event that does not come into the room, though its own text is right.
func TestReadHallOfEventsThatDoNotComeIn(t *testing.T) {
	base := handHall()
	for _, e := range []impl.Event{
		placed(8, 10, say(3), 13), placed(13, 9, say(3), 48), placed(15, 10, say(3), 14, 17), placed(15, 10, say(3), 16), placed(15, 9, say(3), 13), placed(15, 11, say(3), 13), placed(15, 0, say(3), 13), placed(15, 1, create(5)), placed(14, 0, create(5)),
	} {
		h := copyHall(base)
		h.Room.Events = append(h.Room.Events, e)
		refuseHall(t, hallByHand(h))
	}
	// Those that do, allowed or not.
	for _, e := range []impl.Event{placed(15, 10, say(3), 13), placed(15, 10, say(4), 13), placed(16, 10, say(4), 13), placed(16, 10, say(3), 13), placed(15, 0, create(5)), placed(500, 4, name(2), 5), placed(500, 10, member(2, 1, impl.Banned), 5, 13)} {
		h := copyHall(base)
		h.Room, _ = addByHand(h.Room, e)
		h.Outs[0].Ids, h.Outs[1].Ids = sentByHand(h.Room), sentByHand(h.Room)
		wantHall(t, hallByHand(h), h)
		holdHallBytes(t, h, true)
		h.Outs[1].Acked = len(h.Outs[1].Ids)
		wantHall(t, hallByHand(h), h)
		h.Outs[1].Acked++
		refuseHall(t, hallByHand(h))
	}
	// The events of a room in each order: those alone come in that stand behind what they name.
	right := 0
	events := mixedHall().Room.Events
	for _, order := range inEachOrder(events) {
		h := impl.HallNew()
		h.Room.Events = order
		if holdHallText(t, hallByHand(h)) {
			right++
		}
	}
	if right < 10 {
		t.Errorf("%d orders are right", right)
	}
	// A text of an event that is none.
	for _, wrong := range append(wrongEventTexts(), "") {
		refuseHall(t, "\x00\x01"+numberByHand(len(wrong))+wrong+"\x00\x00")
		refuseHall(t, "\x00\x02\x09\x04\x01\x01\x00\x00\x00\x00\x00\x00"+numberByHand(len(wrong))+wrong+"\x00\x00")
		refuseCommand(t, "\x03\x01\x01"+numberByHand(len(wrong))+wrong)
	}
}

// wrongEventTexts are those of no event.
func wrongEventTexts() (list []string) {
	for _, e := range baseEvents() {
		text := eventByHand(e)
		list = append(list, text[:len(text)-1], text+"\x00", text[1:], text+text)
		for _, e := range eventChanges(e) {
			if !rightEventByHand(e) && writable(e) {
				list = append(list, eventByHand(e))
			}
		}
	}
	return append(list, "\x00", "x", longText(20), longText(20000), longText(20001))
}

// Texts drawn about those of halls, held against what trial finds in them.
func TestDrawnHallTexts(t *testing.T) {
	next := draws(142)
	halls := []impl.Hall{impl.HallNew(), smallHall(), mixedHall(), sessionsHall(), handHall()}
	for range 20 {
		halls = append(halls, hallOf(drawnEvents(t, next, 7+next(6)), impl.Session{Token: 1 + next(300), Last: 1, Reply: longText(next(20))}))
	}
	found := map[bool]int{}
	for range 20000 {
		text := []byte(hallByHand(halls[next(len(halls))]))
		for range next(3) {
			at := next(len(text))
			switch next(4) {
			case 0:
				text[at] ^= byte(1 << next(8))
			case 1:
				text[at] = byte(next(9))
			case 2:
				text = slices.Insert(text, at, byte(next(256)))
			case 3:
				text = slices.Delete(text, at, at+1)
			}
		}
		found[holdHallText(t, string(text))]++
	}
	if found[true] < 5000 || found[false] < 5000 {
		t.Errorf("of the texts drawn %d are those of halls, %d are not", found[true], found[false])
	}
}

// rightCommands are of each Op, with the edges of what it uses.
func rightCommands() []impl.Command {
	list := []impl.Command{opening()}
	for _, n := range append([]int{0}, edgeIndexes...) {
		list = append(list, everyAsk(n, 1)...)
		list = append(list, everyAsk(1, n)...)
		list = append(list, everyAsk(n, n)...)
		list = append(list, acking(n, 5, 1, n), acking(5, n, 2, n), acking(0, 0, 1, n))
	}
	for _, e := range rightEvents() {
		list = append(list, sending(3, 4, e), receiving(3, 4, oddEvent(e)))
	}
	return list
}

// oddEvent has the next odd Id, and does not name it; where nothing else was named, it names an even one.
func oddEvent(e impl.Event) impl.Event {
	e.Id = min(e.Id|1, 999999)
	e.Prev = slices.DeleteFunc(slices.Clone(e.Prev), func(id int) bool { return id == e.Id })
	if e.Kind != impl.KindCreate && len(e.Prev) == 0 {
		e.Prev = []int{e.Id + 1}
	}
	return e
}

func TestCommandTextBytes(t *testing.T) {
	for _, c := range []struct {
		x    impl.Command
		want string
	}{
		{impl.Command{Op: impl.OpOpen}, "\x01\x00\x00"},
		{impl.Command{Op: impl.OpSend, Token: 1, Seq: 2, Event: impl.Event{Kind: impl.KindCreate, Sender: 5}}, "\x02\x01\x02\x01\x05\x00\x00\x00\x00"},
		{impl.Command{Op: impl.OpSend, Token: 300, Seq: 127, Event: impl.Event{Kind: impl.KindMember, Sender: 1, User: 5, Member: impl.Banned}}, "\x02\xac\x02\x7f\x02\x01\x05\x03\x00\x00"},
		{impl.Command{Op: impl.OpSend, Event: impl.Event{Kind: impl.KindMember, Sender: 4, User: 4, Member: impl.Left}}, "\x02\x00\x00\x02\x04\x04\x00\x00\x00"},
		{impl.Command{Op: impl.OpSend, Token: 9, Seq: 9, Event: impl.Event{Kind: impl.KindPower, Sender: 2, Levels: []int{100, 50, 0, 1, 99}}}, "\x02\x09\x09\x03\x02\x00\x00\x05\x64\x32\x00\x01\x63\x00"},
		{impl.Command{Op: impl.OpSend, Token: 9, Seq: 9, Event: impl.Event{Kind: impl.KindName, Sender: 3, Text: "a room"}}, "\x02\x09\x09\x04\x03\x00\x00\x00\x06a room"},
		{impl.Command{Op: impl.OpSend, Token: 1000000, Seq: 1000000, Event: impl.Event{Kind: impl.KindSay, Sender: 1}}, "\x02\xc0\x84\x3d\xc0\x84\x3d\x05\x01\x00\x00\x00\x00"},
		{impl.Command{Op: impl.OpReceive, Token: 1, Seq: 2, Event: impl.Event{Id: 3, Kind: impl.KindSay, Sender: 1, Text: "hi", Prev: []int{2}, Depth: 1}}, "\x03\x01\x02\x0c\x03\x05\x01\x00\x00\x00\x02hi\x01\x02\x01"},
		{impl.Command{Op: impl.OpReceive, Seq: 128, Event: impl.Event{Id: 999999, Kind: impl.KindCreate, Sender: 5, Depth: 300}}, "\x03\x00\x80\x01\x0c\xbf\x84\x3d\x01\x05\x00\x00\x00\x00\x00\xac\x02"},
		{impl.Command{Op: impl.OpAcked, Token: 1, Seq: 2, Dest: 1, Upto: 3}, "\x04\x01\x02\x01\x03"},
		{impl.Command{Op: impl.OpAcked, Token: 1, Seq: 2, Dest: 2, Upto: 1000000}, "\x04\x01\x02\x02\xc0\x84\x3d"},
		{impl.Command{Op: impl.OpAcked, Dest: 1}, "\x04\x00\x00\x01\x00"},
		{impl.Command{Op: impl.OpMembers, Token: 1, Seq: 2}, "\x05\x01\x02"},
		{impl.Command{Op: impl.OpMembers}, "\x05\x00\x00"},
	} {
		if s, ok := impl.CommandText(c.x); !ok || s != c.want {
			t.Errorf("CommandText(%s) = %q, %v; want %q, true", shownCommand(c.x), s, ok, c.want)
		}
		wantCommand(t, c.want, c.x)
		holdCommand(t, c.x, true)
	}
}

// Promise 14 of commands: each comes back from its bytes.
func TestCommandsComeBack(t *testing.T) {
	ops := map[int]int{}
	for _, x := range rightCommands() {
		text, ok := impl.CommandText(x)
		if back, read := impl.ReadCommand(text); !ok || !read || !sameCommand(back, x) || !impl.CommandOk(back) {
			t.Errorf("%s comes back from %q as %s, %v, %v", shownCommand(x), text, shownCommand(back), ok, read)
		}
		holdCommand(t, x, true)
		if !holdCommandText(t, text) {
			t.Errorf("trial does not find the command %s", shownCommand(x))
		}
		// An entry holds each of them.
		if len(text) > impl.MaxData {
			t.Errorf("the text of %s has %d bytes", shownCommand(x), len(text))
		}
		ops[x.Op]++
	}
	if len(ops) != 5 {
		t.Errorf("the right commands are of the Ops %v", ops)
	}
}

// commandChanges are a command with one thing of it changed.
func commandChanges(x impl.Command) (list []impl.Command) {
	numbers := append([]int{1, 2, 3, 5, 6, 7, 24, 100, 101, 127, 128, 255, 256, 257, 258, 259, 260, 261, 1000000}, wrongIndex...)
	for _, n := range numbers {
		for _, change := range []func(x *impl.Command){
			func(x *impl.Command) { x.Op = n }, func(x *impl.Command) { x.Token = n }, func(x *impl.Command) { x.Seq = n }, func(x *impl.Command) { x.Dest = n }, func(x *impl.Command) { x.Upto = n },
			func(x *impl.Command) { x.Event.Id = n }, func(x *impl.Command) { x.Event.Kind = n }, func(x *impl.Command) { x.Event.Sender = n }, func(x *impl.Command) { x.Event.User = n }, func(x *impl.Command) { x.Event.Member = n },
			func(x *impl.Command) { x.Event.Levels = []int{n} }, func(x *impl.Command) { x.Event.Levels = []int{0, 0, 0, 0, n} }, func(x *impl.Command) { x.Event.Prev = []int{n} }, func(x *impl.Command) { x.Event.Prev = append(slices.Clone(x.Event.Prev), n) }, func(x *impl.Command) { x.Event.Depth = n },
		} {
			changed := copyCommand(x)
			change(&changed)
			list = append(list, changed)
		}
	}
	for _, text := range []string{"", "x", "\x00", longText(24), longText(25), longText(128), longText(20000), longText(20001)} {
		changed := copyCommand(x)
		changed.Event.Text = text
		list = append(list, changed)
	}
	for _, e := range eventChanges(x.Event) {
		changed := copyCommand(x)
		changed.Event = e
		list = append(list, changed)
	}
	return append(list, impl.Command{Op: x.Op}, impl.Command{Op: x.Op, Token: x.Token, Seq: x.Seq}, impl.Command{Op: x.Op, Event: x.Event}, impl.Command{Event: x.Event, Dest: x.Dest})
}

// Each reason for which a command is not right, by itself, in commands of each Op and events of each Kind.
func TestCommandTextRefuses(t *testing.T) {
	bases := []impl.Command{opening(), acking(3, 4, 1, 5), askingWho(3, 4)}
	for _, e := range baseEvents() {
		bases = append(bases, sending(3, 4, e), receiving(3, 4, at(e.Id|1, e.Depth, e)))
	}
	count := map[string]int{}
	for _, base := range bases {
		holdCommand(t, base, true)
		for _, x := range commandChanges(base) {
			right := rightCommandByHand(x)
			holdCommand(t, x, right)
			count[fmt.Sprint(base.Op, " ", right)]++
		}
	}
	for op := 1; op <= 5; op++ {
		if count[fmt.Sprint(op, " false")] < 100 {
			t.Errorf("of the changed commands there are %v", count)
		}
	}
	for _, e := range rightEvents() {
		holdCommand(t, receiving(1, 1, e), e.Id%2 == 1)
		holdCommand(t, impl.Command{Op: impl.OpSend, Token: 1, Seq: 1, Event: e}, false)
		holdCommand(t, receiving(1, 1, placed(0, 0, e)), false)
	}
	holdCommand(t, impl.Command{}, false)
	holdCommand(t, impl.Command{Op: impl.OpOpen, Token: 1}, false)
	holdCommand(t, impl.Command{Op: impl.OpOpen, Seq: 1}, false)
	refuseCommand(t, "\x01\x01\x00")
	refuseCommand(t, "\x01\x00\x01")
	refuseCommand(t, "\x03\x01\x01\x0c\x04\x05\x01\x00\x00\x00\x02hi\x01\x02\x01")
	refuseCommand(t, "\x04\x01\x02\x00\x03")
	refuseCommand(t, "\x04\x01\x02\x03\x03")
	refuseCommand(t, "\x04\x01\x02\x01\xc1\x84\x3d")
	refuseCommand(t, "\x05\xc1\x84\x3d\x02")
	refuseCommand(t, "\x05\x02\xc1\x84\x3d")
}

func TestReadCommandRefuses(t *testing.T) {
	refuseCommand(t, "")
	for _, text := range append(wrongCommandTexts(), "\x01\x00\x01", everyByte(), longText(20001)) {
		refuseCommand(t, text)
	}
	for size := range 60 {
		for _, b := range []string{"\x00", "\x01", "\x02", "\x03", "\x06", "\x80", "\xff", "x"} {
			refuseCommand(t, strings.Repeat(b, size))
		}
	}
	// An Op that is none, ahead of what each Op has.
	for op := range 256 {
		for _, x := range baseCommands() {
			text := string([]byte{byte(op)}) + commandByHand(x)[1:]
			if found := holdCommandText(t, text); found && (op < 1 || op > 5) {
				t.Errorf("of the Op %d there is a command: %q", op, text)
			}
		}
	}
	// An Op is one byte, no number that goes on.
	for _, x := range baseCommands() {
		refuseCommand(t, string([]byte{byte(x.Op) | 128, 0})+commandByHand(x)[1:])
	}
}

func TestReadCommandOfCutTexts(t *testing.T) {
	for _, x := range rightCommands() {
		text := commandByHand(x)
		for cut := range len(text) {
			refuseCommand(t, text[:cut])
			holdCommandText(t, text[cut+1:])
			holdCommandText(t, text[:cut]+text[cut+1:])
		}
		for _, behind := range []string{"\x00", "\x01", "x", " ", "\x80", "\xff", "\x80\x00", text} {
			refuseCommand(t, text+behind)
		}
	}
	for _, x := range baseCommands() {
		for b := range 256 {
			refuseCommand(t, commandByHand(x)+string([]byte{byte(b)}))
			holdCommandText(t, string([]byte{byte(b)})+commandByHand(x))
		}
	}
}

// Each byte turned into each other one: what is read is none, or the command whose text that is.
func TestReadCommandOfTurnedBytes(t *testing.T) {
	others, nothing := 0, 0
	list := []impl.Command{opening(), acking(3, 4, 1, 5), acking(300, 1000000, 2, 128), askingWho(3, 4), askingWho(127, 128), opening(), sending(128, 1, worded("", say(1)))}
	for _, e := range baseEvents() {
		list = append(list, sending(3, 4, e), receiving(3, 4, at(e.Id|1, e.Depth, e)), receiving(300, 400, at(999999, 1000000, e)))
	}
	for _, x := range list {
		text := commandByHand(x)
		for at := range len(text) {
			for b := range 256 {
				turned := []byte(text)
				turned[at] = byte(b)
				if string(turned) == text {
					continue
				}
				if got, ok := impl.ReadCommand(string(turned)); ok && sameCommand(got, x) {
					t.Errorf("ReadCommand of %q, turned at %d to %d, is the same command", text, at, b)
				}
				if holdCommandText(t, string(turned)) {
					others++
				} else {
					nothing++
				}
			}
		}
	}
	if others < 3000 || nothing < 30000 {
		t.Errorf("of the turned texts %d are those of other commands, and %d of none", others, nothing)
	}
}

func TestReadCommandRefusesLongerForms(t *testing.T) {
	for _, x := range rightCommands() {
		holdLongerForms(commandPieces(x), func(text string) {
			t.Helper()
			refuseCommand(t, text)
		})
		if x.Op != impl.OpReceive {
			continue
		}
		// Inside the event, whose length is told as it is then.
		holdLongerForms(eventPieces(x.Event), func(text string) {
			t.Helper()
			refuseCommand(t, textOf(append(commandPieces(x)[:3:3], num(len(text)), raw(text))))
		})
	}
}

func TestReadCommandOfWrongCounts(t *testing.T) {
	counts := []int{0, 1, 2, 3, 4, 5, 6, 7, 23, 24, 25, 26, 127, 128, 255, 256, 257, 19999, 20000, 20001, 1000000, 999999999, 1000000000, 1000000001, math.MaxInt}
	for _, e := range baseEvents() {
		for _, x := range []impl.Command{sending(3, 4, e), receiving(3, 4, at(e.Id|1, e.Depth, e))} {
			fields := commandPieces(x)
			for place, f := range fields {
				if f.number < 0 {
					continue
				}
				for _, count := range counts {
					if count != f.number {
						other := slices.Clone(fields)
						other[place] = num(count)
						holdCommandText(t, textOf(other))
						holdCommandText(t, textOf(other[:place+1]))
						holdCommandText(t, textOf(other)+strings.Repeat("\x01", 100))
					}
				}
			}
		}
	}
	// As many Levels and bytes as are told of, but a right event has none so many.
	for _, size := range []int{6, 25, 128, impl.MaxText, impl.MaxText + 1} {
		for _, e := range baseEvents() {
			more, longer := e, e
			more.Levels, longer.Text = make([]int, size), longText(max(size, 25))
			for _, e := range []impl.Event{more, longer} {
				refuseCommand(t, commandByHand(sending(3, 4, e)))
				refuseCommand(t, commandByHand(receiving(3, 4, at(e.Id|1, e.Depth, e))))
			}
		}
	}
	// Six Levels are told of; read from its beginning on once more, the text would go on as one of a name does.
	for _, end := range []string{"", "\x00", "\x01x", "\x06\x00\x00\x00\x00\x00\x00\x00"} {
		refuseCommand(t, "\x02\x01\x01\x03\x01\x00\x00\x06"+end)
		refuseCommand(t, "\x02\x00\x01\x03\x01\x00\x00\x06"+end)
	}
}

func TestDrawnCommandTexts(t *testing.T) {
	next := draws(143)
	commands := rightCommands()
	found := map[bool]int{}
	for range 60000 {
		text := []byte(commandByHand(commands[next(len(commands))]))
		for range next(3) {
			at := next(len(text))
			switch next(4) {
			case 0:
				text[at] ^= byte(1 << next(8))
			case 1:
				text[at] = byte(next(6))
			case 2:
				text = slices.Insert(text, at, byte(next(256)))
			case 3:
				if len(text) > 1 {
					text = slices.Delete(text, at, at+1)
				}
			}
		}
		found[holdCommandText(t, string(text))]++
	}
	if found[true] < 20000 || found[false] < 10000 {
		t.Errorf("of the texts drawn %d are those of commands, %d are not", found[true], found[false])
	}
}

// Promise 14 of commands that are drawn, right ones and others.
func TestDrawnCommands(t *testing.T) {
	next := draws(144)
	right := map[bool]int{}
	for range 30000 {
		x := impl.Command{Op: 1 + next(5), Token: next(1000001), Seq: next(300)}
		switch x.Op {
		case impl.OpOpen:
			x.Token, x.Seq = next(30)/29, next(30)/29
		case impl.OpSend:
			x.Event = placed(0, 0, drawnEvent(next))
		case impl.OpReceive:
			x.Event = drawnEvent(next)
			x.Event.Id |= 1
		case impl.OpAcked:
			x.Dest, x.Upto = 1+next(2), next(1000001)
		}
		for next(8) == 0 {
			switch next(5) {
			case 0:
				x.Op = next(8)
			case 1:
				x.Token = []int{-1, 0, 1000001}[next(3)]
			case 2:
				x.Seq = []int{-1, 0, 1000001}[next(3)]
			case 3:
				x.Dest = next(5) - 1
			case 4:
				x.Upto = []int{-1, 0, 1000001}[next(3)]
			}
		}
		want := rightCommandByHand(x)
		holdCommand(t, x, want)
		right[want]++
	}
	if right[true] < 10000 || right[false] < 5000 {
		t.Errorf("of the commands drawn %d are right, %d are not", right[true], right[false])
	}
}

func wantSameHall(t *testing.T, a, b impl.Hall, want bool) {
	t.Helper()
	first, second := copyHall(a), copyHall(b)
	if impl.SameHall(a, b) != want || impl.SameHall(b, a) != want {
		t.Fatalf("SameHall(%s, %s) is %v, and the other way round %v; want %v", shownHall(a), shownHall(b), impl.SameHall(a, b), impl.SameHall(b, a), want)
	}
	if !equalHalls(a, first) || !equalHalls(b, second) {
		t.Fatalf("SameHall wrote into its arguments: %s, %s", shownHall(a), shownHall(b))
	}
}

func TestSameHall(t *testing.T) {
	halls := append(rightHalls(t), wrongHalls()...)
	for at, h := range halls {
		wantSameHall(t, h, h, true)
		wantSameHall(t, h, copyHall(h), true)
		wantSameHall(t, h, roomyHall(h), true)
		for _, other := range halls[:at] {
			wantSameHall(t, h, other, equalHalls(h, other))
		}
	}
	wantSameHall(t, smallHall(), mixedHall(), false)
	wantSameHall(t, impl.HallNew(), impl.Hall{}, false)
	wantSameHall(t, impl.Hall{}, impl.Hall{}, true)
}

// unlikeHall is the hall with something changed, which is not the same then.
func unlikeHall(t *testing.T, h impl.Hall, change func(h *impl.Hall)) {
	t.Helper()
	changed := copyHall(h)
	change(&changed)
	wantSameHall(t, h, changed, false)
}

// Two halls that differ in one thing alone, for each field of each part.
func TestSameHallOfOneThing(t *testing.T) {
	for _, h := range []impl.Hall{smallHall(), mixedHall(), handHall(), fullHall(t), wrongHalls()[0]} {
		for at := range h.Sessions {
			for _, change := range []func(s *impl.Session){
				func(s *impl.Session) { s.Token++ }, func(s *impl.Session) { s.Token = -s.Token }, func(s *impl.Session) { s.Last++ }, func(s *impl.Session) { s.Last = math.MaxInt }, func(s *impl.Session) { s.Reply += "x" }, func(s *impl.Session) { s.Reply += "\x00" }, func(s *impl.Session) { s.Reply = strings.Repeat("y", max(1, len(s.Reply))) },
			} {
				unlikeHall(t, h, func(h *impl.Hall) { change(&h.Sessions[at]) })
			}
			unlikeHall(t, h, func(h *impl.Hall) { h.Sessions = slices.Delete(h.Sessions, at, at+1) })
			unlikeHall(t, h, func(h *impl.Hall) { h.Sessions = slices.Insert(h.Sessions, at, h.Sessions[at]) })
		}
		unlikeHall(t, h, func(h *impl.Hall) { h.Sessions = append(h.Sessions, impl.Session{}) })
		for at := range h.Outs {
			for _, change := range []func(out *impl.Out){func(out *impl.Out) { out.Dest++ }, func(out *impl.Out) { out.Dest = 0 }, func(out *impl.Out) { out.Acked++ }, func(out *impl.Out) { out.Acked = -1 }, func(out *impl.Out) { out.Ids = append(out.Ids, 0) }} {
				unlikeHall(t, h, func(h *impl.Hall) { change(&h.Outs[at]) })
			}
			for place := range h.Outs[at].Ids {
				unlikeHall(t, h, func(h *impl.Hall) { h.Outs[at].Ids[place]++ })
				unlikeHall(t, h, func(h *impl.Hall) { h.Outs[at].Ids = slices.Delete(h.Outs[at].Ids, place, place+1) })
			}
			unlikeHall(t, h, func(h *impl.Hall) { h.Outs = slices.Delete(h.Outs, at, at+1) })
		}
		unlikeHall(t, h, func(h *impl.Hall) { h.Outs = append(h.Outs, impl.Out{}) })
		unlikeHall(t, h, func(h *impl.Hall) { slices.Reverse(h.Outs) })
		unlikeRoom(t, h)
	}
}

// unlikeRoom changes each thing of the room by itself.
func unlikeRoom(t *testing.T, h impl.Hall) {
	t.Helper()
	for _, r := range roomChanges(h.Room) {
		changed := copyHall(h)
		changed.Room = r
		wantSameHall(t, h, changed, sameRoom(h.Room, r))
	}
	for at, e := range h.Room.Events {
		for _, change := range []func(e *impl.Event){
			func(e *impl.Event) { e.Id++ }, func(e *impl.Event) { e.Kind++ }, func(e *impl.Event) { e.Sender++ }, func(e *impl.Event) { e.User++ }, func(e *impl.Event) { e.Member++ }, func(e *impl.Event) { e.Depth++ }, func(e *impl.Event) { e.Text += "x" }, func(e *impl.Event) { e.Text = strings.Repeat("y", max(1, len(e.Text))) },
			func(e *impl.Event) { e.Levels = append(e.Levels, 0) }, func(e *impl.Event) { e.Prev = append(e.Prev, 0) },
		} {
			unlikeHall(t, h, func(h *impl.Hall) { change(&h.Room.Events[at]) })
		}
		for place := range e.Levels {
			unlikeHall(t, h, func(h *impl.Hall) { h.Room.Events[at].Levels[place]++ })
		}
		for place := range e.Prev {
			unlikeHall(t, h, func(h *impl.Hall) { h.Room.Events[at].Prev[place]++ })
		}
		if len(e.Levels) > 0 {
			unlikeHall(t, h, func(h *impl.Hall) { h.Room.Events[at].Levels = e.Levels[1:] })
		}
		if len(e.Prev) > 0 {
			unlikeHall(t, h, func(h *impl.Hall) { h.Room.Events[at].Prev = e.Prev[1:] })
		}
		unlikeHall(t, h, func(h *impl.Hall) { h.Room.Good[at] = !h.Room.Good[at] })
		for place := range h.Room.States[at] {
			unlikeHall(t, h, func(h *impl.Hall) { h.Room.States[at][place].Key++ })
			unlikeHall(t, h, func(h *impl.Hall) { h.Room.States[at][place].Id++ })
		}
		unlikeHall(t, h, func(h *impl.Hall) { h.Room.States[at] = append(h.Room.States[at], impl.Item{}) })
		unlikeHall(t, h, func(h *impl.Hall) { h.Room.States[at] = h.Room.States[at][1:] })
	}
}

// An empty list and nil are the same; a list with an empty one in it, or with a zero value, is another one than none.
func TestSameHallOfEmptyLists(t *testing.T) {
	empty := impl.Hall{Sessions: []impl.Session{}, Room: impl.Room{Events: []impl.Event{}, States: [][]impl.Item{}, Good: []bool{}}, Outs: []impl.Out{}}
	wantSameHall(t, impl.Hall{}, empty, true)
	wantSameHall(t, empty, roomyHall(empty), true)
	for _, change := range []func(h *impl.Hall){
		func(h *impl.Hall) { h.Sessions = []impl.Session{{}} }, func(h *impl.Hall) { h.Room.Events = []impl.Event{{}} }, func(h *impl.Hall) { h.Room.States = [][]impl.Item{nil} }, func(h *impl.Hall) { h.Room.States = [][]impl.Item{{}} }, func(h *impl.Hall) { h.Room.Good = []bool{false} }, func(h *impl.Hall) { h.Outs = []impl.Out{{}} },
	} {
		unlikeHall(t, empty, change)
		unlikeHall(t, impl.Hall{}, change)
		unlikeHall(t, smallHall(), change)
	}
	for _, h := range []impl.Hall{impl.HallNew(), smallHall(), handHall(), {Room: impl.Room{States: [][]impl.Item{nil, nil}, Events: make([]impl.Event, 2)}, Outs: make([]impl.Out, 2)}} {
		other := copyHall(h)
		for at := range other.Outs {
			if len(other.Outs[at].Ids) == 0 {
				other.Outs[at].Ids = make([]int, 0, 3)
			}
		}
		for at := range other.Room.Events {
			e := &other.Room.Events[at]
			if len(e.Levels) == 0 {
				e.Levels = []int{}
			}
			if len(e.Prev) == 0 {
				e.Prev = []int{}
			}
		}
		for at := range other.Room.States {
			if len(other.Room.States[at]) == 0 {
				other.Room.States[at] = []impl.Item{}
			}
		}
		if len(h.Sessions) == 0 {
			other.Sessions = []impl.Session{}
		}
		wantSameHall(t, h, other, true)
		if impl.HallOk(h) {
			holdHallBytes(t, other, true)
		}
	}
}

// Halls that are not right: rooms whose lists are of unlike lengths, each held against each.
func TestSameHallOfUnlikeLengths(t *testing.T) {
	h := smallHall()
	lengths := func(n int) impl.Hall {
		c := copyHall(h)
		c.Room.Events, c.Room.States, c.Room.Good = c.Room.Events[:n%4], c.Room.States[:n/4%4], c.Room.Good[:n/16]
		return c
	}
	for a := range 64 {
		for b := range 64 {
			wantSameHall(t, lengths(a), lengths(b), a == b)
		}
	}
	for sessions := range 4 {
		for outs := range 4 {
			a, b := impl.Hall{Sessions: make([]impl.Session, sessions)}, impl.Hall{Outs: make([]impl.Out, outs)}
			wantSameHall(t, a, b, sessions == 0 && outs == 0)
			wantSameHall(t, a, impl.Hall{Sessions: make([]impl.Session, outs)}, sessions == outs)
			wantSameHall(t, b, impl.Hall{Outs: make([]impl.Out, sessions)}, sessions == outs)
		}
	}
}

func TestSameHallOfDrawn(t *testing.T) {
	next := draws(145)
	count := map[bool]int{}
	last := handHall()
	for range 3000 {
		h := drawnHall(t, next)
		wantSameHall(t, h, copyHall(h), true)
		want := equalHalls(h, last)
		wantSameHall(t, h, last, want)
		count[want]++
		last = h
	}
	if count[true] < 10 || count[false] < 500 {
		t.Errorf("of the halls drawn %v are the same", count)
	}
}

// Nothing is written into an argument or behind it, no two answers share memory, nor do two lists of one.
func TestTextsAreNew(t *testing.T) {
	next := draws(146)
	halls := append([]impl.Hall{smallHall(), mixedHall(), sessionsHall(), handHall(), fullHall(t), greatestHall(t)}, wrongHalls()...)
	for range 20 {
		halls = append(halls, hallOf(drawnEvents(t, next, 7+next(20)), impl.Session{Token: 5, Last: 1, Reply: "in"}))
	}
	for _, h := range halls {
		h = roomyHall(h)
		before := allOfHall(h)
		text, ok := impl.HallText(h)
		impl.SameHall(h, roomyHall(h))
		impl.SameHall(h, h)
		if allOfHall(h) != before {
			t.Fatalf("written into a hall, or behind it: %s", shownHall(h))
		}
		if !ok {
			continue
		}
		for _, fill := range hallParts(h) {
			fill()
		}
		if again := strings.Clone(text); !holdHallText(t, again) {
			t.Fatalf("HallText changes with its hall: %q", text)
		}
		first, _ := impl.ReadHall(text)
		second, _ := impl.ReadHall(text)
		want := copyHall(first)
		for _, fill := range hallParts(first) {
			fill()
		}
		if !equalHalls(second, want) {
			t.Fatalf("two answers of ReadHall(%q) share memory", text)
		}
		wantHall(t, text, want)
		holdListsApart(t, text)
	}
}

// holdListsApart fills one list of a hall that is read, and finds all others as they were.
func holdListsApart(t *testing.T, text string) {
	t.Helper()
	h, _ := impl.ReadHall(text)
	want := copyHall(h)
	count := len(hallParts(h))
	for at := range count - 4 {
		h, _ := impl.ReadHall(text)
		hallParts(h)[at]()
		unlike := differ(slices.Equal(h.Sessions, want.Sessions)) + differ(slices.Equal(h.Room.Good, want.Room.Good))
		for place := range want.Outs {
			unlike += differ(slices.Equal(h.Outs[place].Ids, want.Outs[place].Ids))
		}
		for place := range want.Room.Events {
			unlike += differ(slices.Equal(h.Room.Events[place].Prev, want.Room.Events[place].Prev)) + differ(slices.Equal(h.Room.Events[place].Levels, want.Room.Events[place].Levels)) + differ(slices.Equal(h.Room.States[place], want.Room.States[place]))
		}
		if unlike > 1 {
			t.Fatalf("with one list of ReadHall(%q) %d change", text, unlike)
		}
	}
}

func TestStringsOfTextsAreNew(t *testing.T) {
	h := handHall()
	h.Sessions[1].Reply = strings.Clone("a reply")
	text, _ := impl.HallText(h)
	if liesIn(text, h.Sessions[1].Reply) || liesIn(text, h.Room.Events[5].Text) {
		t.Error("HallText answers with the memory of its hall")
	}
	first, _ := impl.ReadHall(text)
	second, _ := impl.ReadHall(text)
	for at, s := range first.Sessions {
		if liesIn(s.Reply, text) || liesIn(s.Reply, second.Sessions[at].Reply) {
			t.Errorf("the Reply %q of ReadHall shares memory", s.Reply)
		}
	}
	for at, e := range first.Room.Events {
		if liesIn(e.Text, text) || liesIn(e.Text, second.Room.Events[at].Text) {
			t.Errorf("the Text %q of ReadHall shares memory", e.Text)
		}
	}
	word := strings.Clone("something")
	for _, x := range []impl.Command{sending(2, 13, worded(word, say(1))), receiving(2, 13, placed(15, 10, worded(word, say(1)), 13))} {
		text, _ := impl.CommandText(x)
		first, _ := impl.ReadCommand(text)
		second, _ := impl.ReadCommand(text)
		if first.Event.Text != word || liesIn(text, word) || liesIn(first.Event.Text, text) || liesIn(first.Event.Text, second.Event.Text) || liesIn(first.Event.Text, word) {
			t.Errorf("CommandText or ReadCommand of %s shares memory", shownCommand(x))
		}
	}
	for _, x := range []impl.Command{opening(), acking(1, 2, 1, 3), askingWho(1, 2)} {
		first, _ := impl.CommandText(x)
		second, _ := impl.CommandText(x)
		if liesIn(first, second) {
			t.Errorf("two answers of CommandText(%s) share memory", shownCommand(x))
		}
	}
}

func TestCommandTextsAreNew(t *testing.T) {
	for _, x := range append(rightCommands(), impl.Command{Op: 2, Event: impl.Event{Levels: []int{1}, Prev: []int{1, 2}}}, impl.Command{Op: 3, Event: impl.Event{Levels: []int{1}, Prev: []int{1, 2}}}) {
		x.Event.Levels, x.Event.Prev = roomyInts(x.Event.Levels), roomyInts(x.Event.Prev)
		shown := func() string {
			return fmt.Sprint(x, x.Event.Levels[:cap(x.Event.Levels)], x.Event.Prev[:cap(x.Event.Prev)])
		}
		before := shown()
		text, ok := impl.CommandText(x)
		if shown() != before {
			t.Fatalf("CommandText wrote into its command, or behind it: %s", shownCommand(x))
		}
		if !ok {
			continue
		}
		first, _ := impl.ReadCommand(text)
		second, _ := impl.ReadCommand(text)
		clear(first.Event.Levels[:cap(first.Event.Levels)])
		if !slices.Equal(first.Event.Prev, x.Event.Prev) || !sameCommand(second, x) {
			t.Fatalf("lists of ReadCommand(%q) share memory", text)
		}
		clear(first.Event.Prev[:cap(first.Event.Prev)])
		if !sameCommand(second, x) {
			t.Fatalf("two answers of ReadCommand(%q) share memory", text)
		}
		wantCommand(t, text, x)
	}
}

// Whatever comes, all functions answer; and the same once more.
func TestTextsAnswerAtAll(t *testing.T) {
	next := draws(147)
	right := map[string]int{}
	last := handHall()
	for range 4000 {
		h := drawnHall(t, next)
		x := impl.Command{Op: next(8) - 1, Token: next(4) - 1, Seq: next(3), Event: drawnEvent(next), Dest: next(4) - 1, Upto: next(5) - 1}
		if next(2) == 0 {
			x = receiving(1, 1, at(x.Event.Id|1, x.Event.Depth, x.Event))
		}
		text := make([]byte, next(40))
		for at := range text {
			text[at] = byte(next([]int{4, 256}[next(2)]))
		}
		answers := func() string {
			told, ok := impl.HallText(h)
			read, is := impl.ReadHall(string(text))
			said, good := impl.CommandText(x)
			asked, well := impl.ReadCommand(string(text))
			return fmt.Sprintf("%q %v %v %v %q %v %v %v %v", told, ok, read, is, said, good, asked, well, impl.SameHall(h, last))
		}
		if first, second := answers(), answers(); first != second {
			t.Fatalf("two answers to the same: %s and %s", first, second)
		}
		hallOk, commandOk := rightHallByHand(h), rightCommandByHand(x)
		holdHallBytes(t, h, hallOk)
		holdCommand(t, x, commandOk)
		holdHallText(t, string(text))
		holdCommandText(t, string(text))
		right[fmt.Sprint("hall ", hallOk)]++
		right[fmt.Sprint("command ", commandOk)]++
		last = h
	}
	if right["hall true"] < 300 || right["hall false"] < 300 || right["command true"] < 300 || right["command false"] < 300 {
		t.Errorf("of what was drawn is right: %v", right)
	}
}

// Long lists and texts: each is refused, or gone through, in no long time.
func TestLongTexts(t *testing.T) {
	const size = 200000
	long := handHall()
	long.Sessions = make([]impl.Session, size)
	long.Outs = make([]impl.Out, size)
	long.Room = impl.Room{Events: make([]impl.Event, size), States: make([][]impl.Item, size), Good: make([]bool, size)}
	wantSameHall(t, long, copyHall(long), true)
	holdHallBytes(t, long, false)
	other := copyHall(long)
	other.Room.Good[size-1] = true
	wantSameHall(t, long, other, false)
	wide := say(1)
	wide.Prev, wide.Text, wide.Levels = make([]int, size), longText(size), make([]int, size)
	for op := range 7 {
		holdCommand(t, impl.Command{Op: op, Event: wide}, false)
	}
	for _, text := range []string{longText(5 * size), strings.Repeat("\x00", 5*size), strings.Repeat("\x01", 5*size), strings.Repeat("\x02", 5*size), strings.Repeat("\x80", 5*size), strings.Repeat("\xff", 5*size), hallByHand(handHall()) + longText(size)} {
		refuseHall(t, text)
		refuseCommand(t, text)
	}
}
