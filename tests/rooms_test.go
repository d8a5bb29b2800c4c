package tests

import (
	"fmt"
	"math"
	"slices"
	"strings"
	"testing"

	"loop.example/g00127/impl"
)

// placed is an event with this Id and Depth, behind these others.
func placed(id, depth int, e impl.Event, prev ...int) impl.Event {
	e = at(id, depth, e)
	e.Prev = prev
	return e
}

// worded is an event with this Text.
func worded(text string, e impl.Event) impl.Event {
	e.Text = text
	return e
}

func sameRoom(a, b impl.Room) bool {
	return slices.EqualFunc(a.Events, b.Events, sameEvent) && slices.EqualFunc(a.States, b.States, slices.Equal[[]impl.Item]) && slices.Equal(a.Good, b.Good)
}

func noRoom(r impl.Room) bool { return sameRoom(r, impl.Room{}) }

func copyRoom(r impl.Room) impl.Room {
	c := impl.Room{Good: slices.Clone(r.Good)}
	for _, e := range r.Events {
		c.Events = append(c.Events, copyEvent(e))
	}
	for _, s := range r.States {
		c.States = append(c.States, slices.Clone(s))
	}
	return c
}

func shownRoom(r impl.Room) string {
	text := fmt.Sprintf("%d events, %d States, %d Good:", len(r.Events), len(r.States), len(r.Good))
	for at, e := range r.Events[:min(len(r.Events), 45)] {
		text += fmt.Sprintf(" %d<-%.40s", e.Id, fmt.Sprint(e.Prev))
		if at < len(r.States) {
			text += fmt.Sprintf(" %.80s", fmt.Sprint(r.States[at]))
		}
		if at < len(r.Good) {
			text += fmt.Sprint(" ", r.Good[at])
		}
	}
	return text
}

// placeByHand is that of the first event of an Id, or -1.
func placeByHand(r impl.Room, id int) int {
	return slices.IndexFunc(r.Events, func(e impl.Event) bool { return e.Id == id })
}

// endsByHand holds each event against all others.
func endsByHand(r impl.Room) (ends []int) {
	for at, e := range r.Events {
		named := false
		for other, by := range r.Events {
			named = named || other != at && slices.Contains(by.Prev, e.Id)
		}
		if !named {
			ends = append(ends, e.Id)
		}
	}
	slices.Sort(ends)
	return slices.Compact(ends)
}

func beforeByHand(r impl.Room, prev []int) ([]impl.Item, bool) {
	var states [][]impl.Item
	for _, id := range prev {
		at := placeByHand(r, id)
		if at < 0 || at >= len(r.States) {
			return nil, false
		}
		states = append(states, r.States[at])
	}
	return resolveByHand(r.Events, states), true
}

func depthByHand(r impl.Room, prev []int) (depth int) {
	for _, id := range prev {
		if at := placeByHand(r, id); at >= 0 && r.Events[at].Depth >= 0 {
			depth = max(depth, 1+min(r.Events[at].Depth, 1000000))
		}
	}
	return depth
}

func addByHand(r impl.Room, e impl.Event) (impl.Room, bool) {
	if !rightEventByHand(e) || placeByHand(r, e.Id) >= 0 || len(r.Events) > 39 || e.Depth != depthByHand(r, e.Prev) {
		return impl.Room{}, false
	}
	s, there := beforeByHand(r, e.Prev)
	if !there {
		return impl.Room{}, false
	}
	good := impl.Allowed(r.Events, s, e)
	if good {
		s = putStateByHand(s, impl.KeyOf(e), e.Id)
	}
	r = copyRoom(r)
	return impl.Room{Events: append(r.Events, e), States: append(r.States, s), Good: append(r.Good, good)}, true
}

func rightRoomByHand(r impl.Room) bool {
	if len(r.States) != len(r.Events) || len(r.Good) != len(r.Events) {
		return false
	}
	var made impl.Room
	for at, e := range r.Events {
		var ok bool
		made, ok = addByHand(made, e)
		if !ok || !slices.Equal(made.States[at], r.States[at]) || made.Good[at] != r.Good[at] {
			return false
		}
	}
	return true
}

func membersByHand(r impl.Room, s []impl.Item) (members []int) {
	for user := 1; user <= 5; user++ {
		if id, there := firstIds(s)[10+user]; there {
			if at := placeByHand(r, id); at >= 0 && r.Events[at].Member == 2 {
				members = append(members, user)
			}
		}
	}
	return members
}

func saidByHand(r impl.Room) (said []string) {
	for at := range min(len(r.Events), len(r.Good)) {
		if r.Good[at] && r.Events[at].Kind == 5 {
			said = append(said, r.Events[at].Text)
		}
	}
	return said
}

func wantEnds(t *testing.T, r impl.Room, want ...int) {
	t.Helper()
	if byHand := endsByHand(r); !slices.Equal(byHand, want) {
		t.Fatalf("the test is wrong: of a room of %s it says %v, and not %v", shownRoom(r), want, byHand)
	}
	if got := impl.EndsOf(r); !slices.Equal(got, want) {
		t.Errorf("EndsOf a room of %s = %v; want %v", shownRoom(r), got, want)
	}
}

func wantBefore(t *testing.T, r impl.Room, prev []int, want []impl.Item) {
	t.Helper()
	if byHand, there := beforeByHand(r, prev); !there || !slices.Equal(byHand, want) {
		t.Fatalf("the test is wrong: Before %v it says %s, and not %s, %v", prev, shownState(want), shownState(byHand), there)
	}
	if got, ok := impl.Before(r, prev); !ok || !slices.Equal(got, want) {
		t.Errorf("Before(a room of %s, %v) = %s, %v; want %s, true", shownRoom(r), prev, shownState(got), ok, shownState(want))
	}
}

func refuseBefore(t *testing.T, r impl.Room, prev ...int) {
	t.Helper()
	if got, ok := impl.Before(r, prev); ok || len(got) > 0 {
		t.Errorf("Before(a room of %s, %v) = %s, %v; want nothing", shownRoom(r), prev, shownState(got), ok)
	}
}

func wantDepth(t *testing.T, r impl.Room, want int, prev ...int) {
	t.Helper()
	if byHand := depthByHand(r, prev); byHand != want {
		t.Fatalf("the test is wrong: of %v it says %d, and not %d", prev, want, byHand)
	}
	if got := impl.DepthOf(r, prev); got != want {
		t.Errorf("DepthOf(a room of %s, %v) = %d; want %d", shownRoom(r), prev, got, want)
	}
}

// wantAdded is the room with the event, whose State and Good are known.
func wantAdded(t *testing.T, r impl.Room, e impl.Event, s []impl.Item, good bool) impl.Room {
	t.Helper()
	before := copyRoom(r)
	got, ok := impl.AddEvent(r, e)
	if !sameRoom(r, before) {
		t.Fatalf("AddEvent of %s wrote into its room: %s", shownEvent(e), shownRoom(r))
	}
	want := impl.Room{Events: append(before.Events, e), States: append(before.States, s), Good: append(before.Good, good)}
	if !ok || !sameRoom(got, want) {
		t.Fatalf("AddEvent(a room of %s, %s) = %s, %v; want %s, true", shownRoom(r), shownEvent(e), shownRoom(got), ok, shownRoom(want))
	}
	return got
}

func refuseAdd(t *testing.T, r impl.Room, e impl.Event) {
	t.Helper()
	before := copyRoom(r)
	if got, ok := impl.AddEvent(r, e); ok || !noRoom(got) {
		t.Errorf("AddEvent(a room of %s, %s) = %s, %v; want nothing", shownRoom(r), shownEvent(e), shownRoom(got), ok)
	}
	if !sameRoom(r, before) {
		t.Fatalf("AddEvent of %s wrote into its room: %s", shownEvent(e), shownRoom(r))
	}
}

// holdAdd holds AddEvent against what is found by hand.
func holdAdd(t *testing.T, r impl.Room, e impl.Event) (impl.Room, bool) {
	t.Helper()
	want, ok := addByHand(r, e)
	if !ok {
		refuseAdd(t, r, e)
		return r, false
	}
	return wantAdded(t, r, e, want.States[len(want.States)-1], want.Good[len(want.Good)-1]), true
}

func wantRoomOk(t *testing.T, r impl.Room, want bool) {
	t.Helper()
	if rightRoomByHand(r) != want {
		t.Fatalf("the test is wrong: of a room of %s it says %v", shownRoom(r), want)
	}
	if impl.RoomOk(r) != want {
		t.Errorf("RoomOk is %v of a room of %s", !want, shownRoom(r))
	}
}

func wantStateOf(t *testing.T, r impl.Room, want []impl.Item, members ...int) {
	t.Helper()
	if byHand, _ := beforeByHand(r, endsByHand(r)); !slices.Equal(byHand, want) || !slices.Equal(membersByHand(r, want), members) {
		t.Fatalf("the test is wrong: of a room of %s it says %s with %v, and not %s", shownRoom(r), shownState(want), members, shownState(byHand))
	}
	if got := impl.StateOf(r); !slices.Equal(got, want) {
		t.Errorf("StateOf a room of %s = %s; want %s", shownRoom(r), shownState(got), shownState(want))
	}
	if got := impl.Members(r); !slices.Equal(got, members) {
		t.Errorf("Members of a room of %s = %v; want %v", shownRoom(r), got, members)
	}
}

func wantSaid(t *testing.T, r impl.Room, want ...string) {
	t.Helper()
	if byHand := saidByHand(r); !slices.Equal(byHand, want) {
		t.Fatalf("the test is wrong: of a room of %s it says %q, and not %q", shownRoom(r), want, byHand)
	}
	if got := impl.Said(r); !slices.Equal(got, want) {
		t.Errorf("Said of a room of %s = %q; want %q", shownRoom(r), got, want)
	}
}

// holdRoom holds all that is told of a room against what is found by hand.
func holdRoom(t *testing.T, r impl.Room) {
	t.Helper()
	wantEnds(t, r, endsByHand(r)...)
	s, _ := beforeByHand(r, endsByHand(r))
	wantStateOf(t, r, s, membersByHand(r, s)...)
	wantSaid(t, r, saidByHand(r)...)
	wantRoomOk(t, r, rightRoomByHand(r))
}

// roomOf adds events that must all come in.
func roomOf(t *testing.T, events ...impl.Event) (r impl.Room) {
	t.Helper()
	for _, e := range events {
		var ok bool
		if r, ok = impl.AddEvent(r, e); !ok {
			t.Fatalf("AddEvent is false of %s", shownEvent(e))
		}
	}
	return r
}

// trunk is how each hand-made room begins: user 1 makes it, comes in, asks 2 in, who comes; 2 has a level of 50.
func trunk() []impl.Event {
	return []impl.Event{
		placed(1, 0, create(1)),
		placed(2, 1, member(1, 1, impl.Joined), 1),
		placed(3, 2, member(1, 2, impl.Invited), 2),
		placed(4, 3, member(2, 2, impl.Joined), 3),
		placed(5, 4, power(1, 100, 50, 0, 0, 0), 4),
	}
}

// happening is a room worked out by hand: of each event its State and whether it is Good, by its Id.
type happening struct {
	events []impl.Event
	states map[int][]impl.Item
	bad    []int
}

// forkedRoom goes several ways behind the event 5, which are brought together again by 11, 12 and 13; 14 comes late behind 5, and 15 is one more end.
func forkedRoom() happening {
	s5 := []impl.Item{{Key: 1, Id: 1}, {Key: 2, Id: 5}, {Key: 11, Id: 2}, {Key: 12, Id: 4}}
	s6 := []impl.Item{{Key: 1, Id: 1}, {Key: 2, Id: 5}, {Key: 11, Id: 2}, {Key: 12, Id: 6}}
	s7 := []impl.Item{{Key: 1, Id: 1}, {Key: 2, Id: 5}, {Key: 3, Id: 7}, {Key: 11, Id: 2}, {Key: 12, Id: 4}}
	return happening{
		events: append(trunk(),
			placed(6, 5, member(1, 2, impl.Banned), 5),
			placed(7, 5, name(2), 5),
			placed(8, 5, member(2, 3, impl.Invited), 5),
			placed(9, 6, member(3, 3, impl.Joined), 8),
			placed(10, 5, say(3), 5),
			placed(11, 6, worded("eleven", say(1)), 6, 7),
			placed(12, 7, name(2), 7, 9),
			placed(13, 8, say(2), 10, 11, 12),
			placed(14, 5, name(1), 5),
			placed(15, 6, worded("fifteen", say(2)), 7),
		),
		states: map[int][]impl.Item{
			1: {{Key: 1, Id: 1}},
			2: {{Key: 1, Id: 1}, {Key: 11, Id: 2}},
			3: {{Key: 1, Id: 1}, {Key: 11, Id: 2}, {Key: 12, Id: 3}},
			4: {{Key: 1, Id: 1}, {Key: 11, Id: 2}, {Key: 12, Id: 4}},
			5: s5,
			6: s6,
			7: s7,
			8: {{Key: 1, Id: 1}, {Key: 2, Id: 5}, {Key: 11, Id: 2}, {Key: 12, Id: 4}, {Key: 13, Id: 8}},
			9: {{Key: 1, Id: 1}, {Key: 2, Id: 5}, {Key: 11, Id: 2}, {Key: 12, Id: 4}, {Key: 13, Id: 9}},
			// 3 is not in the room at 5.
			10: s5,
			// 2 is banned, which comes ahead of the name that 2 gave.
			11: s6,
			// The name of 7 stays, and 3 can't come in any more: that 2 asked 3 in is not in the clash.
			12: {{Key: 1, Id: 1}, {Key: 2, Id: 5}, {Key: 3, Id: 12}, {Key: 11, Id: 2}, {Key: 12, Id: 4}},
			// Nobody who is banned says anything.
			13: s6,
			14: {{Key: 1, Id: 1}, {Key: 2, Id: 5}, {Key: 3, Id: 14}, {Key: 11, Id: 2}, {Key: 12, Id: 4}},
			15: s7,
		},
		bad: []int{10, 13},
	}
}

// makers has two events that make the room, brought together: who made it by the lesser Depth and Id is found.
func makers() happening {
	s2 := []impl.Item{{Key: 1, Id: 1}, {Key: 11, Id: 2}}
	return happening{
		events: []impl.Event{
			placed(1, 0, create(1)),
			placed(2, 1, member(1, 1, impl.Joined), 1),
			placed(3, 0, create(2)),
			placed(4, 1, member(2, 2, impl.Joined), 3),
			placed(5, 2, say(2), 2, 4),
			placed(6, 2, worded("six", say(1)), 2, 4),
			placed(7, 2, worded("seven", say(2)), 4),
			placed(8, 2, member(2, 1, impl.Joined), 4),
		},
		states: map[int][]impl.Item{
			1: {{Key: 1, Id: 1}}, 2: s2, 3: {{Key: 1, Id: 3}}, 4: {{Key: 1, Id: 3}, {Key: 12, Id: 4}}, 5: s2, 6: s2,
			7: {{Key: 1, Id: 3}, {Key: 12, Id: 4}}, 8: {{Key: 1, Id: 3}, {Key: 12, Id: 4}},
		},
		bad: []int{5, 8},
	}
}

// coming goes through the orders in which events could have come.
type coming struct {
	of happening
	// known are the states of the rooms with the same events, by these.
	known  map[string][]impl.Item
	orders int
}

func idsIn(r impl.Room) (ids []int) {
	for _, e := range r.Events {
		ids = append(ids, e.Id)
	}
	return ids
}

// allIn goes on from a room: what names one that is not there yet is refused, all others come in with the State and Good by hand.
func (c *coming) allIn(t *testing.T, r impl.Room, left []impl.Event) {
	t.Helper()
	if len(left) == 0 {
		c.orders++
		if !impl.RoomOk(r) {
			t.Fatalf("RoomOk is false of a room of %s", shownRoom(r))
		}
	}
	for at, e := range left {
		ready := !slices.ContainsFunc(e.Prev, func(id int) bool { return placeByHand(r, id) < 0 })
		if !ready {
			refuseAdd(t, r, e)
			continue
		}
		then := wantAdded(t, r, e, c.of.states[e.Id], !slices.Contains(c.of.bad, e.Id))
		c.holdState(t, then)
		c.allIn(t, then, slices.Delete(slices.Clone(left), at, at+1))
	}
}

func (c *coming) holdState(t *testing.T, r impl.Room) {
	t.Helper()
	set := fmt.Sprint(slices.Sorted(slices.Values(idsIn(r))))
	if _, there := c.known[set]; !there {
		var of [][]impl.Item
		for _, id := range endsByHand(r) {
			of = append(of, c.of.states[id])
		}
		c.known[set] = resolveByHand(r.Events, of)
	}
	if got := impl.StateOf(r); !slices.Equal(got, c.known[set]) {
		t.Fatalf("StateOf a room of %s = %s; of another with the same events it is %s", shownRoom(r), shownState(got), shownState(c.known[set]))
	}
	if got := impl.Said(r); !slices.Equal(got, saidByHand(r)) {
		t.Fatalf("Said of a room of %s = %q", shownRoom(r), got)
	}
}

// Promise 12: in each order in which the events could have come each has the same State and Good, and rooms with the same events have the same StateOf.
func TestRoomInEachOrder(t *testing.T) {
	for _, c := range []struct {
		of      happening
		most    int
		want    []impl.Item
		members []int
	}{
		{forkedRoom(), 2000, []impl.Item{{Key: 1, Id: 1}, {Key: 2, Id: 5}, {Key: 3, Id: 14}, {Key: 11, Id: 2}, {Key: 12, Id: 6}}, []int{1}},
		{makers(), 100, []impl.Item{{Key: 1, Id: 1}, {Key: 11, Id: 2}}, []int{1}},
	} {
		walk := coming{of: c.of, known: map[string][]impl.Item{}}
		walk.allIn(t, impl.Room{}, c.of.events)
		if walk.orders < c.most {
			t.Errorf("gone through %d orders alone", walk.orders)
		}
		r := roomOf(t, c.of.events...)
		wantStateOf(t, r, c.want, c.members...)
		holdRoom(t, r)
	}
	r := roomOf(t, forkedRoom().events...)
	wantEnds(t, r, 13, 14, 15)
	wantSaid(t, r, "eleven", "fifteen")
	wantSaid(t, roomOf(t, makers().events...), "six", "seven")
}

// The hand-made room is held by hand, too: its states are those that resolveByHand finds.
func TestHandMadeRooms(t *testing.T) {
	for _, h := range []happening{forkedRoom(), makers()} {
		var r impl.Room
		for _, e := range h.events {
			r, _ = addByHand(r, e)
			last := len(r.Events) - 1
			if last < 0 || r.Events[last].Id != e.Id || !slices.Equal(r.States[last], h.states[e.Id]) || r.Good[last] == slices.Contains(h.bad, e.Id) {
				t.Fatalf("the test is wrong: of %s it says %s", shownEvent(e), shownState(h.states[e.Id]))
			}
		}
	}
}

// Promise 12: what is not allowed tells nothing, and all that was there stays; nor does it change what is found, where it comes behind all ends.
func TestNotAllowedChangesNothing(t *testing.T) {
	next := draws(120)
	bad, good := 0, 0
	for _, h := range []happening{forkedRoom(), makers(), {events: trunk()}} {
		for count := 1; count <= len(h.events); count++ {
			r := roomOf(t, h.events[:count]...)
			ends := impl.EndsOf(r)
			if len(ends) > impl.MaxPrev {
				continue
			}
			was := impl.StateOf(r)
			for _, e := range everyMove(100, next(101), next(101), 0, 0) {
				if e.Kind == impl.KindCreate {
					continue
				}
				e = placed(500, impl.DepthOf(r, ends), e, ends...)
				then, ok := impl.AddEvent(r, e)
				if !ok {
					t.Fatalf("AddEvent(a room of %s, %s) is false", shownRoom(r), shownEvent(e))
				}
				if then.Good[count] {
					good++
					wantAdded(t, r, e, putStateByHand(was, impl.KeyOf(e), 500), true)
					continue
				}
				bad++
				wantAdded(t, r, e, was, false)
				if got := impl.StateOf(then); !slices.Equal(got, was) {
					t.Fatalf("%s is not allowed, but StateOf was %s and is %s", shownEvent(e), shownState(was), shownState(got))
				}
				if !slices.Equal(impl.Members(then), impl.Members(r)) || !slices.Equal(impl.Said(then), impl.Said(r)) {
					t.Fatalf("%s is not allowed, but who is in or what is said changes", shownEvent(e))
				}
			}
		}
	}
	if bad < 1000 || good < 100 {
		t.Errorf("of the events %d are not allowed, %d are", bad, good)
	}
}

func eventRoom(events ...impl.Event) impl.Room { return impl.Room{Events: events} }

func TestEnds(t *testing.T) {
	one := func(id int, prev ...int) impl.Event { return linked(id, 0, prev...) }
	for _, c := range []struct {
		events []impl.Event
		want   []int
	}{
		{nil, nil}, {[]impl.Event{}, nil}, {[]impl.Event{one(1)}, []int{1}}, {[]impl.Event{one(7)}, []int{7}},
		// A chain, in any order.
		{[]impl.Event{one(1), one(2, 1)}, []int{2}}, {[]impl.Event{one(1), one(2, 1), one(3, 2)}, []int{3}}, {[]impl.Event{one(3, 2), one(1), one(2, 1)}, []int{3}}, {[]impl.Event{one(9), one(5, 9), one(2, 5)}, []int{2}},
		// Several ends, in order of Ids.
		{[]impl.Event{one(1), one(2)}, []int{1, 2}}, {[]impl.Event{one(9), one(7), one(8)}, []int{7, 8, 9}},
		{[]impl.Event{one(1), one(2, 1), one(3, 1)}, []int{2, 3}}, {[]impl.Event{one(9), one(3, 9), one(7, 9), one(5, 9)}, []int{3, 5, 7}}, {[]impl.Event{one(1), one(2, 1), one(3, 1), one(4, 2)}, []int{3, 4}},
		{[]impl.Event{one(100), one(20), one(3)}, []int{3, 20, 100}},
		// Brought together, and one that comes late.
		{[]impl.Event{one(1), one(2, 1), one(3, 1), one(4, 2, 3)}, []int{4}}, {[]impl.Event{one(1), one(2, 1), one(3, 1), one(4, 2, 3), one(5, 1)}, []int{4, 5}}, {[]impl.Event{one(1), one(2, 1), one(3, 2), one(4, 1, 2, 3)}, []int{4}},
		// One that names itself is named by no other.
		{[]impl.Event{one(1, 1)}, []int{1}}, {[]impl.Event{one(1, 1, 1)}, []int{1}}, {[]impl.Event{one(1), one(2, 1, 2)}, []int{2}}, {[]impl.Event{one(1, 1), one(2, 1)}, []int{2}}, {[]impl.Event{one(2, 1), one(1, 1)}, []int{2}}, {[]impl.Event{one(1, 1), one(2, 2), one(3)}, []int{1, 2, 3}},
		// Rings have no end.
		{[]impl.Event{one(1, 2), one(2, 1)}, nil}, {[]impl.Event{one(1, 3), one(2, 1), one(3, 2)}, nil}, {[]impl.Event{one(1, 2), one(2, 1), one(3, 2)}, []int{3}},
		// Ids that stand twice: each is told once, and named is each event that has the Id.
		{[]impl.Event{one(1), one(1)}, []int{1}}, {[]impl.Event{one(1), one(1), one(1), one(2)}, []int{1, 2}}, {[]impl.Event{one(1), one(1), one(2, 1)}, []int{2}}, {[]impl.Event{one(1), one(2, 1), one(2, 1)}, []int{2}}, {[]impl.Event{one(1), one(2, 1), one(1)}, []int{2}},
		{[]impl.Event{one(1), one(2), one(2, 1), one(3, 2), one(3)}, []int{3}}, {[]impl.Event{one(1, 2), one(2), one(2, 1)}, nil},
		// Twice, and naming their own Id: of one such no other names it, of two each names the other.
		{[]impl.Event{one(1), one(1, 1)}, []int{1}}, {[]impl.Event{one(1, 1), one(1)}, []int{1}}, {[]impl.Event{one(1, 1, 1), one(1), one(1)}, []int{1}}, {[]impl.Event{one(1, 1), one(1, 1)}, nil}, {[]impl.Event{one(1), one(1, 1), one(1, 1)}, nil}, {[]impl.Event{one(1, 1), one(1), one(2, 1)}, []int{2}}, {[]impl.Event{one(2, 1), one(1), one(1, 1)}, []int{2}}, {[]impl.Event{one(1, 1), one(2, 1), one(1, 1)}, []int{2}},
		// Prev that are not in the room, too many, or not in order.
		{[]impl.Event{one(2, 1)}, []int{2}}, {[]impl.Event{one(2, 7, 8), one(3, 2, 9)}, []int{3}}, {[]impl.Event{one(1), one(2), one(3), one(4), one(5, 4, 1, 3, 2)}, []int{5}}, {[]impl.Event{one(1), one(2, 1, 1, 1)}, []int{2}},
		// Ids that are none.
		{[]impl.Event{one(math.MaxInt), one(0), one(-1), one(math.MinInt)}, []int{math.MinInt, -1, 0, math.MaxInt}}, {[]impl.Event{one(math.MaxInt), one(0, math.MaxInt), one(-1, 0)}, []int{-1}}, {make([]impl.Event, 3), []int{0}},
	} {
		wantEnds(t, eventRoom(c.events...), c.want...)
		// States and Good do not count.
		wantEnds(t, impl.Room{Events: c.events, States: make([][]impl.Item, len(c.events)), Good: make([]bool, len(c.events)+1)}, c.want...)
	}
	wantEnds(t, impl.Room{States: [][]impl.Item{{{Key: 1, Id: 1}}}, Good: []bool{true}})
}

// Every list of up to four events that name each other in any way.
func TestEndsOfAllLists(t *testing.T) {
	var try func(events []impl.Event)
	try = func(events []impl.Event) {
		wantEnds(t, eventRoom(events...), endsByHand(eventRoom(events...))...)
		if len(events) == 4 {
			return
		}
		for id := 1; id <= 2; id++ {
			for _, prev := range [][]int{nil, {1}, {2}, {1, 2}, {3}} {
				try(append(slices.Clip(events), linked(id, 0, prev...)))
			}
		}
	}
	try(nil)
}

func TestBefore(t *testing.T) {
	h := forkedRoom()
	r := roomOf(t, h.events...)
	wantBefore(t, r, nil, nil)
	wantBefore(t, r, []int{}, nil)
	wantBefore(t, impl.Room{}, nil, nil)
	refuseBefore(t, impl.Room{}, 1)
	for id, s := range h.states {
		wantBefore(t, r, []int{id}, s)
		wantBefore(t, r, []int{id, id}, s)
		wantBefore(t, r, []int{id, id, id, id}, s)
	}
	for _, c := range []struct {
		ids  []int
		want []impl.Item
	}{
		{[]int{6, 7}, h.states[6]}, {[]int{7, 9}, h.states[7]}, {[]int{5, 6}, h.states[6]}, {[]int{5, 7}, h.states[7]}, {[]int{10, 11, 12}, h.states[6]}, {[]int{7, 14}, h.states[7]}, {[]int{12, 14}, h.states[12]},
		{[]int{7, 8}, []impl.Item{{Key: 1, Id: 1}, {Key: 2, Id: 5}, {Key: 3, Id: 7}, {Key: 11, Id: 2}, {Key: 12, Id: 4}, {Key: 13, Id: 8}}},
		{[]int{13, 14, 15}, []impl.Item{{Key: 1, Id: 1}, {Key: 2, Id: 5}, {Key: 3, Id: 14}, {Key: 11, Id: 2}, {Key: 12, Id: 6}}},
		// More than an event may name.
		{[]int{5, 6, 7, 11, 13}, h.states[6]},
	} {
		for _, order := range inEachOrder(c.ids) {
			wantBefore(t, r, order, c.want)
			wantBefore(t, r, append(order, order[0]), c.want)
		}
	}
	for _, id := range append([]int{16, 99}, wrongIndex...) {
		refuseBefore(t, r, id)
		refuseBefore(t, r, 1, id)
		refuseBefore(t, r, id, 1)
		refuseBefore(t, r, 6, 7, id)
		refuseBefore(t, r, id, id)
	}
}

// Rooms that are not right: the State stands at the place of the first event of an Id; where there is none, the answer is false.
func TestBeforeInWrongRooms(t *testing.T) {
	h := forkedRoom()
	whole := roomOf(t, h.events...)
	for count := range len(h.events) + 1 {
		r := copyRoom(whole)
		r.States = r.States[:count]
		for id := 1; id <= 15; id++ {
			if id <= count {
				wantBefore(t, r, []int{id}, h.states[id])
				wantBefore(t, r, []int{id, 1}, resolveByHand(r.Events, [][]impl.Item{h.states[id], h.states[1]}))
				continue
			}
			refuseBefore(t, r, id)
			refuseBefore(t, r, 1, id)
			refuseBefore(t, r, id, 1)
		}
	}
	none := impl.Room{Events: whole.Events}
	wantBefore(t, none, nil, nil)
	refuseBefore(t, none, 1)
	// More States than events, and States without any.
	more := copyRoom(whole)
	more.States, more.Good = append(more.States, itemsOf(1, 2)), nil
	wantBefore(t, more, []int{15}, h.states[15])
	refuseBefore(t, more, 16)
	refuseBefore(t, impl.Room{States: whole.States, Good: whole.Good}, 1)
	// An Id that stands twice.
	a, b := itemsOf(1), itemsOf(1, 2)
	wantBefore(t, impl.Room{Events: []impl.Event{linked(3, 0), linked(3, 0)}, States: [][]impl.Item{a, b}}, []int{3}, a)
	wantBefore(t, impl.Room{Events: []impl.Event{linked(3, 0), linked(3, 0)}, States: [][]impl.Item{b, a}}, []int{3, 3}, b)
	refuseBefore(t, impl.Room{Events: []impl.Event{linked(4, 0), linked(3, 0), linked(3, 0)}, States: [][]impl.Item{b}}, 3)
	// A State that is not right is answered as it is, when it is the only one.
	for _, s := range wrongStates() {
		wantBefore(t, impl.Room{Events: []impl.Event{linked(3, 0)}, States: [][]impl.Item{s}}, []int{3}, s)
	}
	// Ids that no right event has.
	for _, id := range wrongIndex {
		wantBefore(t, impl.Room{Events: []impl.Event{linked(id, 0)}, States: [][]impl.Item{a}}, []int{id}, a)
	}
}

func TestDepths(t *testing.T) {
	const most = impl.MaxIndex
	r := eventRoom(
		linked(1, 0), linked(2, 5), linked(3, 3), linked(4, -1), linked(5, math.MinInt), linked(6, most-1), linked(7, most), linked(8, most+1), linked(9, math.MaxInt), linked(10, -2),
		// The first one of an Id counts.
		linked(3, 77), linked(0, 4), linked(-1, 6), linked(math.MaxInt, 8),
	)
	for _, c := range []struct {
		ids  []int
		want int
	}{
		{nil, 0}, {[]int{}, 0}, {[]int{1}, 1}, {[]int{2}, 6}, {[]int{3}, 4}, {[]int{2, 2}, 6},
		{[]int{1, 2}, 6}, {[]int{1, 3}, 4}, {[]int{1, 2, 3}, 6}, {[]int{3, 3, 1}, 4},
		// Not in the room.
		{[]int{99}, 0}, {[]int{99, 98, -7}, 0}, {[]int{99, 1}, 1}, {[]int{99, 2, 98}, 6}, {[]int{math.MinInt}, 0},
		// Below 0.
		{[]int{4}, 0}, {[]int{5}, 0}, {[]int{10}, 0}, {[]int{4, 5, 10}, 0}, {[]int{4, 1}, 1}, {[]int{5, 2}, 6}, {[]int{4, 99}, 0},
		// At MaxIndex and beyond.
		{[]int{6}, most}, {[]int{7}, most + 1}, {[]int{8}, most + 1}, {[]int{9}, most + 1}, {[]int{6, 7}, most + 1}, {[]int{1, 6}, most}, {[]int{9, 5}, most + 1}, {[]int{9, 99, 1}, most + 1}, {[]int{6, 7, 8, 9}, most + 1},
		// Ids that no right event has.
		{[]int{0}, 5}, {[]int{-1}, 7}, {[]int{math.MaxInt}, 9},
	} {
		for _, order := range inEachOrder(c.ids) {
			wantDepth(t, r, c.want, order...)
		}
		wantDepth(t, impl.Room{}, 0, c.ids...)
		wantDepth(t, impl.Room{States: make([][]impl.Item, 12), Good: make([]bool, 12)}, 0, c.ids...)
	}
	for _, depth := range edgeDepths {
		wantDepth(t, eventRoom(linked(1, depth)), depth+1, 1)
		wantDepth(t, eventRoom(linked(2, 0), linked(1, depth)), depth+1, 1, 2)
	}
	h := forkedRoom()
	for _, e := range h.events {
		wantDepth(t, roomOf(t, h.events...), e.Depth, e.Prev...)
		wantDepth(t, roomOf(t, h.events...), e.Depth+1, e.Id)
	}
}

// Each reason for which an event does not come in, where nothing else is in its way.
func TestAddEventRefused(t *testing.T) {
	r := roomOf(t, trunk()...)
	s := forkedRoom().states[5]
	base := placed(20, 5, say(1), 5)
	wantAdded(t, r, base, s, true)
	// Not right, though Id, Prev and Depth fit.
	for _, id := range wrongIndex {
		refuseAdd(t, r, placed(id, 5, say(1), 5))
	}
	for _, sender := range wrongUsers {
		refuseAdd(t, r, placed(20, 5, say(sender), 5))
	}
	for _, kind := range []int{0, 6, -1, 256, math.MaxInt, math.MinInt} {
		e := base
		e.Kind, e.Text = kind, ""
		refuseAdd(t, r, e)
	}
	for _, e := range []impl.Event{
		worded(longText(impl.MaxWord+1), base), {Id: 20, Kind: impl.KindSay, Sender: 1, User: 1, Prev: []int{5}, Depth: 5}, {Id: 20, Kind: impl.KindSay, Sender: 1, Levels: []int{0, 0, 0, 0, 0}, Prev: []int{5}, Depth: 5},
		placed(20, 5, member(1, 6, impl.Invited), 5), placed(20, 5, member(1, 3, 4), 5), placed(20, 5, power(1, 100, 50, 0, 0), 5), placed(20, 5, power(1, 101, 50, 0, 0, 0), 5), placed(20, 5, worded("x", power(1, 100, 50, 0, 0, 0)), 5),
		// No Prev, too many, not ascending.
		placed(20, 0, say(1)), placed(20, 4, say(1), 1, 2, 3, 4), placed(20, 5, say(1), 5, 5), placed(20, 5, say(1), 5, 4), placed(20, 5, say(1), 4, 5, 5), placed(20, 5, create(1), 5), placed(20, 1, create(1), 1),
	} {
		refuseAdd(t, r, e)
	}
	wantAdded(t, r, worded(longText(impl.MaxWord), base), s, true)
	wantAdded(t, r, placed(20, 5, say(1), 3, 4, 5), s, true)
	// The Id is there already; the room's own events again, and others with their Ids.
	for _, e := range trunk() {
		refuseAdd(t, r, e)
		if e.Id != 5 {
			refuseAdd(t, r, placed(e.Id, 5, say(1), 5))
			refuseAdd(t, r, placed(e.Id, 0, create(1)))
		}
	}
	refuseAdd(t, r, placed(5, 4, say(1), 4))
	refuseAdd(t, r, placed(5, 4, power(1, 100, 50, 0, 0, 0), 4))
	// A Prev is not there, and the Depth is that of the others.
	for _, e := range []impl.Event{placed(20, 0, say(1), 6), placed(20, 5, say(1), 5, 6), placed(20, 5, say(1), 5, impl.MaxIndex), placed(20, 5, say(1), 4, 5, 19), placed(20, 1, say(1), 1, 21), placed(20, 0, say(1), 21, 22, 23)} {
		refuseAdd(t, r, e)
		refuseAdd(t, impl.Room{}, e)
	}
	refuseAdd(t, impl.Room{}, placed(20, 0, say(1), 1))
	refuseAdd(t, impl.Room{}, placed(20, 1, say(1), 1))
	// Depth: one less, one more, and far off.
	for _, depth := range []int{-1, 0, 1, 3, 4, 6, 7, impl.MaxIndex, impl.MaxIndex + 1, math.MaxInt, math.MinInt} {
		refuseAdd(t, r, placed(20, depth, say(1), 5))
		refuseAdd(t, r, placed(20, depth, say(1), 1, 5))
		if depth != 0 {
			refuseAdd(t, r, placed(20, depth, create(3)))
			refuseAdd(t, impl.Room{}, placed(20, depth, create(3)))
		}
		if depth != 3 {
			refuseAdd(t, r, placed(20, depth, say(1), 3))
		}
	}
}

// fullRoom has so many events, each behind the one ahead.
func fullRoom(t *testing.T, count int) impl.Room {
	t.Helper()
	events := trunk()
	for id := 6; id <= count; id++ {
		events = append(events, placed(id, id-1, worded(fmt.Sprint(id), say(1+id%2)), id-1))
	}
	return roomOf(t, events[:count]...)
}

func TestMaxRoom(t *testing.T) {
	if impl.MaxRoom != 40 {
		t.Fatalf("MaxRoom is %d", impl.MaxRoom)
	}
	s := forkedRoom().states[5]
	for count := 5; count < impl.MaxRoom; count++ {
		r := fullRoom(t, count)
		wantAdded(t, r, placed(500, count, say(1), count), s, true)
		wantAdded(t, r, placed(500, count, say(3), count), s, false)
		wantAdded(t, r, placed(500, 0, create(1)), []impl.Item{{Key: 1, Id: 500}}, true)
	}
	full := fullRoom(t, impl.MaxRoom)
	holdRoom(t, full)
	wantRoomOk(t, full, true)
	for _, e := range []impl.Event{placed(500, 40, say(1), 40), placed(500, 40, say(3), 40), placed(500, 5, name(1), 5), placed(500, 0, create(1))} {
		refuseAdd(t, full, e)
		// One more than that.
		more := copyRoom(full)
		more.Events, more.States, more.Good = append(more.Events, placed(41, 40, say(1), 40)), append(more.States, s), append(more.Good, true)
		refuseAdd(t, more, e)
		wantRoomOk(t, more, false)
		// The number of events counts, not of States.
		more.Events = full.Events[:39]
		if e.Depth < 39 {
			holdAdd(t, more, e)
			more.States, more.Good = nil, nil
			holdAdd(t, more, e)
		}
	}
}

func TestAddEventOfEachKind(t *testing.T) {
	h := forkedRoom()
	s5 := h.states[5]
	r := roomOf(t, trunk()...)
	for _, c := range []struct {
		e    impl.Event
		want []impl.Item
	}{
		{member(1, 3, impl.Invited), []impl.Item{{Key: 1, Id: 1}, {Key: 2, Id: 5}, {Key: 11, Id: 2}, {Key: 12, Id: 4}, {Key: 13, Id: 20}}},
		{member(2, 5, impl.Invited), []impl.Item{{Key: 1, Id: 1}, {Key: 2, Id: 5}, {Key: 11, Id: 2}, {Key: 12, Id: 4}, {Key: 15, Id: 20}}},
		{member(1, 2, impl.Left), []impl.Item{{Key: 1, Id: 1}, {Key: 2, Id: 5}, {Key: 11, Id: 2}, {Key: 12, Id: 20}}},
		{member(1, 2, impl.Banned), []impl.Item{{Key: 1, Id: 1}, {Key: 2, Id: 5}, {Key: 11, Id: 2}, {Key: 12, Id: 20}}},
		{member(2, 2, impl.Left), []impl.Item{{Key: 1, Id: 1}, {Key: 2, Id: 5}, {Key: 11, Id: 2}, {Key: 12, Id: 20}}},
		{member(1, 1, impl.Joined), []impl.Item{{Key: 1, Id: 1}, {Key: 2, Id: 5}, {Key: 11, Id: 20}, {Key: 12, Id: 4}}},
		{member(1, 1, impl.Left), []impl.Item{{Key: 1, Id: 1}, {Key: 2, Id: 5}, {Key: 11, Id: 20}, {Key: 12, Id: 4}}},
		{power(1, 100, 0, 0, 0, 0), []impl.Item{{Key: 1, Id: 1}, {Key: 2, Id: 20}, {Key: 11, Id: 2}, {Key: 12, Id: 4}}},
		{power(2, 100, 40, 0, 0, 50), []impl.Item{{Key: 1, Id: 1}, {Key: 2, Id: 20}, {Key: 11, Id: 2}, {Key: 12, Id: 4}}},
		{name(1), []impl.Item{{Key: 1, Id: 1}, {Key: 2, Id: 5}, {Key: 3, Id: 20}, {Key: 11, Id: 2}, {Key: 12, Id: 4}}},
		{name(2), []impl.Item{{Key: 1, Id: 1}, {Key: 2, Id: 5}, {Key: 3, Id: 20}, {Key: 11, Id: 2}, {Key: 12, Id: 4}}},
		{say(1), s5}, {say(2), s5}, {worded("", say(2)), s5},
	} {
		then := wantAdded(t, r, placed(20, 5, c.e, 5), c.want, true)
		holdRoom(t, then)
	}
	for _, e := range []impl.Event{
		member(3, 3, impl.Joined), member(1, 3, impl.Joined), member(1, 3, impl.Left), member(2, 1, impl.Banned), member(2, 1, impl.Left), member(1, 2, impl.Invited), member(3, 4, impl.Invited), member(1, 1, impl.Banned), member(1, 1, impl.Invited),
		power(3, 100, 50, 0, 0, 0), power(2, 100, 51, 0, 0, 0), power(2, 99, 50, 0, 0, 0), name(3), name(5), say(3), say(4), worded("", say(5)),
	} {
		then := wantAdded(t, r, placed(20, 5, e, 5), s5, false)
		holdRoom(t, then)
	}
	// One that makes the room names none, so that it comes into a state without anything and is Good always.
	for sender := 1; sender <= 5; sender++ {
		wantAdded(t, impl.Room{}, placed(20, 0, create(sender)), []impl.Item{{Key: 1, Id: 20}}, true)
		then := wantAdded(t, r, placed(20, 0, create(sender)), []impl.Item{{Key: 1, Id: 20}}, true)
		wantEnds(t, then, 5, 20)
		holdRoom(t, then)
	}
	// Ids at their edges.
	for _, id := range edgeIndexes {
		wantAdded(t, impl.Room{}, placed(id, 0, create(1)), []impl.Item{{Key: 1, Id: id}}, true)
		if id > 5 {
			wantAdded(t, r, placed(id, 5, name(1), 5), []impl.Item{{Key: 1, Id: 1}, {Key: 2, Id: 5}, {Key: 3, Id: id}, {Key: 11, Id: 2}, {Key: 12, Id: 4}}, true)
		}
	}
}

// What comes late is held against the state of those it names, and not against what the room has become.
func TestLateEvents(t *testing.T) {
	h := forkedRoom()
	s5, s6 := h.states[5], h.states[6]
	r := roomOf(t, append(trunk(), placed(6, 5, member(1, 2, impl.Banned), 5), placed(16, 6, say(1), 6))...)
	wantStateOf(t, r, s6, 1)
	late := wantAdded(t, r, placed(20, 5, worded("late", say(2)), 5), s5, true)
	wantEnds(t, late, 16, 20)
	wantStateOf(t, late, s6, 1)
	wantSaid(t, late, "hi", "late")
	wantAdded(t, r, placed(20, 6, say(2), 6), s6, false)
	wantAdded(t, r, placed(20, 7, say(2), 16), s6, false)
	wantAdded(t, r, placed(20, 7, say(2), 5, 16), s6, false)
	// A name that 2 gave is not found any more, that of 1 is.
	named := wantAdded(t, r, placed(20, 5, name(2), 5), putStateByHand(s5, 3, 20), true)
	wantStateOf(t, named, s6, 1)
	named = wantAdded(t, r, placed(20, 5, name(1), 5), putStateByHand(s5, 3, 20), true)
	wantStateOf(t, named, putStateByHand(s6, 3, 20), 1)
	// Who had not come in yet says nothing there, though he is in now.
	r = roomOf(t, trunk()...)
	wantAdded(t, r, placed(20, 2, say(2), 2), h.states[2], false)
	wantAdded(t, r, placed(20, 3, say(2), 3), h.states[3], false)
	wantAdded(t, r, placed(20, 4, say(2), 4), h.states[4], true)
	// A level that came later does not count.
	wantAdded(t, r, placed(20, 4, name(2), 4), h.states[4], false)
	wantAdded(t, r, placed(20, 5, name(2), 5), putStateByHand(s5, 3, 20), true)
	// One that is not Good is an end all the same: the states that are there stay, but what is found of all ends hangs on its State, too.
	r = roomOf(t, append(trunk(), h.events[7], h.events[8])...)
	wantStateOf(t, r, h.states[9], 1, 2, 3)
	late = wantAdded(t, r, placed(20, 5, say(3), 5), s5, false)
	wantEnds(t, late, 9, 20)
	wantStateOf(t, late, s5, 1, 2)
	// Several that are no ends any more.
	late = wantAdded(t, roomOf(t, h.events...), placed(20, 6, say(2), 7, 8), []impl.Item{{Key: 1, Id: 1}, {Key: 2, Id: 5}, {Key: 3, Id: 7}, {Key: 11, Id: 2}, {Key: 12, Id: 4}, {Key: 13, Id: 8}}, true)
	wantEnds(t, late, 13, 14, 15, 20)
}

// Of a room that is not right AddEvent asks for nothing but what the event needs of it.
func TestAddEventToWrongRooms(t *testing.T) {
	h := forkedRoom()
	whole := roomOf(t, trunk()...)
	e := placed(20, 5, say(1), 5)
	// States that the events do not make: these count.
	r := copyRoom(whole)
	r.States[4] = h.states[1]
	wantAdded(t, r, e, h.states[1], false)
	r.States[4] = nil
	wantAdded(t, r, e, nil, false)
	r.States[4] = h.states[2]
	wantAdded(t, r, placed(20, 5, name(1), 5), putStateByHand(h.states[2], 3, 20), true)
	for _, s := range wrongStates() {
		r.States[4] = s
		holdAdd(t, r, e)
		holdAdd(t, r, placed(20, 5, name(1), 5))
	}
	// Good does not count.
	r = copyRoom(whole)
	for at := range r.Good {
		r.Good[at] = false
	}
	wantAdded(t, r, e, h.states[5], true)
	// Lists of unlike lengths stay so: each has one more.
	r.Good = nil
	wantAdded(t, r, e, h.states[5], true)
	r.Good = make([]bool, 9)
	wantAdded(t, r, e, h.states[5], true)
	r.States = append(copyRoom(whole).States, h.states[1], h.states[2])
	wantAdded(t, r, e, h.states[5], true)
	r.States = copyRoom(whole).States[:4]
	refuseAdd(t, r, e)
	refuseAdd(t, r, placed(20, 5, say(1), 4, 5))
	wantAdded(t, r, placed(20, 4, say(1), 4), h.states[4], true)
	refuseAdd(t, eventRoom(whole.Events...), e)
	wantAdded(t, eventRoom(whole.Events...), placed(20, 0, create(1)), []impl.Item{{Key: 1, Id: 20}}, true)
	wantAdded(t, impl.Room{States: whole.States, Good: whole.Good}, placed(20, 0, create(1)), []impl.Item{{Key: 1, Id: 20}}, true)
	// Depths at their edges.
	for _, c := range []struct{ depth, behind int }{{-1, 0}, {math.MinInt, 0}, {0, 1}, {77, 78}, {impl.MaxIndex - 1, impl.MaxIndex}} {
		r = copyRoom(whole)
		r.Events[4].Depth = c.depth
		wantAdded(t, r, placed(20, c.behind, say(1), 5), h.states[5], true)
		refuseAdd(t, r, placed(20, c.behind+1, say(1), 5))
		refuseAdd(t, r, placed(20, c.behind-1, say(1), 5))
	}
	for _, depth := range []int{impl.MaxIndex, impl.MaxIndex + 1, math.MaxInt} {
		r.Events[4].Depth = depth
		for _, behind := range []int{0, impl.MaxIndex - 1, impl.MaxIndex, impl.MaxIndex + 1, math.MaxInt, math.MinInt} {
			refuseAdd(t, r, placed(20, behind, say(1), 5))
		}
	}
	// Ids that stand twice: the first one counts.
	r = copyRoom(whole)
	r.Events, r.States, r.Good = append(r.Events, placed(5, 9, say(1), 4)), append(r.States, h.states[1]), append(r.Good, true)
	wantAdded(t, r, e, h.states[5], true)
	refuseAdd(t, r, placed(20, 10, say(1), 5))
	// The list is the room's: an event that is not in it tells nothing.
	r = copyRoom(whole)
	r.States[4] = putStateByHand(r.States[4], 11, 20)
	wantAdded(t, r, placed(20, 5, member(1, 1, impl.Joined), 5), r.States[4], false)
}

func TestStatesOfRooms(t *testing.T) {
	h := forkedRoom()
	wantStateOf(t, impl.Room{}, nil)
	wantSaid(t, impl.Room{})
	members := [][]int{nil, nil, {1}, {1}, {1, 2}, {1, 2}, {1}, {1}}
	for count := 1; count <= 5; count++ {
		wantStateOf(t, roomOf(t, h.events[:count]...), h.states[count], members[count]...)
	}
	// Ends that clash.
	all := roomOf(t, h.events...)
	for _, c := range []struct {
		count   int
		want    []impl.Item
		members []int
	}{
		{6, h.states[6], []int{1}}, {7, h.states[6], []int{1}}, {8, h.states[6], []int{1}}, {9, h.states[6], []int{1}}, {13, h.states[6], []int{1}},
		{14, putStateByHand(h.states[6], 3, 14), []int{1}}, {15, putStateByHand(h.states[6], 3, 14), []int{1}},
	} {
		wantStateOf(t, roomOf(t, h.events[:c.count]...), c.want, c.members...)
	}
	holdRoom(t, all)
	// Without the ban: two names, and one more who is asked in.
	named := roomOf(t, append(trunk(), h.events[6], h.events[7], h.events[13])...)
	wantEnds(t, named, 7, 8, 14)
	wantStateOf(t, named, []impl.Item{{Key: 1, Id: 1}, {Key: 2, Id: 5}, {Key: 3, Id: 7}, {Key: 11, Id: 2}, {Key: 12, Id: 4}, {Key: 13, Id: 8}}, 1, 2)
}

// Users that came in, went, were put out or banned, and came again.
func TestMembers(t *testing.T) {
	events := trunk()
	last := 5
	step := func(e impl.Event, want ...int) {
		t.Helper()
		e = placed(last+1, last, e, last)
		last++
		events = append(events, e)
		r := roomOf(t, events...)
		if !r.Good[len(r.Good)-1] {
			t.Fatalf("%s is not Good", shownEvent(e))
		}
		wantStateOf(t, r, impl.StateOf(r), want...)
		if got := impl.Members(r); !slices.Equal(got, want) {
			t.Errorf("Members behind %s are %v; want %v", shownEvent(e), got, want)
		}
	}
	step(member(1, 5, impl.Invited), 1, 2)
	step(member(5, 5, impl.Joined), 1, 2, 5)
	step(member(2, 3, impl.Invited), 1, 2, 5)
	step(member(3, 3, impl.Joined), 1, 2, 3, 5)
	step(member(3, 4, impl.Invited), 1, 2, 3, 5)
	step(member(4, 4, impl.Joined), 1, 2, 3, 4, 5)
	step(member(3, 3, impl.Left), 1, 2, 4, 5)
	step(member(2, 4, impl.Left), 1, 2, 5)
	step(member(1, 5, impl.Banned), 1, 2)
	step(member(2, 3, impl.Invited), 1, 2)
	step(member(3, 3, impl.Joined), 1, 2, 3)
	step(member(1, 1, impl.Left), 2, 3)
	step(member(3, 3, impl.Left), 2)
	step(member(2, 2, impl.Left))
	// Of a room that is not right any State counts, and the Member of any event.
	r := impl.Room{Events: []impl.Event{{Id: 7, Kind: impl.KindSay, Member: impl.Joined}, {Id: 8, Member: 4}}, States: [][]impl.Item{{{Key: 15, Id: 7}, {Key: 11, Id: 7}, {Key: 12, Id: 8}, {Key: 13, Id: 9}, {Key: 16, Id: 7}, {Key: 10, Id: 7}}}}
	r.States = append(r.States, r.States[0])
	wantStateOf(t, r, r.States[0], 1, 5)
	// A State for an end is not there.
	wantStateOf(t, impl.Room{Events: r.Events, States: r.States[:1]}, nil)
	wantStateOf(t, eventRoom(trunk()...), nil)
	wantStateOf(t, impl.Room{States: r.States, Good: []bool{true}}, nil)
}

func TestSaid(t *testing.T) {
	events := append(trunk(),
		placed(6, 5, worded("one", say(1)), 5), placed(7, 6, worded("", say(2)), 6), placed(8, 7, worded("not in", say(3)), 7), placed(9, 8, worded("a name", name(1)), 8),
		placed(10, 9, worded("", say(3)), 9), placed(11, 10, worded("one", say(2)), 10), placed(12, 11, worded(longText(impl.MaxWord), say(1)), 11), placed(13, 5, worded("late", say(2)), 5), placed(14, 12, member(2, 2, impl.Left), 12), placed(15, 13, worded("gone", say(2)), 14),
	)
	want := []string{"one", "", "one", longText(impl.MaxWord), "late"}
	r := roomOf(t, events...)
	wantSaid(t, r, want...)
	wantSaid(t, roomOf(t, trunk()...))
	wantSaid(t, roomOf(t, events[:6]...), "one")
	wantSaid(t, roomOf(t, events[:7]...), "one", "")
	wantSaid(t, roomOf(t, events[:10]...), "one", "")
	// The order of the room, and not that of Ids or Depths.
	other := slices.Concat(trunk(), []impl.Event{events[12]}, events[5:12])
	wantSaid(t, roomOf(t, other...), "late", "one", "", "one", longText(impl.MaxWord))
	// Of a room that is not right Good alone tells, where it is there.
	r.Good[7], r.Good[10] = true, false
	wantSaid(t, r, "one", "", "not in", longText(impl.MaxWord), "late")
	for count := range len(r.Good) + 1 {
		wantSaid(t, impl.Room{Events: r.Events, Good: r.Good[:count]}, saidByHand(impl.Room{Events: r.Events, Good: r.Good[:count]})...)
	}
	wantSaid(t, eventRoom(r.Events...))
	wantSaid(t, impl.Room{Good: r.Good, States: r.States})
	wantSaid(t, impl.Room{Events: []impl.Event{{Kind: impl.KindSay, Text: longText(300)}, {Kind: 6, Text: "x"}, {Kind: impl.KindSay}, {Text: "y"}}, Good: []bool{true, true, true, true, true}}, longText(300), "")
}

// eventChanges are an event with one thing of it changed.
func eventChanges(e impl.Event) (list []impl.Event) {
	for _, change := range []func(e *impl.Event){
		func(e *impl.Event) { e.Id += 100 }, func(e *impl.Event) { e.Id = 0 }, func(e *impl.Event) { e.Kind++ }, func(e *impl.Event) { e.Kind-- }, func(e *impl.Event) { e.Sender = 1 + e.Sender%5 }, func(e *impl.Event) { e.Sender = 0 },
		func(e *impl.Event) { e.User = 1 + e.User%5 }, func(e *impl.Event) { e.Member = (e.Member + 1) % 4 }, func(e *impl.Event) { e.Levels = append(slices.Clone(e.Levels), 0) }, func(e *impl.Event) { e.Text += "x" }, func(e *impl.Event) { e.Text = longText(25) },
		func(e *impl.Event) { e.Prev = nil }, func(e *impl.Event) { e.Prev = append([]int{1}, e.Prev...) }, func(e *impl.Event) { e.Prev = append(slices.Clone(e.Prev), 99) }, func(e *impl.Event) { e.Depth++ }, func(e *impl.Event) { e.Depth-- },
	} {
		changed := copyEvent(e)
		change(&changed)
		list = append(list, changed)
	}
	return list
}

// listChanges are a list with one of it left out, put in twice or moved.
func listChanges[T any](list []T) (changes [][]T) {
	for at, one := range list {
		changes = append(changes, slices.Delete(slices.Clone(list), at, at+1), slices.Insert(slices.Clone(list), at, one))
		for _, to := range []int{0, at + 1, len(list) - 1} {
			rest := slices.Delete(slices.Clone(list), at, at+1)
			changes = append(changes, slices.Insert(rest, min(to, len(rest)), one))
		}
	}
	return changes
}

// stateChanges are a state with one thing of it changed.
func stateChanges(s []impl.Item) (changes [][]impl.Item) {
	changes = append(listChanges(s), append(slices.Clone(s), impl.Item{Key: 15, Id: 1}), append(slices.Clone(s), impl.Item{}))
	for at := range s {
		id, key := slices.Clone(s), slices.Clone(s)
		id[at].Id++
		key[at].Key++
		changes = append(changes, id, key)
	}
	return changes
}

// roomChanges are a room with one thing of it changed, left out, put in twice or moved.
func roomChanges(r impl.Room) (changes []impl.Room) {
	change := func(change func(c *impl.Room)) {
		c := copyRoom(r)
		change(&c)
		changes = append(changes, c)
	}
	for at, e := range r.Events {
		for _, e := range eventChanges(e) {
			change(func(c *impl.Room) { c.Events[at] = e })
		}
		for _, s := range stateChanges(r.States[at]) {
			change(func(c *impl.Room) { c.States[at] = s })
		}
		change(func(c *impl.Room) { c.Good[at] = !c.Good[at] })
		change(func(c *impl.Room) { c.States[at] = nil })
	}
	for _, events := range listChanges(r.Events) {
		change(func(c *impl.Room) { c.Events = events })
	}
	for _, states := range listChanges(r.States) {
		change(func(c *impl.Room) { c.States = states })
	}
	for _, good := range listChanges(r.Good) {
		change(func(c *impl.Room) { c.Good = good })
	}
	// The same of all three, so that each event keeps its own.
	var places []int
	for at := range r.Events {
		places = append(places, at)
	}
	for _, places := range listChanges(places) {
		var c impl.Room
		for _, at := range places {
			c.Events, c.States, c.Good = append(c.Events, r.Events[at]), append(c.States, r.States[at]), append(c.Good, r.Good[at])
		}
		changes = append(changes, c)
	}
	return changes
}

func TestRoomOk(t *testing.T) {
	wantRoomOk(t, impl.Room{}, true)
	wantRoomOk(t, impl.Room{Events: []impl.Event{}, States: [][]impl.Item{}, Good: []bool{}}, true)
	right, wrong := 0, 0
	for _, h := range []happening{forkedRoom(), makers()} {
		for count := range h.events {
			wantRoomOk(t, roomOf(t, h.events[:count]...), true)
		}
		r := roomOf(t, h.events...)
		wantRoomOk(t, r, true)
		for _, c := range roomChanges(r) {
			want := rightRoomByHand(c)
			wantRoomOk(t, c, want)
			if want {
				right++
			} else {
				wrong++
			}
			// With one list alone changed it is another room, and that of the events is this one.
			if want && slices.EqualFunc(c.Events, r.Events, sameEvent) && !sameRoom(c, r) {
				t.Fatalf("two rooms are right with the same events: %s and %s", shownRoom(c), shownRoom(r))
			}
		}
	}
	if right < 30 || wrong < 500 {
		t.Errorf("of the changed rooms %d are right, %d are not", right, wrong)
	}
}

func TestRoomOkOfUnlikeLists(t *testing.T) {
	r := roomOf(t, forkedRoom().events...)
	for events := range len(r.Events) + 1 {
		for states := range len(r.States) + 1 {
			for good := range len(r.Good) + 1 {
				wantRoomOk(t, impl.Room{Events: r.Events[:events], States: r.States[:states], Good: r.Good[:good]}, events == states && states == good)
			}
		}
	}
	wantRoomOk(t, impl.Room{States: [][]impl.Item{nil}}, false)
	wantRoomOk(t, impl.Room{Good: []bool{false}}, false)
	wantRoomOk(t, impl.Room{Events: make([]impl.Event, 1), States: make([][]impl.Item, 1), Good: make([]bool, 1)}, false)
	wantRoomOk(t, impl.Room{States: append(copyRoom(r).States, nil), Events: r.Events, Good: append(copyRoom(r).Good, false)}, false)
	// The last event is not right, or stands behind one that names it.
	last := copyRoom(r)
	last.Events[14].Text = longText(25)
	wantRoomOk(t, last, false)
	slices.Reverse(r.Events)
	slices.Reverse(r.States)
	slices.Reverse(r.Good)
	wantRoomOk(t, r, false)
}

// As many as there may be, and one more, of several shapes: a chain, and all behind the first one.
func TestRoomOkOfMany(t *testing.T) {
	for _, wide := range []bool{false, true} {
		var r impl.Room
		for id := 1; id <= 45; id++ {
			e := placed(id, 0, create(1))
			s := []impl.Item{{Key: 1, Id: 1}, {Key: 11, Id: 2}}
			switch {
			case id == 1:
				s = s[:1]
			case id == 2:
				e = placed(id, 1, member(1, 1, impl.Joined), 1)
			case wide:
				e = placed(id, 2, say(1), 2)
			default:
				e = placed(id, id-1, say(1), id-1)
			}
			r.Events, r.States, r.Good = append(r.Events, e), append(r.States, s), append(r.Good, true)
			wantRoomOk(t, r, id <= impl.MaxRoom)
		}
	}
}

// drawnMove is something that one may want to do in a room, behind some of its last events.
func drawnMove(next func(int) int, r impl.Room, id int) impl.Event {
	moves := everyMove(100, []int{0, 50, 60}[next(3)], []int{0, 50, 60}[next(3)], next(2)*60, 0)
	e := moves[next(len(moves))]
	if next(3) == 0 {
		e.Sender = 1 + next(3)
	}
	if e.Kind == impl.KindCreate && next(8) > 0 {
		e = say(e.Sender)
	}
	if e.Kind == impl.KindCreate {
		return placed(id, 0, e)
	}
	var prev []int
	for range 1 + next(3) {
		prev = append(prev, r.Events[max(len(r.Events)-1-next(7), 0)].Id)
	}
	if ends := endsByHand(r); len(ends) > 0 && next(2) == 0 {
		prev = ends[:min(len(ends), 3)]
	}
	slices.Sort(prev)
	prev = slices.Compact(prev)
	return placed(id, depthByHand(r, prev), e, prev...)
}

// drawnEvents come into a room in the order in which they stand; their Ids are in another one.
func drawnEvents(t *testing.T, next func(int) int, count int) impl.Room {
	t.Helper()
	var ids []int
	for id := 1; id <= 60; id++ {
		ids = append(ids, id)
	}
	ids = shuffled(next, ids)
	var r impl.Room
	for at, e := range []impl.Event{create(1), member(1, 1, impl.Joined), member(1, 2, impl.Invited), member(2, 2, impl.Joined), member(1, 3, impl.Invited), member(3, 3, impl.Joined), power(1, 100, 60, []int{0, 50, 60}[next(3)], 0, 0)} {
		var prev []int
		if at > 0 {
			prev = []int{ids[at-1]}
		}
		r, _ = holdAdd(t, r, placed(ids[at], at, e, prev...))
	}
	for _, id := range ids[len(r.Events):count] {
		r, _ = holdAdd(t, r, drawnMove(next, r, id))
	}
	return r
}

// Promise 12 of rooms that are drawn: in any order, each event behind its Prev, it has the same State and Good, and the room the same StateOf and Members.
func TestDrawnRoomsInAnyOrder(t *testing.T) {
	next := draws(121)
	count := map[string]int{}
	for round := range 600 {
		r := drawnEvents(t, next, 10+next(15))
		if round%25 == 0 {
			r = drawnEvents(t, next, impl.MaxRoom)
		}
		want, members := impl.StateOf(r), impl.Members(r)
		wantStateOf(t, r, want, members...)
		wantEnds(t, r, endsByHand(r)...)
		count[fmt.Sprint("ends ", min(len(endsByHand(r)), 3))]++
		count[fmt.Sprint("members ", len(members))]++
		for at, good := range r.Good {
			count[fmt.Sprintf("Kind %d %v", r.Events[at].Kind, good)]++
		}
		for range 4 {
			other := impl.Room{}
			for left := shuffled(next, r.Events); len(left) > 0; {
				at := slices.IndexFunc(left, func(e impl.Event) bool {
					return !slices.ContainsFunc(e.Prev, func(id int) bool { return placeByHand(other, id) < 0 })
				})
				from := placeByHand(r, left[at].Id)
				other = wantAdded(t, other, left[at], r.States[from], r.Good[from])
				left = slices.Delete(left, at, at+1)
			}
			if !slices.Equal(impl.StateOf(other), want) || !slices.Equal(impl.Members(other), members) || !slices.Equal(impl.EndsOf(other), impl.EndsOf(r)) {
				t.Fatalf("two rooms of the same events: %s and %s", shownRoom(r), shownRoom(other))
			}
			if !impl.RoomOk(other) {
				t.Fatalf("RoomOk is false of a room of %s", shownRoom(other))
			}
			if !slices.Equal(slices.Sorted(slices.Values(impl.Said(other))), slices.Sorted(slices.Values(impl.Said(r)))) {
				t.Fatalf("unlike things are said in %s and %s", shownRoom(r), shownRoom(other))
			}
		}
	}
	for _, what := range []string{"ends 1", "ends 2", "ends 3", "members 0", "members 1", "members 2", "members 3", "Kind 1 true", "Kind 2 true", "Kind 2 false", "Kind 3 true", "Kind 3 false", "Kind 4 true", "Kind 4 false", "Kind 5 true", "Kind 5 false"} {
		if count[what] < 5 {
			t.Errorf("of the rooms drawn there are %v", count)
		}
	}
}

// Rooms with one thing changed, drawn.
func TestDrawnChanges(t *testing.T) {
	next := draws(122)
	right := map[bool]int{}
	for range 40 {
		r := drawnEvents(t, next, 8+next(8))
		changes := roomChanges(r)
		for range 40 {
			c := changes[next(len(changes))]
			want := rightRoomByHand(c)
			right[want]++
			wantRoomOk(t, c, want)
			wantEnds(t, c, endsByHand(c)...)
			wantSaid(t, c, saidByHand(c)...)
			s, _ := beforeByHand(c, endsByHand(c))
			wantStateOf(t, c, s, membersByHand(c, s)...)
			holdAdd(t, c, drawnMove(next, c, 500))
		}
	}
	if right[true] < 20 || right[false] < 500 {
		t.Errorf("of the rooms drawn %v are right", right)
	}
}

// roomyRoom is a copy with room behind every list, in which something stands.
func roomyRoom(r impl.Room) impl.Room {
	return impl.Room{Events: roomyEvents(r.Events), States: roomyStates(r.States), Good: append(slices.Clone(r.Good), true, false, true)[:len(r.Good)]}
}

// allOfRoom shows a room with all that stands behind its lists.
func allOfRoom(r impl.Room, ids []int) string {
	return allOf(r.Events, r.States, ids) + fmt.Sprint(r.Good[:cap(r.Good)])
}

// parts are all lists of a room, each with what writes into it and behind it.
func parts(r impl.Room) (fills []func()) {
	fillInts := func(list []int) func() {
		return func() {
			for at := range list[:cap(list)] {
				list[:cap(list)][at] = -77
			}
		}
	}
	for _, e := range r.Events {
		fills = append(fills, fillInts(e.Prev), fillInts(e.Levels))
	}
	for _, s := range r.States {
		fills = append(fills, func() {
			for at := range s[:cap(s)] {
				s[:cap(s)][at] = impl.Item{Key: -77, Id: -77}
			}
		})
	}
	return append(fills, func() { clear(r.Good[:cap(r.Good)]) })
}

// Nothing is written into an argument or behind it, and no answer shares memory with one.
func TestRoomsAreNew(t *testing.T) {
	next := draws(123)
	for range 150 {
		r := roomyRoom(drawnEvents(t, next, 8+next(10)))
		ends := roomyInts(endsByHand(r))
		e := drawnMove(next, r, 500)
		e.Prev, e.Levels = roomyInts(e.Prev), roomyInts(e.Levels)
		before, beforeEvent := allOfRoom(r, ends), fmt.Sprint(e, e.Prev[:cap(e.Prev)], e.Levels[:cap(e.Levels)])
		held := func(what string) {
			t.Helper()
			if allOfRoom(r, ends) != before || fmt.Sprint(e, e.Prev[:cap(e.Prev)], e.Levels[:cap(e.Levels)]) != beforeEvent {
				t.Fatal(what)
			}
		}
		first, ok := impl.AddEvent(r, e)
		second, _ := impl.AddEvent(r, e)
		if !ok {
			t.Fatalf("AddEvent is false of %s", shownEvent(e))
		}
		want := shownRoom(second)
		items := func() [][]impl.Item {
			s, _ := impl.Before(r, ends)
			one, _ := impl.Before(r, ends[:1])
			twice, _ := impl.Before(r, []int{ends[0], ends[0]})
			return [][]impl.Item{s, one, twice, impl.StateOf(r)}
		}
		numbers := func() [][]int { return [][]int{impl.EndsOf(r), impl.Members(r)} }
		impl.RoomOk(r)
		impl.DepthOf(r, ends)
		impl.Said(r)
		firstItems, firstNumbers, secondItems, secondNumbers := items(), numbers(), items(), numbers()
		wantLists := fmt.Sprint(secondItems, secondNumbers)
		held("written into an argument, or behind it")
		for _, answer := range firstItems {
			clear(answer[:cap(answer)])
		}
		for _, answer := range firstNumbers {
			clear(answer[:cap(answer)])
		}
		for _, fill := range parts(first) {
			fill()
		}
		clear(first.Events[:cap(first.Events)])
		clear(first.States[:cap(first.States)])
		held("an answer shares memory with an argument")
		if shownRoom(second) != want || fmt.Sprint(secondItems, secondNumbers) != wantLists {
			t.Fatal("two answers share memory")
		}
		for _, fill := range parts(r) {
			fill()
		}
		clear(ends)
		clear(e.Prev)
		clear(r.Events)
		clear(r.States)
		if shownRoom(second) != want || fmt.Sprint(secondItems, secondNumbers) != wantLists {
			t.Fatal("an answer changes with an argument")
		}
	}
}

// No two lists of one room that is answered share memory, though those that came in do.
func TestListsOfRoomsAreApart(t *testing.T) {
	r := roomOf(t, forkedRoom().events...)
	shared := r.States[4]
	for at := range r.States {
		if at >= 4 {
			r.States[at] = shared
		}
	}
	prev, levels := []int{1}, []int{100, 50, 0, 0, 0}
	for at := range r.Events {
		r.Events[at].Prev, r.Events[at].Levels = prev, levels
	}
	for _, e := range []impl.Event{placed(20, 5, say(1), 5), placed(20, 5, say(3), 5), placed(20, 5, name(1), 5), placed(20, 5, power(1, levels...), 5)} {
		r.Events[4].Depth = 4
		for at := range 2*len(r.Events) + len(r.States) + 4 {
			answer, ok := impl.AddEvent(r, e)
			if !ok {
				t.Fatalf("AddEvent is false of %s", shownEvent(e))
			}
			want := copyRoom(answer)
			fills := parts(answer)
			if len(fills) != 2*len(r.Events)+len(r.States)+4 {
				t.Fatalf("the answer has %d lists", len(fills))
			}
			fills[at]()
			unlike := 0
			for place := range answer.Events {
				for _, same := range []bool{slices.Equal(answer.Events[place].Prev, want.Events[place].Prev), slices.Equal(answer.Events[place].Levels, want.Events[place].Levels), slices.Equal(answer.States[place], want.States[place])} {
					if !same {
						unlike++
					}
				}
			}
			if unlike > 1 {
				t.Fatalf("with one list of a room that is answered %d change", unlike)
			}
		}
	}
}

func TestTextsOfRoomsAreNew(t *testing.T) {
	text := strings.Clone("twenty")
	r := roomOf(t, append(trunk(), placed(6, 5, worded(text, say(1)), 5))...)
	then, _ := impl.AddEvent(r, placed(20, 6, worded(text, say(1)), 6))
	if liesIn(r.Events[5].Text, text) || liesIn(then.Events[6].Text, text) || liesIn(then.Events[5].Text, r.Events[5].Text) || liesIn(then.Events[5].Text, then.Events[6].Text) {
		t.Error("AddEvent answers with the memory of its argument")
	}
	said := impl.Said(then)
	if len(said) != 2 || liesIn(said[0], then.Events[5].Text) || liesIn(said[1], then.Events[6].Text) {
		t.Error("Said answers with the memory of its argument")
	}
}

// Whatever comes, all functions answer; and the same once more.
func TestRoomsAnswerAtAll(t *testing.T) {
	next := draws(124)
	numbers := slices.Concat([]int{1, 2, 3, 4, 5, 10, 11, 12, 15}, wrongUsers, wrongIndex)
	drawn := func() int {
		if next(3) > 0 {
			return 1 + next(8)
		}
		return numbers[next(len(numbers))]
	}
	added := 0
	for range 12000 {
		var r impl.Room
		for range next(9) {
			e := drawnEvent(next)
			e.Id, e.Depth = drawn(), drawn()
			for range next(3) {
				e.Prev = append(e.Prev, drawn())
			}
			r.Events = append(r.Events, e)
		}
		for range next(10) {
			var s []impl.Item
			for range next(6) {
				s = append(s, impl.Item{Key: []int{1, 2, 3, 11, 12, drawn()}[next(6)], Id: drawn()})
			}
			r.States, r.Good = append(r.States, s), append(r.Good, next(2) == 0)
		}
		r.Good = r.Good[next(len(r.Good)+1):]
		var ids []int
		for range next(4) {
			ids = append(ids, drawn())
		}
		e := drawnEvent(next)
		e.Id, e.Depth = 1+next(12), impl.DepthOf(r, e.Prev)
		answers := func() string {
			s, ok := impl.Before(r, ids)
			then, added := impl.AddEvent(r, e)
			return fmt.Sprint(impl.EndsOf(r), impl.RoomOk(r), s, ok, impl.DepthOf(r, ids), then, added, impl.StateOf(r), impl.Members(r), impl.Said(r))
		}
		if first, second := answers(), answers(); first != second {
			t.Fatalf("two answers to the same: %s and %s", first, second)
		}
		if _, ok := holdAdd(t, r, e); ok {
			added++
		}
		wantDepth(t, r, depthByHand(r, ids), ids...)
		if s, there := beforeByHand(r, ids); there {
			wantBefore(t, r, ids, s)
		} else {
			refuseBefore(t, r, ids...)
		}
		holdRoom(t, r)
	}
	if added < 300 {
		t.Errorf("%d events came into the rooms drawn", added)
	}
}

// Long lists: one behind the other, all in one ring, all of one Id, and one that names all of them.
func TestLongRooms(t *testing.T) {
	const size = 3000
	var chain, ring, alike []impl.Event
	var ids []int
	s := itemsOf(1, 2, 11)
	for n := range size {
		id := size - n
		ids = append(ids, id)
		chain = append(chain, worded("x", linked(id, n, id+1)))
		ring = append(ring, linked(id, 0, id%size+1))
		alike = append(alike, linked(7, n, 7))
	}
	fan := append(slices.Clone(chain), linked(size+2, 0, ids...))
	states, good := slices.Repeat([][]impl.Item{s}, size), slices.Repeat([]bool{true}, size)
	for _, c := range []struct {
		events []impl.Event
		ends   []int
		depth  int
		said   int
	}{{chain, []int{1}, size, size}, {ring, nil, 1, size}, {alike, nil, 1, size}, {fan, []int{size + 2}, size, size}} {
		r := impl.Room{Events: c.events, States: states, Good: good}
		if got := impl.EndsOf(r); !slices.Equal(got, c.ends) {
			t.Errorf("EndsOf a long room are %v; want %v", got, c.ends)
		}
		if got := impl.DepthOf(r, ids); got != c.depth {
			t.Errorf("DepthOf a long room is %d; want %d", got, c.depth)
		}
		if got := impl.Said(r); len(got) != c.said {
			t.Errorf("Said of a long room has %d", len(got))
		}
		if impl.RoomOk(r) {
			t.Error("RoomOk is true of a long room")
		}
		refuseAdd(t, r, placed(9000, 1, say(1), 7))
		impl.StateOf(r)
		impl.Members(r)
		impl.Before(r, ids)
	}
	// Long States in a short room.
	long := make([]impl.Item, size)
	r := impl.Room{Events: trunk(), States: slices.Repeat([][]impl.Item{long}, size), Good: good}
	wantAdded(t, r, placed(20, 5, say(1), 5), long, false)
	wantBefore(t, r, []int{1, 2, 3, 4, 5}, long)
	wantRoomOk(t, r, false)
}
