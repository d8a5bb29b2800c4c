package tests

import (
	"fmt"
	"math"
	"slices"
	"strings"
	"testing"

	"loop.example/g00127/impl"
)

func logOf(start, startTerm int, entries ...impl.Entry) impl.Log {
	return impl.Log{Start: start, StartTerm: startTerm, Entries: entries}
}

// manyEntries have Terms that rise from term on, by one every fifth entry, and are of all kinds.
func manyEntries(count, term int) (list []impl.Entry) {
	for at := range count {
		now := min(term+at/5, impl.MaxTerm)
		switch at % 3 {
		case 0:
			list = append(list, command(now, fmt.Sprint("command ", at)))
		case 1:
			list = append(list, none(now))
		case 2:
			list = append(list, confEntry(now, 1+at%4))
		}
	}
	return list
}

func longLog(start, startTerm, count int) impl.Log {
	return logOf(start, startTerm, manyEntries(count, startTerm)...)
}

// rightLogs meet each limit that the chapter names, and stay within the others.
func rightLogs() []impl.Log {
	return []impl.Log{
		{},
		{Entries: []impl.Entry{}},
		logOf(0, impl.MaxTerm),
		logOf(impl.MaxIndex, 0),
		logOf(impl.MaxIndex, impl.MaxTerm),
		logOf(0, 0, none(0)),
		logOf(0, 0, none(impl.MaxTerm)),
		logOf(7, 3, command(3, "")),
		logOf(7, 3, command(4, longText(impl.MaxData))),
		logOf(7, impl.MaxTerm, none(impl.MaxTerm), confEntry(impl.MaxTerm, 1, 2, 3, 4)),
		logOf(impl.MaxIndex-1, 2, confEntry(2, 3)),
		logOf(impl.MaxIndex-3, 2, none(2), none(2), command(9, "x")),
		logOf(1, 1, none(1), none(1), none(2), command(2, "a"), command(2, "b"), none(7), confEntry(7, 2, 4)),
		longLog(0, 0, impl.MaxLog-1),
		longLog(0, 0, impl.MaxLog),
		longLog(12345, 678, impl.MaxLog),
		longLog(impl.MaxIndex-impl.MaxLog, impl.MaxTerm-5, impl.MaxLog),
		longLog(impl.MaxIndex-impl.MaxLog+1, 0, impl.MaxLog-1),
	}
}

func wrongLogs() (list []impl.Log) {
	for _, start := range []int{-1, -2, -60, impl.MaxIndex + 1, impl.MaxIndex + 2, math.MinInt, math.MaxInt, math.MaxInt - 1} {
		list = append(list, logOf(start, 0), logOf(start, 0, none(0), none(1)), longLog(start, 0, impl.MaxLog))
	}
	for _, term := range wrongTerms {
		list = append(list, logOf(5, term), logOf(5, term, none(max(0, min(term, impl.MaxTerm)))), logOf(0, term, none(1), none(2)))
	}
	for _, count := range []int{impl.MaxLog + 1, impl.MaxLog + 2, 2 * impl.MaxLog, 1000} {
		list = append(list, longLog(0, 0, count), longLog(99, 7, count))
	}
	for count := 1; count <= impl.MaxLog; count++ {
		// Start and how many there are come to one more than MaxIndex.
		list = append(list, longLog(impl.MaxIndex-count+1, 3, count))
	}
	for _, e := range wrongEntries() {
		list = append(list, logOf(3, 0, e), logOf(3, 0, e, none(impl.MaxTerm)), logOf(3, 0, none(0), e), logOf(3, 1, none(1), e, none(impl.MaxTerm)))
	}
	return append(list,
		logOf(0, 1, none(0)),
		logOf(0, 5, none(4), none(5)),
		logOf(0, impl.MaxTerm, none(impl.MaxTerm-1)),
		logOf(0, 0, none(1), none(0)),
		logOf(0, 0, none(2), none(1), none(2)),
		logOf(0, 0, none(0), none(3), command(2, "x")),
		logOf(0, 1, none(2), none(3), none(1)),
		logOf(4, 4, append(manyEntries(impl.MaxLog-1, 4), none(3))...),
	)
}

// rightLogByHand goes by the index of each entry, not by its place in the list.
func rightLogByHand(l impl.Log) bool {
	if l.Start < 0 || l.Start > 1000000 || l.StartTerm < 0 || l.StartTerm > 100000 || len(l.Entries) >= 61 {
		return false
	}
	for at, e := range l.Entries {
		ahead := l.StartTerm
		if at > 0 {
			ahead = l.Entries[at-1].Term
		}
		if !rightByHand(e) || e.Term < ahead || l.Start+1+at > 1000000 {
			return false
		}
	}
	return true
}

func shownLog(l impl.Log) string {
	var out []string
	for at, e := range l.Entries {
		if at == 8 {
			out = append(out, "..")
			break
		}
		out = append(out, shownEntry(e))
	}
	return fmt.Sprintf("{Start %d, StartTerm %d, %d Entries %s}", l.Start, l.StartTerm, len(l.Entries), strings.Join(out, " "))
}

func sameLog(a, b impl.Log) bool {
	return a.Start == b.Start && a.StartTerm == b.StartTerm && slices.Equal(a.Entries, b.Entries)
}

func copyLog(l impl.Log) impl.Log {
	l.Entries = slices.Clone(l.Entries)
	return l
}

// lastByHand is where the entries of a right log end.
func lastByHand(l impl.Log) int { return l.Start + len(l.Entries) }

// termByHand counts up from Start; -1 of an index that the log has not.
func termByHand(l impl.Log, index int) int {
	if index == l.Start {
		return l.StartTerm
	}
	at := l.Start
	for _, e := range l.Entries {
		at++
		if at == index {
			return e.Term
		}
	}
	return -1
}

// entryOfLog is false of an index at which the log has no entry.
func entryOfLog(l impl.Log, index int) (impl.Entry, bool) {
	at := l.Start
	for _, e := range l.Entries {
		at++
		if at == index {
			return e, true
		}
	}
	return impl.Entry{}, false
}

// putByHand builds the log anew, entry by entry.
func putByHand(l impl.Log, index int, e impl.Entry) (impl.Log, bool) {
	if !rightLogByHand(l) || index <= l.Start || index > lastByHand(l)+1 {
		return impl.Log{}, false
	}
	put := impl.Log{Start: l.Start, StartTerm: l.StartTerm}
	for at := l.Start + 1; at < index; at++ {
		ahead, _ := entryOfLog(l, at)
		put.Entries = append(put.Entries, ahead)
	}
	put.Entries = append(put.Entries, e)
	if !rightLogByHand(put) {
		return impl.Log{}, false
	}
	return put, true
}

func behindByHand(l impl.Log, base, term int) impl.Log {
	behind := impl.Log{Start: base, StartTerm: term}
	if rightLogByHand(l) && base >= l.Start && base <= lastByHand(l) && termByHand(l, base) == term {
		for at := base + 1; at <= lastByHand(l); at++ {
			e, _ := entryOfLog(l, at)
			behind.Entries = append(behind.Entries, e)
		}
	}
	return behind
}

// sharedByHand tries each index that both have, from the last one down.
func sharedByHand(a, b impl.Log) int {
	if !rightLogByHand(a) || !rightLogByHand(b) {
		return -1
	}
	from := max(a.Start, b.Start)
	for index := min(lastByHand(a), lastByHand(b)); index >= from; index-- {
		same := termByHand(a, index) == termByHand(b, index)
		for at := from + 1; at <= index; at++ {
			one, _ := entryOfLog(a, at)
			other, _ := entryOfLog(b, at)
			same = same && one == other
		}
		if same {
			return index
		}
	}
	return -1
}

func holdPut(t *testing.T, l impl.Log, index int, e impl.Entry) {
	t.Helper()
	want, right := putByHand(l, index, e)
	if got, ok := impl.LogPut(l, index, e); ok != right || !sameLog(got, want) {
		t.Errorf("LogPut(%s, %d, %s) = %s, %v; want %s, %v", shownLog(l), index, shownEntry(e), shownLog(got), ok, shownLog(want), right)
	}
}

func refusePut(t *testing.T, l impl.Log, index int, e impl.Entry) {
	t.Helper()
	if got, ok := impl.LogPut(l, index, e); ok || !sameLog(got, impl.Log{}) {
		t.Errorf("LogPut(%s, %d, %s) = %s, %v; want nothing", shownLog(l), index, shownEntry(e), shownLog(got), ok)
	}
}

func holdBehind(t *testing.T, l impl.Log, base, term int) {
	t.Helper()
	want := behindByHand(l, base, term)
	if got := impl.LogBehind(l, base, term); !sameLog(got, want) {
		t.Errorf("LogBehind(%s, %d, %d) = %s; want %s", shownLog(l), base, term, shownLog(got), shownLog(want))
	}
}

func wantNoneBehind(t *testing.T, l impl.Log, base, term int) {
	t.Helper()
	if got := impl.LogBehind(l, base, term); got.Start != base || got.StartTerm != term || len(got.Entries) != 0 {
		t.Errorf("LogBehind(%s, %d, %d) = %s; want no entries", shownLog(l), base, term, shownLog(got))
	}
}

// wantShared asks both ways round.
func wantShared(t *testing.T, a, b impl.Log, want int) {
	t.Helper()
	if got := impl.Shared(a, b); got != want {
		t.Errorf("Shared(%s, %s) = %d; want %d", shownLog(a), shownLog(b), got, want)
	}
	if got := impl.Shared(b, a); got != want {
		t.Errorf("Shared(%s, %s) = %d; want %d", shownLog(b), shownLog(a), got, want)
	}
}

func TestLogOk(t *testing.T) {
	for _, l := range rightLogs() {
		if !impl.LogOk(l) || !rightLogByHand(l) {
			t.Errorf("LogOk(%s) is false", shownLog(l))
		}
	}
	for _, l := range wrongLogs() {
		if impl.LogOk(l) || rightLogByHand(l) {
			t.Errorf("LogOk(%s) is true", shownLog(l))
		}
	}
}

// Every count of entries, at a Start where just so many, one fewer and one more come to MaxIndex.
func TestLogOkOfCounts(t *testing.T) {
	for count := range 2*impl.MaxLog + 1 {
		for start, want := range map[int]bool{0: true, 500: true, impl.MaxIndex - count - 1: true, impl.MaxIndex - count: true, impl.MaxIndex - count + 1: false, impl.MaxIndex + 1: false} {
			if impl.LogOk(longLog(start, 1, count)) != (want && count <= impl.MaxLog) {
				t.Errorf("LogOk of %d entries behind the Start %d is %v", count, start, !want)
			}
		}
	}
}

// A Term that falls, and an entry that is not right, are found at each place of a log.
func TestLogOkAtEachPlace(t *testing.T) {
	for at := range impl.MaxLog {
		for _, wrong := range []impl.Entry{none(19), none(-1), none(impl.MaxTerm + 1), {Term: 20}, {Term: 20, Kind: 4}, {Term: 20, Kind: impl.EntryNone, Data: "x"}, command(20, longText(impl.MaxData+1))} {
			l := logOf(9, 20, slices.Repeat([]impl.Entry{none(20)}, impl.MaxLog)...)
			if !impl.LogOk(l) {
				t.Fatalf("LogOk(%s) is false", shownLog(l))
			}
			l.Entries[at] = wrong
			if impl.LogOk(l) {
				t.Errorf("LogOk is true with %s at the place %d", shownEntry(wrong), at)
			}
		}
		// One that rises is right only when none behind it falls back.
		l := logOf(9, 20, slices.Repeat([]impl.Entry{none(20)}, impl.MaxLog)...)
		l.Entries[at] = none(21)
		if impl.LogOk(l) != (at == impl.MaxLog-1) {
			t.Errorf("LogOk with a Term that rises at the place %d alone is %v", at, at != impl.MaxLog-1)
		}
	}
}

func TestLogOkOfDrawnLogs(t *testing.T) {
	next := draws(6)
	right := 0
	for range 30000 {
		l := impl.Log{Start: []int{0, 1, 5, impl.MaxIndex - 3, impl.MaxIndex - 2, impl.MaxIndex, -1, impl.MaxIndex + 1}[next(8)], StartTerm: next(3)}
		for range next(5) {
			l.Entries = append(l.Entries, impl.Entry{Term: next(3) + len(l.Entries), Kind: next(4), Data: []string{"", "", "\x01", "x"}[next(4)]})
		}
		want := rightLogByHand(l)
		if want {
			right++
		}
		if impl.LogOk(l) != want {
			t.Errorf("LogOk(%s) is %v", shownLog(l), !want)
		}
	}
	if right < 1000 || right > 29000 {
		t.Errorf("%d of the logs drawn are right", right)
	}
}

func TestLogLast(t *testing.T) {
	for _, c := range []struct {
		l           impl.Log
		index, term int
	}{
		{impl.Log{}, 0, 0},
		{logOf(5, 3), 5, 3},
		{logOf(impl.MaxIndex, impl.MaxTerm), impl.MaxIndex, impl.MaxTerm},
		{logOf(0, 0, none(1)), 1, 1},
		{logOf(5, 3, none(3), none(4)), 7, 4},
		{longLog(0, 0, impl.MaxLog), 60, 11},
		{longLog(impl.MaxIndex-impl.MaxLog, 7, impl.MaxLog), impl.MaxIndex, 18},
		// Nothing is asked of the log but that: these are not right.
		{logOf(-5, -3), -5, -3},
		{logOf(-5, 9, none(4), none(2)), -3, 2},
		{logOf(0, 0, impl.Entry{Term: -8, Kind: 77}), 1, -8},
		{longLog(0, 0, 1000), 1000, 199},
	} {
		if index, term := impl.LogLast(c.l); index != c.index || term != c.term {
			t.Errorf("LogLast(%s) = %d, %d; want %d, %d", shownLog(c.l), index, term, c.index, c.term)
		}
	}
	for _, l := range rightLogs() {
		if index, term := impl.LogLast(l); index != lastByHand(l) || term != termByHand(l, lastByHand(l)) {
			t.Errorf("LogLast(%s) = %d, %d", shownLog(l), index, term)
		}
	}
}

func TestLogTerm(t *testing.T) {
	l := logOf(7, 3, none(3), command(5, "x"), none(9))
	for index, want := range map[int]int{7: 3, 8: 3, 9: 5, 10: 9, 6: -1, 11: -1, 0: -1, 1: -1, -7: -1, -8: -1, 12: -1, impl.MaxIndex: -1, math.MaxInt: -1, math.MinInt: -1} {
		if got := impl.LogTerm(l, index); got != want {
			t.Errorf("LogTerm(%s, %d) = %d; want %d", shownLog(l), index, got, want)
		}
	}
}

// From well below Start to well behind the last index, of logs that are right and of those that are not.
func TestLogTermOfEachIndex(t *testing.T) {
	logs := append(rightLogs(), logOf(-3, -9, none(5), none(2), impl.Entry{Term: -4}), longLog(-2, 0, 100), logOf(impl.MaxIndex+5, 1, none(0)))
	for _, l := range logs {
		for index := l.Start - 70; index <= lastByHand(l)+70; index++ {
			if got, want := impl.LogTerm(l, index), termByHand(l, index); got != want {
				t.Errorf("LogTerm(%s, %d) = %d; want %d", shownLog(l), index, got, want)
			}
		}
		for _, index := range []int{math.MinInt, math.MinInt + 1, -1 << 62, 1 << 62, math.MaxInt - 1, math.MaxInt} {
			if got := impl.LogTerm(l, index); got != -1 {
				t.Errorf("LogTerm(%s, %d) = %d; want -1", shownLog(l), index, got)
			}
		}
	}
}

// Starts so far out that the indexes behind them, or the way to them, are no ints.
func TestLogTermFarOut(t *testing.T) {
	for _, c := range []struct{ start, index, want int }{
		{math.MaxInt, math.MaxInt, 1}, {math.MaxInt, math.MinInt, -1}, {math.MaxInt, math.MinInt + 1, -1}, {math.MaxInt, 0, -1}, {math.MaxInt, math.MaxInt - 1, -1},
		{math.MaxInt - 1, math.MaxInt, 2}, {math.MaxInt - 1, math.MinInt, -1}, {math.MaxInt - 1, math.MaxInt - 1, 1},
		{math.MinInt, math.MinInt, 1}, {math.MinInt, math.MinInt + 1, 2}, {math.MinInt, math.MinInt + 3, 4}, {math.MinInt, math.MinInt + 4, -1}, {math.MinInt, math.MaxInt, -1}, {math.MinInt, 0, -1},
		{-2, 0, 3}, {-2, 1, 4}, {-2, 2, -1}, {-2, math.MaxInt, -1}, {2, math.MinInt, -1}, {2, math.MinInt + 2, -1},
	} {
		l := logOf(c.start, 1, none(2), none(3), none(4))
		if got := impl.LogTerm(l, c.index); got != c.want {
			t.Errorf("LogTerm with the Start %d of %d = %d; want %d", c.start, c.index, got, c.want)
		}
	}
}

func TestLogPut(t *testing.T) {
	a, b, c := none(1), command(1, "b"), none(2)
	l := logOf(4, 1, a, b, c)
	e := command(2, "e")
	for _, w := range []struct {
		index int
		want  impl.Log
	}{
		{5, logOf(4, 1, e)},
		{6, logOf(4, 1, a, e)},
		{7, logOf(4, 1, a, b, e)},
		{8, logOf(4, 1, a, b, c, e)},
	} {
		if got, ok := impl.LogPut(l, w.index, e); !ok || !sameLog(got, w.want) {
			t.Errorf("LogPut at %d = %s, %v; want %s, true", w.index, shownLog(got), ok, shownLog(w.want))
		}
	}
	for _, index := range []int{4, 3, 0, -1, 9, 10, 100, -5, math.MinInt, math.MaxInt} {
		refusePut(t, l, index, e)
	}
	// The same entry once more: what was behind it is gone all the same.
	if got, ok := impl.LogPut(l, 6, b); !ok || !sameLog(got, logOf(4, 1, a, b)) {
		t.Errorf("LogPut of the same entry = %s, %v", shownLog(got), ok)
	}
}

// Promise 6, and what LogPut says: at each index, all ahead stay, the entry is there, none is behind it.
func TestLogPutAtEachIndex(t *testing.T) {
	for _, l := range rightLogs() {
		for index := l.Start - 2; index <= lastByHand(l)+3; index++ {
			ahead := termByHand(l, index-1)
			for _, e := range []impl.Entry{none(max(ahead, 0)), command(impl.MaxTerm, longText(impl.MaxData)), confEntry(max(ahead, 0), 1, 2), none(ahead - 1), none(0), {Term: impl.MaxTerm}} {
				holdPut(t, l, index, e)
				got, ok := impl.LogPut(l, index, e)
				if !ok {
					continue
				}
				there, _ := entryOfLog(got, index)
				if last, term := impl.LogLast(got); last != index || term != e.Term || there != e || !impl.LogOk(got) || impl.LogTerm(got, index) != e.Term || impl.LogTerm(got, index+1) != -1 {
					t.Errorf("LogPut(%s, %d, %s) = %s", shownLog(l), index, shownEntry(e), shownLog(got))
				}
				if impl.Shared(l, got) < index-1 {
					t.Errorf("LogPut(%s, %d, %s) = %s shares only %d", shownLog(l), index, shownEntry(e), shownLog(got), impl.Shared(l, got))
				}
			}
		}
	}
}

func TestLogPutIntoAFullLog(t *testing.T) {
	for _, start := range []int{0, 1, 500, impl.MaxIndex - impl.MaxLog} {
		full := longLog(start, 0, impl.MaxLog)
		for index := start + 1; index <= start+impl.MaxLog; index++ {
			if got, ok := impl.LogPut(full, index, none(impl.MaxTerm)); !ok || len(got.Entries) != index-start {
				t.Errorf("LogPut into a full log at %d = %s, %v", index, shownLog(got), ok)
			}
		}
		refusePut(t, full, start+impl.MaxLog+1, none(impl.MaxTerm))
		refusePut(t, full, start+impl.MaxLog+2, none(impl.MaxTerm))
		refusePut(t, full, start, none(impl.MaxTerm))
	}
	if got, ok := impl.LogPut(longLog(0, 0, impl.MaxLog-1), impl.MaxLog, none(100)); !ok || len(got.Entries) != impl.MaxLog {
		t.Errorf("the last entry that a log may have is not put: %s, %v", shownLog(got), ok)
	}
}

func TestLogPutAtMaxIndex(t *testing.T) {
	e := none(9)
	refusePut(t, logOf(impl.MaxIndex, 1), impl.MaxIndex+1, e)
	refusePut(t, logOf(impl.MaxIndex, 1), impl.MaxIndex, e)
	refusePut(t, logOf(impl.MaxIndex-1, 1, none(1)), impl.MaxIndex+1, e)
	refusePut(t, longLog(impl.MaxIndex-20, 1, 20), impl.MaxIndex+1, e)
	holdPut(t, logOf(impl.MaxIndex-1, 1), impl.MaxIndex, e)
	holdPut(t, logOf(impl.MaxIndex-1, 1, none(1)), impl.MaxIndex, e)
	if _, ok := impl.LogPut(logOf(impl.MaxIndex-1, 1), impl.MaxIndex, e); !ok {
		t.Error("nothing is put at MaxIndex")
	}
}

func TestLogPutRefusesEntries(t *testing.T) {
	l := logOf(4, 2, none(2), none(5), none(5), none(8))
	for _, e := range wrongEntries() {
		for index := 4; index <= 10; index++ {
			refusePut(t, l, index, e)
		}
		refusePut(t, impl.Log{}, 1, e)
	}
	// The Term may be that of the one ahead, but not below it; what was there or is behind does not count.
	for index, least := range map[int]int{5: 2, 6: 2, 7: 5, 8: 5, 9: 8} {
		for term := range 12 {
			want := term >= least
			if got, ok := impl.LogPut(l, index, none(term)); ok != want || !want && !sameLog(got, impl.Log{}) {
				t.Errorf("LogPut at %d of the Term %d = %s, %v", index, term, shownLog(got), ok)
			}
		}
	}
}

func TestLogPutRefusesWrongLogs(t *testing.T) {
	for _, l := range wrongLogs() {
		for _, index := range []int{l.Start, l.Start + 1, l.Start + 2, l.Start + len(l.Entries), l.Start + len(l.Entries) + 1, 1, 2} {
			refusePut(t, l, index, none(impl.MaxTerm))
			refusePut(t, l, index, none(1))
		}
	}
	// What is wrong would be gone: the log that is given is not right all the same.
	refusePut(t, logOf(0, 0, none(1), none(0)), 2, none(1))
	refusePut(t, logOf(0, 0, impl.Entry{}), 1, none(1))
	refusePut(t, longLog(0, 0, impl.MaxLog+1), 1, none(1))
}

func TestLogBehind(t *testing.T) {
	a, b, c := none(1), command(1, "b"), none(2)
	l := logOf(4, 1, a, b, c)
	for _, w := range []struct {
		base, term int
		want       impl.Log
	}{
		{4, 1, l}, {5, 1, logOf(5, 1, b, c)}, {6, 1, logOf(6, 1, c)}, {7, 2, logOf(7, 2)},
		{3, 1, logOf(3, 1)}, {8, 2, logOf(8, 2)}, {4, 0, logOf(4, 0)}, {4, 2, logOf(4, 2)}, {6, 2, logOf(6, 2)}, {7, 1, logOf(7, 1)},
		{3, -1, logOf(3, -1)}, {8, -1, logOf(8, -1)}, {-1, 1, logOf(-1, 1)}, {math.MinInt, math.MaxInt, logOf(math.MinInt, math.MaxInt)}, {math.MaxInt, -1, logOf(math.MaxInt, -1)},
	} {
		if got := impl.LogBehind(l, w.base, w.term); !sameLog(got, w.want) {
			t.Errorf("LogBehind(%s, %d, %d) = %s; want %s", shownLog(l), w.base, w.term, shownLog(got), shownLog(w.want))
		}
	}
}

// Promise 6: a right log behind each of its indexes has the same entries there, and the same last.
func TestLogBehindEachIndex(t *testing.T) {
	for _, l := range rightLogs() {
		for base := l.Start; base <= lastByHand(l); base++ {
			term := termByHand(l, base)
			behind := impl.LogBehind(l, base, term)
			if !impl.LogOk(behind) || behind.Start != base || behind.StartTerm != term || len(behind.Entries) != lastByHand(l)-base {
				t.Fatalf("LogBehind(%s, %d, %d) = %s", shownLog(l), base, term, shownLog(behind))
			}
			for index := base; index <= lastByHand(l)+1; index++ {
				one, in := entryOfLog(l, index)
				other, also := entryOfLog(behind, index)
				if index > base && (one != other || in != also) || impl.LogTerm(behind, index) != impl.LogTerm(l, index) {
					t.Errorf("LogBehind(%s, %d, %d) has another entry at %d", shownLog(l), base, term, index)
				}
			}
			index, lastTerm := impl.LogLast(l)
			if i, n := impl.LogLast(behind); i != index || n != lastTerm {
				t.Errorf("LogBehind(%s, %d, %d) ends at %d, %d", shownLog(l), base, term, i, n)
			}
			wantShared(t, l, behind, lastByHand(l))
			// Behind an index of what is behind: as behind it at once.
			for further := base; further <= lastByHand(l); further++ {
				term := termByHand(l, further)
				if !sameLog(impl.LogBehind(behind, further, term), impl.LogBehind(l, further, term)) {
					t.Errorf("LogBehind(%s) by way of %d is another at %d", shownLog(l), base, further)
				}
			}
		}
	}
}

func TestLogBehindOthers(t *testing.T) {
	for _, l := range rightLogs() {
		for base := l.Start - 3; base <= lastByHand(l)+3; base++ {
			for _, term := range []int{termByHand(l, base), termByHand(l, base) + 1, termByHand(l, base) - 1, l.StartTerm, 0, -1, impl.MaxTerm, impl.MaxTerm + 1, math.MinInt, math.MaxInt} {
				holdBehind(t, l, base, term)
			}
		}
		wantNoneBehind(t, l, l.Start-1, l.StartTerm)
		wantNoneBehind(t, l, l.Start-1, -1)
		wantNoneBehind(t, l, lastByHand(l)+1, -1)
		wantNoneBehind(t, l, lastByHand(l), termByHand(l, lastByHand(l)))
		wantNoneBehind(t, l, l.Start, l.StartTerm+1)
		wantNoneBehind(t, l, l.Start, l.StartTerm-1)
		wantNoneBehind(t, l, math.MinInt, l.StartTerm)
		wantNoneBehind(t, l, math.MaxInt, l.StartTerm)
	}
}

func TestLogBehindWrongLogs(t *testing.T) {
	for _, l := range wrongLogs() {
		wantNoneBehind(t, l, l.Start, l.StartTerm)
		for at, e := range l.Entries[:min(len(l.Entries), 3)] {
			wantNoneBehind(t, l, l.Start+1+at, e.Term)
		}
	}
	// What is wrong lies ahead of base: the log is not right all the same.
	wantNoneBehind(t, logOf(0, 0, none(2), none(1), none(3)), 2, 1)
	wantNoneBehind(t, logOf(0, 0, impl.Entry{Term: 1}, none(3)), 1, 1)
}

func TestShared(t *testing.T) {
	a, b, c, d := none(1), command(1, "b"), none(2), command(2, "d")
	l := logOf(4, 1, a, b, c, d)
	for _, w := range []struct {
		other impl.Log
		want  int
	}{
		// Of one Start.
		{l, 8}, {logOf(4, 1), 4}, {logOf(4, 1, a), 5}, {logOf(4, 1, a, b, c), 7}, {logOf(4, 1, a, b, c, d, d), 8},
		{logOf(4, 1, a, b, d, d), 6}, {logOf(4, 1, a, b, d), 6}, {logOf(4, 1, b, b, c, d), 4}, {logOf(4, 1, c, c, c, d), 4},
		{logOf(4, 1, a, command(1, "B"), c, d), 5}, {logOf(4, 1, a, none(1), c, d), 5}, {logOf(4, 1, a, command(2, "b"), c, d), 5},
		{logOf(4, 1, a, b, c, command(2, "e")), 7}, {logOf(4, 1, a, b, c, command(3, "d")), 7},
		{logOf(4, 0), -1}, {logOf(4, 2), -1}, {logOf(4, 2, c, d), -1}, {logOf(4, 0, b), -1},
		// One begins inside the other.
		{logOf(6, 1, c, d), 8}, {logOf(6, 1, c), 7}, {logOf(6, 1), 6}, {logOf(6, 1, d, d), 6}, {logOf(6, 1, c, d, d), 8},
		{logOf(7, 2, d), 8}, {logOf(7, 2, c), 7}, {logOf(8, 2), 8}, {logOf(8, 2, d, d, d), 8}, {logOf(0, 0, none(0), none(0), none(0), none(0), a, b, c), 7},
		{logOf(3, 1, none(1), a, b), 6}, {logOf(3, 0, none(1), b), 4}, {logOf(2, 1, none(1), none(1)), 4},
		{logOf(6, 0), -1}, {logOf(6, 2), -1}, {logOf(8, 1), -1}, {logOf(8, 3, none(3)), -1}, {logOf(8, 0), -1}, {logOf(6, 2, d), -1},
		// They share no index.
		{logOf(9, 2), -1}, {logOf(9, 2, d, d), -1}, {logOf(10, 2), -1}, {logOf(3, 1), -1}, {logOf(0, 0), -1}, {logOf(2, 1, none(1)), -1},
		{logOf(impl.MaxIndex, 1), -1}, {logOf(impl.MaxIndex-1, 1, none(1)), -1},
	} {
		wantShared(t, l, w.other, w.want)
		if by := sharedByHand(l, w.other); by != w.want {
			t.Errorf("by hand %s and %s share %d, not %d", shownLog(l), shownLog(w.other), by, w.want)
		}
	}
	wantShared(t, impl.Log{}, impl.Log{}, 0)
	wantShared(t, impl.Log{}, logOf(0, 0, none(0)), 0)
	wantShared(t, impl.Log{}, logOf(0, 1), -1)
	wantShared(t, impl.Log{}, logOf(1, 0), -1)
	wantShared(t, logOf(impl.MaxIndex, impl.MaxTerm), logOf(impl.MaxIndex, impl.MaxTerm), impl.MaxIndex)
	wantShared(t, logOf(impl.MaxIndex-2, 1, none(1), none(3)), logOf(impl.MaxIndex, 3), impl.MaxIndex)
	wantShared(t, longLog(0, 0, impl.MaxLog), longLog(0, 0, impl.MaxLog-1), impl.MaxLog-1)
}

// The terms of the greater Start are unlike, and entries behind it are the same: it is these that count.
func TestSharedBehindUnlikeStartTerms(t *testing.T) {
	wantShared(t, logOf(4, 1, none(3), none(4)), logOf(4, 2, none(3), none(4)), 6)
	wantShared(t, logOf(4, 1, none(3), none(4)), logOf(4, 2, none(3), none(5)), 5)
	wantShared(t, logOf(4, 1, none(3), none(4)), logOf(5, 2, none(4)), 6)
	wantShared(t, logOf(4, 1, none(3), none(4)), logOf(4, 2, none(2), none(4)), -1)
}

func TestSharedOfWrongLogs(t *testing.T) {
	for _, l := range wrongLogs() {
		wantShared(t, l, l, -1)
		wantShared(t, l, impl.Log{}, -1)
		wantShared(t, l, logOf(max(0, min(l.Start, impl.MaxIndex)), max(0, min(l.StartTerm, impl.MaxTerm))), -1)
		for _, right := range rightLogs() {
			wantShared(t, l, right, -1)
		}
	}
	wantShared(t, longLog(0, 0, impl.MaxLog+1), longLog(0, 0, impl.MaxLog), -1)
	wantShared(t, logOf(0, 0, none(1), none(0)), logOf(0, 0, none(1)), -1)
}

// smallLogs are all right ones of a few Starts, Terms and entries.
func smallLogs() (list []impl.Log) {
	var grow func(l impl.Log, most int)
	grow = func(l impl.Log, most int) {
		list = append(list, copyLog(l))
		_, term := impl.LogLast(l)
		for more := term; most > 0 && more <= 2; more++ {
			for _, e := range []impl.Entry{none(more), command(more, "x")} {
				grow(logOf(l.Start, l.StartTerm, append(slices.Clone(l.Entries), e)...), most-1)
			}
		}
	}
	for start := range 3 {
		for term := range 3 {
			grow(logOf(start, term), 3-start)
		}
	}
	return list
}

// Promise 6: what two right logs share is in both, and no greater index is.
func TestSharedIsInBoth(t *testing.T) {
	logs := smallLogs()
	shares := 0
	for _, a := range logs {
		for _, b := range logs {
			got := impl.Shared(a, b)
			if want := sharedByHand(a, b); got != want {
				t.Fatalf("Shared(%s, %s) = %d; want %d", shownLog(a), shownLog(b), got, want)
			}
			if got == -1 {
				continue
			}
			shares++
			if one, other := impl.LogTerm(a, got), impl.LogTerm(b, got); one != other || one == -1 {
				t.Fatalf("Shared(%s, %s) = %d, which has the terms %d and %d", shownLog(a), shownLog(b), got, one, other)
			}
			for index := max(a.Start, b.Start) + 1; index <= got; index++ {
				one, in := entryOfLog(a, index)
				other, also := entryOfLog(b, index)
				if !in || !also || one != other {
					t.Fatalf("Shared(%s, %s) = %d, but %d is not the same", shownLog(a), shownLog(b), got, index)
				}
			}
		}
	}
	if shares < 1000 || shares > len(logs)*len(logs)-1000 {
		t.Errorf("%d of %d pairs share an index", shares, len(logs)*len(logs))
	}
}

// One log, behind one of its indexes and with other entries put into it, over and over.
func TestDrawnLogs(t *testing.T) {
	next := draws(66)
	kept := rightLogs()
	for range 20000 {
		l := kept[next(len(kept))]
		base := l.Start - 1 + next(len(l.Entries)+3)
		term := termByHand(l, base)
		if next(8) == 0 {
			term += next(3) - 1
		}
		holdBehind(t, l, base, term)
		other := behindByHand(l, base, term)
		index := l.Start + next(len(l.Entries)+3)
		_, last := impl.LogLast(l)
		e := command(max(0, min(last-1+next(4), impl.MaxTerm)), longText(next(4)))
		holdPut(t, l, index, e)
		put, ok := putByHand(l, index, e)
		for _, pair := range [][2]impl.Log{{l, other}, {l, put}, {put, other}, {put, kept[next(len(kept))]}} {
			wantShared(t, pair[0], pair[1], sharedByHand(pair[0], pair[1]))
		}
		if ok {
			kept[next(len(kept))] = put
		}
		if rightLogByHand(other) && next(4) == 0 {
			kept[next(len(kept))] = other
		}
	}
}

// A log whose list has room behind it: nothing is written into it, or there, and no answer lies in it.
func TestLogArgumentsStay(t *testing.T) {
	room := manyEntries(12, 3)
	before := slices.Clone(room)
	l := logOf(4, 3, room[:6]...)
	for index := 3; index <= 12; index++ {
		put, ok := impl.LogPut(l, index, command(9, "put"))
		if !slices.Equal(room, before) {
			t.Fatalf("LogPut at %d wrote into its argument: %s", index, shownLog(logOf(4, 3, room...)))
		}
		if ok {
			clear(put.Entries[:cap(put.Entries)])
		}
		behind := impl.LogBehind(l, index, impl.LogTerm(l, index))
		clear(behind.Entries[:cap(behind.Entries)])
		impl.LogTerm(l, index)
		impl.LogLast(l)
		impl.LogOk(l)
		impl.Shared(l, logOf(5, 3, room[1:4]...))
		if !slices.Equal(room, before) {
			t.Fatalf("an answer at %d lies in its argument: %s", index, shownLog(logOf(4, 3, room...)))
		}
	}
}

func TestLogsAreNew(t *testing.T) {
	texts := []string{strings.Clone("first text"), strings.Clone("second text"), strings.Clone("third text")}
	l := logOf(0, 0, command(0, texts[0]), command(0, texts[1]))
	put, _ := impl.LogPut(l, 3, command(0, texts[2]))
	behind := impl.LogBehind(l, 0, 0)
	for _, answer := range []impl.Log{put, behind} {
		for at, e := range answer.Entries {
			if e.Data != texts[at] || liesIn(e.Data, texts[at]) {
				t.Errorf("the text %q lies in that of an argument, or is another", e.Data)
			}
		}
	}
	// What is done with one answer is not seen in the next.
	again, _ := impl.LogPut(l, 3, command(0, texts[2]))
	clear(put.Entries)
	clear(behind.Entries)
	if !sameLog(again, logOf(0, 0, command(0, texts[0]), command(0, texts[1]), command(0, texts[2]))) || !sameLog(impl.LogBehind(l, 0, 0), l) {
		t.Error("a change of an answer is seen in another one")
	}
	// Two entries put at one place of one log do not take each other's.
	one, _ := impl.LogPut(l, 3, none(1))
	other, _ := impl.LogPut(l, 3, none(2))
	if one.Entries[2] != none(1) || other.Entries[2] != none(2) {
		t.Errorf("%s and %s share memory", shownLog(one), shownLog(other))
	}
}

func TestLogConstants(t *testing.T) {
	if impl.MaxLog != 60 {
		t.Errorf("MaxLog is %d", impl.MaxLog)
	}
}
