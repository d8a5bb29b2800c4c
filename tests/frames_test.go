package tests

import (
	"fmt"
	"slices"
	"strings"
	"testing"
	"unsafe"

	"loop.example/g00127/impl"
)

// lengthByHand is the length that stands ahead in a frame, of at most 16383.
func lengthByHand(size int) string {
	if size < 128 {
		return string([]byte{byte(size)})
	}
	return string([]byte{byte(size%128 + 128), byte(size / 128)})
}

// frameByHand writes a frame as the document tells it, also of a text that can't have one.
func frameByHand(text string) string {
	return lengthByHand(len(text)) + sealByBits(text) + text
}

// fileByHand has the frames of these records, and ends has the place behind each of them.
func fileByHand(records ...string) (file string, ends []int) {
	for _, r := range records {
		file += frameByHand(r)
		ends = append(ends, len(file))
	}
	return file, ends
}

// unframeByTrial tries, at each place, every record that could stand there.
func unframeByTrial(file string) ([]string, int) {
	var records []string
	at := 0
	if len(file) > 20000 {
		return nil, 0
	}
next:
	for size := 1; size <= 9000; size++ {
		ahead := len(lengthByHand(size)) + 4
		if at+ahead+size > len(file) {
			return records, at
		}
		record := file[at+ahead : at+ahead+size]
		if !strings.HasPrefix(file[at:], lengthByHand(size)) || frameByHand(record) != file[at:at+ahead+size] {
			continue
		}
		records = append(records, record)
		at += ahead + size
		goto next
	}
	return records, at
}

// recordLists are ordinary records, and those at the edges of what has a frame; the frames of each list fit into a file.
func recordLists() [][]string {
	single := make([]string, 256)
	for b := range single {
		single[b] = string([]byte{byte(b)})
	}
	return [][]string{
		nil,
		{"one"}, {"one", "two"}, {"one", "one", "one"}, {"a", "bc", "def", "ghij"},
		{"\x00"}, {"\x00", "\x00\x00", "\xff"}, {everyByte()}, single,
		{longText(127)}, {longText(128)}, {longText(126), longText(127), longText(128), longText(129), "x"},
		// A record that is a frame itself, or looks as if one began in it, is a record.
		{frameByHand("one")}, {frameByHand("one") + frameByHand("two"), "x"}, {"\x03", "\x80", "\x80\x00", "\xff\xff\xff\xff"},
		{strings.Repeat("\x00", 300), strings.Repeat("\xff", 300)},
	}
}

// fullFiles have records up to MaxRecord and come to MaxText bytes, or nearly so.
func fullFiles() [][]string {
	greatest := longText(impl.MaxRecord)
	return [][]string{
		{greatest}, {longText(impl.MaxRecord - 1)}, {greatest, "x"}, {"x", greatest}, {greatest, greatest},
		{strings.Repeat("\x00", impl.MaxRecord), greatest, longText(impl.MaxText - 2*(impl.MaxRecord+6) - 6)},
		slices.Repeat([]string{"x"}, impl.MaxText/6),
		slices.Repeat([]string{longText(128)}, impl.MaxText/134),
	}
}

func wantRecords(t *testing.T, file string, want []string, place int) {
	t.Helper()
	list, n := impl.Unframe(file)
	if n != place || !slices.Equal(list, want) {
		t.Errorf("Unframe(%.40q) of %d bytes = %s, %d; want %s, %d", file, len(file), shownRecords(list), n, shownRecords(want), place)
	}
}

func shownRecords(list []string) string {
	s := ""
	for _, r := range list[:min(len(list), 8)] {
		s += fmt.Sprintf(" %.12q(%d)", r, len(r))
	}
	return fmt.Sprintf("%d of [%s ]", len(list), s)
}

func refuseFrame(t *testing.T, text string) {
	t.Helper()
	if s, ok := impl.Frame(text); ok || s != "" {
		t.Errorf("Frame(%.40q) of %d bytes = %.40q, %v; want nothing", text, len(text), s, ok)
	}
}

// wantTail holds that what is no whole frame is told as none: alone, behind whole frames, and with a whole frame behind it.
func wantTail(t *testing.T, tail string) {
	t.Helper()
	wantRecords(t, tail, nil, 0)
	file, ends := fileByHand("one", everyByte())
	wantRecords(t, file+tail, []string{"one", everyByte()}, ends[1])
}

func wantBroken(t *testing.T, broken string) {
	t.Helper()
	wantTail(t, broken)
	wantTail(t, broken+frameByHand("behind"))
	wantTail(t, broken+frameByHand("behind")+frameByHand(longText(200)))
}

func TestFrameBytes(t *testing.T) {
	for _, list := range append(recordLists(), fullFiles()...) {
		for _, r := range list {
			if s, ok := impl.Frame(r); !ok || s != frameByHand(r) {
				t.Fatalf("Frame(%.40q) of %d bytes = %.40q, %v; want %.40q, true", r, len(r), s, ok, frameByHand(r))
			}
		}
	}
	// The sum of 255 is 16777215, whose highest byte is the one that is 0.
	if s, ok := impl.Frame("\xff"); !ok || s != "\x01\x00\xff\xff\xff\xff" {
		t.Errorf("Frame of 255 = %q, %v", s, ok)
	}
	// The sum that is known as CRC-32D has the check 0x87315576, and is this one with all bits turned.
	if s, ok := impl.Frame("123456789"); !ok || s != "\x09\x78\xce\xaa\x89123456789" {
		t.Errorf("Frame of 123456789 = %q, %v", s, ok)
	}
}

func TestFrameLengths(t *testing.T) {
	for _, c := range []struct {
		size int
		want string
	}{
		{1, "\x01"}, {2, "\x02"}, {126, "\x7e"}, {127, "\x7f"},
		{128, "\x80\x01"}, {129, "\x81\x01"}, {255, "\xff\x01"}, {256, "\x80\x02"}, {300, "\xac\x02"},
		{impl.MaxRecord - 1, "\xa7\x46"}, {impl.MaxRecord, "\xa8\x46"},
	} {
		text := longText(c.size)
		s, ok := impl.Frame(text)
		if !ok || len(s) != len(c.want)+4+c.size || !strings.HasPrefix(s, c.want) || !strings.HasSuffix(s, text) {
			t.Errorf("Frame of %d bytes = %.40q of %d bytes, %v; want %q ahead", c.size, s, len(s), ok, c.want)
		}
		wantRecords(t, s, []string{text}, len(s))
	}
}

func TestFrameRefuses(t *testing.T) {
	refuseFrame(t, "")
	for _, size := range []int{impl.MaxRecord + 1, impl.MaxRecord + 2, impl.MaxText, impl.MaxText + 1, 2 * impl.MaxText} {
		refuseFrame(t, longText(size))
		refuseFrame(t, strings.Repeat("\x00", size))
	}
}

// Promise 4: all records come back, in their order, and the place is the length of the file.
func TestRecordsComeBack(t *testing.T) {
	for _, list := range append(recordLists(), fullFiles()...) {
		file := ""
		for _, r := range list {
			s, ok := impl.Frame(r)
			if !ok {
				t.Fatalf("Frame(%.40q) is false", r)
			}
			file += s
		}
		wantRecords(t, file, list, len(file))
		if slices.Reverse(list); len(list) > 1 {
			file, _ = fileByHand(list...)
			wantRecords(t, file, list, len(file))
		}
	}
}

func TestEveryLengthComesBack(t *testing.T) {
	for size := 1; size <= impl.MaxRecord; size++ {
		text := longText(size)
		s, ok := impl.Frame(text)
		if !ok {
			t.Fatalf("Frame of %d bytes is false", size)
		}
		wantRecords(t, s, []string{text}, len(s))
	}
}

// wantCutFile holds that of a file cut at this place just the records whose frames are whole come.
func wantCutFile(t *testing.T, file string, records []string, ends []int, cut int) {
	t.Helper()
	whole, place := 0, 0
	for whole < len(ends) && ends[whole] <= cut {
		place = ends[whole]
		whole++
	}
	wantRecords(t, file[:cut], records[:whole], place)
}

// Promise 4: the same file, cut at every place.
func TestCutAtEveryPlace(t *testing.T) {
	for _, list := range recordLists() {
		file, ends := fileByHand(list...)
		for cut := range len(file) + 1 {
			wantCutFile(t, file, list, ends, cut)
		}
	}
	for _, list := range fullFiles() {
		file, ends := fileByHand(list...)
		for cut := range len(file) + 1 {
			// About the ends of the first frames and of the last, and otherwise here and there.
			near := func(end int) bool { return cut >= end-2 && cut <= end+7 }
			if cut%487 == 0 || near(0) || near(ends[0]) || near(ends[len(ends)-1]) || near(ends[len(ends)/2]) {
				wantCutFile(t, file, list, ends, cut)
			}
		}
	}
}

func TestUnframeLimits(t *testing.T) {
	wantRecords(t, "", nil, 0)
	greatest, rest := longText(impl.MaxRecord), longText(impl.MaxText-2*(impl.MaxRecord+6)-6)
	full, _ := fileByHand(greatest, greatest, rest)
	if len(full) != impl.MaxText {
		t.Fatalf("the full file has %d bytes", len(full))
	}
	wantRecords(t, full, []string{greatest, greatest, rest}, impl.MaxText)
	longer, _ := fileByHand(greatest, greatest, rest+"x")
	if len(longer) != impl.MaxText+1 {
		t.Fatalf("the longer file has %d bytes", len(longer))
	}
	wantRecords(t, longer, nil, 0)
	wantRecords(t, full+"\x00", nil, 0)
	wantRecords(t, full+full, nil, 0)

	// What stands behind the frames counts, too.
	one := frameByHand("one")
	wantRecords(t, one+strings.Repeat("\x00", impl.MaxText-len(one)), []string{"one"}, len(one))
	wantRecords(t, one+strings.Repeat("\x00", impl.MaxText+1-len(one)), nil, 0)
}

func TestUnframeOfTornFrames(t *testing.T) {
	for _, text := range []string{"o", "one", "\x00", longText(127), longText(128), longText(300)} {
		frame := frameByHand(text)
		// In its length, in its sum, in its text, and but for its last byte: each cut is one of these.
		for cut := range len(frame) {
			wantTail(t, frame[:cut])
		}
	}
	for _, size := range []int{impl.MaxRecord - 1, impl.MaxRecord} {
		frame := frameByHand(longText(size))
		for _, cut := range []int{1, 2, 3, 5, 6, 7, 4000, len(frame) - 2, len(frame) - 1} {
			wantTail(t, frame[:cut])
		}
		wantTail(t, frame[:len(frame)-1]+"?")
	}
}

func TestUnframeRefusesLongerLengths(t *testing.T) {
	for _, text := range []string{"o", "one", "\x00", longText(127), longText(128), longText(300)} {
		size := lengthByHand(len(text))
		for more := 1; more < 12; more++ {
			// The last byte goes on, and noughts come behind it.
			longer := []byte(size)
			longer[len(longer)-1] += 128
			longer = append(longer, strings.Repeat("\x80", more-1)+"\x00"...)
			wantBroken(t, string(longer)+sealByBits(text)+text)
		}
	}
}

func TestUnframeRefusesOtherLengths(t *testing.T) {
	// Of nothing, with the sum that it has, and with others.
	wantBroken(t, "\x00\xff\xff\xff\xff")
	wantBroken(t, "\x00\x00\x00\x00\x00")
	wantBroken(t, "\x80\x00\xff\xff\xff\xff")
	wantTail(t, "\x00")
	// Above MaxRecord, with the sum that the text has.
	for _, size := range []int{impl.MaxRecord + 1, impl.MaxRecord + 2, 10000, 16383} {
		wantBroken(t, frameByHand(longText(size)))
		wantBroken(t, frameByHand(strings.Repeat("\x00", size)))
	}
	// More than the file has, up to MaxNumber and above; and lengths that never end.
	for _, size := range []string{
		"\x80\x80\x01", "\xff\xff\x7f", "\x80\x94\xeb\xdc\x03", "\x81\x94\xeb\xdc\x03", "\xff\xff\xff\xff\x0f",
		"\xff\xff\xff\xff\xff\xff\xff\xff\x7f", "\xff\xff\xff\xff\xff\xff\xff\xff\xff\x01", strings.Repeat("\x80", 40), strings.Repeat("\xff", 5000),
	} {
		wantBroken(t, size+sealByBits("one")+"one")
		wantTail(t, size)
	}
	// One less and one more than the text has.
	for _, text := range []string{"one", longText(127), longText(128), longText(300)} {
		for _, size := range []int{len(text) - 1, len(text) + 1} {
			wantBroken(t, lengthByHand(size)+sealByBits(text)+text)
		}
	}
}

// A sum that is turned, in each of its four bytes, to each other byte that there is.
func TestUnframeRefusesOtherSums(t *testing.T) {
	for _, text := range []string{"o", "one", "\x00", "\xff", longText(127), longText(128)} {
		size, seal := lengthByHand(len(text)), sealByBits(text)
		for at := range 4 {
			for turn := 1; turn < 256; turn++ {
				turned := []byte(seal)
				turned[at] ^= byte(turn)
				wantTail(t, size+string(turned)+text)
				if turn == 1 || turn == 128 || turn == 255 {
					wantBroken(t, size+string(turned)+text)
				}
			}
		}
		round := string([]byte{seal[3], seal[2], seal[1], seal[0]})
		wantBroken(t, size+round+text)
		wantBroken(t, size+text+seal)
		wantBroken(t, seal+size+text)
		wantBroken(t, size+sealByBits(size+text)+text)
		wantBroken(t, size+sealByBits("")+text)
		wantBroken(t, size+text)
	}
}

// One byte of a file turned: what comes are the records ahead of the frame that has it.
func TestUnframeOfTurnedBytes(t *testing.T) {
	for _, list := range [][]string{{"one", "x", "three", longText(130), "\x00\x00"}, {longText(127), longText(128)}} {
		file, ends := fileByHand(list...)
		for at := range len(file) {
			ahead, place := 0, 0
			for ends[ahead] <= at {
				place = ends[ahead]
				ahead++
			}
			for _, turn := range []byte{1, 2, 4, 8, 16, 32, 64, 128, 255} {
				turned := []byte(file)
				turned[at] ^= turn
				wantRecords(t, string(turned), list[:ahead], place)
			}
		}
	}
}

// Bytes behind the last whole frame that are no frame.
func TestUnframeOfOtherBytes(t *testing.T) {
	for b := range 256 {
		wantTail(t, string([]byte{byte(b)}))
		wantTail(t, strings.Repeat(string([]byte{byte(b)}), 40))
	}
	for _, tail := range []string{"\r\n", "no frame", everyByte(), longText(5000), "\x01\xff\xff\xff\xff", "\x03one"} {
		wantBroken(t, tail)
	}
	// A frame that stands one byte too far on.
	wantBroken(t, "\x00"+frameByHand("one"))
	wantBroken(t, " "+frameByHand("one"))
}

// Files drawn from frames, pieces of frames and other bytes, held against every record that could stand there.
func TestDrawnFiles(t *testing.T) {
	next := draws(4)
	for range 3000 {
		file := ""
		for range next(8) {
			from := next(256)
			frame := frameByHand(longText(1000)[from : from+next(400)])
			switch next(12) {
			case 0:
				frame = frame[:next(len(frame)+1)]
			case 1:
				frame = frame[next(len(frame)):]
			case 2:
				turned := []byte(frame)
				turned[next(len(turned))] ^= byte(next(256))
				frame = string(turned)
			}
			file += frame
		}
		records, place := unframeByTrial(file)
		wantRecords(t, file, records, place)
	}
}

// liesIn: whether a byte of part is one of whole's own.
func liesIn(part, whole string) bool {
	if len(part) == 0 || len(whole) == 0 {
		return false
	}
	at, from := uintptr(unsafe.Pointer(unsafe.StringData(part))), uintptr(unsafe.Pointer(unsafe.StringData(whole)))
	return at < from+uintptr(len(whole)) && from < at+uintptr(len(part))
}

func TestFramesAreNew(t *testing.T) {
	text := strings.Clone(everyByte())
	if s, _ := impl.Frame(text); liesIn(s, text) {
		t.Error("Frame answers with the memory of its argument")
	}
	file, ends := fileByHand("x", text, "one", longText(300))
	file += "torn"
	before := strings.Clone(file)
	list, place := impl.Unframe(file)
	if len(list) != 4 || place != ends[3] {
		t.Fatalf("Unframe = %s, %d", shownRecords(list), place)
	}
	for i, r := range list {
		if liesIn(r, file) {
			t.Errorf("the record %d lies in the file that was handed in", i)
		}
		for k := range i {
			if liesIn(r, list[k]) {
				t.Errorf("the records %d and %d share memory", k, i)
			}
		}
	}
	// What is done with one answer is not seen in the next.
	clear(list)
	wantRecords(t, file, []string{"x", text, "one", longText(300)}, ends[3])
	if file != before {
		t.Error("Unframe wrote into its argument")
	}
}

func TestFrameConstants(t *testing.T) {
	if impl.MaxRecord != 9000 {
		t.Errorf("MaxRecord is %d", impl.MaxRecord)
	}
}
