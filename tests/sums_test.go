package tests

import (
	"strings"
	"testing"
	"unsafe"

	"loop.example/g00127/impl"
)

// sumByBits reckons SumMore as the document tells it, one bit after another.
func sumByBits(sum uint32, text string) uint32 {
	for _, b := range []byte(text) {
		sum ^= uint32(b)
		for range 8 {
			odd := sum%2 == 1
			sum /= 2
			if odd {
				sum ^= 3558460437
			}
		}
	}
	return sum
}

// sealByBits is the four bytes that Sealed puts behind a text.
func sealByBits(text string) string {
	sum := sumByBits(4294967295, text)
	return string([]byte{byte(sum / 16777216), byte(sum / 65536), byte(sum / 256), byte(sum)})
}

// someTexts are ordinary ones, and those at the edges of what can be sealed.
func someTexts() []string {
	list := []string{
		"", "a", "abc", "\x00", "\x00\x00", "\xff", "\x80", "\x01", "\xff\xff\xff\xff", strings.Repeat("\x00", 40),
		everyByte(), longText(257), longText(impl.MaxText - 1), longText(impl.MaxText), strings.Repeat("\x00", impl.MaxText),
	}
	for i := range everyByte() {
		list = append(list, everyByte()[:i], everyByte()[i:])
	}
	return list
}

func someSums() []uint32 {
	list := []uint32{0, 1, 127, 128, 255, 256, 65535, 65536, 3558460437, 4294967294, 4294967295}
	for bit := range 32 {
		list = append(list, 1<<bit, ^uint32(1<<bit))
	}
	return list
}

func wantUnsealed(t *testing.T, text, body string) {
	t.Helper()
	if s, ok := impl.Unsealed(text); !ok || s != body {
		t.Errorf("Unsealed(%.40q) of %d bytes = %.40q, %v; want %.40q, true", text, len(text), s, ok, body)
	}
}

func refuseUnsealed(t *testing.T, text string) {
	t.Helper()
	if s, ok := impl.Unsealed(text); ok || s != "" {
		t.Errorf("Unsealed(%.40q) of %d bytes = %.40q, %v; want nothing", text, len(text), s, ok)
	}
}

// Known numbers, so that a slip in sumByBits is not met by the same slip in the program.
func TestSumNumbers(t *testing.T) {
	for _, c := range []struct {
		sum  uint32
		text string
		want uint32
	}{
		{0, "", 0}, {7, "", 7}, {4294967295, "", 4294967295},
		{0, "\x00", 0}, {0, "\x80", 3558460437}, {128, "\x00", 3558460437}, {128, "\x80", 0},
		{256, "\x00", 1}, {0x12345600, "\x00", 0x00123456}, {4294967295, "\xff", 16777215},
	} {
		if got := impl.SumMore(c.sum, c.text); got != c.want {
			t.Errorf("SumMore(%d, %q) = %d; want %d", c.sum, c.text, got, c.want)
		}
	}
	if got := impl.SumOf(""); got != 4294967295 {
		t.Errorf("SumOf of the empty text = %d", got)
	}
	// The sum that is widely known as CRC-32D goes by this rule and turns all bits at the end; its check is 0x87315576.
	if got := impl.SumOf("123456789"); got != ^uint32(0x87315576) {
		t.Errorf("SumOf of 123456789 = %#x", got)
	}
}

func TestSumMoreBitByBit(t *testing.T) {
	for _, sum := range someSums() {
		for b := range 256 {
			text := string([]byte{byte(b)})
			if got, want := impl.SumMore(sum, text), sumByBits(sum, text); got != want {
				t.Fatalf("SumMore(%d, %q) = %d; want %d", sum, text, got, want)
			}
		}
		if got, want := impl.SumMore(sum, everyByte()), sumByBits(sum, everyByte()); got != want {
			t.Errorf("SumMore(%d, every byte) = %d; want %d", sum, got, want)
		}
	}
}

func TestSumOfBitByBit(t *testing.T) {
	// No limit is named for a sum: a text that can't be sealed has one, too.
	for _, text := range append(someTexts(), longText(impl.MaxText+1), longText(3*impl.MaxText)) {
		if got, want := impl.SumOf(text), sumByBits(4294967295, text); got != want {
			t.Errorf("SumOf(%.40q) of %d bytes = %d; want %d", text, len(text), got, want)
		}
	}
}

func TestSumMoreGoesOn(t *testing.T) {
	text := everyByte() + "and more"
	for cut := range len(text) + 1 {
		if got, want := impl.SumMore(impl.SumOf(text[:cut]), text[cut:]), impl.SumOf(text); got != want {
			t.Errorf("cut at %d: %d; want %d", cut, got, want)
		}
		for _, sum := range someSums() {
			if got, want := impl.SumMore(impl.SumMore(sum, text[:cut]), text[cut:]), impl.SumMore(sum, text); got != want {
				t.Fatalf("of %d, cut at %d: %d; want %d", sum, cut, got, want)
			}
		}
	}
}

func TestSealedBytes(t *testing.T) {
	for _, text := range someTexts() {
		want := text + sealByBits(text)
		if s, ok := impl.Sealed(text); !ok || s != want {
			t.Errorf("Sealed(%.40q) of %d bytes = .. %q, %v; want .. %q, true", text, len(text), s[max(len(s)-4, 0):], ok, want[len(text):])
		}
	}
	if s, ok := impl.Sealed(""); !ok || s != "\xff\xff\xff\xff" {
		t.Errorf("Sealed of the empty text = %q, %v", s, ok)
	}
	// The sum of 255 is 16777215, whose highest byte is the one that is 0.
	if s, ok := impl.Sealed("\xff"); !ok || s != "\xff\x00\xff\xff\xff" {
		t.Errorf("Sealed of 255 = %q, %v", s, ok)
	}
}

func TestSealedRefuses(t *testing.T) {
	for _, size := range []int{impl.MaxText + 1, impl.MaxText + 4, impl.MaxText + 5, 2 * impl.MaxText} {
		if s, ok := impl.Sealed(longText(size)); ok || s != "" {
			t.Errorf("Sealed of %d bytes = %.40q, %v; want nothing", size, s, ok)
		}
	}
}

func TestSealedReadBack(t *testing.T) {
	for _, text := range someTexts() {
		s, ok := impl.Sealed(text)
		if !ok {
			t.Fatalf("Sealed(%.40q) is false", text)
		}
		wantUnsealed(t, s, text)
	}
}

// What is sealed twice is unsealed once at a time.
func TestUnsealedOnce(t *testing.T) {
	once, _ := impl.Sealed("abc")
	twice, _ := impl.Sealed(once)
	wantUnsealed(t, twice, once)
}

func TestUnsealedLimits(t *testing.T) {
	for _, size := range []int{impl.MaxText - 1, impl.MaxText} {
		body := longText(size)
		wantUnsealed(t, body+sealByBits(body), body)
	}
	for _, size := range []int{impl.MaxText + 1, impl.MaxText + 4, impl.MaxText + 5, 2 * impl.MaxText} {
		body := longText(size)
		refuseUnsealed(t, body+sealByBits(body))
	}
}

// A byte of the body or of the sum, turned to each other that there is.
func TestUnsealedRefusesTurnedBytes(t *testing.T) {
	for _, body := range []string{"", "a", "abc", "\x00", strings.Repeat("\x00", 40), strings.Repeat("\xff", 40), everyByte()} {
		sealed := body + sealByBits(body)
		for at := range len(sealed) {
			for turn := 1; turn < 256; turn++ {
				turned := []byte(sealed)
				turned[at] ^= byte(turn)
				refuseUnsealed(t, string(turned))
			}
		}
	}
	body := longText(impl.MaxText)
	sealed := body + sealByBits(body)
	for at := range len(sealed) {
		// Far ahead of the sum and beside it, and otherwise here and there.
		if at%997 != 0 && at > 4 && at < len(sealed)-8 {
			continue
		}
		for _, turn := range []byte{1, 128, 255} {
			turned := []byte(sealed)
			turned[at] ^= turn
			refuseUnsealed(t, string(turned))
		}
	}
}

func TestUnsealedRefusesShortTexts(t *testing.T) {
	refuseUnsealed(t, "")
	for size := 1; size < 4; size++ {
		refuseUnsealed(t, strings.Repeat("\xff", size))
		refuseUnsealed(t, strings.Repeat("\x00", size))
		refuseUnsealed(t, longText(size))
	}
	for b := range 256 {
		refuseUnsealed(t, string([]byte{byte(b)}))
	}
	wantUnsealed(t, "\xff\xff\xff\xff", "")
	refuseUnsealed(t, "\x00\x00\x00\x00")
}

func TestUnsealedRefusesOtherOrders(t *testing.T) {
	for _, body := range []string{"a", "abc", "\x00", "\xff", everyByte(), longText(impl.MaxText)} {
		seal := sealByBits(body)
		round := string([]byte{seal[3], seal[2], seal[1], seal[0]})
		if round == seal {
			t.Fatalf("the sum of %.40q is the same both ways", body)
		}
		refuseUnsealed(t, body+round)
		refuseUnsealed(t, seal+body)
		refuseUnsealed(t, body)
		refuseUnsealed(t, body+seal+"\x00")
		refuseUnsealed(t, "\x00"+body+seal)
		for cut := range 4 {
			refuseUnsealed(t, body+seal[:cut])
		}
	}
}

func TestUnsealedIsNew(t *testing.T) {
	body := everyByte()
	sealed, _ := impl.Sealed(body)
	if unsafe.StringData(sealed) == unsafe.StringData(body) {
		t.Error("Sealed answers with the memory of its argument")
	}
	if s, _ := impl.Unsealed(sealed); unsafe.StringData(s) == unsafe.StringData(sealed) {
		t.Error("Unsealed answers with the memory of its argument")
	}
}
