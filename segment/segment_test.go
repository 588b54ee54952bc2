package segment

import (
	"encoding/binary"
	"hash/crc32"
	"slices"
	"strings"
	"sync"
	"testing"
	"unsafe"

	"descant/api"
	"descant/line"
	"descant/pcm"
	"descant/residual"
	"descant/shift"
	"descant/side"
)

const (
	raw      = 0
	coded    = 1
	constant = 2
	// mostFrames is how many a segment may have.
	mostFrames = 64
)

// formats are those that may be.
var formats = []api.Format{of(1, 8), of(2, 8), of(1, 16), of(2, 16)}

// A telling is some frames and what is told of them, all but how many bytes that are and their sum.
type telling struct {
	f      api.Format
	data   string
	kind   int
	by     int
	frames int
	own    string
}

// told are segments, worked out by hand; the bytes of those that are coded are told by residuals that are.
var told = slices.Concat(constants, raws, codeds())

var constants = []telling{
	// One frame, which is always constant.
	{of(1, 8), "a", constant, 0, 1, "a"},
	{of(1, 8), "\x80", constant, 0, 1, "\x80"},
	{of(2, 8), "ab", constant, 0, 1, "ab"},
	{of(1, 16), "ab", constant, 0, 1, "ab"},
	{of(2, 16), "abcd", constant, 0, 1, "abcd"},
	// A few, of channels that are alike, and not.
	{of(1, 8), "aa", constant, 0, 2, "a"},
	{of(1, 8), "aaaaa", constant, 0, 5, "a"},
	{of(2, 8), "abababab", constant, 0, 4, "ab"},
	{of(2, 8), "aaaaaaaa", constant, 0, 4, "aa"},
	{of(1, 16), "aaaa", constant, 0, 2, "aa"},
	{of(1, 16), "ababab", constant, 0, 3, "ab"},
	{of(2, 16), "abcdabcd", constant, 0, 2, "abcd"},
	{of(2, 16), "abababab", constant, 0, 2, "abab"},
	// Of the least sample, of the greatest, of 0, of one that wastes bits; as many as may be.
	{of(1, 8), strings.Repeat("\x00", 64), constant, 0, 64, "\x00"},
	{of(1, 8), strings.Repeat("\xff", 64), constant, 0, 64, "\xff"},
	{of(1, 8), strings.Repeat("\x80", 64), constant, 0, 64, "\x80"},
	{of(1, 8), strings.Repeat("\xc0", 64), constant, 0, 64, "\xc0"},
	{of(2, 8), strings.Repeat("\x00\x00", 64), constant, 0, 64, "\x00\x00"},
	{of(2, 8), strings.Repeat("\x00\xff", 64), constant, 0, 64, "\x00\xff"},
	{of(2, 8), strings.Repeat("\xff\x00", 64), constant, 0, 64, "\xff\x00"},
	{of(2, 8), strings.Repeat("\x80\x80", 64), constant, 0, 64, "\x80\x80"},
	{of(1, 16), strings.Repeat("\x00\x80", 64), constant, 0, 64, "\x00\x80"},
	{of(1, 16), strings.Repeat("\xff\x7f", 64), constant, 0, 64, "\xff\x7f"},
	{of(1, 16), strings.Repeat("\x00\x00", 64), constant, 0, 64, "\x00\x00"},
	{of(2, 16), strings.Repeat("\x00\x80\xff\x7f", 64), constant, 0, 64, "\x00\x80\xff\x7f"},
	{of(2, 16), strings.Repeat("\xff\x7f\x00\x80", 64), constant, 0, 64, "\xff\x7f\x00\x80"},
	{of(2, 16), strings.Repeat("\x00\x00\x00\x00", 64), constant, 0, 64, "\x00\x00\x00\x00"},
	{of(2, 16), strings.Repeat("\x00\x80\x00\x80", 64), constant, 0, 64, "\x00\x80\x00\x80"},
}

// Layer 13 tells at least four bytes: no more frames than these have are shorter coded.
var raws = []telling{
	{of(1, 8), "ab", raw, 0, 2, "ab"},
	{of(1, 8), "\x00\xff", raw, 0, 2, "\x00\xff"},
	{of(1, 8), "aab", raw, 0, 3, "aab"},
	{of(1, 8), "aaab", raw, 0, 4, "aaab"},
	{of(1, 8), "abbb", raw, 0, 4, "abbb"},
	{of(1, 8), "\x80\x80\x80\x00", raw, 0, 4, "\x80\x80\x80\x00"},
	{of(2, 8), "abaa", raw, 0, 2, "abaa"},
	{of(2, 8), "abbb", raw, 0, 2, "abbb"},
	{of(2, 8), "\x00\xff\xff\x00", raw, 0, 2, "\x00\xff\xff\x00"},
	{of(1, 16), "abaa", raw, 0, 2, "abaa"},
	{of(1, 16), "abbb", raw, 0, 2, "abbb"},
	{of(1, 16), "\x00\x80\xff\x7f", raw, 0, 2, "\x00\x80\xff\x7f"},
	{of(1, 16), "\x00\x00\x00\x80", raw, 0, 2, "\x00\x00\x00\x80"},
}

// codeds are sounds that stay as they are for many frames, at first at 0: there a chain guesses that they stay, and each step is
// told as it is. The bits that are not used are out of it.
func codeds() []telling {
	z := func(many int) []int { return make([]int, many) }
	row := slices.Concat[[]int]
	one := row(z(20), []int{1}, z(19), []int{-2}, z(23))
	other := row(z(20), []int{-1}, z(19), []int{2}, z(23))
	stay := func(a, b, c string) string {
		return strings.Repeat(a, 20) + strings.Repeat(b, 20) + strings.Repeat(c, 24)
	}
	return []telling{
		// Samples 0, 1 and -1; times 2, 4, 64, and 128 (where 8 bits have no such, half of them); times 2^14, and as far as 16
		// bits go.
		by(of(1, 8), stay("\x80", "\x81", "\x7f"), 0, one),
		by(of(1, 8), stay("\x80", "\x82", "\x7e"), 1, one),
		by(of(1, 8), stay("\x80", "\x84", "\x7c"), 2, one),
		by(of(1, 8), stay("\x80", "\xc0", "\x40"), 6, one),
		by(of(1, 8), stay("\x80", "\x80", "\x00"), 7, row(z(40), []int{-1}, z(23))),
		by(of(1, 16), stay("\x00\x00", "\x01\x00", "\xff\xff"), 0, one),
		by(of(1, 16), stay("\x00\x00", "\x02\x00", "\xfe\xff"), 1, one),
		by(of(1, 16), stay("\x00\x00", "\x04\x00", "\xfc\xff"), 2, one),
		by(of(1, 16), stay("\x00\x00", "\x80\x00", "\x80\xff"), 7, one),
		by(of(1, 16), stay("\x00\x00", "\x00\x40", "\x00\xc0"), 14, one),
		by(of(1, 16), stay("\x00\x00", "\x00\x80", "\x00\x00"), 15, row(z(20), []int{-1}, z(19), []int{1}, z(23))),
		// Two channels that are alike, and of just other samples.
		by(of(2, 8), stay("\x80\x80", "\x81\x81", "\x7f\x7f"), 0, row(one, z(64))),
		by(of(2, 8), stay("\x80\x80", "\x88\x88", "\x78\x78"), 3, row(one, z(64))),
		by(of(2, 16), stay("\x00\x00\x00\x00", "\x01\x00\x01\x00", "\xff\xff\xff\xff"), 0, row(one, z(64))),
		by(of(2, 16), stay("\x00\x00\x00\x00", "\x00\x02\x00\x02", "\x00\xfe\x00\xfe"), 9, row(one, z(64))),
		by(of(2, 16), stay("\x00\x00\x00\x00", "\x01\x00\xff\xff", "\xff\xff\x01\x00"), 0, row(one, z(20), []int{-2}, z(19), []int{4}, z(23))),
		// Two that waste other bits: by is the lesser.
		by(of(2, 8), stay("\x80\x80", "\x84\x82", "\x7c\x7e"), 1, row(z(20), []int{2}, z(19), []int{-4}, z(23), other)),
		by(of(2, 8), stay("\x80\x80", "\x82\x84", "\x7e\x7c"), 1, row(one, one)),
		by(of(2, 8), stay("\x80\x80", "\x81\xc0", "\x7f\x40"), 0, row(one, z(20), []int{63}, z(19), []int{-126}, z(23))),
		by(of(2, 16), stay("\x00\x00\x00\x00", "\x00\x02\x00\x01", "\x00\xfe\x00\xff"), 8, row(z(20), []int{2}, z(19), []int{-4}, z(23), other)),
		by(of(2, 16), stay("\x00\x00\x00\x00", "\x04\x00\x08\x00", "\xfc\xff\xf8\xff"), 2, row(one, one)),
		// One that is all 0, beside one that is not, either way.
		by(of(2, 8), stay("\x80\x80", "\x81\x80", "\x7f\x80"), 0, row(one, other)),
		by(of(2, 8), stay("\x80\x80", "\x84\x80", "\x7c\x80"), 2, row(one, other)),
		by(of(2, 8), stay("\x80\x80", "\x80\x84", "\x80\x7c"), 2, row(z(64), one)),
		by(of(2, 16), stay("\x00\x00\x00\x00", "\x80\x00\x00\x00", "\x80\xff\x00\x00"), 7, row(one, other)),
		by(of(2, 16), stay("\x00\x00\x00\x00", "\x00\x00\x80\x00", "\x00\x00\x80\xff"), 7, row(z(64), one)),
		by(of(2, 16), stay("\x00\x00\x00\x00", "\x00\x00\x00\x80", "\x00\x00\x00\x00"), 15, row(z(64), z(20), []int{-1}, z(19), []int{1}, z(23))),
		// All frames the same but the first, but the last.
		by(of(1, 8), "\x80"+strings.Repeat("\x83", 63), 0, row([]int{0, 3}, z(62))),
		by(of(1, 8), strings.Repeat("\x80", 63)+"\x83", 0, row(z(63), []int{3})),
		by(of(1, 8), strings.Repeat("\xff", 63)+"\x00", 0, row([]int{127}, z(62), []int{-255})),
		by(of(1, 8), strings.Repeat("\x00", 63)+"\xff", 0, row([]int{-128}, z(62), []int{255})),
		by(of(1, 16), "\x00\x00"+strings.Repeat("\x03\x00", 63), 0, row([]int{0, 3}, z(62))),
		by(of(1, 16), strings.Repeat("\x00\x80", 63)+"\xff\x7f", 0, row([]int{-32768}, z(62), []int{65535})),
		by(of(2, 8), "\x80\x80"+strings.Repeat("\x83\x83", 63), 0, row([]int{0, 3}, z(62), z(64))),
		by(of(2, 16), strings.Repeat("\x00\x80\xff\x7f", 63)+"\xff\x7f\x00\x80", 0, row([]int{-32768}, z(62), []int{65535}, []int{65535}, z(62), []int{-131070})),
		by(of(2, 16), strings.Repeat("\xff\x7f\x00\x80", 63)+"\x00\x80\xff\x7f", 0, row([]int{32767}, z(62), []int{-65535}, []int{-65535}, z(62), []int{131070})),
	}
}

// by is a telling of a sound that goes down by so many bits, whose residuals are then rs.
func by(f api.Format, data string, by int, rs []int) telling {
	own, _ := residual.Put(rs)
	return telling{f, data, coded, by, len(rs) / f.Channels, own}
}

// of is a format by its channels and its bits.
func of(channels int, bits int) api.Format {
	return api.Format{Channels: channels, Bits: bits}
}

// segment is the text of which t is told.
func (t telling) segment() string {
	return text(t.kind, t.by, t.frames, t.own)
}

// text is a segment of these numbers and these bytes, its sum being right.
func text(kind int, by int, frames int, own string) string {
	head := []byte{byte(kind), byte(by), byte(frames)}
	return summed(string(binary.LittleEndian.AppendUint16(head, uint16(len(own)))) + own)
}

// summed is s and its sum.
func summed(s string) string {
	return s + string(binary.LittleEndian.AppendUint32(nil, crc32.ChecksumIEEE([]byte(s))))
}

// bytesOf is how many bytes a frame has.
func bytesOf(f api.Format) int {
	return f.Channels * (f.Bits / 8)
}

// with is s with other bytes from at on.
func with(s string, at int, other string) string {
	return s[:at] + other + s[at+len(other):]
}

// numbered is a row of numbers, the same each time.
type numbered uint64

func (n *numbered) next(below int) int {
	*n = *n*6364136223846793005 + 1442695040888963407
	return int(uint64(*n) >> 33 % uint64(below))
}

func (n *numbered) text(many int) string {
	bs := make([]byte, many)
	for i := range bs {
		bs[i] = byte(n.next(256))
	}
	return string(bs)
}

// channel is so many samples of so many bits: a walk, a wave, noise, or all the same, near 0 or far, with bits that are not
// used.
func (n *numbered) channel(frames int, bits int) []int {
	half := 1 << (bits - 1)
	unused := n.next(2) * n.next(bits)
	wide := max(1, []int{1, 4, half / 16, half}[n.next(4)]>>unused)
	kind, x, step := n.next(4), n.next(2*wide+1)-wide, 1+n.next(wide)
	xs := make([]int, frames)
	for i := range xs {
		switch kind {
		case 0:
			x += n.next(2*step+1) - step
		case 1:
			if x > wide || x < -wide {
				step = -step
			}
			x += step
		case 2:
			x = n.next(2*wide+1) - wide
		}
		xs[i] = min(max(x<<unused, -half), half-1) >> unused << unused
	}
	return xs
}

// sound is the bytes of frames of a format.
func (n *numbered) sound(f api.Format, frames int) string {
	chs := make([][]int, f.Channels)
	for i := range chs {
		chs[i] = n.channel(frames, f.Bits)
	}
	if n.next(4) == 0 {
		chs[n.next(len(chs))] = make([]int, frames)
	}
	if n.next(4) == 0 {
		chs[len(chs)-1] = chs[0]
	}
	return bytesOfAll(chs, f)
}

// bytesOfAll is the bytes of channels of samples.
func bytesOfAll(chs [][]int, f api.Format) string {
	data, _ := pcm.Put(chs, f)
	return data
}

// byWords is what the chapter's words say that Put tells, and the bytes that are told if it is coded.
func byWords(data string, f api.Format) (telling, string) {
	chs, e := pcm.Get(data, f)
	if e != api.OK || len(chs[0]) == 0 || len(chs[0]) > mostFrames {
		return telling{}, ""
	}
	same := true
	for i := range len(data) - bytesOf(f) {
		same = same && data[i] == data[i+bytesOf(f)]
	}
	if same {
		return telling{f, data, constant, 0, len(chs[0]), data[:bytesOf(f)]}, ""
	}
	least := 99
	for _, ch := range chs {
		wasted, _ := shift.Wasted(ch)
		if slices.Max(ch) != 0 || slices.Min(ch) != 0 {
			least = min(least, wasted)
		}
	}
	for i, ch := range chs {
		chs[i], _ = shift.Down(ch, least)
	}
	chs, _ = side.Put(chs)
	var all []int
	for _, ch := range chs {
		rs, _ := line.Put(ch)
		all = append(all, rs...)
	}
	own, e := residual.Put(all)
	if e != api.OK {
		panic("layer 13 refuses")
	}
	if len(own) < len(data) {
		return telling{f, data, coded, least, len(chs[0]), own}, own
	}
	return telling{f, data, raw, 0, len(chs[0]), data}, own
}

// isTold holds Put to what is told, and Get to the frames.
func isTold(t *testing.T, want telling) {
	t.Helper()
	if got, e := Put(want.data, want.f); got != want.segment() || e != api.OK {
		t.Errorf("P22.1: Put of %v, %.100q: %.100q, %d; want %.100q", want.f, want.data, got, e, want.segment())
	}
	if got, e := Get(want.segment(), want.f); got != want.data || e != api.OK {
		t.Errorf("P22.2: Get of %.100q, %v: %.100q, %d; want %.100q", want.segment(), want.f, got, e, want.data)
	}
}

func isNotPut(t *testing.T, data string, f api.Format) {
	t.Helper()
	if got, e := Put(data, f); got != "" || e != api.ErrSegmentForm {
		t.Errorf("P22.1: Put of %v, %d bytes %.100q: %.100q, %d; want ErrSegmentForm", f, len(data), data, got, e)
	}
}

func isNotGot(t *testing.T, s string, f api.Format, want api.Errno) {
	t.Helper()
	if got, e := Get(s, f); got != "" || e != want {
		t.Errorf("P22.2: Get of %d bytes %.100q, %v: %.100q, %d; want %d", len(s), s, f, got, e, want)
	}
}

func TestSegmentsWorkedOutByHand(t *testing.T) {
	for _, want := range told {
		isTold(t, want)
	}
}

// Whole segments, byte by byte.
func TestWholeSegments(t *testing.T) {
	for _, want := range []struct {
		f    api.Format
		data string
		s    string
	}{
		{of(1, 8), "a", "\x02\x00\x01\x01\x00a\x34\x5c\xc1\x7f"},
		{of(2, 16), "abcdabcdabcd", "\x02\x00\x03\x04\x00abcd\xae\x76\x40\xae"},
		{of(1, 8), "ab", "\x00\x00\x02\x02\x00ab\x07\x1e\xff\x92"},
		{of(2, 8), "\x00\xff\xff\x00", "\x00\x00\x02\x04\x00\x00\xff\xff\x00\x0e\x8e\xbb\xc7"},
		{of(1, 8), strings.Repeat("\x80", 63) + "\x83", "\x01\x00\x40\x07\x00\xff\xe4\xcf\x50\x8a\xe9\x00\x96\x55\x1e\xc6"},
		{of(1, 16), strings.Repeat("\x00\x00", 20) + strings.Repeat("\x80\x00", 20) + strings.Repeat("\x80\xff", 24),
			"\x01\x07\x40\x07\x00\xff\xb2\x96\xe7\xe2\x85\xca\xfb\xe5\x69\x74"},
		{of(2, 16), strings.Repeat("\x00\x80\xff\x7f", 63) + "\xff\x7f\x00\x80",
			"\x01\x00\x40\x16\x00\x00\x08\x2c\x02\x15\x29\x59\x59\x4e\x59\x4f\x41\x24\x0a\x7c\x3c\xe0\x6e\xaa\x44\x91\x9a\x67\xff\xaf\xfb"},
	} {
		if got, e := Put(want.data, want.f); got != want.s || e != api.OK {
			t.Errorf("P22.1: Put of %v, %q: %q, %d; want %q", want.f, want.data, got, e, want.s)
		}
		if got, e := Get(want.s, want.f); got != want.data || e != api.OK {
			t.Errorf("P22.2: Get of %q, %v: %q, %d; want %q", want.s, want.f, got, e, want.data)
		}
	}
}

func TestSoundsOfAllKinds(t *testing.T) {
	n := numbered(1)
	many := map[int]int{}
	for range 1000 {
		f := formats[n.next(4)]
		want, _ := byWords(n.sound(f, []int{1, 2, 64, 1 + n.next(64)}[n.next(4)]), f)
		isTold(t, want)
		many[want.kind]++
	}
	if many[raw] < 100 || many[coded] < 100 || many[constant] < 100 {
		t.Errorf("of all kinds there should be many: %v", many)
	}
}

func TestEachNumberOfFrames(t *testing.T) {
	n := numbered(2)
	for _, f := range formats {
		for frames := 1; frames <= mostFrames; frames++ {
			one := n.text(bytesOf(f))
			isTold(t, telling{f, strings.Repeat(one, frames), constant, 0, frames, one})
			want, _ := byWords(n.sound(f, frames), f)
			isTold(t, want)
			if noise := n.text(bytesOf(f) * frames); frames > 1 {
				want, _ := byWords(noise, f)
				isTold(t, want)
			}
		}
	}
}

// One frame is always constant, whatever its bytes are.
func TestOneFrame(t *testing.T) {
	for a := range 256 {
		for _, b := range []int{0, 1, 127, 128, 255, a} {
			one := string([]byte{byte(a), byte(b)})
			isTold(t, telling{of(1, 8), one[:1], constant, 0, 1, one[:1]})
			isTold(t, telling{of(2, 8), one, constant, 0, 1, one})
			isTold(t, telling{of(1, 16), one, constant, 0, 1, one})
			isTold(t, telling{of(2, 16), one + "xy", constant, 0, 1, one + "xy"})
			isTold(t, telling{of(2, 16), "xy" + one, constant, 0, 1, "xy" + one})
		}
	}
}

// All frames the same but one of them, in one byte of it.
func TestAllTheSameButOne(t *testing.T) {
	n := numbered(3)
	for _, f := range formats {
		for _, one := range []string{"\x00\x00\x00\x00", "\xff\xff\xff\xff", "\x80\x80\x80\x80", "\x00\x80\x00\x80", "\xff\x7f\xff\x7f", n.text(4)} {
			all := strings.Repeat(one[:bytesOf(f)], mostFrames)
			for _, at := range []int{0, bytesOf(f) - 1, bytesOf(f), len(all) / 2, len(all) - bytesOf(f) - 1, len(all) - bytesOf(f), len(all) - 1} {
				for _, turned := range []byte{1, 0x80, 0xff} {
					want, own := byWords(with(all, at, string([]byte{all[at] ^ turned})), f)
					if want.kind != coded || own == "" {
						t.Fatalf("%v, %q at %d should be coded", f, one, at)
					}
					isTold(t, want)
				}
			}
		}
	}
}

// Coded is told, if it is just a byte shorter than the frames; if it is just as long, these are.
func TestJustShorterAndJustAsLong(t *testing.T) {
	n := numbered(4)
	for _, f := range formats {
		shorter, asLong, longer := 0, 0, 0
		for range 1200 {
			want, own := byWords(n.sound(f, 2+n.next(40)), f)
			switch len(own) - len(want.data) {
			case -1:
				shorter++
			case 0:
				asLong++
			case 1:
				longer++
			default:
				continue
			}
			if isShorter := len(own) < len(want.data); isShorter != (want.kind == coded) || isShorter == (want.kind == raw) {
				t.Fatalf("%v, %q: coded in %d bytes, is told as %d", f, want.data, len(own), want.kind)
			}
			isTold(t, want)
		}
		if shorter < 5 || asLong < 5 || longer < 5 {
			t.Errorf("of %v there should be a few just shorter, as long, longer: %d, %d, %d", f, shorter, asLong, longer)
		}
	}
}

// A sound goes down by the lesser of what its channels waste, but for one that is all 0.
func TestHowFarASoundGoesDown(t *testing.T) {
	step := func(high int) []int {
		xs := make([]int, mostFrames)
		for i := range xs[:32] {
			xs[i+32] = high
		}
		return xs
	}
	for _, f := range formats {
		// The highest bit is that of samples below 0.
		for a := range f.Bits {
			one := step(-1 << a)
			if f.Channels == 1 {
				isDownBy(t, [][]int{one}, f, a)
				continue
			}
			isDownBy(t, [][]int{one, step(0)}, f, a)
			isDownBy(t, [][]int{step(0), one}, f, a)
			isDownBy(t, [][]int{one, one}, f, a)
			for b := range f.Bits {
				isDownBy(t, [][]int{one, step(-1 << b)}, f, min(a, b))
			}
		}
	}
}

func isDownBy(t *testing.T, chs [][]int, f api.Format, by int) {
	t.Helper()
	want, _ := byWords(bytesOfAll(chs, f), f)
	if want.kind != coded || want.by != by {
		t.Fatalf("%v: a sound of kind %d goes down by %d; want %d", f, want.kind, want.by, by)
	}
	isTold(t, want)
}

// formatsThatMayNotBe are those of which a number is off, near and far.
func formatsThatMayNotBe() []api.Format {
	far := 1 << 62
	fs := []api.Format{of(0, 0), of(2, 0), of(0, 16), of(8, 1), of(16, 2), of(3, 8), of(-1, 8), of(1, -8), of(-1, -8), of(1, 24), of(2, 32), of(1, 4), of(4, 8),
		of(257, 8), of(1, 264), of(1<<32+1, 8), of(1, 1<<32+8), of(far, far), of(-far, -far), of(far, 8), of(1, far)}
	for bits := range 40 {
		if bits != 8 && bits != 16 {
			fs = append(fs, of(1, bits), of(2, bits))
		}
	}
	return fs
}

func TestFormatsThatMayNotBe(t *testing.T) {
	for _, f := range formatsThatMayNotBe() {
		for _, row := range told {
			isNotPut(t, row.data, f)
			isNotGot(t, row.segment(), f, api.ErrSegmentForm)
		}
		isNotPut(t, "", f)
		isNotGot(t, "", f, api.ErrSegmentForm)
	}
}

func TestOtherNumbersOfFramesAreNotPut(t *testing.T) {
	great := strings.Repeat("x", 1<<20)
	for _, f := range formats {
		isNotPut(t, "", f)
		for many := 1; many < 300; many++ {
			if many%bytesOf(f) != 0 || many/bytesOf(f) > mostFrames {
				isNotPut(t, strings.Repeat("x", many), f)
				isNotPut(t, strings.Repeat("wxyz", many)[:many], f)
			}
		}
		for _, many := range []int{320, 512, 4092, 4096, 4097, 4098, 4100, 8192, 65536, 1 << 20} {
			isNotPut(t, great[:many], f)
		}
		for _, row := range told {
			if row.f == f && bytesOf(f) > 1 {
				isNotPut(t, row.data[1:], f)
				isNotPut(t, row.data+"x", f)
			}
		}
	}
}

// byLength is the error of a text that is no segment's: even so it may be just as long as it tells.
func byLength(s string) api.Errno {
	if len(s) >= 9 && len(s) == 9+int(s[3])+256*int(s[4]) {
		return api.ErrSegmentSum
	}
	return api.ErrSegmentForm
}

// Each cut, and bytes of too many: another number than told, and first fewer than there must be.
func TestOtherLengthsAreNotGot(t *testing.T) {
	n := numbered(5)
	for _, row := range told {
		s := row.segment()
		for many := range len(s) {
			isNotGot(t, s[:many], row.f, api.ErrSegmentForm)
			isNotGot(t, s[len(s)-many:], row.f, byLength(s[len(s)-many:]))
		}
		for b := range 256 {
			isNotGot(t, s+string([]byte{byte(b)}), row.f, api.ErrSegmentForm)
		}
		isNotGot(t, s+s, row.f, api.ErrSegmentForm)
		isNotGot(t, summed(s), row.f, api.ErrSegmentForm)
		isNotGot(t, s+n.text(65536), row.f, api.ErrSegmentForm)
	}
	for _, f := range formats {
		for many := range 9 {
			for range 50 {
				isNotGot(t, n.text(many), f, api.ErrSegmentForm)
			}
			isNotGot(t, "\x02\x00\x01\x00\x00\x00\x00\x00\x00"[:many], f, api.ErrSegmentForm)
			isNotGot(t, summed("\x02\x00\x01\x00\x00"[:max(0, many-4)]), f, api.ErrSegmentForm)
		}
	}
}

// What is told of how many bytes there are is turned, the sum being right again.
func TestAnotherLengthIsTold(t *testing.T) {
	for _, row := range told {
		for x := range 1 << 16 {
			if x == len(row.own) || x > 600 && x%251 != 0 {
				continue
			}
			head := string(binary.LittleEndian.AppendUint16([]byte{byte(row.kind), byte(row.by), byte(row.frames)}, uint16(x)))
			isNotGot(t, summed(head+row.own), row.f, api.ErrSegmentForm)
		}
	}
}

// Each byte of a segment turned is another sum; but for those that tell how many bytes there are.
func TestEachByteTurned(t *testing.T) {
	for _, row := range told {
		s := row.segment()
		for at := range len(s) {
			want := api.ErrSegmentSum
			if at == 3 || at == 4 {
				want = api.ErrSegmentForm
			}
			for b := range 256 {
				if byte(b) != s[at] {
					isNotGot(t, with(s, at, string([]byte{byte(b)})), row.f, want)
				}
			}
		}
	}
}

// A stretch of at most 32 bits turned is another sum, wherever it begins.
func TestStretchesTurned(t *testing.T) {
	n := numbered(6)
	for _, row := range told {
		for range 300 {
			bs := []byte(row.segment())
			turned, at := uint64(n.next(1<<31)<<1|1), n.next(8*len(bs)-31)
			for i := range 5 {
				if k := at/8 + i; k < len(bs) {
					bs[k] ^= byte(turned << (at % 8) >> (8 * i))
				}
			}
			if got, e := Get(string(bs), row.f); got != "" || e != api.ErrSegmentSum && e != api.ErrSegmentForm {
				t.Errorf("P22.2: Get of %q, turned from bit %d on: %q, %d; want an error", bs, at, got, e)
			}
		}
	}
}

// The error that comes first, where more than one would do: a format or a length ahead of a sum, a sum ahead of all else.
func TestTheErrorThatComesFirst(t *testing.T) {
	bad := func(s string) string { return s[:len(s)-1] + string([]byte{s[len(s)-1] ^ 1}) }
	for _, row := range told {
		s := row.segment()
		isNotGot(t, bad(s), row.f, api.ErrSegmentSum)
		isNotGot(t, bad(s), of(3, 8), api.ErrSegmentForm)
		isNotGot(t, bad(s)+"x", row.f, api.ErrSegmentForm)
		isNotGot(t, bad(s)[:len(s)-1], row.f, api.ErrSegmentForm)
		isNotGot(t, bad(text(3, row.by, row.frames, row.own)), row.f, api.ErrSegmentSum)
		isNotGot(t, bad(text(row.kind, row.by+1, row.frames, row.own)), row.f, api.ErrSegmentSum)
		isNotGot(t, bad(text(row.kind, row.by, 0, row.own)), row.f, api.ErrSegmentSum)
		isNotGot(t, bad(text(row.kind, row.by, 65, row.own)), row.f, api.ErrSegmentSum)
		isNotGot(t, bad(text(row.kind, row.by, row.frames, "")), row.f, api.ErrSegmentSum)
		isNotGot(t, bad(text(row.kind, row.by, row.frames, row.own+"x")), row.f, api.ErrSegmentSum)
	}
	isNotGot(t, "\x00\x00\x00\x00\x00\x00\x00\x00\x00", of(1, 8), api.ErrSegmentSum)
	isNotGot(t, "\x00\x00\x00\x00\x00\x00\x00\x00\x00", of(1, 9), api.ErrSegmentForm)
	isNotGot(t, "\x00\x00\x00\x01\x00\x00\x00\x00\x00", of(1, 8), api.ErrSegmentForm)
}

// isAsWords holds Get to what the words say of other numbers and bytes than a coded segment's own: by them none is coded.
func isAsWords(t *testing.T, other telling) {
	t.Helper()
	s := other.segment()
	frames := other.own
	if other.kind == constant && len(other.own) == bytesOf(other.f) {
		frames = strings.Repeat(other.own, other.frames)
	}
	if want, _ := byWords(frames, other.f); other.kind != coded && want.frames != 0 && want.segment() == s {
		isTold(t, want)
	} else {
		isNotGot(t, s, other.f, api.ErrSegmentForm)
	}
}

// Each number ahead of a segment's bytes is turned, the sum being right again.
func TestOtherNumbersOfASegment(t *testing.T) {
	for _, row := range told {
		for x := range 256 {
			// Of one that is coded not all, as each is decoded.
			if row.kind == coded && x > 17 && x%8 > 1 {
				continue
			}
			if other := row; x != row.kind {
				other.kind = x
				isAsWords(t, other)
			}
			if other := row; x != row.by {
				other.by = x
				isAsLoud(t, row, other)
			}
			if other := row; x != row.frames {
				other.frames = x
				isAsWords(t, other)
			}
		}
	}
}

// isAsLoud holds Get to what the words say of a segment but for by: of one that is coded this may be the same sound, louder or
// not as loud, if it has such samples.
func isAsLoud(t *testing.T, row telling, other telling) {
	t.Helper()
	if row.kind == coded && other.by < 16 {
		chs, _ := pcm.Get(row.data, row.f)
		for _, ch := range chs {
			for i := range ch {
				ch[i] = ch[i] >> row.by << other.by
			}
		}
		if want, _ := byWords(bytesOfAll(chs, row.f), row.f); want.segment() == other.segment() {
			isTold(t, want)
			return
		}
	}
	isNotGot(t, other.segment(), other.f, api.ErrSegmentForm)
}

// A constant one is told of each number of frames that may be; of no other, and of no other bytes.
func TestOtherNumbersOfAConstantOne(t *testing.T) {
	for _, f := range formats {
		one := "\x01\x02\x03\x04"[:bytesOf(f)]
		for frames := range 256 {
			if frames >= 1 && frames <= mostFrames {
				isTold(t, telling{f, strings.Repeat(one, frames), constant, 0, frames, one})
			} else {
				isNotGot(t, text(constant, 0, frames, one), f, api.ErrSegmentForm)
			}
			for many := range 20 {
				if many != bytesOf(f) {
					isNotGot(t, text(constant, 0, frames, strings.Repeat("abcd", 5)[:many]), f, api.ErrSegmentForm)
					isNotGot(t, text(constant, 0, frames, strings.Repeat("a", many)), f, api.ErrSegmentForm)
				}
			}
			isNotGot(t, text(constant, 0, frames, one+one), f, api.ErrSegmentForm)
			isNotGot(t, text(constant, 0, frames, strings.Repeat(one, frames+2)), f, api.ErrSegmentForm)
		}
	}
}

// The same frames, told as another kind than they are of.
func TestOtherKindsOfTheSameFrames(t *testing.T) {
	n := numbered(7)
	rows := slices.Clone(told)
	for range 150 {
		f := formats[n.next(4)]
		row, _ := byWords(n.sound(f, 1+n.next(64)), f)
		rows = append(rows, row)
	}
	for _, row := range rows {
		if row.kind != raw {
			isNotGot(t, text(raw, 0, row.frames, row.data), row.f, api.ErrSegmentForm)
		}
		if row.kind != constant {
			isNotGot(t, text(constant, 0, row.frames, row.data), row.f, api.ErrSegmentForm)
			isNotGot(t, text(constant, 0, row.frames, row.own), row.f, api.ErrSegmentForm)
		}
		chs, _ := pcm.Get(row.data, row.f)
		for by := range 16 {
			if own, may := codedBy(chs, by); may && (row.kind != coded || by != row.by) {
				isNotGot(t, text(coded, by, row.frames, own), row.f, api.ErrSegmentForm)
			}
		}
		isNotGot(t, text(coded, row.by, row.frames, row.data), row.f, api.ErrSegmentForm)
	}
}

// codedBy is the bytes of channels that go down by so many bits, if they may.
func codedBy(chs [][]int, by int) (string, bool) {
	down := make([][]int, len(chs))
	for i, ch := range chs {
		xs, e := shift.Down(ch, by)
		if e != api.OK {
			return "", false
		}
		down[i] = xs
	}
	told, e := side.Put(down)
	if e != api.OK {
		return "", false
	}
	var all []int
	for _, ch := range told {
		rs, _ := line.Put(ch)
		all = append(all, rs...)
	}
	own, _ := residual.Put(all)
	return own, true
}

// Coded as it would be, if that were not just as long as the frames, or longer.
func TestRawToldAsCoded(t *testing.T) {
	n := numbered(8)
	many := 0
	for range 700 {
		f := formats[n.next(4)]
		want, own := byWords(n.sound(f, 2+n.next(20)), f)
		if want.kind != raw {
			continue
		}
		many++
		chs, _ := pcm.Get(want.data, f)
		for by := range 16 {
			if other, may := codedBy(chs, by); may {
				isNotGot(t, text(coded, by, want.frames, other), f, api.ErrSegmentForm)
			}
		}
		isNotGot(t, text(coded, n.next(16), want.frames, own), f, api.ErrSegmentForm)
	}
	if many < 100 {
		t.Errorf("there should be many that are raw: %d", many)
	}
}

// Coded bytes that are of no residuals, or of others.
func TestOtherCodedBytes(t *testing.T) {
	n := numbered(9)
	for _, row := range told {
		if row.kind != coded {
			continue
		}
		for many := range len(row.own) {
			isNotGot(t, text(coded, row.by, row.frames, row.own[:many]), row.f, api.ErrSegmentForm)
			isNotGot(t, text(coded, row.by, row.frames, row.own[many+1:]), row.f, api.ErrSegmentForm)
		}
		for b := 0; b < 256; b += 5 {
			isNotGot(t, text(coded, row.by, row.frames, row.own+string([]byte{byte(b)})), row.f, api.ErrSegmentForm)
			isNotGot(t, text(coded, row.by, row.frames, string([]byte{byte(b)})+row.own), row.f, api.ErrSegmentForm)
		}
		isNotGot(t, text(coded, row.by, row.frames, row.own+row.own), row.f, api.ErrSegmentForm)
		for range 30 {
			isNotGot(t, text(coded, row.by, row.frames, n.text(4+n.next(40))), row.f, api.ErrSegmentForm)
		}
		isNotGot(t, text(coded, row.by, row.frames, n.text(65535)), row.f, api.ErrSegmentForm)
		isNotGot(t, text(coded, row.by, row.frames, strings.Repeat("\x00", 65535)), row.f, api.ErrSegmentForm)
		isNotGot(t, text(coded, row.by, row.frames, strings.Repeat("\xff", 65535)), row.f, api.ErrSegmentForm)
	}
}

// Bytes that layer 13 tells, of residuals that are of no samples, of no such channels, that may not come up, that the format has
// not; and of fewer and of more than there are frames.
func TestResidualsOfNoSound(t *testing.T) {
	for _, f := range formats {
		half := 1 << (f.Bits - 1)
		for _, first := range []int{half, -half - 1, 2 * half, 40000, -40000, 131072, -131072, 131073, -131073, 1 << 24, -1 << 24} {
			for _, frames := range []int{1, 2, 20, 64} {
				rs := make([]int, frames*f.Channels)
				rs[0] = first
				own, _ := residual.Put(rs)
				for _, by := range []int{0, 1, 15, 16, 255} {
					isNotGot(t, text(coded, by, frames, own), f, api.ErrSegmentForm)
				}
				rs[0], rs[len(rs)-1] = 0, first
				own, _ = residual.Put(rs)
				if frames > 1 || f.Channels > 1 {
					isNotGot(t, text(coded, 15, frames, own), f, api.ErrSegmentForm)
					isNotGot(t, text(coded, 16, frames, own), f, api.ErrSegmentForm)
				}
			}
		}
		for many := range 257 {
			own, _ := residual.Put(make([]int, many))
			for _, frames := range []int{0, 1, 2, 63, 64, 65, 127, 128, 129, 255} {
				isNotGot(t, text(coded, 0, frames, own), f, api.ErrSegmentForm)
			}
		}
	}
	// The second channel is beyond where samples end, the first one is not.
	rs := make([]int, 128)
	rs[0], rs[64] = 131072, 1
	own, _ := residual.Put(rs)
	isNotGot(t, text(coded, 0, 64, own), of(2, 16), api.ErrSegmentForm)
}

// More frames than may be, told as if they might.
func TestTooManyFrames(t *testing.T) {
	n := numbered(10)
	for _, f := range formats {
		for frames := mostFrames + 1; frames < 256; frames++ {
			noise := n.text(frames * bytesOf(f))
			isNotGot(t, text(raw, 0, frames, noise), f, api.ErrSegmentForm)
			rs := make([]int, frames*f.Channels)
			rs[len(rs)-1] = 1
			own, e := residual.Put(rs)
			if e == api.OK {
				isNotGot(t, text(coded, 0, frames, own), f, api.ErrSegmentForm)
			}
		}
		for _, many := range []int{4096, 4100, 65532, 65535} {
			for _, kind := range []int{raw, coded, constant} {
				isNotGot(t, text(kind, 0, 255, n.text(many)), f, api.ErrSegmentForm)
				isNotGot(t, text(kind, 0, 64, n.text(many)), f, api.ErrSegmentForm)
			}
		}
	}
}

// No frames at all, as each kind.
func TestNoFrames(t *testing.T) {
	for _, f := range formats {
		for _, kind := range []int{raw, coded, constant, 3, 255} {
			for _, own := range []string{"", "\x00\x00\x00\x00", "a", "ab", "abcd"} {
				isNotGot(t, text(kind, 0, 0, own), f, api.ErrSegmentForm)
			}
		}
	}
}

// A segment of one format is of another one only where Put tells just the same of it there.
func TestSegmentsOfAnotherFormat(t *testing.T) {
	n := numbered(11)
	rows := slices.Clone(told)
	for range 200 {
		f := formats[n.next(4)]
		row, _ := byWords(n.sound(f, 1+n.next(64)), f)
		rows = append(rows, row)
	}
	for _, row := range rows {
		for _, f := range formats {
			if other := row; f != row.f {
				other.f = f
				if row.kind == coded {
					isOfAnother(t, other)
				} else {
					isAsWords(t, other)
				}
			}
		}
	}
}

// isOfAnother: residuals of as many channels may be samples of both depths, and then have other bytes.
func isOfAnother(t *testing.T, other telling) {
	t.Helper()
	got, e := Get(other.segment(), other.f)
	if e != api.OK {
		isNotGot(t, other.segment(), other.f, api.ErrSegmentForm)
		return
	}
	if want, _ := byWords(got, other.f); want.segment() != other.segment() || want.kind != coded {
		t.Errorf("P22.2: Get of %.100q, %v: %.100q, of which another one is told", other.segment(), other.f, got)
	}
}

// Whatever two short texts are, they are not told alike; and of all short texts just those that are told are got.
func TestShortOnes(t *testing.T) {
	of2 := map[string]string{}
	for a := range 256 {
		one := string([]byte{byte(a)})
		want, _ := byWords(one, of(1, 8))
		of2[want.segment()] = one
		for b := 0; b < 256; b += 5 {
			two := string([]byte{byte(a), byte(b)})
			want, _ := byWords(two, of(1, 8))
			of2[want.segment()] = two
		}
	}
	if len(of2) != 256+256*52 {
		t.Fatalf("%d segments", len(of2))
	}
	for a := 0; a < 256; a += 5 {
		for b := 0; b < 256; b += 5 {
			for kind := range 4 {
				for frames := range 3 {
					for _, own := range []string{string([]byte{byte(a)}), string([]byte{byte(a), byte(b)})} {
						s := text(kind, 0, frames, own)
						want, may := of2[s]
						if got, e := Get(s, of(1, 8)); may && (got != want || e != api.OK) || !may && (got != "" || e != api.ErrSegmentForm) {
							t.Fatalf("P22.2: Get of %q: %q, %d", s, got, e)
						}
					}
				}
			}
		}
	}
}

// over is a text over bs, which can then be turned behind a call.
func over(bs []byte) string {
	return unsafe.String(unsafe.SliceData(bs), len(bs))
}

func turn(bs []byte) {
	for i := range bs {
		bs[i] ^= 0xff
	}
}

func TestWhatIsToldSharesNothingWithTheText(t *testing.T) {
	for _, row := range told {
		data := []byte(row.data)
		s, e := Put(over(data), row.f)
		if string(data) != row.data {
			t.Errorf("R4: the frames were changed: %q; want %q", data, row.data)
		}
		turn(data)
		if s != row.segment() || e != api.OK {
			t.Errorf("R4: the frames were written to: %q, %d; want %q", s, e, row.segment())
		}
		bs := []byte(row.segment())
		got, e := Get(over(bs), row.f)
		if string(bs) != row.segment() {
			t.Errorf("R4: the segment was changed: %q; want %q", bs, row.segment())
		}
		turn(bs)
		if got != row.data || e != api.OK {
			t.Errorf("R4: the segment was written to: %q, %d; want %q", got, e, row.data)
		}
	}
}

// share asks whether two texts have a byte of memory in common.
func share(a string, b string) bool {
	if a == "" || b == "" {
		return false
	}
	one, two := uintptr(unsafe.Pointer(unsafe.StringData(a))), uintptr(unsafe.Pointer(unsafe.StringData(b)))
	return one < two+uintptr(len(b)) && two < one+uintptr(len(a))
}

func TestAnswersShareNothing(t *testing.T) {
	for _, row := range told {
		data, s := row.data, row.segment()
		put, _ := Put(data, row.f)
		putAgain, _ := Put(data, row.f)
		got, _ := Get(s, row.f)
		gotAgain, _ := Get(s, row.f)
		texts := []string{data, s, put, putAgain, got, gotAgain}
		for i, a := range texts {
			for _, b := range texts[i+1:] {
				if share(a, b) {
					t.Errorf("R4: %q and %q share memory", a, b)
				}
			}
		}
	}
}

// A call behind others answers as the first one did.
func TestNothingIsKept(t *testing.T) {
	n := numbered(12)
	for range 10 {
		f := formats[n.next(4)]
		data := n.sound(f, 1+n.next(64))
		first, e := Put(data, f)
		for _, row := range told {
			isTold(t, row)
			isNotPut(t, row.data, of(3, 8))
			isNotGot(t, row.segment()+"x", row.f, api.ErrSegmentForm)
			Get(first, row.f)
			Put(data, row.f)
		}
		if again, e2 := Put(data, f); again != first || e2 != e {
			t.Errorf("R5: Put of %v, %q: %q, %d; was %q, %d", f, data, again, e2, first, e)
		}
	}
}

func TestCallsAtOneTime(t *testing.T) {
	var group sync.WaitGroup
	for worker := range 8 {
		group.Go(func() {
			n := numbered(worker % 2)
			for range 30 {
				f := formats[n.next(4)]
				want, _ := byWords(n.sound(f, 1+n.next(64)), f)
				isTold(t, want)
				isNotGot(t, want.segment()+"x", f, api.ErrSegmentForm)
			}
			for _, row := range told {
				isTold(t, row)
			}
		})
	}
	group.Wait()
}
