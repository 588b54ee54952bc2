package pcm

import (
	"math"
	"slices"
	"strings"
	"sync"
	"testing"

	"descant/api"
)

// whole is how many bytes there may be.
const whole = 4096

var (
	mono8    = api.Format{Channels: 1, Bits: 8}
	stereo8  = api.Format{Channels: 2, Bits: 8}
	mono16   = api.Format{Channels: 1, Bits: 16}
	stereo16 = api.Format{Channels: 2, Bits: 16}
)

// formats are all that may be, and how many bytes a frame has.
var formats = []struct {
	f     api.Format
	frame int
}{{mono8, 1}, {stereo8, 2}, {mono16, 2}, {stereo16, 4}}

var (
	wrongChannels = []int{0, 3, 4, 5, 8, 16, 17, 32, 255, 256, 257, 258, 65537, 65538, -1, -2, -3, -8, -255, -256, 1<<31 - 1, 1 << 31,
		-1 << 31, 1 << 32, 1<<32 + 1, 1<<32 + 2, 1 - 1<<32, 2 - 1<<32, 1 << 59, 1 << 60, 1 << 61, 1<<61 + 1, 1 << 62, 1<<62 + 1, -1 << 62,
		math.MaxInt - 1, math.MaxInt, math.MinInt, math.MinInt + 1, math.MinInt + 2}
	wrongBits = []int{0, 1, 2, 3, 4, 5, 6, 7, 9, 10, 12, 14, 15, 17, 18, 20, 23, 24, 25, 31, 32, 33, 48, 63, 64, 65, 128, 255, 256, 264, 272,
		65544, 65552, -1, -2, -7, -8, -9, -15, -16, -17, -24, -248, -240, 1<<31 - 1, 1 << 31, -1 << 31, 1 << 32, 1<<32 + 8, 1<<32 + 16,
		8 - 1<<32, 16 - 1<<32, 1 << 59, 1 << 60, 1<<61 + 8, 1 << 62, 1<<62 + 8, 1<<62 + 16, -1 << 62, math.MaxInt - 7, math.MaxInt - 1,
		math.MaxInt, math.MinInt, math.MinInt + 1, math.MinInt + 8, math.MinInt + 16}
)

// wrongFormats are those of which one thing is wrong, or both.
func wrongFormats() []api.Format {
	var fs []api.Format
	for _, channels := range append(slices.Clone(wrongChannels), 1, 2) {
		for _, bits := range append(slices.Clone(wrongBits), 8, 16) {
			f := api.Format{Channels: channels, Bits: bits}
			if f != mono8 && f != stereo8 && f != mono16 && f != stereo16 {
				fs = append(fs, f)
			}
		}
	}
	return fs
}

// told are bytes, and the samples for which they stand, worked out by hand.
var told = []struct {
	f    api.Format
	data string
	chs  [][]int
}{
	// One channel of 8 bits: no frame, one, a few.
	{mono8, "", [][]int{nil}},
	{mono8, "\x80", [][]int{{0}}},
	{mono8, "\x81", [][]int{{1}}},
	{mono8, "\x7f", [][]int{{-1}}},
	{mono8, "\x00", [][]int{{-128}}},
	{mono8, "\x01", [][]int{{-127}}},
	{mono8, "\xfe", [][]int{{126}}},
	{mono8, "\xff", [][]int{{127}}},
	{mono8, "Az", [][]int{{-63, -6}}},
	{mono8, "\x80\x80\x80", [][]int{{0, 0, 0}}},
	{mono8, "\x00\x7f\x80\xff", [][]int{{-128, -1, 0, 127}}},
	{mono8, "\xff\x80\x7f\x00", [][]int{{127, 0, -1, -128}}},
	{mono8, "\x83\x7f\x84\x7f\x85", [][]int{{3, -1, 4, -1, 5}}},
	// Two channels of 8 bits: they take turns.
	{stereo8, "", [][]int{nil, nil}},
	{stereo8, "\x80\x80", [][]int{{0}, {0}}},
	{stereo8, "\x00\xff", [][]int{{-128}, {127}}},
	{stereo8, "\xff\x00", [][]int{{127}, {-128}}},
	{stereo8, "\x7f\x80", [][]int{{-1}, {0}}},
	{stereo8, "\x80\x7f", [][]int{{0}, {-1}}},
	{stereo8, "\x81\x82\x83\x84", [][]int{{1, 3}, {2, 4}}},
	{stereo8, "\x81\x7f\x82\x7e\x83\x7d", [][]int{{1, 2, 3}, {-1, -2, -3}}},
	{stereo8, "\x00\x80\x00\x80\x00\x80", [][]int{{-128, -128, -128}, {0, 0, 0}}},
	// One channel of 16 bits: the lowest byte first, below 0 too.
	{mono16, "", [][]int{nil}},
	{mono16, "\x00\x00", [][]int{{0}}},
	{mono16, "\x01\x00", [][]int{{1}}},
	{mono16, "\x00\x01", [][]int{{256}}},
	{mono16, "\x7f\x00", [][]int{{127}}},
	{mono16, "\x80\x00", [][]int{{128}}},
	{mono16, "\xff\x00", [][]int{{255}}},
	{mono16, "\x01\x01", [][]int{{257}}},
	{mono16, "\x34\x12", [][]int{{4660}}},
	{mono16, "\x7f\x12", [][]int{{4735}}},
	{mono16, "\x80\x12", [][]int{{4736}}},
	{mono16, "\x80\x80", [][]int{{-32640}}},
	{mono16, "\x80\x7f", [][]int{{32640}}},
	{mono16, "\x00\x7f", [][]int{{32512}}},
	{mono16, "\xfe\x7f", [][]int{{32766}}},
	{mono16, "\xff\x7f", [][]int{{32767}}},
	{mono16, "\x00\x80", [][]int{{-32768}}},
	{mono16, "\x01\x80", [][]int{{-32767}}},
	{mono16, "\x7f\x80", [][]int{{-32641}}},
	{mono16, "\xff\x80", [][]int{{-32513}}},
	{mono16, "\xcc\xed", [][]int{{-4660}}},
	{mono16, "\x00\xff", [][]int{{-256}}},
	{mono16, "\x01\xff", [][]int{{-255}}},
	{mono16, "\x7f\xff", [][]int{{-129}}},
	{mono16, "\x80\xff", [][]int{{-128}}},
	{mono16, "\x81\xff", [][]int{{-127}}},
	{mono16, "\xfe\xff", [][]int{{-2}}},
	{mono16, "\xff\xff", [][]int{{-1}}},
	{mono16, "Az", [][]int{{31297}}},
	{mono16, "\x00\x80\xff\xff\x00\x00\xff\x7f", [][]int{{-32768, -1, 0, 32767}}},
	{mono16, "\xff\x7f\x00\x00\xff\xff\x00\x80", [][]int{{32767, 0, -1, -32768}}},
	{mono16, "\xe8\x03\x18\xfc\x80\x00", [][]int{{1000, -1000, 128}}},
	// Two channels of 16 bits.
	{stereo16, "", [][]int{nil, nil}},
	{stereo16, "\x00\x00\x00\x00", [][]int{{0}, {0}}},
	{stereo16, "\x01\x00\x02\x00", [][]int{{1}, {2}}},
	{stereo16, "\x01\x02\x03\x04", [][]int{{513}, {1027}}},
	{stereo16, "\xff\x7f\x00\x80", [][]int{{32767}, {-32768}}},
	{stereo16, "\x00\x80\xff\x7f", [][]int{{-32768}, {32767}}},
	{stereo16, "\xff\xff\x00\x00", [][]int{{-1}, {0}}},
	{stereo16, "\x00\x00\xff\xff", [][]int{{0}, {-1}}},
	{stereo16, "\x80\x00\x80\xff", [][]int{{128}, {-128}}},
	{stereo16, "\x01\x00\x02\x00\x03\x00\x04\x00", [][]int{{1, 3}, {2, 4}}},
	{stereo16, "\xe8\x03\x18\xfc\xd0\x07\x30\xf8\xff\xff\x01\x00", [][]int{{1000, 2000, -1}, {-1000, -2000, 1}}},
}

// numbered is a row of numbers, the same each time.
type numbered uint64

func (n *numbered) next(below int) int {
	*n = *n*6364136223846793005 + 1442695040888963407
	return int(uint64(*n) >> 33 % uint64(below))
}

// sound is many frames: their samples of all kinds, and their bytes.
func (n *numbered) sound(many int, f api.Format) (data string, chs [][]int) {
	half := halves(f.Bits)
	chs = make([][]int, f.Channels)
	for range many {
		for i := range chs {
			wide := []int{1, min(100, half), half}[n.next(3)]
			x := n.next(2*wide) - wide
			chs[i] = append(chs[i], x)
			data += bytesOf(x, f.Bits)
		}
	}
	return data, chs
}

// halves is how many samples are below 0.
func halves(bits int) int {
	if bits == 8 {
		return 128
	}
	return 32768
}

// bytesOf are those of one sample, by counting up from the least one.
func bytesOf(x int, bits int) string {
	if bits == 8 {
		return string([]byte{byte(x + 128)})
	}
	above := x + 32768
	highest := above/256 + 128
	return string([]byte{byte(above % 256), byte(highest % 256)})
}

func TestFormatsThatMayBe(t *testing.T) {
	for _, c := range formats {
		if !May(c.f) {
			t.Errorf("P19.1: %v may be", c.f)
		}
	}
}

func TestFormatsThatMayNotBe(t *testing.T) {
	for _, f := range wrongFormats() {
		if May(f) {
			t.Errorf("P19.1: %v may not be", f)
		}
	}
	may := 0
	for channels := -70; channels <= 70; channels++ {
		for bits := -300; bits <= 300; bits++ {
			if May(api.Format{Channels: channels, Bits: bits}) {
				may++
			}
		}
	}
	if may != len(formats) {
		t.Errorf("P19.1: %d formats may be", may)
	}
	// Their product would be right, or would be once it wrapped round.
	for _, f := range []api.Format{{Channels: 8, Bits: 1}, {Channels: 16, Bits: 1}, {Channels: 16, Bits: 2}, {Channels: 4, Bits: 4},
		{Channels: 4, Bits: 2}, {Channels: 4, Bits: 8}, {Channels: 2, Bits: 4}, {Channels: 1, Bits: 32}, {Channels: -1, Bits: -8},
		{Channels: -1, Bits: -16}, {Channels: -2, Bits: -8}, {Channels: -2, Bits: -16}, {Channels: 1<<61 + 1, Bits: 8},
		{Channels: 1<<60 + 1, Bits: 16}, {Channels: 1<<62 + 2, Bits: 8}, {Channels: 2, Bits: math.MinInt + 8},
		{Channels: 2, Bits: math.MinInt + 16}, {Channels: math.MinInt, Bits: math.MinInt}} {
		if May(f) {
			t.Errorf("P19.1: %v may not be", f)
		}
		refusesAll(t, f)
	}
}

func TestGetRefusesFormatsThatMayNotBe(t *testing.T) {
	n := numbered(31)
	data, _ := n.sound(3, stereo16)
	for _, f := range wrongFormats() {
		for many := range len(data) + 1 {
			getRefuses(t, data[:many], f)
		}
		getRefuses(t, strings.Repeat("\x00", whole), f)
		getRefuses(t, strings.Repeat("\x00", whole+1), f)
	}
}

func TestPutRefusesFormatsThatMayNotBe(t *testing.T) {
	for _, f := range wrongFormats() {
		refusesAll(t, f)
		if f.Channels > 0 && f.Channels <= 300 {
			putRefuses(t, slices.Repeat([][]int{{0, 1, -1}}, f.Channels), f)
		}
	}
}

// refusesAll: of such a format neither bytes nor samples, nor none.
func refusesAll(t *testing.T, f api.Format) {
	t.Helper()
	getRefuses(t, "", f)
	getRefuses(t, "\x01\x02\x03\x04", f)
	for _, chs := range [][][]int{nil, {}, {nil}, {{}, nil}, {{0}}, {{0}, {0}}, {{1, -1}, {0, 5}}, {{1}, {0, 5}}, {{math.MaxInt}},
		{nil, nil, nil}, make([][]int, 4), make([][]int, 8)} {
		putRefuses(t, chs, f)
	}
}

func TestSamplesWorkedOutByHand(t *testing.T) {
	for _, c := range told {
		areTold(t, c.data, c.f, c.chs)
	}
}

func TestEachByte(t *testing.T) {
	var all []byte
	var xs []int
	for b := range 256 {
		one := string([]byte{byte(b)})
		areTold(t, one, mono8, [][]int{{b - 128}})
		areTold(t, "\x80"+one, stereo8, [][]int{{0}, {b - 128}})
		areTold(t, one+"\x80", stereo8, [][]int{{b - 128}, {0}})
		all = append(all, byte(b))
		xs = append(xs, b-128)
	}
	areTold(t, string(all), mono8, [][]int{xs})
}

// Each sample of 16 bits, a file's worth at once: alone, and as either of two channels.
func TestEachTwoBytes(t *testing.T) {
	const at = 1024
	zeros := make([]int, at)
	for first := -32768; first < 32768; first += at {
		var alone, left, right strings.Builder
		var xs []int
		for x := first; x < first+at; x++ {
			s := bytesOf(x, 16)
			alone.WriteString(s)
			left.WriteString(s + "\x00\x00")
			right.WriteString("\x00\x00" + s)
			xs = append(xs, x)
		}
		areTold(t, alone.String(), mono16, [][]int{xs})
		areTold(t, left.String(), stereo16, [][]int{xs, zeros})
		areTold(t, right.String(), stereo16, [][]int{zeros, xs})
	}
}

func TestFramesOfAllKinds(t *testing.T) {
	n := numbered(32)
	for _, c := range formats {
		for many := range 100 {
			data, chs := n.sound(many, c.f)
			if len(data) != many*c.frame {
				t.Fatalf("%d bytes of %d frames, %v", len(data), many, c.f)
			}
			areTold(t, data, c.f, chs)
		}
	}
}

// Any bytes that are frames are samples, and just these bytes again.
func TestBytesOfAllKindsComeBack(t *testing.T) {
	n := numbered(33)
	for _, c := range formats {
		for range 500 {
			bs := make([]byte, n.next(40)*c.frame)
			for i := range bs {
				bs[i] = byte(n.next(256))
			}
			chs, e := Get(string(bs), c.f)
			if len(chs) != c.f.Channels || e != api.OK {
				t.Fatalf("P19.1: Get of %q, %v: %v, %d", bs, c.f, chs, e)
			}
			if back, e := Put(chs, c.f); back != string(bs) || e != api.OK {
				t.Fatalf("P19.1: Put of what Get tells of %q, %v: %q, %d", bs, c.f, back, e)
			}
		}
	}
}

func TestTwoChannelsTheOtherWayRound(t *testing.T) {
	n := numbered(34)
	for _, f := range []api.Format{stereo8, stereo16} {
		for many := range 60 {
			_, chs := n.sound(many, f)
			var data strings.Builder
			for k := range many {
				data.WriteString(bytesOf(chs[1][k], f.Bits) + bytesOf(chs[0][k], f.Bits))
			}
			areTold(t, data.String(), f, [][]int{chs[1], chs[0]})
		}
	}
}

func TestNoFrames(t *testing.T) {
	none := [][]int{nil, {}, make([]int, 0, 9)}
	for _, a := range none {
		areTold(t, "", mono8, [][]int{a})
		areTold(t, "", mono16, [][]int{a})
		for _, b := range none {
			areTold(t, "", stereo8, [][]int{a, b})
			areTold(t, "", stereo16, [][]int{a, b})
		}
	}
}

func TestAsManyBytesAsMayBe(t *testing.T) {
	n := numbered(35)
	for _, c := range formats {
		for _, bytes := range []int{whole, whole - c.frame, whole - 2*c.frame} {
			data, chs := n.sound(bytes/c.frame, c.f)
			if len(data) != bytes {
				t.Fatalf("%d bytes, %v", len(data), c.f)
			}
			areTold(t, data, c.f, chs)
		}
	}
}

func TestTooManyBytes(t *testing.T) {
	n := numbered(36)
	for _, c := range formats {
		for _, many := range []int{whole/c.frame + 1, whole/c.frame + 2, whole + 1, 2 * whole, 65536, 65537} {
			bytes := many * c.frame
			getRefuses(t, strings.Repeat("\x80", bytes), c.f)
			chs := make([][]int, c.f.Channels)
			for i := range chs {
				chs[i] = make([]int, many)
			}
			putRefuses(t, chs, c.f)
		}
		data, chs := n.sound(whole/c.frame+1, c.f)
		getRefuses(t, data, c.f)
		putRefuses(t, chs, c.f)
		for many := 1; many <= 2*c.frame; many++ {
			getRefuses(t, strings.Repeat("\x00", whole+many), c.f)
		}
	}
}

func TestBytesThatAreNoFrames(t *testing.T) {
	n := numbered(37)
	for _, c := range formats {
		data, chs := n.sound(60, c.f)
		for many := range len(data) + 1 {
			if many%c.frame != 0 {
				getRefuses(t, data[:many], c.f)
			} else if got, e := Get(data[:many], c.f); e != api.OK || !same(got, ahead(chs, many/c.frame)) {
				t.Errorf("P19.1: Get of %d bytes, %v: %v, %d", many, c.f, got, e)
			}
		}
		for many := 1; many < c.frame; many++ {
			getRefuses(t, strings.Repeat("\xff", whole-many), c.f)
			getRefuses(t, strings.Repeat("\xff", whole-c.frame-many), c.f)
		}
	}
	getRefuses(t, "\x00", stereo8)
	getRefuses(t, "\x00\x00\x00", stereo8)
	getRefuses(t, "\x00", mono16)
	getRefuses(t, "\x00\x00\x00", mono16)
	// A sample of one channel alone is no frame.
	getRefuses(t, "\x00\x00", stereo16)
	getRefuses(t, "\x00\x00\x00\x00\x00\x00", stereo16)
}

// ahead is so many frames of all.
func ahead(chs [][]int, many int) [][]int {
	var out [][]int
	for _, ch := range chs {
		out = append(out, ch[:many])
	}
	return out
}

func TestNotAsManyListsAsChannels(t *testing.T) {
	n := numbered(38)
	for _, c := range formats {
		putRefuses(t, nil, c.f)
		putRefuses(t, [][]int{}, c.f)
		putRefuses(t, make([][]int, 0, 2), c.f)
		for _, lists := range []int{1, 2, 3, 4, 5, 8, 16, 255, 256, 257, 258, 65537, 65538} {
			if lists == c.f.Channels {
				continue
			}
			putRefuses(t, make([][]int, lists), c.f)
			putRefuses(t, slices.Repeat([][]int{{0}}, lists), c.f)
			putRefuses(t, slices.Repeat([][]int{{1, -2, 3}}, lists), c.f)
		}
	}
	for _, many := range []int{0, 1, 5, 64} {
		for _, bits := range []int{8, 16} {
			_, chs := n.sound(many, api.Format{Channels: 2, Bits: bits})
			one, two := api.Format{Channels: 1, Bits: bits}, api.Format{Channels: 2, Bits: bits}
			putRefuses(t, chs, one)
			putRefuses(t, chs[:1], two)
			putRefuses(t, [][]int{chs[0], chs[1], nil}, two)
			putRefuses(t, [][]int{chs[0], chs[1], chs[0]}, two)
			putRefuses(t, [][]int{chs[0], nil}, one)
			putRefuses(t, [][]int{nil, chs[0]}, one)
		}
	}
}

func TestListsOfDifferentLengths(t *testing.T) {
	n := numbered(39)
	for _, f := range []api.Format{stereo8, stereo16} {
		putRefuses(t, [][]int{{1}, nil}, f)
		putRefuses(t, [][]int{nil, {1}}, f)
		putRefuses(t, [][]int{{0}, {}}, f)
		putRefuses(t, [][]int{{}, {0}}, f)
		for _, many := range []int{0, 1, 2, 3, 63, 64, 65, 1000} {
			for _, more := range []int{1, 2, 3, 4, 256, 4096, 65536} {
				_, chs := n.sound(many, f)
				long := slices.Concat(chs[0], make([]int, more))
				putRefuses(t, [][]int{chs[0], long}, f)
				putRefuses(t, [][]int{long, chs[0]}, f)
				// What stands behind the shorter one's samples is none of it.
				putRefuses(t, [][]int{long[:many], long}, f)
				putRefuses(t, [][]int{long, long[:many]}, f)
			}
		}
		// As many samples in all as frames have.
		putRefuses(t, [][]int{make([]int, 9), make([]int, 11)}, f)
		putRefuses(t, [][]int{make([]int, 20), nil}, f)
		putRefuses(t, [][]int{nil, make([]int, 20)}, f)
	}
}

// wrongSamples are beyond the ends, by one and far; of some the lowest bytes alone would be fine.
func wrongSamples(bits int) []int {
	half := halves(bits)
	xs := []int{half, half + 1, half + half/2, 2*half - 1, 2 * half, 2*half + 1, 3 * half, 4*half - 1, 4 * half, -half - 1, -half - 2,
		1 - 2*half, -2 * half, -2*half - 1, -3 * half, -4 * half, 1 << 24, -1 << 24, 1<<31 - 1, 1 << 31, -1 << 31, 1 << 32, 1<<32 + 5,
		1<<32 + half - 1, -1 << 32, 5 - 1<<32, 1<<32 - half, 1<<48 + 1, 1 << 62, -1 << 62, 1<<62 + 5, math.MaxInt - 2*half, math.MaxInt - half,
		math.MaxInt - half + 1, math.MaxInt - 1, math.MaxInt, math.MinInt, math.MinInt + 1, math.MinInt + 5, math.MinInt + half,
		math.MinInt + 2*half}
	for x := half; x < 3*half; x += 1 + half/64 {
		xs = append(xs, x, -x-1)
	}
	return xs
}

func TestSamplesBeyondTheEnds(t *testing.T) {
	n := numbered(40)
	for _, c := range formats {
		for _, many := range []int{1, 2, 3, 64, whole / c.frame} {
			data, chs := n.sound(many, c.f)
			areTold(t, data, c.f, chs)
			for _, x := range wrongSamples(c.f.Bits) {
				for channel := range chs {
					for _, place := range places(many) {
						putRefuses(t, beside(chs, channel, place, x), c.f)
					}
				}
			}
		}
		half := halves(c.f.Bits)
		_, chs := n.sound(300, c.f)
		for channel := range chs {
			for place := range 300 {
				putRefuses(t, beside(chs, channel, place, half), c.f)
				putRefuses(t, beside(chs, channel, place, -half-1), c.f)
			}
		}
	}
}

// Those at the ends are told, wherever they stand.
func TestSamplesAtTheEnds(t *testing.T) {
	n := numbered(41)
	for _, c := range formats {
		half := halves(c.f.Bits)
		for _, many := range []int{1, 2, 3, 64} {
			data, chs := n.sound(many, c.f)
			for channel := range chs {
				for _, place := range places(many) {
					for _, x := range []int{-half, 1 - half, -1, 0, 1, half - 2, half - 1} {
						wide := c.f.Bits / 8
						at := place*c.frame + channel*wide
						want := data[:at] + bytesOf(x, c.f.Bits) + data[at+wide:]
						areTold(t, want, c.f, beside(chs, channel, place, x))
					}
				}
			}
		}
	}
}

// Of 8 bits no sample of 16 bits may be that is beyond the ends of 8.
func TestSamplesOfTheOtherKind(t *testing.T) {
	for x := -32768; x < 32768; x++ {
		if x >= -128 && x < 128 {
			areTold(t, bytesOf(x, 8), mono8, [][]int{{x}})
			areTold(t, bytesOf(x, 16), mono16, [][]int{{x}})
			continue
		}
		putRefuses(t, [][]int{{x}}, mono8)
	}
}

func TestTwoWrongThings(t *testing.T) {
	for _, c := range formats {
		for _, x := range wrongSamples(c.f.Bits) {
			putRefuses(t, slices.Repeat([][]int{{x, 0, x}}, c.f.Channels), c.f)
			putRefuses(t, slices.Repeat([][]int{{x, -x, 1 - x}}, c.f.Channels), c.f)
			putRefuses(t, slices.Repeat([][]int{{x}}, 3-c.f.Channels), c.f)
			putRefuses(t, slices.Repeat([][]int{{x}}, 3), c.f)
			putRefuses(t, [][]int{{x}, nil}, c.f)
			putRefuses(t, [][]int{nil, {x}}, c.f)
			putRefuses(t, [][]int{{0, 0}, {0, 0, x}}, c.f)
			putRefuses(t, [][]int{{0, 0, x}, {0, 0}}, c.f)
			putRefuses(t, beside(slices.Repeat([][]int{make([]int, whole/c.frame+1)}, c.f.Channels), 0, 7, x), c.f)
			for _, f := range []api.Format{{}, {Channels: c.f.Channels}, {Bits: c.f.Bits}, {Channels: c.f.Channels, Bits: 24},
				{Channels: 3, Bits: c.f.Bits}} {
				putRefuses(t, [][]int{{x}}, f)
				putRefuses(t, [][]int{{x}, {x}}, f)
			}
		}
		long := make([]int, whole+1)
		putRefuses(t, [][]int{long, long, long}, c.f)
		putRefuses(t, [][]int{long, long[1:]}, c.f)
		putRefuses(t, [][]int{long[:3], long}, c.f)
		putRefuses(t, [][]int{long, long[:3]}, c.f)
		getRefuses(t, strings.Repeat("\x00", whole+1), c.f)
		getRefuses(t, strings.Repeat("\x00", 2*whole+3), c.f)
	}
	for _, f := range wrongFormats() {
		getRefuses(t, strings.Repeat("\x00", whole+1), f)
		putRefuses(t, [][]int{make([]int, whole+1), {math.MinInt}, nil}, f)
	}
}

func TestWhatIsHandedInStays(t *testing.T) {
	n := numbered(42)
	for _, c := range formats {
		half := halves(c.f.Bits)
		for _, many := range []int{0, 1, 5, 100} {
			_, chs := n.sound(many, c.f)
			stays(t, chs, c.f, api.OK)
			stays(t, chs, api.Format{Channels: c.f.Channels, Bits: 24}, api.ErrPcmForm)
			stays(t, append(slices.Clone(chs), make([]int, many)), c.f, api.ErrPcmForm)
			if many > 0 {
				last := c.f.Channels - 1
				stays(t, beside(chs, last, many-1, half), c.f, api.ErrPcmForm)
				stays(t, beside(chs, last, many-1, -half-1), c.f, api.ErrPcmForm)
			}
			if many > 0 && c.f.Channels == 2 {
				stays(t, [][]int{chs[0], chs[1][1:]}, c.f, api.ErrPcmForm)
			}
		}
		stays(t, nil, c.f, api.ErrPcmForm)
	}
}

// stays: of lists that are parts of one list, in a list with others about it, nothing is changed, whatever is answered.
func stays(t *testing.T, chs [][]int, f api.Format, want api.Errno) {
	t.Helper()
	all := []int{1, -2, 3}
	for _, ch := range chs {
		all = append(append(all, ch...), 4, -5)
	}
	rows := [][]int{{77}}
	from := 3
	for _, ch := range chs {
		rows = append(rows, all[from:from+len(ch)])
		from += len(ch) + 2
	}
	rows = append(rows, []int{88}, []int{99})
	oldAll, oldRows := slices.Clone(all), slices.Clone(rows)
	_, e := Put(rows[1:1+len(chs)], f)
	if e != want || !slices.Equal(all, oldAll) || !slices.EqualFunc(rows, oldRows, isOneList) {
		t.Errorf("R4: of %v, %v, %d: the lists were changed, or what is about them", chs, f, e)
	}
}

// isOneList says whether both are one list: as long, and in one place.
func isOneList(a []int, b []int) bool {
	return len(a) == len(b) && cap(a) == cap(b) && (len(a) == 0 || &a[0] == &b[0])
}

func TestWhatIsAnsweredIsTheCallersOwn(t *testing.T) {
	n := numbered(43)
	for _, c := range formats {
		data, chs := n.sound(50, c.f)
		old := strings.Clone(data)
		one, _ := Get(data, c.f)
		two, _ := Get(data, c.f)
		three, _ := Get(data, c.f)
		scribble(one, -9)
		clear(three[:cap(three)])
		if four, _ := Get(data, c.f); data != old || !same(two, chs) || !same(four, chs) {
			t.Errorf("R4: %v: an answer was written to: %v, %v; want %v", c.f, two, four, chs)
		}
		in := clone(chs)
		s, _ := Put(in, c.f)
		scribble(in, 9)
		if s != data {
			t.Errorf("R4: %v: what was handed in was written to: %q; want %q", c.f, s, data)
		}
		if again, _ := Put(chs, c.f); again != data {
			t.Errorf("R4: %v: %q; want %q", c.f, again, data)
		}
	}
}

// scribble writes to each list, its spare room too.
func scribble(chs [][]int, x int) {
	for _, ch := range chs[:cap(chs)] {
		ch = ch[:cap(ch)]
		for k := range ch {
			ch[k] = x
		}
	}
}

// Both lists of one answer are by themselves, their spare room too.
func TestListsOfOneAnswerShareNothing(t *testing.T) {
	n := numbered(44)
	for _, f := range []api.Format{stereo8, stereo16} {
		for _, many := range []int{0, 1, 2, 40, 500} {
			data, chs := n.sound(many, f)
			for channel := range 2 {
				got, e := Get(data, f)
				if len(got) != 2 || e != api.OK {
					t.Fatalf("P19.1: of %d frames: %v, %d", many, got, e)
				}
				ch := append(got[channel], 1, 2, 3)
				for k := range ch {
					ch[k] = -9
				}
				scribble(got[channel:channel+1:channel+1], -9)
				if other := 1 - channel; !slices.Equal(got[other], chs[other]) {
					t.Errorf("R4: list %d was written to, list %d is %v; want %v", channel, other, got[other], chs[other])
				}
			}
		}
	}
}

// Lists that are one, or lie over each other, are told as any others.
func TestListsThatLieOverEachOther(t *testing.T) {
	row := []int{1, 4, 9, 16, 25, 36}
	for _, c := range []struct {
		chs  [][]int
		want string
	}{
		{[][]int{row, row}, "\x81\x81\x84\x84\x89\x89\x90\x90\x99\x99\xa4\xa4"},
		{[][]int{row[:5], row[1:]}, "\x81\x84\x84\x89\x89\x90\x90\x99\x99\xa4"},
		{[][]int{row[1:], row[:5]}, "\x84\x81\x89\x84\x90\x89\x99\x90\xa4\x99"},
	} {
		areTold(t, c.want, stereo8, c.chs)
	}
}

func TestNothingIsKept(t *testing.T) {
	n := numbered(45)
	for range 20 {
		for _, c := range formats {
			data, chs := n.sound(9, c.f)
			Get(data, c.f)
			Put(chs, c.f)
			Get(data+"x", c.f)
			Put(beside(chs, 0, 3, 1<<20), c.f)
			May(api.Format{Channels: 3, Bits: 24})
		}
		for _, c := range told {
			areTold(t, c.data, c.f, c.chs)
		}
	}
}

func TestCallsAtOneTime(t *testing.T) {
	ours := numbered(46)
	shared, sharedChs := ours.sound(500, stereo16)
	var group sync.WaitGroup
	for worker := range 8 {
		group.Go(func() {
			n := numbered(worker % 2)
			for range 50 {
				for _, c := range formats {
					data, chs := n.sound(50, c.f)
					areTold(t, data, c.f, chs)
				}
				areTold(t, shared, stereo16, sharedChs)
			}
		})
	}
	group.Wait()
}

// areTold: Get tells chs of data, Put data of chs; so there and back, and back and there.
func areTold(t *testing.T, data string, f api.Format, chs [][]int) {
	t.Helper()
	got, e := Get(data, f)
	if !same(got, chs) || e != api.OK {
		t.Errorf("P19.1: Get of %q, %v: %v, %d; want %v", data, f, got, e, chs)
	}
	if back, e := Put(got, f); back != data || e != api.OK {
		t.Errorf("P19.1: Put of what Get tells of %q, %v: %q, %d", data, f, back, e)
	}
	s, e := Put(chs, f)
	if s != data || e != api.OK {
		t.Errorf("P19.1: Put of %v, %v: %q, %d; want %q", chs, f, s, e, data)
	}
	if again, e := Get(s, f); !same(again, chs) || e != api.OK {
		t.Errorf("P19.1: Get of what Put tells of %v, %v: %v, %d", chs, f, again, e)
	}
}

func getRefuses(t *testing.T, data string, f api.Format) {
	t.Helper()
	if got, e := Get(data, f); len(got) != 0 || e != api.ErrPcmForm {
		t.Errorf("P19.1: Get of %d bytes, %v: %v, %d; want ErrPcmForm", len(data), f, got, e)
	}
}

func putRefuses(t *testing.T, chs [][]int, f api.Format) {
	t.Helper()
	if s, e := Put(chs, f); s != "" || e != api.ErrPcmForm {
		t.Errorf("P19.1: Put of %d lists, %v: %q, %d; want ErrPcmForm", len(chs), f, s, e)
	}
}

// same says whether both have the same lists; no list and an empty one are one.
func same(a [][]int, b [][]int) bool {
	return slices.EqualFunc(a, b, slices.Equal[[]int])
}

func clone(chs [][]int) [][]int {
	var out [][]int
	for _, ch := range chs {
		out = append(out, slices.Clone(ch))
	}
	return out
}

// places are the first, a middle and the last.
func places(many int) []int {
	return slices.Compact([]int{0, many / 2, many - 1})
}

// beside is lists, one of which has x there.
func beside(chs [][]int, channel int, place int, x int) [][]int {
	out := slices.Clone(chs)
	out[channel] = slices.Clone(out[channel])
	out[channel][place] = x
	return out
}
