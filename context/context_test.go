package context

import (
	"math"
	"slices"
	"strings"
	"sync"
	"testing"

	"descant/api"
	"descant/gamma"
	"descant/model"
)

var (
	// Those that may not be are beyond the ends, by one and far; of some the lowest bits alone would be fine.
	wrongBefores = []int{-1, -2, -31, -32, -63, -64, 64, 65, 127, 128, 255, 256, 256 + 5, 65536, 1<<31 - 1, 1 << 31, 1<<32 - 1, 1 << 32,
		1<<32 + 5, -1 << 31, -1 << 32, 5 - 1<<32, 1 << 62, -1 << 62, math.MaxInt - 1, math.MaxInt, math.MinInt, math.MinInt + 1,
		math.MinInt + 5}
	wrongBits = []int{2, 3, -1, -2, 10, 48, 49, 64, 255, 256, 257, 65536, 1<<31 - 1, 1 << 32, 1<<32 + 1, -1 << 32, 1 - 1<<32, 1 << 62,
		math.MaxInt - 1, math.MaxInt, math.MinInt, math.MinInt + 1}
	edgeBefores = []int{0, 1, 2, 15, 16, 29, 30, 31, 32, 33, 61, 62, 63}
	edgeManies  = []int{0, 1, 2, 3, 15, 16, 29, 30, 31, 32, 33, 34, 61, 62, 63}
)

// Worked out by hand.
func TestContextsWorkedOutByHand(t *testing.T) {
	for _, c := range []struct {
		before int
		bs     string
		want   [3]int
	}{
		{0, "", [3]int{0, 0, 0}},
		{1, "", [3]int{0, 2, 0}},
		{0, "0", [3]int{32, 1, 1}},
		{0, "1", [3]int{1, 0, 33}},
		{0, "00", [3]int{32, 1, 2}},
		{0, "01", [3]int{32, 1, 34}},
		{0, "10", [3]int{33, 1, 2}},
		{0, "11", [3]int{2, 0, 34}},
		{5, "11", [3]int{2, 10, 34}},
		{5, "110", [3]int{34, 11, 3}},
		{5, "1101", [3]int{34, 11, 36}},
		{5, "11010", [3]int{34, 11, 5}},
		{5, "0110", [3]int{32, 11, 4}},
		{5, "0111", [3]int{32, 11, 36}},
		{12, "1110111", [3]int{35, 25, 39}},
		{30, "", [3]int{0, 60, 0}},
		{30, "0", [3]int{32, 61, 1}},
		{31, "", [3]int{0, 62, 0}},
		{31, "0", [3]int{32, 63, 1}},
		{32, "", [3]int{0, 62, 0}},
		{32, "0", [3]int{32, 63, 1}},
		{63, "", [3]int{0, 62, 0}},
		{63, "0", [3]int{32, 63, 1}},
		{63, "1", [3]int{1, 62, 33}},
		{63, "10", [3]int{33, 63, 2}},
	} {
		tells(t, c.before, read(c.bs), c.want)
	}
}

func TestFirstNumberByTheBits1AtTheHead(t *testing.T) {
	for _, c := range []struct{ ones, alone, ended int }{{0, 0, 32}, {1, 1, 33}, {2, 2, 34}, {15, 15, 47}, {29, 29, 61},
		{30, 30, 62}, {31, 31, 63}, {32, 31, 63}, {33, 31, 63}, {61, 31, 63}, {62, 31, 63}, {63, 31, -1}} {
		head := strings.Repeat("1", c.ones)
		for _, before := range edgeBefores {
			tellsAt(t, 0, before, read(head), c.alone)
			if c.ones == 63 {
				continue
			}
			tellsAt(t, 0, before, read(head+"0"), c.ended)
			// Behind the first 0 no bit matters, nor how many there are.
			for many := range 63 - c.ones {
				tellsAt(t, 0, before, read(head+"0"+strings.Repeat("1", many)), c.ended)
				tellsAt(t, 0, before, read(head+"0"+strings.Repeat("0", many)), c.ended)
			}
		}
	}
}

func TestSecondNumberByTheNumberAhead(t *testing.T) {
	for before := range 64 {
		twice := 2 * before
		if before > 31 {
			twice = 62
		}
		for _, many := range edgeManies {
			ones := slices.Repeat([]int{1}, many)
			tellsAt(t, 1, before, ones, twice)
			// One bit 0 is enough, wherever it is.
			for place := range ones {
				bs := slices.Clone(ones)
				bs[place] = 0
				tellsAt(t, 1, before, bs, twice+1)
			}
		}
	}
}

func TestThirdNumberByHowManyAndTheLastOne(t *testing.T) {
	tellsAt(t, 2, 0, nil, 0)
	for _, c := range []struct{ many, ends0, ends1 int }{{1, 1, 33}, {2, 2, 34}, {3, 3, 35}, {16, 16, 48}, {29, 29, 61},
		{30, 30, 62}, {31, 31, 63}, {32, 31, 63}, {33, 31, 63}, {61, 31, 63}, {62, 31, 63}, {63, 31, 63}} {
		for _, before := range edgeBefores {
			for _, ahead := range []string{"0", "1", "01", "10"} {
				bits := strings.Repeat(ahead, c.many)[:c.many-1]
				tellsAt(t, 2, before, read(bits+"0"), c.ends0)
				tellsAt(t, 2, before, read(bits+"1"), c.ends1)
			}
		}
	}
}

func TestEveryShortRowOfBits(t *testing.T) {
	for many := range 11 {
		for row := range 1 << many {
			bs := digits(row, many, []int{0, 1})
			for before := range 64 {
				tells(t, before, bs, plain(before, bs))
			}
		}
	}
}

// Each length, and each place where its head may end, the last one and none at all among them.
func TestEveryHead(t *testing.T) {
	for many := range 64 {
		for ones := range many + 1 {
			for _, behind := range []string{"0", "1", "01", "10", "110"} {
				bs := read((strings.Repeat("1", ones) + "0" + strings.Repeat(behind, 63))[:many])
				for _, before := range edgeBefores {
					tells(t, before, bs, plain(before, bs))
				}
			}
		}
	}
}

// What is told of a number's bits, one by one, is what a model takes; the greatest number's are told too.
func TestModelsTakeWhatIsTold(t *testing.T) {
	m := model.New()
	before := 0
	for _, u := range []int{0, 1, 2, 3, 14, 15, 1000, 65534, 65535, 16777216, 33554430, 33554431, 33554432, 0} {
		bs, e := gamma.Bits(u)
		if e != api.OK {
			t.Fatalf("P11.1: Bits of %d: %d", u, e)
		}
		for i, bit := range bs {
			ctx, e := Of(before, bs[:i])
			if ctx != plain(before, bs[:i]) || e != api.OK {
				t.Fatalf("P12.1: %d, %v: %v, %d", before, bs[:i], ctx, e)
			}
			if m, e = model.Learn(m, ctx, bit); e != api.OK {
				t.Fatalf("P12.1: %d, %v: %v is refused: %d", before, bs[:i], ctx, e)
			}
		}
		before = slices.Index(bs, 0)
	}
}

// An empty list and nil are one, with spare room or none; beside an error too.
func TestNoBitsAtAll(t *testing.T) {
	for _, bs := range [][]int{nil, {}, make([]int, 0, 70), []int{2, 3}[:0], []int{1, 1}[2:]} {
		for _, before := range edgeBefores {
			tells(t, before, bs, [3]int{0, 2 * min(before, 31), 0})
		}
		for _, before := range wrongBefores {
			refuses(t, before, bs)
		}
	}
}

func TestRefusesBeforesBeyondTheEnds(t *testing.T) {
	for _, before := range wrongBefores {
		for _, many := range edgeManies {
			refuses(t, before, make([]int, many))
			refuses(t, before, slices.Repeat([]int{1}, many))
		}
	}
	for far := range 10000 {
		refuses(t, -1-far, []int{1, 0})
		refuses(t, 64+far, []int{1, 0})
	}
}

func TestRefusesTooManyBits(t *testing.T) {
	for _, before := range edgeBefores {
		for _, many := range []int{64, 65, 66, 95, 96, 127, 128, 129, 255, 256, 257, 319, 320, 1000} {
			refuses(t, before, make([]int, many))
			refuses(t, before, slices.Repeat([]int{1}, many))
			refuses(t, before, read(strings.Repeat("10", many)[:many]))
			refuses(t, before, read(strings.Repeat("1", many-1)+"0"))
		}
	}
	for _, many := range []int{65535, 65536, 65537, 1 << 20, 1<<20 + 5} {
		refuses(t, 0, make([]int, many))
		refuses(t, 63, slices.Repeat([]int{1}, many))
	}
}

func TestRefusesThingsThatAreNoBits(t *testing.T) {
	for _, before := range edgeBefores {
		for _, many := range edgeManies {
			for place := range many {
				for _, thing := range wrongBits {
					for _, other := range []string{"0", "1", "10", "110"} {
						bs := read(strings.Repeat(other, many)[:many])
						bs[place] = thing
						refuses(t, before, bs)
					}
				}
			}
		}
	}
}

func TestEveryShortRowOfOtherThings(t *testing.T) {
	for many := range 7 {
		for row := range 1 << (2 * many) {
			bs := digits(row, many, []int{0, 1, 2, -1})
			if slices.Contains(bs, 2) || slices.Contains(bs, -1) {
				refuses(t, 0, bs)
				refuses(t, 63, bs)
			}
		}
	}
}

func TestTwoWrongThingsAtOnce(t *testing.T) {
	for _, before := range wrongBefores {
		for _, many := range []int{64, 65, 128, 1000} {
			refuses(t, before, make([]int, many))
			refuses(t, before, slices.Repeat([]int{1}, many))
		}
		for _, thing := range wrongBits {
			refuses(t, before, []int{thing})
			refuses(t, before, []int{1, thing, 0})
			refuses(t, before, slices.Repeat([]int{thing}, 64))
		}
	}
	for _, thing := range wrongBits {
		for place := range 65 {
			bs := make([]int, 65)
			bs[place] = thing
			refuses(t, 5, bs)
			refuses(t, 5, bs[:64])
		}
		// Two that make up for each other, were they added.
		refuses(t, 5, []int{thing, 1, -thing})
		refuses(t, 5, []int{1, 0, thing, 1 - thing})
	}
}

// What is handed in is the middle of a greater list: neither it nor what is about it changes, nor does the room tell.
func TestWhatIsHandedInStays(t *testing.T) {
	for _, around := range []int{0, 1, -5, 1 << 40} {
		room := slices.Repeat([]int{around}, 70)
		for _, many := range append([]int{64, 65}, edgeManies...) {
			for _, bits := range []string{"0", "1", "10", "110", "2", "12"} {
				bs := read(strings.Repeat(bits, many)[:many])
				whole := slices.Concat(room, bs, room)
				for _, before := range []int{0, 31, 32, 63, -1, 64} {
					handed := whole[len(room) : len(room)+many]
					got, e := Of(before, handed)
					if !slices.Equal(whole, slices.Concat(room, bs, room)) {
						t.Fatalf("R4: Of %d, %v among %d: they are changed: %v", before, bs, around, whole)
					}
					if alone, f := Of(before, slices.Clip(bs)); alone != got || f != e {
						t.Fatalf("R5: Of %d, %v: %v, %d; among %d: %v, %d", before, bs, alone, f, around, got, e)
					}
				}
			}
		}
	}
}

// What was handed in is not kept: it is changed behind the call, and what is answered hangs on what it is now.
func TestWhatWasHandedInIsNotKept(t *testing.T) {
	bs := []int{1, 1, 0}
	tells(t, 3, bs, [3]int{34, 7, 3})
	bs[0], bs[2] = 0, 1
	tells(t, 3, bs, [3]int{32, 7, 35})
	bs[1] = 2
	refuses(t, 3, bs)
	bs[0], bs[1] = 1, 1
	tells(t, 3, bs, [3]int{3, 6, 35})
}

func TestSeveralGoroutinesAtOneTime(t *testing.T) {
	shared := read(strings.Repeat("1", 31) + "0" + strings.Repeat("1", 31))
	var wait sync.WaitGroup
	for k := range 8 {
		wait.Go(func() {
			for i := range 2000 {
				before, many := (i+k)%64, (7*i+k)%64
				bs := shared[:many]
				if got, e := Of(before, bs); got != plain(before, bs) || e != api.OK {
					t.Errorf("R5: %d, %v: %v, %d", before, bs, got, e)
				}
				if got, e := Of(before+64, bs); got != [3]int{} || e != api.ErrContextForm {
					t.Errorf("R5: %d, %v: %v, %d", before+64, bs, got, e)
				}
			}
		})
	}
	wait.Wait()
}

// plain is the chapter's Of by its words, of what may be.
func plain(before int, bs []int) [3]int {
	var s strings.Builder
	for _, b := range bs {
		s.WriteByte(byte('0' + b))
	}
	bits := s.String()
	head, _, has0 := strings.Cut(bits, "0")
	told := [3]int{upTo31(len(head)), 2 * upTo31(before), upTo31(len(bits))}
	if has0 {
		told[0] += 32
		told[1]++
	}
	if strings.HasSuffix(bits, "1") {
		told[2] += 32
	}
	return told
}

func upTo31(x int) int {
	if x > 31 {
		return 31
	}
	return x
}

// read is the bits that a text shows.
func read(s string) []int {
	bs := []int{}
	for _, c := range s {
		bs = append(bs, int(c-'0'))
	}
	return bs
}

// digits is a number's digits, many of them, each shown as one of the things.
func digits(x int, many int, things []int) []int {
	row := make([]int, many)
	for i := range row {
		row[i] = things[x%len(things)]
		x /= len(things)
	}
	return row
}

func tells(t *testing.T, before int, bs []int, want [3]int) {
	t.Helper()
	if got, e := Of(before, bs); got != want || e != api.OK {
		t.Fatalf("P12.1: Of %d, %v: %v, %d; want %v", before, bs, got, e, want)
	}
}

// tellsAt asks for one of the three alone.
func tellsAt(t *testing.T, which int, before int, bs []int, want int) {
	t.Helper()
	if got, e := Of(before, bs); got[which] != want || e != api.OK {
		t.Fatalf("P12.1: Of %d, %v: %v, %d; want %d at %d", before, bs, got, e, want, which)
	}
}

func refuses(t *testing.T, before int, bs []int) {
	t.Helper()
	if got, e := Of(before, bs); got != [3]int{} || e != api.ErrContextForm {
		t.Fatalf("P12.1: Of %d, %d bits %v: %v, %d; want ErrContextForm", before, len(bs), bs[:min(len(bs), 70)], got, e)
	}
}
