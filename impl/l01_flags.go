package impl

import (
	"math/bits"
	"strings"
)

// Error codes.
const (
	OK          = 0
	ErrInvalid  = 1
	ErrRange    = 2
	ErrLimit    = 3
	ErrState    = 4
	ErrSyntax   = 5
	ErrNotFound = 6
	ErrBudget   = 7
	ErrProof    = 8
)

// Sizes of flags and sets.
const (
	Wide   = 6
	High   = 4
	MaxSet = 40
)

// Colours.
const (
	ClWhite  = 0
	ClYellow = 1
	ClRed    = 2
	ClBlue   = 3
	ClGreen  = 4
	ClBlack  = 5
)

// colourLetters has the letter of each colour in the text of a flag.
const colourLetters = "wyrbgk"

const colourCount = len(colourLetters)

// From afar, blockSize by blockSize cells are seen as one.
const (
	blockSize  = 2
	blocksWide = Wide / blockSize
	blockCount = blocksWide * High / blockSize
)

// maxSearched is how many flags MostDistinct looks at: it goes through all their subsets.
const maxSearched = 12

var codeNames = [...]string{"ok", "invalid", "range", "limit", "state", "syntax", "notfound", "budget", "proof"}

var colourNames = [...]string{"white", "yellow", "red", "blue", "green", "black"}

// Flag is a pattern of coloured cells.
type Flag [24]uint8

// blurs has what is seen from afar of each flag of a set; a flag that the set has several times is blurred once.
type blurs map[Flag][6]uint8

// spacing tells how far apart from afar the flags of a set have to be.
type spacing struct {
	blurs
	least int64
}

// CodeName returns the name of an error code.
func CodeName(code int64) string {
	if uint64(code) >= uint64(len(codeNames)) { // a negative number is converted to a great one
		return ""
	}
	return codeNames[uint64(code)]
}

// ColourName returns the name of a colour.
func ColourName(colour int64) string {
	if !isColour(colour) {
		return ""
	}
	return colourNames[uint64(colour)]
}

func isColour(colour int64) bool { return colour >= 0 && colour < int64(colourCount) }

func isCell(x, y int64) bool { return x >= 0 && x < Wide && y >= 0 && y < High }

// ValidFlag reports whether f is valid.
func ValidFlag(f Flag) bool {
	for _, colour := range f {
		if !isColour(int64(colour)) {
			return false
		}
	}
	return true
}

// painted returns the flag whose cells have the colours that colourAt tells.
func painted(colourAt func(x, y int) uint8) Flag {
	var f Flag
	for i := range f {
		f[i] = colourAt(i%Wide, i/Wide)
	}
	return f
}

// patternOf returns the flag of the colour ground in which some cells have the colour figure.
func patternOf(ground, figure int64, isFigure func(x, y int) bool) (Flag, int64) {
	if !isColour(ground) || !isColour(figure) {
		return Flag{}, ErrRange
	}
	return painted(func(x, y int) uint8 {
		if isFigure(x, y) {
			return uint8(figure)
		}
		return uint8(ground)
	}), OK
}

// PlainFlag returns the flag of one colour.
func PlainFlag(colour int64) (Flag, int64) {
	return StripesOf([]int64{colour}, true)
}

// StripesOf returns the flag with stripes.
func StripesOf(colours []int64, upright bool) (Flag, int64) {
	size := High
	if upright {
		size = Wide
	}
	if len(colours) < 1 || len(colours) > size {
		return Flag{}, ErrRange
	}
	for _, colour := range colours {
		if !isColour(colour) {
			return Flag{}, ErrRange
		}
	}
	return painted(func(x, y int) uint8 {
		at := y
		if upright {
			at = x
		}
		return uint8(colours[at*len(colours)/size])
	}), OK
}

// CrossOf returns the flag with a cross.
func CrossOf(ground, cross int64) (Flag, int64) {
	return patternOf(ground, cross, func(x, y int) bool {
		return x == 2 || x == 3 || y == 1 || y == 2
	})
}

// BorderOf returns the flag with a border.
func BorderOf(inner, outer int64) (Flag, int64) {
	return patternOf(inner, outer, func(x, y int) bool {
		return x == 0 || x == Wide-1 || y == 0 || y == High-1
	})
}

// ChequersOf returns the flag with chequers.
func ChequersOf(first, second int64) (Flag, int64) {
	return patternOf(first, second, func(x, y int) bool {
		return (x+y)%2 != 0
	})
}

// PaintCell returns the flag with another colour of a cell.
func PaintCell(f Flag, x, y, colour int64) (Flag, int64) {
	if !ValidFlag(f) {
		return Flag{}, ErrInvalid
	}
	if !isCell(x, y) || !isColour(colour) {
		return Flag{}, ErrRange
	}
	f[x+Wide*y] = uint8(colour)
	return f, OK
}

// CellOf returns the colour of a cell.
func CellOf(f Flag, x, y int64) (int64, int64) {
	if !ValidFlag(f) {
		return 0, ErrInvalid
	}
	if !isCell(x, y) {
		return 0, ErrRange
	}
	return int64(f[x+Wide*y]), OK
}

func (f Flag) itself() Flag { return f }

func (f Flag) mirrored() Flag {
	return painted(func(x, y int) uint8 { return f[Wide-1-x+Wide*y] })
}

func (f Flag) turned() Flag {
	return painted(func(x, y int) uint8 { return f[Wide-1-x+Wide*(High-1-y)] })
}

// viewOf returns how a flag appears in a view, which is defined for valid flags only.
func viewOf(f Flag, view func(Flag) Flag) (Flag, int64) {
	if !ValidFlag(f) {
		return Flag{}, ErrInvalid
	}
	return view(f), OK
}

// MirrorFlag returns what is seen from the other side.
func MirrorFlag(f Flag) (Flag, int64) { return viewOf(f, Flag.mirrored) }

// TurnFlag returns the flag upside down.
func TurnFlag(f Flag) (Flag, int64) { return viewOf(f, Flag.turned) }

// RecolourFlag gives all cells of the one colour the other one.
func RecolourFlag(f Flag, from, to int64) (Flag, int64) {
	if !ValidFlag(f) {
		return Flag{}, ErrInvalid
	}
	if !isColour(from) || !isColour(to) {
		return Flag{}, ErrRange
	}
	for i, colour := range f {
		if int64(colour) == from {
			f[i] = uint8(to)
		}
	}
	return f, OK
}

// CountColours returns how many cells have each colour.
func CountColours(f Flag) ([6]int64, int64) {
	if !ValidFlag(f) {
		return [6]int64{}, ErrInvalid
	}
	var counts [6]int64
	for _, colour := range f {
		counts[colour]++
	}
	return counts, OK
}

// DistanceOf returns in how many cells two flags differ.
func DistanceOf(f, g Flag) (int64, int64) {
	if !ValidFlag(f) || !ValidFlag(g) {
		return 0, ErrInvalid
	}
	return placesApart(f[:], g[:]), OK
}

// placesApart returns at how many places two lists of the same length differ.
func placesApart(a, b []uint8) int64 {
	apart := int64(0)
	for i := range a {
		if a[i] != b[i] {
			apart++
		}
	}
	return apart
}

func blocksApart(a, b [6]uint8) int64 { return placesApart(a[:], b[:]) }

// blurred returns the colours of the blocks of a valid flag.
func (f Flag) blurred() [6]uint8 {
	var blur [blockCount]uint8
	for i := range blur {
		blur[i] = f.blockColour(i%blocksWide*blockSize, i/blocksWide*blockSize)
	}
	return blur
}

// blockColour returns the colour that most cells have in the block from the cell x, y on.
func (f Flag) blockColour(x, y int) uint8 {
	var counts [colourCount]int
	for i := range blockSize * blockSize {
		counts[f[x+i%blockSize+Wide*(y+i/blockSize)]]++
	}
	most := 0
	for colour, count := range counts {
		if count > counts[most] { // not >=: the least one of several colours stays
			most = colour
		}
	}
	return uint8(most)
}

// BlurFlag returns what is seen from afar.
func BlurFlag(f Flag) ([6]uint8, int64) {
	if !ValidFlag(f) {
		return [6]uint8{}, ErrInvalid
	}
	return f.blurred(), OK
}

// BlurDistance returns in how many blocks two flags differ from afar.
func BlurDistance(f, g Flag) (int64, int64) {
	if !ValidFlag(f) || !ValidFlag(g) {
		return 0, ErrInvalid
	}
	return blocksApart(f.blurred(), g.blurred()), OK
}

// LooksLike reports whether two flags look alike from afar.
func LooksLike(f, g Flag, turned bool) (bool, int64) {
	if !ValidFlag(f) || !ValidFlag(g) {
		return false, ErrInvalid
	}
	views := []func(Flag) Flag{Flag.itself}
	if turned {
		views = append(views, Flag.mirrored)
	}
	for _, view := range views {
		if view(f).blurred() == g.blurred() {
			return true, OK
		}
	}
	return false, OK
}

// IsUpsideDown reports whether the one is the other one upside down.
func IsUpsideDown(f, g Flag) (bool, int64) {
	if !ValidFlag(f) || !ValidFlag(g) {
		return false, ErrInvalid
	}
	return f.turned() == g, OK
}

// blursOf returns what is seen of each flag of a valid set.
func blursOf(set []Flag) blurs {
	seen := blurs{}
	for _, f := range set {
		if _, known := seen[f]; !known {
			seen[f] = f.blurred()
		}
	}
	return seen
}

// apart returns the BlurDistance of two flags of the set.
func (b blurs) apart(f, g Flag) int64 { return blocksApart(b[f], b[g]) }

func (s spacing) tooNear(f, g Flag) bool { return s.apart(f, g) < s.least }

// checkSet returns the first error that all functions with sets have.
func checkSet(set []Flag) int64 {
	for _, f := range set {
		if !ValidFlag(f) {
			return ErrInvalid
		}
	}
	if len(set) > MaxSet {
		return ErrLimit
	}
	return OK
}

// spacingOf returns the spacing of a set, or the first error that all functions with a least distance have.
func spacingOf(set []Flag, least int64) (spacing, int64) {
	if code := checkSet(set); code != OK {
		return spacing{}, code
	}
	if least < 0 || least > blockCount {
		return spacing{}, ErrRange
	}
	return spacing{blursOf(set), least}, OK
}

// AreDistinct reports whether flags differ enough from afar.
func AreDistinct(set []Flag, least int64) (bool, int64) {
	space, code := spacingOf(set, least)
	if code != OK {
		return false, code
	}
	for i, f := range set {
		for _, g := range set[:i] {
			if space.tooNear(f, g) {
				return false, OK
			}
		}
	}
	return true, OK
}

// NearestPair returns the pair that looks most alike.
func NearestPair(set []Flag) (int64, int64, int64, int64) {
	if code := checkSet(set); code != OK {
		return 0, 0, 0, code
	}
	if len(set) < 2 {
		return 0, 0, 0, ErrNotFound
	}
	seen := blursOf(set)
	first, second, least := 0, 1, seen.apart(set[0], set[1])
	for i, f := range set {
		for j := i + 1; j < len(set); j++ {
			if apart := seen.apart(f, set[j]); apart < least {
				first, second, least = i, j, apart
			}
		}
	}
	return int64(first), int64(second), least, OK
}

// ChooseDistinct takes flags that differ enough, one after the other.
func ChooseDistinct(set []Flag, least int64) ([]int64, int64) {
	space, code := spacingOf(set, least)
	if code != OK {
		return nil, code
	}
	var taken []int64
choose:
	for i, f := range set {
		for _, j := range taken {
			if space.tooNear(f, set[j]) {
				continue choose
			}
		}
		taken = append(taken, int64(i))
	}
	return taken, OK
}

// MostDistinct returns as many flags as can be that differ enough.
func MostDistinct(set []Flag, least int64) ([]int64, int64) {
	space, code := spacingOf(set, least)
	if code != OK {
		return nil, code
	}
	if len(set) > maxSearched {
		return nil, ErrBudget
	}
	var best []int64
	// The first flag has the highest bit, so that of lists of one length the one that comes first has the greatest mask.
search:
	for mask := uint(1)<<len(set) - 1; mask > 0; mask-- {
		if bits.OnesCount(mask) <= len(best) {
			continue
		}
		list := indicesIn(mask, len(set))
		for n, i := range list {
			for _, j := range list[:n] {
				if space.tooNear(set[i], set[j]) {
					continue search
				}
			}
		}
		best = list
	}
	return best, OK
}

// indicesIn returns the indices of the bits of a mask that are set, counted from the highest one of so many.
func indicesIn(mask uint, size int) []int64 {
	var list []int64
	for i := range size {
		if mask>>(size-1-i)&1 == 1 {
			list = append(list, int64(i))
		}
	}
	return list
}

// FlagText returns the text of a flag.
func FlagText(f Flag) string {
	if !ValidFlag(f) {
		return ""
	}
	var text strings.Builder
	for i, colour := range f {
		if i > 0 && i%Wide == 0 {
			text.WriteByte('/')
		}
		text.WriteByte(colourLetters[colour])
	}
	return text.String()
}

// ReadFlag returns the flag with the given text.
func ReadFlag(text string) (Flag, int64) {
	rows := strings.SplitN(text, "/", High+1)
	if len(rows) != High {
		return Flag{}, ErrSyntax
	}
	var f Flag
	for y, row := range rows {
		if len(row) != Wide {
			return Flag{}, ErrSyntax
		}
		for x := range Wide {
			colour := strings.IndexByte(colourLetters, row[x])
			if colour < 0 {
				return Flag{}, ErrSyntax
			}
			f[x+Wide*y] = uint8(colour)
		}
	}
	return f, OK
}
