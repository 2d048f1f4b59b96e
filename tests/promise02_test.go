package tests

import (
	"testing"

	"loop.example/g01299/impl"
)

func toldMirror(f impl.Flag) impl.Flag {
	var g impl.Flag
	for y := range 4 {
		for x := range 6 {
			g[x+6*y] = f[5-x+6*y]
		}
	}
	return g
}

func toldTurn(f impl.Flag) impl.Flag {
	var g impl.Flag
	for y := range 4 {
		for x := range 6 {
			g[x+6*y] = f[5-x+6*(3-y)]
		}
	}
	return g
}

// onePainted returns flags with one cell that is not like the others.
func onePainted() []impl.Flag {
	var list []impl.Flag
	for i := range 24 {
		f := plain(impl.ClYellow)
		f[i] = impl.ClBlack
		list = append(list, f)
	}
	return list
}

func TestPromise2TwiceIsOnce(t *testing.T) {
	list := append(someFlags(100), onePainted()...)
	for colour := range uint8(6) {
		list = append(list, plain(colour))
	}
	for _, f := range list {
		mirror, code := impl.MirrorFlag(f)
		same(t, "mirrored", results(mirror, code), toldMirror(f), impl.OK)
		back, code := impl.MirrorFlag(mirror)
		same(t, "mirrored twice", results(back, code), f, impl.OK)
		turn, code := impl.TurnFlag(f)
		same(t, "turned", results(turn, code), toldTurn(f), impl.OK)
		back, code = impl.TurnFlag(turn)
		same(t, "turned twice", results(back, code), f, impl.OK)
		is, code := impl.IsUpsideDown(f, turn)
		same(t, "upside down", results(is, code), true, impl.OK)
		is, code = impl.LooksLike(f, mirror, true)
		same(t, "from the other side", results(is, code), true, impl.OK)
		both, _ := impl.TurnFlag(mirror)
		other, code := impl.MirrorFlag(turn)
		same(t, "mirrored and turned", results(both, code), other, impl.OK)
	}
}

func TestPromise2Texts(t *testing.T) {
	f := flag("wyrbgk/wwwwwr/rrrrrg/bwwwww")
	mirror, code := impl.MirrorFlag(f)
	same(t, "mirrored", results(impl.FlagText(mirror), code), "kgbryw/rwwwww/grrrrr/wwwwwb", impl.OK)
	turn, code := impl.TurnFlag(f)
	same(t, "turned", results(impl.FlagText(turn), code), "wwwwwb/grrrrr/rwwwww/kgbryw", impl.OK)
}

func TestPromise2Invalid(t *testing.T) {
	for _, f := range badFlags() {
		g, code := impl.MirrorFlag(f)
		same(t, "mirrored", results(g, code), impl.Flag{}, impl.ErrInvalid)
		g, code = impl.TurnFlag(f)
		same(t, "turned", results(g, code), impl.Flag{}, impl.ErrInvalid)
	}
}
