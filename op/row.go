package op

import (
	"strings"

	"grommet/api"
)

// What the names of ops of both types end with.
const (
	tests    = "eq ne lt_s lt_u gt_s gt_u le_s le_u ge_s ge_u"
	unaries  = "clz ctz popcnt"
	binaries = "add sub mul div_s div_u rem_s rem_u and or xor shl shr_s shr_u rotl rotr"
)

// row are ops whose codes follow one another, and that have the same form, and types.
type row struct {
	first       int    // code
	head, names string // each name is the head, and one of the names
	form        int
	takes       few
	gives       few
}

// few are the types of at most three words, and 0 behind them.
type few [3]api.Type

func (t few) list() []api.Type {
	var l []api.Type
	for _, x := range t {
		if x != 0 {
			l = append(l, x)
		}
	}
	return l
}

// info is a row's op, by its place there.
func (r *row) info(i int) (Info, bool) {
	names := strings.Fields(r.names)
	if i >= len(names) {
		return Info{}, false
	}
	return Info{r.first + i, r.head + names[i], r.form, r.takes.list(), r.gives.list()}, true
}

// rows are all ops, by codes.
func rows() [38]row {
	const i32, i64 = api.I32, api.I64
	return [...]row{
		{first: 0, names: "unreachable nop"},
		{first: 2, names: "block loop if", form: Block},
		{first: 5, names: "else"},
		{first: 11, names: "end"},
		{first: 12, names: "br br_if", form: Label},
		{first: 14, names: "br_table", form: Labels},
		{first: 15, names: "return"},
		{first: 16, names: "call", form: Func},
		{first: 17, names: "call_indirect", form: Sig},
		{first: 26, names: "drop select"},
		{first: 32, head: "local.", names: "get set tee", form: Local},
		{first: 35, head: "global.", names: "get set", form: Global},
		{40, "i32.", "load", Mem, few{i32}, few{i32}},
		{41, "i64.", "load", Mem, few{i32}, few{i64}},
		{44, "i32.", "load8_s load8_u load16_s load16_u", Mem, few{i32}, few{i32}},
		{48, "i64.", "load8_s load8_u load16_s load16_u load32_s load32_u", Mem, few{i32}, few{i64}},
		{54, "i32.", "store", Mem, few{i32, i32}, few{}},
		{55, "i64.", "store", Mem, few{i32, i64}, few{}},
		{58, "i32.", "store8 store16", Mem, few{i32, i32}, few{}},
		{60, "i64.", "store8 store16 store32", Mem, few{i32, i64}, few{}},
		{63, "memory.", "size", One, few{}, few{i32}},
		{64, "memory.", "grow", One, few{i32}, few{i32}},
		{65, "i32.", "const", Const, few{}, few{i32}},
		{66, "i64.", "const", Const, few{}, few{i64}},
		{69, "i32.", "eqz", None, few{i32}, few{i32}},
		{70, "i32.", tests, None, few{i32, i32}, few{i32}},
		{80, "i64.", "eqz", None, few{i64}, few{i32}},
		{81, "i64.", tests, None, few{i64, i64}, few{i32}},
		{103, "i32.", unaries, None, few{i32}, few{i32}},
		{106, "i32.", binaries, None, few{i32, i32}, few{i32}},
		{121, "i64.", unaries, None, few{i64}, few{i64}},
		{124, "i64.", binaries, None, few{i64, i64}, few{i64}},
		{167, "i32.", "wrap_i64", None, few{i64}, few{i32}},
		{172, "i64.", "extend_i32_s extend_i32_u", None, few{i32}, few{i64}},
		{192, "i32.", "extend8_s extend16_s", None, few{i32}, few{i32}},
		{194, "i64.", "extend8_s extend16_s extend32_s", None, few{i64}, few{i64}},
		{64522, "memory.", "copy", Two, few{i32, i32, i32}, few{}},
		{64523, "memory.", "fill", One, few{i32, i32, i32}, few{}},
	}
}
