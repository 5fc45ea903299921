package desk

import (
	"strconv"
	"strings"

	"gyre/api"
	"gyre/snap"
)

// wrong is the answer to what is wrong.
func wrong(e api.Errno) string { return "error " + strconv.Itoa(int(e)) }

// view tells what is seen.
func view(v snap.View) string {
	var l []string
	for _, s := range v {
		l = append(l, row(s.Id, s.Kind, s.At.X, s.At.Y, s.At.Z, s.Speed.X, s.Speed.Y, s.Speed.Z))
	}
	return strings.Join(l, ", ")
}

// bodies tells where they are, and how fast.
func bodies(all []api.Body) string {
	var l []string
	for _, b := range all {
		l = append(l, row(b.Id, b.At.X, b.At.Y, b.At.Z, b.Speed.X, b.Speed.Y, b.Speed.Z))
	}
	return strings.Join(l, ", ")
}

// row is numbers with blanks between.
func row(n ...int) string {
	var l []string
	for _, one := range n {
		l = append(l, strconv.Itoa(one))
	}
	return strings.Join(l, " ")
}
