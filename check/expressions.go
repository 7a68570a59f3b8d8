package check

import (
	"pairlegal/api"
	"pairlegal/types"
)

// tells answers what is wrong with an expression that must tell something.
func (s *scope) tells(x api.Expr) api.Errno {
	_, err := s.toldType(x)
	return err
}

// toldType answers the type of an expression that must tell something.
func (s *scope) toldType(x api.Expr) (api.Type, api.Errno) {
	t, err := s.typeOf(x)
	if err == api.OK && t == (api.Type{}) {
		err = api.ErrType
	}
	return t, err
}

// toldTypes does so with each of a list, up to the first error.
func (s *scope) toldTypes(list []api.Expr) ([]api.Type, api.Errno) {
	out := make([]api.Type, len(list))
	for i, x := range list {
		t, err := s.toldType(x)
		if err != api.OK {
			return nil, err
		}
		out[i] = t
	}
	return out, api.OK
}

// typeOf answers the type of an expression here; of a call that tells nothing it is api.Type{}.
func (s *scope) typeOf(x api.Expr) (api.Type, api.Errno) {
	if x.Kind == api.CCall {
		return s.called(x)
	}
	kids, err := s.toldTypes(x.Kids)
	if err != api.OK {
		return api.Type{}, err
	}
	switch x.Kind {
	case api.CNum, api.CCast:
		return x.Type, api.OK
	case api.CVar, api.CAt:
		return s.asked(x.Name, x.Kind == api.CAt)
	case api.CNeg, api.CNot:
		return types.Promote(kids[0]), api.OK
	case api.CLog, api.CLand, api.CLor:
		return i16(), api.OK
	}
	return types.Result(x.Kind, kids[0], kids[1]), api.OK
}

// called looks at a call's function ahead of its kids, unlike all others.
func (s *scope) called(x api.Expr) (api.Type, api.Errno) {
	f, ok := s.functions[x.Name]
	if !ok {
		return api.Type{}, api.ErrName
	}
	if len(x.Kids) != len(f.Params) {
		return api.Type{}, api.ErrMany
	}
	if _, err := s.toldTypes(x.Kids); err != api.OK {
		return api.Type{}, err
	}
	return f.Result, api.OK
}

// asked answers the type of a variable that is named as an array (with a place in it), or as a number.
func (s *scope) asked(name string, asArray bool) (api.Type, api.Errno) {
	v, err := s.variable(name)
	if err != api.OK {
		return api.Type{}, err
	}
	if v.isArray != asArray {
		return api.Type{}, api.ErrType
	}
	return v.typ, api.OK
}
