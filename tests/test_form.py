"""The part of Python that the package keeps to: what of its rules can be seen from outside."""

import ast
import builtins
import pathlib
import re
import unittest

PACKAGE = pathlib.Path(__file__).resolve().parent.parent / "arrowfind"

OWN_NAMES = """
    len range enumerate zip min max sum abs sorted reversed int str bool list tuple dict set
    frozenset isinstance ord repr any all divmod Exception ValueError TypeError KeyError
    IndexError LookupError ZeroDivisionError ArithmeticError OverflowError RuntimeError
    NotImplementedError AttributeError StopIteration
""".split()

METHODS = """
    append clear copy count endswith extend find get index insert isalnum isalpha isdigit islower
    isspace isupper items join keys ljust lower lstrip partition pop remove replace reverse rfind
    rjust rpartition rsplit rstrip setdefault split splitlines startswith strip update upper
    values zfill bit_length
""".split()

WORDS_NOWHERE = """
    type typing typing_extensions enum Enum IntEnum StrEnum Flag IntFlag Generic Protocol ABC
    ABCMeta namedtuple NamedTuple TypedDict TYPE_CHECKING abstractmethod
""".split()

NAMES_NOWHERE = """
    register mro elements open input version_info with_traceback add_note format format_map
    attrgetter breakpoint builtins compile copyright credits delattr dir eval exec exit gc getattr
    globals hasattr help id importlib license locals methodcaller os quit setattr super vars sys
""".split()

NODES_OUT = (
    ast.With, ast.Delete, ast.Global, ast.Nonlocal, ast.Assert, ast.Yield, ast.YieldFrom, ast.Await,
    ast.AsyncFunctionDef, ast.AsyncFor, ast.AsyncWith, ast.Match, ast.Import, ast.SetComp,
    ast.DictComp, ast.GeneratorExp, ast.NamedExpr, ast.Starred, ast.Div, ast.MatMult,
)

DUNDERS = ("__init__", "__eq__", "__repr__", "__str__", "__len__")


def files():
    return sorted(path for path in PACKAGE.rglob("*") if "__pycache__" not in path.parts)


def trees():
    for path in files():
        yield path, ast.parse(path.read_text(encoding="ascii"))


def walked():
    for path, tree in trees():
        for node in ast.walk(tree):
            yield f"{path.name}:{getattr(node, 'lineno', 0)}", node


def bound_names(tree):
    for node in ast.walk(tree):
        if isinstance(node, (ast.FunctionDef, ast.ClassDef)):
            yield node.name
        elif isinstance(node, ast.arg):
            yield node.arg
        elif isinstance(node, ast.Name) and isinstance(node.ctx, ast.Store):
            yield node.id
        elif isinstance(node, ast.Attribute):
            yield node.attr
        elif isinstance(node, ast.ExceptHandler) and node.name:
            yield node.name


class FilesTest(unittest.TestCase):
    def test_python_files_with_plain_names_alone(self):
        for path in files():
            self.assertRegex(path.name, r"\A([a-z][a-z0-9_]*|__init__)\.py\Z")

    def test_signs_and_sizes(self):
        for path in files():
            text = path.read_text(encoding="utf-8")
            self.assertRegex(text, r"\A[ -~\n]*\Z", path.name)
            rows = text.splitlines()
            self.assertLessEqual(len(rows), 400, path.name)
            self.assertLessEqual(max(map(len, rows), default=0), 120, path.name)

    def test_words_that_stand_nowhere(self):
        for path in files():
            words = re.findall(r"\w+", path.read_text(encoding="utf-8"))
            self.assertEqual([word for word in words if word in WORDS_NOWHERE], [], path.name)
            for part in ("dataclass", "overload", "contextmanager"):
                self.assertFalse([word for word in words if part in word], path.name)


class TopTest(unittest.TestCase):
    def test_what_stands_at_the_top(self):
        for path, tree in trees():
            self.assertTrue(ast.get_docstring(tree), path.name)
            for node in tree.body[1:]:
                kinds = (ast.ImportFrom, ast.FunctionDef, ast.ClassDef, ast.Assign)
                self.assertIsInstance(node, kinds, f"{path.name}:{node.lineno}")

    def test_each_name_once_at_the_top(self):
        for path, tree in trees():
            names = []
            for node in tree.body:
                if isinstance(node, (ast.FunctionDef, ast.ClassDef)):
                    names.append(node.name)
                elif isinstance(node, ast.Assign):
                    names.append(node.targets[0].id)
                elif isinstance(node, ast.ImportFrom):
                    names.extend(alias.name for alias in node.names)
            self.assertEqual(len(names), len(set(names)), path.name)

    def test_imports_from_the_file_that_defines_and_never_round(self):
        draws = {}
        for path, tree in trees():
            draws[path.stem] = []
            for node in ast.walk(tree):
                if isinstance(node, ast.ImportFrom):
                    self.assertEqual(node.level, 0)
                    self.assertRegex(node.module, r"\Aarrowfind\.[a-z_]+\Z")
                    source = node.module.partition(".")[2]
                    defined = dict(trees())[PACKAGE / f"{source}.py"]
                    for alias in node.names:
                        self.assertIsNone(alias.asname)
                        self.assertTrue(self.defines(defined, alias.name), alias.name)
                    draws[path.stem].append(source)
        while draws:
            ready = [stem for stem in draws if not set(draws[stem]) & set(draws)]
            self.assertTrue(ready, f"these files draw from one another: {sorted(draws)}")
            for stem in ready:
                draws.pop(stem)

    def defines(self, tree, name):
        return any(
            isinstance(node, (ast.FunctionDef, ast.ClassDef)) and node.name == name
            or isinstance(node, ast.Assign) and node.targets[0].id == name
            for node in tree.body
        )

    def test_classes_hold_methods_alone(self):
        for place, node in walked():
            if isinstance(node, ast.ClassDef):
                self.assertLessEqual(len(node.bases), 1, place)
                self.assertFalse(node.keywords or node.decorator_list, place)
                for part in node.body:
                    self.assertIsInstance(part, (ast.FunctionDef, ast.Pass), place)


class StepsTest(unittest.TestCase):
    def test_statements_and_expressions_that_are_out(self):
        for place, node in walked():
            self.assertNotIsInstance(node, NODES_OUT, place)
            if isinstance(node, (ast.For, ast.While)):
                self.assertFalse(node.orelse, place)
            if isinstance(node, ast.Try):
                self.assertFalse(node.finalbody, place)
            if isinstance(node, ast.Assign):
                self.assertEqual(len(node.targets), 1, place)
            if isinstance(node, ast.ListComp):
                self.assertEqual(len(node.generators), 1, place)
                self.assertLessEqual(len(node.generators[0].ifs), 1, place)

    def test_statements_that_are_a_call_or_the_files_docstring(self):
        for path, tree in trees():
            for node in ast.walk(tree):
                if isinstance(node, ast.Expr) and node is not tree.body[0]:
                    self.assertIsInstance(node.value, ast.Call, f"{path.name}:{node.lineno}")

    def test_functions(self):
        for place, node in walked():
            if isinstance(node, ast.FunctionDef):
                self.assertLessEqual(node.end_lineno - node.lineno + 1, 40, place)
                self.assertFalse(node.decorator_list, place)
            if isinstance(node, ast.arguments):
                self.assertFalse(node.vararg or node.kwarg or node.kwonlyargs or node.posonlyargs, place)

    def test_values(self):
        for place, node in walked():
            if isinstance(node, ast.Constant):
                self.assertIn(type(node.value), (int, str, bool, type(None)), place)
                if isinstance(node.value, str):
                    self.assertNotIn("%", node.value, place)
            if isinstance(node, ast.FormattedValue):
                self.assertIsInstance(node.value, ast.Name, place)
                self.assertIn(node.conversion, (-1, ord("r")), place)
                self.assertIsNone(node.format_spec, place)

    def test_is_beside_none_true_and_false_alone(self):
        for place, node in walked():
            if isinstance(node, ast.Compare):
                for sign, value in zip(node.ops, node.comparators):
                    if isinstance(sign, (ast.Is, ast.IsNot)):
                        self.assertIsInstance(value, ast.Constant, place)
                        self.assertIn(value.value, (None, True, False), place)

    def test_lazy_walks_and_sets_are_not_kept(self):
        for place, node in walked():
            if isinstance(node, ast.Assign) and isinstance(node.value, ast.Call):
                called = node.value.func
                name = called.id if isinstance(called, ast.Name) else called.attr
                lazy = ("zip", "enumerate", "reversed", "range", "items", "keys", "values")
                self.assertNotIn(name, lazy + ("set", "frozenset"), place)
            if isinstance(node, (ast.For, ast.comprehension)):
                self.assertNotIsInstance(node.iter, ast.Set, place)


class NamesTest(unittest.TestCase):
    def test_pythons_own_names(self):
        for place, node in walked():
            if isinstance(node, ast.Name) and hasattr(builtins, node.id):
                self.assertIn(node.id, OWN_NAMES, place)

    def test_names_that_are_not_used_or_begin_with_an_underscore(self):
        for path, tree in trees():
            for name in bound_names(tree):
                self.assertNotIn(name, NAMES_NOWHERE, path.name)
                if name not in DUNDERS:
                    self.assertRegex(name, r"\A[A-Za-z][A-Za-z0-9_]*\Z", path.name)

    def test_no_local_is_called_like_pythons_own_or_an_import(self):
        for path, tree in trees():
            taken = set(dir(builtins))
            for node in tree.body:
                if isinstance(node, ast.ImportFrom):
                    taken |= {alias.name for alias in node.names}
                if isinstance(node, ast.ClassDef):
                    taken.add(node.name)
            for node in ast.walk(tree):
                if isinstance(node, ast.arg):
                    self.assertNotIn(node.arg, taken, path.name)
                if isinstance(node, ast.Name) and isinstance(node.ctx, ast.Store):
                    self.assertNotIn(node.id, taken, path.name)

    def test_methods_are_pythons_listed_ones_or_the_packages_own(self):
        own = [node.name for _, node in walked() if isinstance(node, ast.FunctionDef)]
        for place, node in walked():
            if isinstance(node, ast.Call) and isinstance(node.func, ast.Attribute):
                self.assertIn(node.func.attr, METHODS + own + ["__init__"], place)

    def test_no_name_is_both_a_method_and_a_value(self):
        methods, values = set(), set()
        for _, node in walked():
            if isinstance(node, ast.ClassDef):
                methods |= {part.name for part in node.body if isinstance(part, ast.FunctionDef)}
            if isinstance(node, ast.Attribute) and isinstance(node.ctx, ast.Store):
                values.add(node.attr)
        self.assertEqual(methods & values, set())


if __name__ == "__main__":
    unittest.main()
